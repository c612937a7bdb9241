/- Structs within structs: a part of a variable loaded, a struct of a struct and a slice built. No program stands here.
Mathematics of the greatest common divisor, by what is left and by halving. No program stands here.
The document's greatest common divisor; the program's by what is left of divisions. Condition: slices read as numbers.
The program's greatest common divisor by halving and taking off. Condition: slices read as numbers.
The program's greatest common divisor by halving and taking off: the loop. Condition: slices read as numbers.
The program's greatest common divisor of many numbers, and whether two are coprime; the chapter's example. Condition: slices read as numbers.
The chapter's example of the greatest common divisor.
Package whole and the document's whole numbers: the calls. Condition: as each says.
Package whole and the document's whole numbers: the calls. Condition: as each says.
Package whole: Of, Print; the chapter's example. Condition: as each says.
What the laws of layer 7 share: an argument as a whole number, sizes, the document's Same on two that are one. Condition: as each says.
Texts with a sign ahead: strings.CutPrefix of "-", whole.Parse; the document's texts. Condition: as each says.
A region that draws its order, one of whose operations may come behind the first store ('lateStores': the second extract of 'x, y := f(a, b)'): it is taken first all the same, for it yields in whatever world. No program stands here.
What WholeTexts' regions want beside: the obligations of min, of a string's length and cut; one answer of a text; texts of whole numbers, read. Condition: as each says.
Package whole: Sum, over rows of values of two cells; the document's Num of a great number. Condition: as each says.
What WholeMakes wants: an argument as a slice of whole numbers; a row of whole numbers that the call makes by append. Condition: as each says.
The document's own fractions: Low. Condition: as each says.
The document's own fractions: Add, Sub, Sign, Cmp. Condition: as each says.
A region that draws its order, a chain of whose operations may come behind the first store (len, min and a cut of what was loaded): when all others are up, the rest of the chain is taken, for it yields in whatever world. No program stands here.
Rows of texts that the call makes by append; a row's cell in a region that draws its order; one cell written in the text's order. Condition: as each says.
Rows of fractions (structs of a struct and a slice: three cells each): a slice that reads as fractions; a row of the call's own that grows by append; an element loaded. Condition: as each says.
The document's own Clean of fractions. Condition: as it says.
Fractions: what the program reckons (sums over what the lower parts have in common, products put into lowest terms crosswise, the order by products). Mathematics alone.
Package rat: its own contracts, each said of fractions: what its functions stand on, Neg, Sign. Condition: as each says.
The document's own folds of fractions: Sum, Product. Condition: as each says.
The document's product of two rows of fractions. Condition: as it says.
The document's own folds of fractions: Whole, Pow. Condition: as each says.
An argument as a slice of fractions; its elements loaded. Condition: as each says.
Rows of fractions grown in a region that draws its order. Condition: as each says.
The document's Shares. Condition: as it says.
Folds of fractions: the least and the greatest one, shares are a whole, a mean lies between, sums one by one, sorting. Mathematics alone.
Rows of fractions: sums, products with a row, where noughts and units begin. Mathematics alone.
Tables of fractions: products, what is turned, the table that changes nothing. Mathematics alone.
Tables of fractions: what loops over rows and places keep; rows of tables multiplied, laid side by side; how long numbers grow. Mathematics alone.
Tables by row and place: mathematics: what stands at a place, how many are no noughts, one place set. No program stands here. -/
import Derived.Test.YtmpalajamfiiiaaGreatKC2
import Derived.Deep.LoopGhost
import Derived.Lib.SmallJoins
import Derived.ProofKit
import Derived.OpenShut
import Derived.Deep.SlicePairs
import Derived.Deep.Slices
set_option linter.unusedVariables false
set_option linter.unusedSimpArgs false
set_option maxRecDepth 100000
set_option maxHeartbeats 6400000
open And renaming intro -> zA
open List renaming setIfInBounds_toArray -> zA0, set_cons_succ -> zA1, set_cons_zero -> zA2, getElem?_eq_getElem -> zA3, getElem?_eq_some_iff -> zA4, mem_of_getElem? -> zA5, getD_eq_getElem?_getD -> zA6, take_of_length_le -> zA7, length_append -> zB0, replicate -> zB1, getElem?_append_left -> zB2
open Nat renaming le_refl -> zB3, le_trans -> zB4, mul_assoc -> zB5
namespace Go.Proofs.YtmpalajamfiiiaaGreat.flow
open Go.RowKit num mem
section
variable {P : Program}
theorem zK5 {t : TypeId} {g off : Nat} {cs es : List Value} {e : TypeId} {d : TypeDesc} {w : World} (hu : P.underlying t = some d) (hd : d.isRow = true) (hi : (P.info? t).map (·.size) = some cs.length) (hB : w.heap[g]? = some (.cells es.toArray e (0, 0))) (hsub : (es.drop off).take cs.length = cs) : (Instr.loadAt t (.pointer (some ⟨g, off, none⟩))).run P w = .ok (.agg cs.toArray) w :=
 run_loadAt_mid w g off t cs d (fun j v hj => by
  rw [cell_of_row w g (off + j) es.toArray e (0, 0) hB]
  have hj2 : j < cs.length := (zA4.1 hj).1
  have h := congrArg (·[j]?) hsub
  simp only [List.getElem?_take_of_lt hj2, List.getElem?_drop] at h
  rw [hj] at h
  simpa using h) hu hd hi
end
section
variable {P : Program} {Q : Exit -> Act -> World -> Prop} {ops : Array Oper} {L : List Oper} {Φ : List Pd} {w0 : World} {a0 : Act} {i : Nat} {o : Oper}
theorem qM8 {t : TypeId} {k : Nat} {x : Operand} {F : World -> Value -> Prop} (hop : o.op = .build t #[(k, x)]) (hw : Wt ops L Φ w0 a0 o true) (hx : Ev L Φ w0 a0 o x F)
  (hr : ∀ w u, Below w0.heap.size w0 w -> F w u -> ∃ v, (Instr.build t #[(k, u)]).run P w = .ok v w /\ (ph Φ i).p w v) : Ob P Q ops L Φ w0 a0 i o :=
 zN0 hw (by unfold isA; rw [hop]) fun ms w hS => by
  obtain ⟨v, h1, h2⟩ := hr w _ hS.below (hx ms w hS)
  exact ⟨v, by unfold execOp; simp only [hop, Sem.run_bind, List.map_toArray, List.map_cons, List.map_nil, h1]; rfl, h2⟩
end
theorem zF9 {x y z : Value} (hx : x.oneCell' = true) (hy : y.oneCell' = true) (hz : z.oneCell' = true) : ∀ c ∈ [x, y, z], c.oneCell' = true := by
 intro c hc
 rcases List.mem_cons.1 hc with rfl | hc
 ·exact hx
 ·exact zG6 hy hz c hc
theorem zD2 {k : IntKind} {b : Bool} {A D : Option Addr} {n m i j : Nat} : ∀ c ∈ (#[.bool b, .slice A n m, .slice D i j] : Array Value), ∀ i, c ≠ .int k i := by
 intro c hc i
 simp at hc
 rcases hc with rfl | rfl | rfl <;> simp
end Go.Proofs.YtmpalajamfiiiaaGreat.flow
namespace Go.Proofs.YtmpalajamfiiiaaGreat.rat
open Go.RowKit num mem nat txt str flow whl
theorem three {w : World} {g : Nat} {t : TypeId} {x y z : Value} (h : Blk w g t #[x, y, z]) : w.cell? ⟨g, 0, none⟩ = some x /\ w.cell? ⟨g, 1, none⟩ = some y /\ w.cell? ⟨g, 2, none⟩ = some z /\ w.frozen? ⟨g, 0, none⟩ = false /\ w.frozen? ⟨g, 1, none⟩ = false /\ w.frozen? ⟨g, 2, none⟩ = false :=
 ⟨h.cell 0, h.cell 1, h.cell 2, h.frozen 0, h.frozen 1, h.frozen 2⟩
theorem zQ1.mono {B B' : Nat} {v : Value} (h : zQ1 B v) (hb : B' <= B) : zQ1 B' v := fun n u t e => ⟨(h n u t e).1.mono hb, (h n u t e).2.mono hb⟩
theorem zM1 {B : Nat} {b : Bool} {u t : Value} (h : zD5 B u) (k : zD5 B t) : zQ1 B (.agg #[.bool b, u, t]) := by
 intro n u' t' e
 injection e with e
 have e := congrArg Array.toList e
 simp at e
 obtain ⟨_, rfl, rfl⟩ := e
 exact ⟨h, k⟩
/-- The call's answer is this fraction, in new memory. -/
def RetQ (q : Rat) (w : World) (e : Ending) (w' : World) : Prop := ∃ v, e = .returned v /\ IsQ w' v q /\ zQ1 w.heap.size v /\ Below w.heap.size w w'
/-- The document's own fraction. -/
def zQ2 (q : Rat) (w : World) (e : Ending) (w' : World) : Prop := ∃ v, e = .returned v /\ IsP w' v q /\ Below w.heap.size w w'
/-- In new memory. -/
def zM2 (q : Rat) (w : World) (e : Ending) (w' : World) : Prop := ∃ v, e = .returned v /\ IsP w' v q /\ zQ1 w.heap.size v /\ Below w.heap.size w w'
/-- The call's answer is this fraction. -/
def qB (q : Rat) (w : World) (e : Ending) (w' : World) : Prop := ∃ v, e = .returned v /\ IsQ w' v q /\ Below w.heap.size w w'
/-- This fraction, and an error's number. -/
def qB0 (q : Rat) (n : Int) (w : World) (e : Ending) (w' : World) : Prop := ∃ v, e = .returned (.tuple #[v, .int .i64 n]) /\ IsQ w' v q /\ Below w.heap.size w w'
/-- Nothing, and an error's number. -/
def RetQN (n : Int) (w : World) (e : Ending) (w' : World) : Prop := e = .returned (.tuple #[.agg #[.bool false, .slice none 0 0, .slice none 0 0], .int .i64 n]) /\ Below w.heap.size w w'
def pqe (q : Rat) (n : Int) : Pd := ⟨fun w t => ∃ v, t = .tuple #[v, .int .i64 n] /\ IsQ w v q, fun h hb => by obtain ⟨v, e, h1⟩ := h; exact ⟨v, e, h1.below hb⟩⟩
def pq (q : Rat) (B : Nat) : Pd := ⟨fun w v => IsQ w v q /\ zQ1 B v, fun h hb => ⟨h.1.below hb, h.2⟩⟩
def pqn (q : Rat) : Pd := ⟨fun w v => IsQ w v q, fun h hb => h.below hb⟩
def pp (q : Rat) : Pd := ⟨fun w v => IsP w v q, fun h hb => h.below hb⟩
def ppf (q : Rat) (B : Nat) : Pd := ⟨fun w v => IsP w v q /\ zQ1 B v, fun h hb => ⟨h.1.below hb, h.2⟩⟩
theorem RetQ.pd {q : Rat} {w : World} {e : Ending} {w' : World} {B : Nat} (h : RetQ q w e w') (hB : B <= w.heap.size) : zH5 (pq q B) w e w' := by
 obtain ⟨v, h1, h2, h3, h4⟩ := h
 exact ⟨v, h1, ⟨h2, h3.mono hB⟩, h4⟩
theorem qB.pd {q : Rat} {w : World} {e : Ending} {w' : World} (h : qB q w e w') : zH5 (pqn q) w e w' := h
theorem RetQ.n {q : Rat} {w : World} {e : Ending} {w' : World} (h : RetQ q w e w') : qB q w e w' := by
 obtain ⟨v, h1, h2, _, h4⟩ := h
 exact ⟨v, h1, h2, h4⟩
theorem qB0.pd {q : Rat} {n : Int} {w : World} {e : Ending} {w' : World} (h : qB0 q n w e w') : zH5 (pqe q n) w e w' := by
 obtain ⟨v, h1, h2, h3⟩ := h
 exact ⟨_, h1, ⟨v, rfl, h2⟩, h3⟩
theorem zQ2.pd {q : Rat} {w : World} {e : Ending} {w' : World} (h : zQ2 q w e w') : zH5 (pp q) w e w' := h
theorem zM2.pdf {q : Rat} {w : World} {e : Ending} {w' : World} {B : Nat} (h : zM2 q w e w') (hB : B <= w.heap.size) : zH5 (ppf q B) w e w' := by
 obtain ⟨v, h1, h2, h3, h4⟩ := h
 exact ⟨v, h1, ⟨h2, h3.mono hB⟩, h4⟩
theorem endQ {w w2 : World} {u t x y z : Value} {q : Rat} {g B : Nat} (hb : Below w.heap.size w w2) (hg : w.heap.size <= g) (hgB : g < B) (hu : IsS w2 .u64 u (digs 4294967296 q.num.natAbs)) (ht : IsS w2 .u64 t (digs 4294967296 q.den)) (hf : zQ1 B (.agg #[.bool (ngB q.num), u, t])) :
  RetQ q w (.returned (.agg #[.bool (ngB q.num), u, t])) (((w2.setCell ⟨g, 0, none⟩ x).setCell ⟨g, 1, none⟩ y).setCell ⟨g, 2, none⟩ z) := by
 obtain ⟨f1, f2⟩ := hf _ _ _ rfl
 exact ⟨_, rfl, ⟨u, t, rfl, ((hu.setCell f1 hgB _).setCell f1 hgB _).setCell f1 hgB _, ((ht.setCell f2 hgB _).setCell f2 hgB _).setCell f2 hgB _⟩, hf.mono (by omega), ((hb.setCell hg _).setCell hg _).setCell hg _⟩
theorem zG3.pi {z : Int} {w : World} {e : Ending} {w' : World} (h : zG3 z w e w') : zH5 (pi z) w e w' := by
 obtain ⟨v, h1, h2, _, h4⟩ := h
 exact ⟨v, h1, h2, h4⟩
end Go.Proofs.YtmpalajamfiiiaaGreat.rat
namespace Go.Proofs.YtmpalajamfiiiaaGreat.num
theorem gcd_mod (x y : Nat) : Nat.gcd y (x % y) = Nat.gcd x y := by
 rw [Nat.gcd_comm x y, Nat.gcd_rec y x, Nat.gcd_comm]
/-- The odd part. -/
def odp (x : Nat) : Nat := x / 2 ^ tz x
theorem zS0 {x : Nat} (h : 0 < x) : x = 2 ^ tz x * odp x /\ odp x % 2 = 1 := by
  induction x using Nat.strongRecOn with
  | ind x ih =>
    by_cases h1 : x % 2 = 1
    · unfold odp; rw [qR0 h1]; simp [h1]
    · have h2 : x % 2 = 0 := by omega
      obtain ⟨e, o⟩ := ih (x / 2) (by omega) (by omega)
      have e2 : odp x = odp (x / 2) := by
        unfold odp
        rw [zZ2 (by omega) h2, Nat.pow_succ, Nat.mul_comm, <- Nat.div_div_eq_div_mul]
      refine ⟨?_, by rw [e2]; exact o⟩
      rw [e2, zZ2 (by omega) h2, Nat.pow_succ, Nat.mul_right_comm, <- e]
      omega
theorem odp_pos {x : Nat} (h : 0 < x) : 0 < odp x := by have := (zS0 h).2; omega
theorem odp_le (x : Nat) : odp x <= x := Nat.div_le_self _ _
theorem yN0 {x : Nat} (h : 0 < x) (h2 : x % 2 = 0) : 2 * odp x <= x := by
 obtain ⟨e, o⟩ := zS0 h
 have ht : tz x = (tz x - 1) + 1 := by rw [zZ2 (by omega) h2]; omega
 rw [ht, Nat.pow_succ] at e
 have := Nat.pow_pos (n := tz x - 1) (show 0 < 2 by omega)
 have h3 : 1 * (2 * odp x) <= 2 ^ (tz x - 1) * (2 * odp x) := Nat.mul_le_mul_right _ this
 rw [<- zB5] at h3
 rw [<- zB5, Nat.one_mul] at h3
 omega
theorem cop2 {o : Nat} (h : o % 2 = 1) (k : Nat) : Nat.Coprime (2 ^ k) o := by
 refine Nat.Coprime.pow_left k ?_
 show Nat.gcd 2 o = 1
 rw [Nat.gcd_rec, h]; rfl
/-- Of an odd number, twos in the other one count for nothing. -/
theorem gcd_odp {x y : Nat} (hx : 0 < x) (hy : y % 2 = 1) : Nat.gcd (odp x) y = Nat.gcd x y := by
 have e := (zS0 hx).1
 have h := Nat.Coprime.gcd_mul_left_cancel (odp x) (cop2 hy (tz x))
 rw [<- e] at h
 exact h.symm
theorem qX (i j p q : Nat) (hp : p % 2 = 1) (hij : i <= j) : Nat.gcd (2 ^ i * p) (2 ^ j * q) = 2 ^ i * Nat.gcd p q := by
 have e : 2 ^ j * q = 2 ^ i * (2 ^ (j - i) * q) := by rw [<- zB5, <- Nat.pow_add]; congr 2; omega
 rw [e, Nat.gcd_mul_left, Nat.gcd_comm p, Nat.Coprime.gcd_mul_left_cancel q (cop2 hp (j - i)), Nat.gcd_comm]
theorem yN1 {x y : Nat} (hx : 0 < x) (hy : 0 < y) : Nat.gcd x y = Nat.gcd (odp x) (odp y) * 2 ^ min (tz x) (tz y) := by
 obtain ⟨e1, o1⟩ := zS0 hx
 obtain ⟨e2, o2⟩ := zS0 hy
 rw [Nat.mul_comm]
 rcases Nat.le_total (tz x) (tz y) with h | h
 ·rw [Nat.min_eq_left h]
  conv => lhs; rw [e1, e2]
  exact qX _ _ _ _ o1 h
 ·rw [Nat.min_eq_right h, Nat.gcd_comm x y, Nat.gcd_comm (odp x)]
  conv => lhs; rw [e1, e2]
  exact qX _ _ _ _ o2 h
/-- What the loop of halving and taking off keeps. -/
def BG (g x y : Nat) : Prop := x % 2 = 1 /\ y % 2 = 1 /\ Nat.gcd x y = g
theorem BG.swap {g x y : Nat} (h : BG g x y) : BG g y x := ⟨h.2.1, h.1, by rw [Nat.gcd_comm]; exact h.2.2⟩
theorem BG.step {g x y : Nat} (h : BG g x y) (hlt : y < x) : BG g (odp (x - y)) y /\ 0 < x - y /\ odp (x - y) + y < x + y := by
 obtain ⟨h1, h2, h3⟩ := h
 have h0 : 0 < x - y := by omega
 refine ⟨⟨(zS0 h0).2, h2, ?_⟩, h0, ?_⟩
 ·rw [gcd_odp h0 h2, Nat.gcd_sub_self_left (by omega), h3]
 ·have := yN0 h0 (by omega)
  omega
theorem BG.done {g x : Nat} (h : BG g x x) : g = x := by rw [<- h.2.2, Nat.gcd_self]
theorem BG.start {x y : Nat} (hx : 0 < x) (hy : 0 < y) : BG (Nat.gcd (odp x) (odp y)) (odp x) (odp y) := ⟨(zS0 hx).2, (zS0 hy).2, rfl⟩
/-- The greatest common divisor of many. -/
def zN8 (l : List Nat) : Nat := l.foldl Nat.gcd 0
theorem yN2 (l : List Nat) (x : Nat) : zN8 (l ++ [x]) = Nat.gcd (zN8 l) x := by simp [zN8]
theorem qX0 {x : Nat} (h : 0 < x) : 2 ^ tz x <= x := by
 have e := (zS0 h).1
 have h2 := odp_pos h
 have h3 : 2 ^ tz x * 1 <= 2 ^ tz x * odp x := Nat.mul_le_mul_left _ h2
 omega
theorem yN3 (x : Nat) : x / 4294967296 ^ (tz x / 32) / 2 ^ (tz x % 32) = odp x := by
 have e : (4294967296 : Nat) = 2 ^ 32 := by decide
 unfold odp
 rw [Nat.div_div_eq_div_mul, e, <- Nat.pow_mul, <- Nat.pow_add]
 congr 2; omega
theorem tz_limb {x : Nat} (h : 0 < x) : tz x / 32 < (digs 4294967296 x).length := by
 have h1 := qX0 h
 have h2 := zJ (B := 4294967296) (by omega) x
 have e : (4294967296 : Nat) = 2 ^ 32 := by decide
 rw [e, <- Nat.pow_mul] at h2
 have h3 : 2 ^ tz x < 2 ^ (32 * (digs 4294967296 x).length) := by rw [<- e] at h2; exact Nat.lt_of_le_of_lt h1 h2
 have h4 := (Nat.pow_lt_pow_iff_right (show 1 < 2 by omega)).1 h3
 omega
end Go.Proofs.YtmpalajamfiiiaaGreat.num
namespace Go.Proofs.YtmpalajamfiiiaaGreat.nat
open Go.RowKit num mem limb
/-- The call ends with a slice that reads as the list; what was there is as it was. -/
def RetSs (k : IntKind) (l : List Nat) (w : World) (e : Ending) (w' : World) : Prop := ∃ v, e = .returned v /\ IsS w' k v l /\ Below w.heap.size w w'
theorem qB1 {B x : Nat} (hB : 2 <= B) (h : x = 0) : (digs B x).length <= 0 := by rw [h, zH0]; simp
theorem qB2 {B x : Nat} (hB : 2 <= B) (h : 0 < x) : 0 < (digs B x).length := by
 rcases Nat.eq_zero_or_pos (digs B x).length with h0 | h0
 ·have := (zU7 hB).1 h0; omega
 ·exact h0
theorem qX1 (v u : Value) (x y : Nat) (w : World) (h : IsS w .i64 v (digs 10000 x)) (h' : IsS w .i64 u (digs 10000 y)) (hl : (digs 10000 x).length <= 100000) (hl' : (digs 10000 y).length <= 100000) :
  Calls Tryz.prog 109 #[v, u] w (RetSs .i64 (digs 10000 (Nat.gcd x y)) w) := by
 go_enter Tryz.func109, Tryz.ntmps109
 go_wp2
 go_loopg [0, 1] y (fun gk va vb wr => ∃ (p q : Nat), q <= gk /\ IsS wr .i64 va (digs 10000 p) /\ IsS wr .i64 vb (digs 10000 q) /\ (digs 10000 p).length <= 100000 /\ (digs 10000 q).length <= 100000 /\ Hid (Nat.gcd p q = Nat.gcd x y) /\ Below w.heap.size w wr)
 case atStart => exact ⟨x, y, zB3 _, h, h', hl, hl', rfl, Below.refl _ _⟩
 case round =>
  obtain ⟨p, q, hq, hp, hqs, lp, lq, HG, hb⟩ := hrel
  obtain ⟨A2, c2, rfl, _⟩ := id hqs
  by_cases hq0 : q = 0
  ·have hz := qB1 (B := 10000) (by omega) hq0
   have HE : Hid (Nat.gcd x y = p) := by have h1 := HG.out; rw [hq0, Nat.gcd_zero_right] at h1; exact h1.symm
   clear hq0
   go_wp2
   go_ret
   exact ⟨_, rfl, by rw [HE.out]; exact hp, hb⟩
  ·have hz := qB2 (B := 10000) (x := q) (by omega) (by omega)
   have hml := dec_mod p q
   have hlt : p % q < q := Nat.mod_lt _ (by omega)
   have HG2 : Hid (Nat.gcd q (p % q) = Nat.gcd x y) := by show _ = _; rw [gcd_mod]; exact HG.out
   go_wp2_with fail
   refine (zZ4 _ _ p q _ hp hqs lp lq (by omega)).mono ?_
   rintro e w' ⟨v3, v4, rfl, k3, k4, f3, f4, b4⟩
   have hb2 := hb.trans (b4.mono hb.size)
   go_wp2
   go_roundg (p % q)
   case rel => exact ⟨q, p % q, zB3 _, hqs.below b4, k4, lq, by omega, HG2, hb2⟩
   case measure => omega
theorem zX8 (v : Value) (x : Nat) (w : World) (h : IsS w .u64 v (digs 4294967296 x)) (hl : (digs 4294967296 x).length <= 90000) :
  Calls Tryz.prog 138 #[v] w (zD1 .u64 (digs 4294967296 x) w) := by
 go_enter Tryz.func138, Tryz.ntmps138
 go_wp2_with fail
 refine (qE6 _ x _ _ 1 0 _ h (by omega) rfl rfl (by omega) (by omega) x (by omega)).mono ?_
 rintro e w1 ⟨v1, rfl, k1, f1, b1⟩
 go_wp2
 go_ret
 exact ⟨_, rfl, k1, f1, b1⟩
/-- Noughts below a number. -/
theorem digs_up {B : Nat} (hB : 2 <= B) (q : Nat) {y : Nat} (hy : 0 < y) : digs B (B ^ q * y) = zB1 q 0 ++ digs B y := by
  induction q with
  | zero => simp
  | succ q ih =>
    have hp : 0 < B ^ q * y := Nat.mul_pos (Nat.pow_pos (by omega)) hy
    have e : B ^ (q + 1) * y = B * (B ^ q * y) := by rw [Nat.pow_succ, Nat.mul_comm (B ^ q) B, zB5]
    rw [e, zO5 hB (Nat.mul_pos (by omega) hp), Nat.mul_mod_right, Nat.mul_div_cancel_left _ (by omega), ih, List.replicate_succ, List.cons_append]
theorem qG1 (v : Value) (x : Nat) (w : World) (h : IsS w .u64 v (digs 4294967296 x)) (hl : (digs 4294967296 x).length <= 90000) (hx : 0 < x) (y : Nat) (hy : y = odp x) :
  Calls Tryz.prog 140 #[v] w (zD1 .u64 (digs 4294967296 y) w) := by
 obtain ⟨t, ht⟩ : ∃ t, t = tz x := ⟨_, rfl⟩
 have hgl : t / 32 < (digs 4294967296 x).length := by rw [ht]; exact tz_limb hx
 have HT := Lib.hid ht
 have HY : Hid (y = x / 4294967296 ^ (t / 32) / 2 ^ (t % 32)) := by show _ = _; rw [hy, ht, yN3]
 have HD : Hid ((digs 4294967296 x).drop (t / 32) = digs 4294967296 (x / 4294967296 ^ (t / 32))) := qK9 (n := t / 32) (by omega)
 have hdl := zG1 (B := 4294967296) (by omega) (Nat.div_le_self x (4294967296 ^ (t / 32)))
 clear ht hy
 obtain ⟨A, c, rfl, hc, hm, hr⟩ := id h
 have hm2 := hm
 unfold maxLen at hm2
 have hs : IsS w .u64 (.slice (A.map fun x => x.add (t / 32)) ((digs 4294967296 x).length - t / 32) (c - t / 32)) (digs 4294967296 (x / 4294967296 ^ (t / 32))) := by rw [<- HD.out]; exact hr.isDrop hc hm (by omega)
 have hcap : t / 32 < c := by omega
 go_enter Tryz.func140, Tryz.ntmps140
 go_wp2_with fail
 refine (zeros_any _ x t _ h (by omega) HT.out).mono ?_
 rintro e w1 ⟨rfl, rfl⟩
 go_wp2_with fail
 all_goals
  refine (qS4 _ (x / 4294967296 ^ (t / 32)) _ (t % 32) _ (by omega) (by first | exact hs | skip) (by omega) (by omega) y HY.out).mono ?_
  rintro e w1 ⟨v1, rfl, k1, f1, b1⟩
  go_wp2
  go_ret
  exact ⟨_, rfl, k1, f1, b1⟩
theorem yN4 (v : Value) (x : Nat) (nI : Int) (n : Nat) (w : World) (hnI : nI = (n : Int)) (h : IsS w .u64 v (digs 4294967296 x)) (hl : (digs 4294967296 x).length <= 90000) (hx : 0 < x) (hn : n <= 3000000) (y : Nat) (hy : y = x * 2 ^ n) :
  Calls Tryz.prog 142 #[v, .int .i64 nI] w (zD1 .u64 (digs 4294967296 y) w) := by
 subst hnI
 have hz : 0 < x * 2 ^ (n % 32) := Nat.mul_pos hx (Nat.pow_pos (by omega))
 have hzl := qL4 (x := x) (u := n % 32) (by omega)
 have HE : Hid (digs 4294967296 y = zB1 (n / 32) 0 ++ digs 4294967296 (x * 2 ^ (n % 32))) := by
  show _ = _
  rw [<- digs_up (by omega) _ hz, hy, zZ8, Nat.mul_left_comm, <- Nat.pow_add]
  congr 3; omega
 clear hy
 go_enter Tryz.func142, Tryz.ntmps142
 go_wp2_with fail
 refine (shl_ok _ x _ (n % 32) _ (by omega) h (by omega) (by omega) _ rfl).mono ?_
 rintro e w1 ⟨v1, rfl, k1, f1, b1⟩
 obtain ⟨A1, c1, rfl, hc1, hm1, hr1⟩ := k1
 go_wp2_with (first
  | (at_make; refine zO6 rfl _ _ rfl zI5 (n / 32) rfl rfl (by omega) (by omega) (by omega) (zB3 _) ?_; intro w2 hown2 hb2 hz2)
  | (at_builtin; refine zW7 rfl (.tmp 16) (.tmp 17) rfl zI5 rfl hown2 rfl (news := digs 4294967296 (x * 2 ^ (n % 32))) rfl (hr1.below hb2) (by simp; omega) hb2.size ?_; intro v' w3 hown3 hb3 hg3))
 go_ret
 exact ⟨_, rfl, by rw [HE.out]; exact hown3.isS, hown3.fresh.mono b1.size, (b1.trans (hb2.mono b1.size)).trans (hb3.mono b1.size)⟩
theorem yN5 {x n : Nat} (h : (digs 4294967296 x).length <= n) : x < 2 ^ (32 * n) := by
 have h2 := zJ (B := 4294967296) (by omega) x
 rw [zZ8] at h2
 exact Nat.lt_of_lt_of_le h2 (Nat.pow_le_pow_right (by omega) (by omega))
theorem tz_le {x n : Nat} (hx : 0 < x) (h : (digs 4294967296 x).length <= n) : tz x <= 32 * n := by
 have h1 := Nat.lt_of_le_of_lt (qX0 hx) (yN5 h)
 have := (Nat.pow_lt_pow_iff_right (show 1 < 2 by omega)).1 h1
 omega
theorem qG2 (x : Nat) : (digs 4294967296 (odp x)).length <= (digs 4294967296 x).length := zG1 (by omega) (odp_le x)
theorem qX2 (x y : Nat) : (digs 4294967296 (x - y)).length <= (digs 4294967296 x).length := zG1 (by omega) (Nat.sub_le _ _)
theorem qG3 (v u : Value) (x y : Nat) (w : World) (h : IsS w .u64 v (digs 4294967296 x)) (h' : IsS w .u64 u (digs 4294967296 y)) (hl : (digs 4294967296 x).length <= 90000) (hl' : (digs 4294967296 y).length <= 90000) (z : Nat) (hz : z = Nat.gcd x y) :
  Calls Tryz.prog 131 #[v, u] w (zD1 .u64 (digs 4294967296 z) w) := by
 have HZ := Lib.hid hz
 clear hz
 by_cases hx0 : x = 0
 ·have hzl := qB1 (B := 4294967296) (by omega) hx0
  have HE : Hid (z = y) := by show _ = _; rw [HZ.out, hx0, Nat.gcd_zero_left]
  clear hx0
  go_enter Tryz.func131, Tryz.ntmps131
  go_wp2_with fail
  refine (zX8 _ x _ h hl).mono ?_
  rintro e w1 ⟨v1, rfl, k1, f1, b1⟩
  go_wp2_with fail
  refine (zX8 _ y _ (h'.below b1) hl').mono ?_
  rintro e w2 ⟨v2, rfl, k2, f2, b2⟩
  obtain ⟨A1, c1, rfl, _⟩ := id k1
  go_wp2
  go_ret
  exact ⟨_, rfl, by rw [HE.out]; exact k2, f2.mono b1.size, b1.trans (b2.mono b1.size)⟩
 ·have hxp : 0 < x := by omega
  have hxl := qB2 (B := 4294967296) (by omega) hxp
  have hxl2 : (((digs 4294967296 x).length : Int) == 0) = false := by rw [beq_eq_false_iff_ne]; omega
  clear hx0
  by_cases hy0 : y = 0
  ·have hzl := qB1 (B := 4294967296) (by omega) hy0
   have HE : Hid (z = x) := by show _ = _; rw [HZ.out, hy0, Nat.gcd_zero_right]
   clear hy0
   go_enter Tryz.func131, Tryz.ntmps131
   go_wp2_with fail
   refine (zX8 _ x _ h hl).mono ?_
   rintro e w1 ⟨v1, rfl, k1, f1, b1⟩
   go_wp2_with fail
   refine (zX8 _ y _ (h'.below b1) hl').mono ?_
   rintro e w2 ⟨v2, rfl, k2, f2, b2⟩
   obtain ⟨A1, c1, rfl, _⟩ := id k1
   obtain ⟨A2, c2, rfl, _⟩ := id k2
   go_wp2
   go_ret
   exact ⟨_, rfl, by rw [HE.out]; exact k1.below b2, f1, b1.trans (b2.mono b1.size)⟩
  ·have hyp : 0 < y := by omega
   have hyl := qB2 (B := 4294967296) (by omega) hyp
   have hyl2 : (((digs 4294967296 y).length : Int) == 0) = false := by rw [beq_eq_false_iff_ne]; omega
   clear hy0
   obtain ⟨t, ht⟩ : ∃ t, t = tz x := ⟨_, rfl⟩
   obtain ⟨s, hs⟩ : ∃ s, s = tz y := ⟨_, rfl⟩
   have htl := tz_le hxp hl
   have hsl := tz_le hyp hl'
   rw [<- ht] at htl
   rw [<- hs] at hsl
   obtain ⟨g, hg⟩ : ∃ g, g = Nat.gcd (odp x) (odp y) := ⟨_, rfl⟩
   have HG : Hid (z = g * 2 ^ min t s) := by show _ = _; rw [HZ.out, yN1 hxp hyp, hg, ht, hs]
   obtain ⟨p0, hp0⟩ : ∃ p, p = odp x := ⟨_, rfl⟩
   obtain ⟨q0, hq0⟩ : ∃ q, q = odp y := ⟨_, rfl⟩
   have hpl := qG2 x
   have hql := qG2 y
   have HB : Hid (BG g p0 q0) := by show BG _ _ _; rw [hg, hp0, hq0]; exact BG.start hxp hyp
   rw [<- hp0] at hpl
   rw [<- hq0] at hql
   have HT := Lib.hid ht
   have HS := Lib.hid hs
   have HP := Lib.hid hp0
   have HQ := Lib.hid hq0
   rcases (show (s < t /\ min t s = s) \/ (¬ s < t /\ min t s = t) from by omega) with ⟨hst, hm⟩ | ⟨hst, hm⟩
   all_goals
    rw [hm] at HG
    clear ht hs hg hp0 hq0 HZ hm
    go_enter Tryz.func131, Tryz.ntmps131
    go_wp2_with fail
    refine (zX8 _ x _ h hl).mono ?_
    rintro e w1 ⟨v1, rfl, k1, f1, b1⟩
    go_wp2_with fail
    refine (zX8 _ y _ (h'.below b1) hl').mono ?_
    rintro e w2 ⟨v2, rfl, k2, f2, b2⟩
    replace k1 := k1.below b2
    have b3 := b1.trans (b2.mono b1.size)
    obtain ⟨A1, c1, rfl, _⟩ := id k1
    obtain ⟨A2, c2, rfl, _⟩ := id k2
    clear h h' b1 b2 f1 f2
    go_wp2_with fail
    refine (zeros_any _ x t _ k1 (by omega) HT.out).mono ?_
    rintro e w3 ⟨rfl, rfl⟩
    go_wp2_with fail
    refine (zeros_any _ y s _ k2 (by omega) HS.out).mono ?_
    rintro e w3 ⟨rfl, rfl⟩
    go_wp2_with fail
    refine (qG1 _ x _ k1 hl hxp p0 HP.out).mono ?_
    rintro e w3 ⟨v3, rfl, k3, f3, b4⟩
    have b5 := b3.trans (b4.mono b3.size)
    go_wp2_with fail
    refine (qG1 _ y _ (k2.below b4) hl' hyp q0 HQ.out).mono ?_
    rintro e w4 ⟨v4, rfl, k4, f4, b6⟩
    have b7 := b5.trans (b6.mono b5.size)
    replace k3 := k3.below b6
    clear k1 k2 b3 b4 b5 b6 f3 f4
    go_wp2_with fail
    refine (zR4 _ _ p0 q0 (ord p0 q0) _ k3 k4 rfl).mono ?_
    rintro e w5 ⟨rfl, b8⟩
    have b9 := b7.trans (b8.mono b7.size)
    replace k3 := k3.below b8
    replace k4 := k4.below b8
    clear b7 b8
    go_wp2
    go_loopg [0, 1, 6] (p0 + q0) (fun gk va vb vo wr => ∃ (p q : Nat) (o : Int), p + q <= gk /\ IsS wr .u64 va (digs 4294967296 p) /\ IsS wr .u64 vb (digs 4294967296 q) /\ (digs 4294967296 p).length <= 90000 /\ (digs 4294967296 q).length <= 90000 /\ Hid (BG g p q) /\ Hid (o = ord p q) /\ vo = .int .i64 o /\ Below w.heap.size w wr)
    case atStart => exact ⟨p0, q0, _, zB3 _, k3, k4, by omega, by omega, HB, rfl, rfl, b9⟩
    case round =>
     clear k3 k4 b9
     obtain ⟨p, q, o, hpq, kp, kq, lp, lq, HBG, HO, rfl, hb⟩ := hrel
     rcases Nat.lt_trichotomy p q with hlt | heq | hlt
     ·obtain rfl : o = -1 := by rw [HO.out]; exact zP9 hlt
      clear HO
      obtain ⟨hs1, hs2, hs3⟩ := HBG.out.swap.step hlt
      have HS1 := Lib.hid hs1
      have hs4 := qX2 q p
      have hs5 := qG2 (q - p)
      clear hs1
      go_wp2_with fail
      refine (zZ9 _ _ q p _ kq kp (by omega) (by omega) (q - p) rfl).mono ?_
      rintro e w5 ⟨v5, rfl, k5, f5, b5⟩
      go_wp2_with fail
      refine (qG1 _ (q - p) _ k5 (by omega) hs2 (odp (q - p)) rfl).mono ?_
      rintro e w6 ⟨v6, rfl, k6, f6, b6⟩
      have kp2 := (kp.below b5).below b6
      have b7 := (hb.trans (b5.mono hb.size))
      have b8 := b7.trans (b6.mono b7.size)
      go_wp2_with fail
      refine (zR4 _ _ (odp (q - p)) p (ord (odp (q - p)) p) _ k6 kp2 rfl).mono ?_
      rintro e w7 ⟨rfl, b9⟩
      have b10 := b8.trans (b9.mono b8.size)
      go_wp2
      go_roundg (odp (q - p) + p)
      case rel => exact ⟨odp (q - p), p, _, zB3 _, k6.below b9, kp2.below b9, by omega, by omega, HS1, rfl, rfl, b10⟩
      case measure => omega
     ·obtain rfl : o = 0 := by rw [HO.out, heq]; exact zZ0 q
      subst heq
      have HZ := (fun m (hh : Hid (z = g * 2 ^ m)) => (show Hid (z = p * 2 ^ m) from by show _ = _; rw [hh.out, HBG.out.done])) _ HG
      have hpos : 0 < p := by have := HBG.out.1; omega
      clear HO
      go_wp2_with fail
      refine (yN4 _ p _ _ _ rfl kp (by omega) hpos (by omega) z HZ.out).mono ?_
      rintro e w5 ⟨v5, rfl, k5, f5, b5⟩
      go_wp2
      go_ret
      exact ⟨_, rfl, k5, f5.mono hb.size, hb.trans (b5.mono hb.size)⟩
     ·obtain rfl : o = 1 := by rw [HO.out]; exact zR1 hlt
      clear HO
      obtain ⟨hs1, hs2, hs3⟩ := HBG.out.step hlt
      have HS1 := Lib.hid hs1
      have hs4 := qX2 p q
      have hs5 := qG2 (p - q)
      clear hs1
      go_wp2_with fail
      refine (zZ9 _ _ p q _ kp kq (by omega) (by omega) (p - q) rfl).mono ?_
      rintro e w5 ⟨v5, rfl, k5, f5, b5⟩
      go_wp2_with fail
      refine (qG1 _ (p - q) _ k5 (by omega) hs2 (odp (p - q)) rfl).mono ?_
      rintro e w6 ⟨v6, rfl, k6, f6, b6⟩
      have kq2 := (kq.below b5).below b6
      have b7 := (hb.trans (b5.mono hb.size))
      have b8 := b7.trans (b6.mono b7.size)
      go_wp2_with fail
      refine (zR4 _ _ (odp (p - q)) q (ord (odp (p - q)) q) _ k6 kq2 rfl).mono ?_
      rintro e w7 ⟨rfl, b9⟩
      have b10 := b8.trans (b9.mono b8.size)
      go_wp2
      go_roundg (odp (p - q) + q)
      case rel => exact ⟨odp (p - q), q, _, zB3 _, k6.below b9, kq2.below b9, by omega, by omega, HS1, rfl, rfl, b10⟩
      case measure => omega
theorem gcd_len {x y n : Nat} (hx : (digs 4294967296 x).length <= n) (hy : (digs 4294967296 y).length <= n) : (digs 4294967296 (Nat.gcd x y)).length <= n := by
 rcases Nat.eq_zero_or_pos x with h | h
 ·rw [h, Nat.gcd_zero_left]; exact hy
 ·exact zB4 (zG1 (by omega) (Nat.gcd_le_left y h)) hx
/-- Each of them has so many limbs at most. -/
def Lens (n : Nat) (xs : List Nat) : Prop := ∀ x ∈ xs, (digs 4294967296 x).length <= n
theorem Lens.at {n : Nat} {xs : List Nat} (h : Lens n xs) {k x : Nat} (hk : xs[k]? = some x) : (digs 4294967296 x).length <= n := h x (zA5 hk)
theorem yN6 {xs : List Nat} {k x : Nat} (h : xs[k]? = some x) : zN8 (xs.take (k + 1)) = Nat.gcd (zN8 (xs.take k)) x := by rw [zR2 h, yN2]
theorem qX3 (V : Value) (vs : List Value) (xs : List Nat) (w : World) (hV : IsV w V vs) (hN : qA w vs xs) (hl : vs.length <= 1000000) (hS : Lens 90000 xs) :
  Calls Tryz.prog 121 #[V] w (zD1 .u64 (digs 4294967296 (zN8 xs)) w) := by
 obtain ⟨A, c, rfl, hc, hcells⟩ := hV
 have HC := Lib.hid hcells
 have HN := Lib.hid hN
 have HX : Hid (vs.length = xs.length) := hN.1
 have HS := Lib.hid hS
 clear hcells hN hS
 go_enter Tryz.func121, Tryz.ntmps121
 go_wp2
 go_loopw [3, 9] (fun vg vi wr => ∃ (k G : Nat), k <= vs.length /\ Hid (G = zN8 (xs.take k)) /\ (digs 4294967296 G).length <= 90000 /\ IsS wr .u64 vg (digs 4294967296 G) /\ zD5 w.heap.size vg /\ Below w.heap.size w wr /\ vi = .int .i64 (k : Int)) (fun _ vi _ => vs.length - (intOf vi).toNat)
 case atStart => exact ⟨0, 0, by omega, rfl, by rw [zH0]; simp, by rw [zH0]; exact (zM6 w w.heap.size _ .u64 (zB3 _)).isS, qE0 (zB3 _), zC8 (zB3 _) _, rfl⟩
 case round =>
  obtain ⟨k, G, hk, HG, lG, kG, fG, hb, rfl⟩ := hrel
  by_cases hp : k < vs.length
  ·obtain ⟨u, x, hu, hx, hv⟩ := HN.out.at_ hp
   obtain ⟨ad, rfl, hcell⟩ := HC.out k u hu
   have hcell2 := (hb.cell (World.block_lt_of_cell? w _ hcell)).trans hcell
   have lx := HS.out.at hx
   have hv2 := hv.below hb
   have hlz : (digs 4294967296 (Nat.gcd G x)).length <= 90000 := gcd_len lG lx
   obtain ⟨z, hz⟩ : ∃ z, z = Nat.gcd G x := ⟨_, rfl⟩
   rw [<- hz] at hlz
   have HT : Hid (z = zN8 (xs.take (k + 1))) := by show _ = _; rw [yN6 hx, <- HG.out]; exact hz
   obtain ⟨t, ht⟩ : ∃ t, t = ord x G := ⟨_, rfl⟩
   have HO := Lib.hid ht
   have HZ := Lib.hid hz
   obtain ⟨A1, c1, rfl, _⟩ := id hv2
   obtain ⟨A2, c2, rfl, _⟩ := id kG
   clear hu hx hv hcell hz
   by_cases hlt : x < G
   ·have ht0 : t < 0 := by rw [ht]; exact zU8.2 hlt
    clear ht
    rcases Nat.eq_zero_or_pos x with hx0 | hx0
    ·have hzl := qB1 (B := 4294967296) (by omega) hx0
     clear hx0
     go_wp2_with fail
     refine (zR4 _ _ x G t _ hv2 kG HO.out).mono ?_
     rintro e w1 ⟨rfl, b1⟩
     go_wp2_with fail
     refine (qG3 _ _ G x _ (kG.below b1) (hv2.below b1) lG lx z HZ.out).mono ?_
     rintro e w2 ⟨v2, rfl, k2, f2, b2⟩
     have b3 := hb.trans (b1.mono hb.size)
     have b4 := b3.trans (b2.mono b3.size)
     go_wp2
     go_roundw
     case rel => exact ⟨k + 1, z, by omega, HT, hlz, k2, f2.mono b3.size, b4, by go_num⟩
     case measure => simp [intOf]; omega
    ·have hzl := qB2 (B := 4294967296) (by omega) hx0
     have hml := qU8 (x := G) (y := x) hx0
     have HZ2 : Hid (z = Nat.gcd (G % x) x) := by show _ = _; rw [HZ.out, Nat.gcd_comm G x, Nat.gcd_rec]
     go_wp2_with fail
     refine (zR4 _ _ x G t _ hv2 kG HO.out).mono ?_
     rintro e w1 ⟨rfl, b1⟩
     have b3 := hb.trans (b1.mono hb.size)
     replace hv2 := hv2.below b1
     replace kG := kG.below b1
     go_wp2_with fail
     refine (qV _ _ G x _ kG hv2 lG lx hx0 (G % x) rfl).mono ?_
     rintro e w2 ⟨v2, rfl, k2, f2, b2⟩
     have b4 := b3.trans (b2.mono b3.size)
     go_wp2_with fail
     refine (qG3 _ _ (G % x) x _ k2 (hv2.below b2) (by omega) lx z HZ2.out).mono ?_
     rintro e w3 ⟨v3, rfl, k3, f3, b5⟩
     have b6 := b4.trans (b5.mono b4.size)
     go_wp2
     go_roundw
     case rel => exact ⟨k + 1, z, by omega, HT, hlz, k3, f3.mono b4.size, b6, by go_num⟩
     case measure => simp [intOf]; omega
   ·have ht0 : ¬ t < 0 := by rw [ht, zU8]; exact hlt
    clear ht
    rcases Nat.eq_zero_or_pos G with hx0 | hx0
    ·have hzl := qB1 (B := 4294967296) (by omega) hx0
     have HZ2 : Hid (z = Nat.gcd x G) := by show _ = _; rw [HZ.out, Nat.gcd_comm]
     clear hx0
     go_wp2_with fail
     refine (zR4 _ _ x G t _ hv2 kG HO.out).mono ?_
     rintro e w1 ⟨rfl, b1⟩
     go_wp2_with fail
     refine (qG3 _ _ x G _ (hv2.below b1) (kG.below b1) lx lG z HZ2.out).mono ?_
     rintro e w2 ⟨v2, rfl, k2, f2, b2⟩
     have b3 := hb.trans (b1.mono hb.size)
     have b4 := b3.trans (b2.mono b3.size)
     go_wp2
     go_roundw
     case rel => exact ⟨k + 1, z, by omega, HT, hlz, k2, f2.mono b3.size, b4, by go_num⟩
     case measure => simp [intOf]; omega
    ·have hzl := qB2 (B := 4294967296) (by omega) hx0
     have hml := qU8 (x := x) (y := G) hx0
     have HZ2 : Hid (z = Nat.gcd (x % G) G) := by show _ = _; rw [HZ.out, Nat.gcd_rec]
     go_wp2_with fail
     refine (zR4 _ _ x G t _ hv2 kG HO.out).mono ?_
     rintro e w1 ⟨rfl, b1⟩
     have b3 := hb.trans (b1.mono hb.size)
     replace hv2 := hv2.below b1
     replace kG := kG.below b1
     go_wp2_with fail
     refine (qV _ _ x G _ hv2 kG lx lG hx0 (x % G) rfl).mono ?_
     rintro e w2 ⟨v2, rfl, k2, f2, b2⟩
     have b4 := b3.trans (b2.mono b3.size)
     go_wp2_with fail
     refine (qG3 _ _ (x % G) G _ k2 (kG.below b2) (by omega) lG z HZ2.out).mono ?_
     rintro e w3 ⟨v3, rfl, k3, f3, b5⟩
     have b6 := b4.trans (b5.mono b4.size)
     go_wp2
     go_roundw
     case rel => exact ⟨k + 1, z, by omega, HT, hlz, k3, f3.mono b4.size, b6, by go_num⟩
     case measure => simp [intOf]; omega
  ·have HE : Hid (G = zN8 xs) := by have h1 := HG.out; rw [zA7 (by have := HX.out; omega)] at h1; exact h1
   go_wp2
   go_ret
   exact ⟨_, rfl, by rw [<- HE.out]; exact kG, fG, hb⟩
end Go.Proofs.YtmpalajamfiiiaaGreat.nat
namespace Go.Proofs.YtmpalajamfiiiaaGreat.whl
open Go.RowKit num mem nat txt str flow
/-- The whole number that Clean makes of any. -/
def zS1 (b : Bool) (l : List Nat) (most : Nat) : Int := sg b (zV l most)
theorem qX4 (b : Bool) (l : List Nat) (most : Nat) : zD0 (zS1 b l most) <= most := by unfold zD0 zS1; rw [zT9]; exact qL l most
theorem qX5 (b : Bool) (v : Value) (l : List Nat) (mI : Int) (most : Nat) (w : World) (hmI : mI = (most : Int)) (h : IsS w .u64 v l) (hu : Lt 18446744073709551616 l) (hmost : most <= 1000000) :
  Calls Tryz.prog 100 #[.agg #[.bool b, v], .int .i64 mI] w (zG3 (zS1 b l most) w) := by
 obtain ⟨A, c, rfl, _⟩ := id h
 have HM := Lib.hid hmI
 clear hmI
 have hsh : Hid (IsS w .u64 (.slice A l.length c) l) := h
 go_enter Tryz.func100, Tryz.ntmps100
 go_upto_region 1 with (fail)
 obtain ⟨wx, hwx, bb, B0, B1, hsz⟩ := zG4 w 42 42 #[.bool b, .slice A l.length c] #[.bool false, .slice none 0 0]
 rw [hwx]
 clear hwx
 have k0s := h.below bb
 obtain ⟨x00, x01, _, _⟩ := Blk.two B0
 go_wp2_with fail
 refine (qT6 _ l _ most _ HM.out k0s hu hmost).mono ?_
 rintro e w1 ⟨v1, rfl, k1, f1, b1⟩
 obtain ⟨A1, c1, rfl, _⟩ := id k1
 have B0' := B0.below b1
 have B1' := B1.below b1
 have bb1 := bb.trans (b1.mono bb.size)
 have hs := b1.size
 obtain ⟨x10, x11, z10, z11⟩ := Blk.two B0'
 obtain ⟨y10, y11, q10, q11⟩ := Blk.two B1'
 clear x00 x01 B0 B1
 obtain ⟨y, hy⟩ : ∃ y, y = zV l most := ⟨_, rfl⟩
 have HY := Lib.hid hy.symm
 rw [<- hy] at k1 f1 |-
 clear hy
 by_cases hy0 : 0 < y
 ·have hn : 0 < (digs 4294967296 y).length := qA2 hy0
  have HE : Hid (ngB (sg b y) = b) := qF7 hy0
  have HAb : Hid ((sg b y).natAbs = y) := zT9 b y
  have HC : Hid (zS1 b l most = sg b y) := by show _ = _; unfold zS1; rw [HY.out]
  cases b
  all_goals
   go_wp2
   refine bodyPost_ret (by simp [results, Tryz.results100, go_sem, y10, y11]; rfl) rfl ?_
   rw [HC.out]
   exact zV7 bb1 (by omega) (show w.heap.size + 1 < wx.heap.size from hsz) (by rw [HAb.out]; exact k1) f1 HE.out.symm
 ·obtain rfl : y = 0 := by omega
  have HC : Hid (zS1 b l most = sg b 0) := by show _ = _; unfold zS1; rw [HY.out]
  have HE : Hid (ngB (sg b 0) = false) := qM2 b
  have HAb : Hid ((sg b 0).natAbs = 0) := zT9 b 0
  have HD : Hid (digs 4294967296 0 = []) := zH0 _
  rw [HD.out] at k1 f1 |-
  cases b
  all_goals
   go_wp2
   refine bodyPost_ret (by simp [results, Tryz.results100, go_sem, y10, y11]; rfl) rfl ?_
   rw [HC.out]
   exact zV7 bb1 (by omega) (show w.heap.size + 1 < wx.heap.size from hsz) (by rw [HAb.out, HD.out]; exact k1) f1 HE.out.symm
theorem exact_q {x y q : Int} (hy : y ≠ 0) (h : x = q * y) : x.natAbs % y.natAbs = 0 /\ x.natAbs / y.natAbs = q.natAbs /\ sg (!(ngB x == ngB y)) q.natAbs = q := by
 have e : x.natAbs = q.natAbs * y.natAbs := by rw [h, Int.natAbs_mul]
 have hp : 0 < y.natAbs := by omega
 refine ⟨by rw [e]; exact Nat.mul_mod_left _ _, by rw [e]; exact Nat.mul_div_cancel _ hp, ?_⟩
 by_cases hq : q = 0
 ·subst hq
  cases (!(ngB x == ngB y)) <;> rfl
 ·have hx : sg (!(ngB q == ngB y)) (q.natAbs * y.natAbs) = x := by rw [h]; exact qM5 q y
  have hs : ngB x = (!(ngB q == ngB y)) := by rw [<- hx]; exact qF7 (Nat.mul_pos (by omega) hp)
  rw [hs]
  have h1 := zV6 q
  revert h1
  cases ngB q <;> cases ngB y <;> exact id
theorem yN7 (a0 : Value) (x : Int) (a1 : Value) (y : Int) (q : Int) (w : World) (h0 : IsZ w a0 x) (h1 : IsZ w a1 y) (hl : zD0 x <= 20000) (hl2 : zD0 y <= 20000) (hy : y ≠ 0) (hq : x = q * y) :
  Calls Tryz.prog 122 #[a0, a1] w (qG q 0 w) := by
 obtain ⟨u0, rfl, s0⟩ := h0
 obtain ⟨A0, c0, rfl, _⟩ := id s0
 obtain ⟨u1, rfl, s1⟩ := h1
 obtain ⟨A1, c1, rfl, _⟩ := id s1
 have HL : Hid ((digs 4294967296 x.natAbs).length <= 90000) := zB4 hl (by omega)
 have HL2 : Hid ((digs 4294967296 y.natAbs).length <= 90000) := zB4 hl2 (by omega)
 obtain ⟨hm1, hm2, hm3⟩ := exact_q hy hq
 have HY : Hid (0 < y.natAbs) := by show 0 < _; omega
 have HM1 := Lib.hid hm1
 have HM2 := Lib.hid hm2
 have HZ := Lib.hid hm3
 clear hm1 hm2 hm3 hy hq
 go_enter Tryz.func122, Tryz.ntmps122
 go_upto_region 1 with (fail)
 obtain ⟨wx, hwx, bb, B0, B1, B2, hsz⟩ := zK4 w 42 42 42 #[.bool (ngB x), .slice A0 (digs 4294967296 (x).natAbs).length c0] #[.bool (ngB y), .slice A1 (digs 4294967296 (y).natAbs).length c1] #[.bool false, .slice none 0 0]
 rw [hwx]
 clear hwx
 have k0s := s0.below bb
 have k0 : IsZ wx (.agg #[.bool (ngB x), .slice A0 (digs 4294967296 (x).natAbs).length c0]) (x) := zF5 k0s rfl rfl
 have k1s := s1.below bb
 have k1 : IsZ wx (.agg #[.bool (ngB y), .slice A1 (digs 4294967296 (y).natAbs).length c1]) (y) := zF5 k1s rfl rfl
 have hszb := bb.size
 have bb0 := bb.size
 refine zC5 10 [Pd.eq (.pointer (some ⟨w.heap.size, 1, none⟩)), Pd.eq (.slice A0 (digs 4294967296 (x).natAbs).length c0), Pd.eq (.pointer (some ⟨w.heap.size + 1, 1, none⟩)), Pd.eq (.slice A1 (digs 4294967296 (y).natAbs).length c1), pt .u64 (digs 4294967296 q.natAbs) 0 wx.heap.size, pt .u64 (digs 4294967296 q.natAbs) 0 wx.heap.size, ps .u64 (digs 4294967296 q.natAbs) wx.heap.size, Pd.eq (.int .i64 0), ps .u64 (digs 4294967296 q.natAbs) wx.heap.size, Pd.eq (.int .i64 0)] (by kernel_rfl) ?ob3 ?done3
 case ob3 =>
  refine zA (zC0 rfl (zB6 rfl) (zB8 rfl rfl) (fun _ => by kernel_rfl) (fun _ => rfl)) ?_
  refine zA (zB9 rfl (zB6 rfl) (zB7 (j := 0) (by kernel_rfl) rfl rfl) (fun w2 hb => zC2 Tryz.underlying40 rfl ((B0.below hb).cell 1)) (fun _ _ => rfl)) ?_
  refine zA (zC0 rfl (zB6 rfl) (zB8 rfl rfl) (fun _ => by kernel_rfl) (fun _ => rfl)) ?_
  refine zA (zB9 rfl (zB6 rfl) (zB7 (j := 2) (by kernel_rfl) rfl rfl) (fun w2 hb => zC2 Tryz.underlying40 rfl ((B1.below hb).cell 1)) (fun _ _ => rfl)) ?_
  refine zA (zD rfl Tryz.func124 (by kernel_rfl) (zB6 rfl) (zB7 (j := 1) (by kernel_rfl) rfl rfl) (zB7 (j := 3) (by kernel_rfl) rfl rfl) (fun w2 u0 u1 hb h0 h1 => by obtain rfl := h0; obtain rfl := h1; exact (qF1 _ _ _ _ _ (k0s.below hb) (k1s.below hb) HL.out HL2.out HY.out _ HM1.out HM2.out.symm).mono fun e w3 h => zM8.pd h hb.size)) ?_
  refine zA (zC1 rfl (zB6 rfl) (zB7 (j := 4) (by kernel_rfl) rfl rfl) (fun _ _ h => h)) ?_
  refine zA (zF7 rfl (zB6 rfl) (zB7 (j := 5) (by kernel_rfl) rfl rfl) (fun w2 u hu => by obtain ⟨v, rfl, q1, q2⟩ := hu; exact ⟨v, rfl, q1, q2⟩)) ?_
  refine zA (zF7 rfl (zB6 rfl) (zB7 (j := 5) (by kernel_rfl) rfl rfl) (fun w2 u hu => by obtain ⟨v, rfl, q1, q2⟩ := hu; exact ⟨_, rfl, rfl⟩)) ?_
  refine zA (zD4 rfl (zB6 rfl) (zB7 (j := 6) (by kernel_rfl) rfl rfl) (fun _ _ h => h)) ?_
  refine zA (zD4 rfl (zB6 rfl) (zB7 (j := 7) (by kernel_rfl) rfl rfl) (fun _ _ h => h)) ?_
  trivial
 case done3 =>
  refine fun w1 hb1 v0 h0 v1 h1 v2 h2 v3 h3 v4 h4 v5 h5 v6 h6 v7 h7 v8 h8 v9 h9 b hbf => ?_
  obtain rfl := h0; obtain rfl := h1; obtain rfl := h2; obtain rfl := h3; obtain rfl := h7; obtain rfl := h9
  clear h4
  clear h5
  obtain ⟨q6, f6⟩ := h6
  obtain ⟨q8, f8⟩ := h8
  simp only [Act.put, zA0, zA2, zA1] at hbf
  subst hbf
  obtain ⟨A6, c6, rfl, _⟩ := id q8
  have kq := q8
  have kqf := f8
  replace B0 := B0.below hb1
  replace B1 := B1.below hb1
  replace B2 := B2.below hb1
  replace k0s := k0s.below hb1
  replace k1s := k1s.below hb1
  replace k0 := k0.below hb1
  replace k1 := k1.below hb1
  replace bb := bb.trans (hb1.mono bb.size)
  have hszb := bb.size
  obtain ⟨x00, x01, y00, y01⟩ := Blk.two B0
  obtain ⟨x10, x11, y10, y11⟩ := Blk.two B1
  obtain ⟨x20, x21, y20, y21⟩ := Blk.two B2
  refine zC6 ?_
  go_upto_region 4 with (fail)
  refine zC5 7 [Pd.eq (.pointer (some ⟨w.heap.size, 0, none⟩)), Pd.eq (.bool (ngB x)), Pd.eq (.pointer (some ⟨w.heap.size + 1, 0, none⟩)), Pd.eq (.bool (ngB y)), Pd.eq (.bool (!((ngB x) == (ngB y)))), Pd.eq (.slice A6 (digs 4294967296 q.natAbs).length c6), pz (q) wx.heap.size] (by kernel_rfl) ?ob4 ?done4
  case ob4 =>
   refine zA (zC0 rfl (zB6 rfl) (zB8 rfl rfl) (fun _ => by kernel_rfl) (fun _ => rfl)) ?_
   refine zA (zB9 rfl (zB6 rfl) (zB7 (j := 0) (by kernel_rfl) rfl rfl) (fun w2 hb => zC2 Tryz.underlying4 rfl ((B0.below hb).cell 0)) (fun _ _ => rfl)) ?_
   refine zA (zC0 rfl (zB6 rfl) (zB8 rfl rfl) (fun _ => by kernel_rfl) (fun _ => rfl)) ?_
   refine zA (zB9 rfl (zB6 rfl) (zB7 (j := 2) (by kernel_rfl) rfl rfl) (fun w2 hb => zC2 Tryz.underlying4 rfl ((B1.below hb).cell 0)) (fun _ _ => rfl)) ?_
   refine zA (zE6 rfl (zB6 rfl) (zB7 (j := 1) (by kernel_rfl) rfl rfl) (zB7 (j := 3) (by kernel_rfl) rfl rfl) (fun _ _ _ hx hy => ⟨.bool (!((ngB x) == (ngB y))), by rw [hx, hy]; exact qM _ _ _ _ Tryz.underlying4 _, rfl⟩)) ?_
   refine zA (zC1 rfl (zB6 rfl) (zB8 rfl rfl) (fun _ _ h => h)) ?_
   refine zA (zD rfl Tryz.func96 (by kernel_rfl) (zB6 rfl) (zB7 (j := 4) (by kernel_rfl) rfl rfl) (zB7 (j := 5) (by kernel_rfl) rfl rfl) (fun w2 u0 u1 hb h0 h1 => by obtain rfl := h0; obtain rfl := h1; exact qA9 _ _ _ (q) _ (kq.below hb) kqf HZ.out)) ?_
   trivial
  case done4 =>
   refine fun w2 hb2 v0 h0 v1 h1 v2 h2 v3 h3 v4 h4 v5 h5 v6 h6 b hbf => ?_
   obtain rfl := h0; obtain rfl := h1; obtain rfl := h2; obtain rfl := h3; obtain rfl := h4; obtain rfl := h5
   obtain ⟨q6, f6⟩ := h6
   simp only [Act.put, zA0, zA2, zA1] at hbf
   subst hbf
   obtain ⟨u6, rfl, q6⟩ := q6
   obtain ⟨A9, c9, rfl, _⟩ := id q6
   have B9 := B2.below hb2
   refine zH2 (i := 7) rfl rfl rfl rfl rfl rfl (cells := [.bool (ngB (q)), .slice A9 (digs 4294967296 (q).natAbs).length c9]) rfl B9 rfl (by kernel_rfl) (zG6 rfl rfl) fun w9 hg9 BB9 => ?_
   have k9 := off q6 B9 zD3 hg9
   have f9 := (f6 _ _ rfl).mono bb0
   have bb9 := ((bb.trans (hb2.mono bb.size)).trans ((Below.refl _ _).grown hg9 (zB4 bb.size hb2.size) (fun g hg => by injection hg with hg; omega)))
   obtain ⟨c0, c1, _, _⟩ := Blk.two BB9
   refine zV5 (i := 8) (.int .i64 0) rfl rfl rfl rfl rfl fun b hbf => ?_
   simp only [Act.put, zA0, zA2, zA1] at hbf
   subst hbf
   refine zC6 ?_
   go_wp2
   exact bodyPost_ret (v := .tuple #[.agg #[.bool (ngB (q)), .slice A9 (digs 4294967296 (q).natAbs).length c9], .int .i64 0]) (by simp [results, Tryz.results122, go_sem, c0, c1]) rfl ⟨_, rfl, zF5 k9 rfl rfl, zL6 f9, bb9⟩
theorem zof_any (n : Int) (w : World) (h1 : -9223372036854775808 <= n) (h2 : n <= 9223372036854775807) :
  Calls Tryz.prog 64 #[.int .i64 n] w (zG3 n w) := by
 by_cases hn : n < 0
 ·have HW : Hid (IntKind.u64.wrap (-IntKind.u64.wrap n) = ((n.natAbs : Nat) : Int)) := by
   show _ = _
   rw [IntKind.wrap_u64, IntKind.wrap_u64]; omega
  have HB : Hid (IntKind.u64.wrap (-IntKind.u64.wrap n) <= 18446744073709551615) := by
   show _ <= _
   rw [HW.out]; omega
  have HZ : Hid (sg true n.natAbs = n) := by show _ = _; rw [zR9]; omega
  go_enter Tryz.func64, Tryz.ntmps64
  go_wp2_with fail
  refine (qE3 _ n.natAbs _ HW.out HB.out).mono ?_
  rintro e w1 ⟨v1, rfl, k1, f1, b1⟩
  obtain ⟨A1, C1, rfl, _⟩ := id k1
  go_wp2_with fail
  refine (qA9 true _ n.natAbs n _ k1 f1 HZ.out).mono ?_
  rintro e w2 ⟨v2, rfl, ⟨⟨u2, rfl, k2⟩, f2⟩, b2⟩
  obtain ⟨A2, C2, rfl, _⟩ := id k2
  have B2 := ((Blk.new w 42 #[.bool false, .slice none 0 0]).below b1).below b2
  obtain ⟨c0, c1, g0, g1⟩ := B2.two
  have bb1 := (zC8 (zB3 w.heap.size) (.cells #[.bool false, .slice none 0 0] 42)).trans (b1.mono (by simp))
  have bb2 := bb1.trans (b2.mono bb1.size)
  go_wp2
  exact bodyPost_ret (v := .agg #[.bool (ngB n), .slice A2 (digs 4294967296 n.natAbs).length C2]) (by simp [results, Tryz.results64, go_sem, c0, c1]) rfl (zV7 bb2 (zB3 _) (by simp) k2 (f2 _ _ rfl) rfl)
 ·have HW : Hid (n = ((n.natAbs : Nat) : Int)) := by show _ = _; omega
  have HZ : Hid (sg false n.natAbs = n) := by show _ = _; rw [zS]; omega
  have hn0 : 0 <= n := by omega
  go_enter Tryz.func64, Tryz.ntmps64
  go_wp2_with fail
  refine (qE3 _ n.natAbs _ HW.out (by omega)).mono ?_
  rintro e w1 ⟨v1, rfl, k1, f1, b1⟩
  obtain ⟨A1, C1, rfl, _⟩ := id k1
  go_wp2_with fail
  refine (qA9 false _ n.natAbs n _ k1 f1 HZ.out).mono ?_
  rintro e w2 ⟨v2, rfl, ⟨⟨u2, rfl, k2⟩, f2⟩, b2⟩
  obtain ⟨A2, C2, rfl, _⟩ := id k2
  have B2 := ((Blk.new w 42 #[.bool false, .slice none 0 0]).below b1).below b2
  obtain ⟨c0, c1, g0, g1⟩ := B2.two
  have bb1 := (zC8 (zB3 w.heap.size) (.cells #[.bool false, .slice none 0 0] 42)).trans (b1.mono (by simp))
  have bb2 := bb1.trans (b2.mono bb1.size)
  go_wp2
  exact bodyPost_ret (v := .agg #[.bool (ngB n), .slice A2 (digs 4294967296 n.natAbs).length C2]) (by simp [results, Tryz.results64, go_sem, c0, c1]) rfl (zV7 bb2 (zB3 _) (by simp) k2 (f2 _ _ rfl) rfl)
end Go.Proofs.YtmpalajamfiiiaaGreat.whl
namespace Go.Proofs.YtmpalajamfiiiaaGreat.whl
open Go.RowKit Go.ChangeShapes Go.WideShapes Go.ChangeAt Go.Joins Go.Deep num mem nat txt str flow
theorem qX6 {H : Type} {enc : TypeId × Value -> H} {P : Program} {W : World} {t e : TypeId} {n : Nat} {v : Value} {y : DataW H × List MemPlace} (ht : P.underlying t = some (.slice e)) (he : P.underlying e = some (.int .u64)) (hc : P.cellsOf e = 1)
  (h : DataW.trod enc P W 0 (fun _ => true) true n t [v] = some y) : ∃ l : List Nat, IsS W .u64 v l /\ Lt 18446744073709551616 l := by
 rcases open_ints ht he hc h with ⟨hcs, hx⟩ | ⟨a, len, cap, zs, hcs, _, hl, hm, hz, hx, hcell, hwz⟩
 ·injection hcs with hcs _
  subst hcs
  exact ⟨[], qD8 _ _, Lt.nil _⟩
 ·injection hcs with hcs _
  subst hcs
  simp only [if_true] at hz
  have hlen : ((zs.take len).map Int.toNat).length = len := by simp; omega
  refine ⟨(zs.take len).map Int.toNat, ⟨some a, cap, by rw [hlen], by rw [hlen]; exact hl, hm, ?_⟩, ?_⟩
  ·intro i d hd
   have hi : i < len := by rw [<- hlen]; exact (zA4.1 hd).1
   have hi2 : i < zs.length := by omega
   refine ⟨a, rfl, ?_⟩
   rw [hcell i hi2]
   have hb := qT5 (hwz _ (List.getElem_mem hi2))
   have hd2 : d = (zs[i]).toNat := by
    rw [List.getElem?_map, List.getElem?_take_of_lt hi, zA3 hi2] at hd
    simpa using hd.symm
   rw [zA6, zA3 hi2, hd2]
   simp only [Option.getD_some]
   rw [Int.toNat_of_nonneg hb.1]
  ·intro d hd
   obtain ⟨z, hz1, rfl⟩ := List.mem_map.1 hd
   have hb := qT5 (hwz z (List.mem_of_mem_take hz1))
   omega
theorem qX7 {x y : Int} {m n : Nat} (h : zD0 x <= m) (h' : zD0 y <= n) : zD0 (x + y) <= m + n + 1 := by have := yM3 x y; omega
theorem zS2 {x y : Int} {m n : Nat} (h : zD0 x <= m) (h' : zD0 y <= n) : zD0 (x * y) <= m + n := by have := zX3 x y; omega
/-- A variable that the region made: it holds its type's zero value. -/
def pn (t : TypeId) (cells : Array Value) (B : Nat) : Pd := ⟨fun w v => ∃ g, v = .pointer (some ⟨g, 0, none⟩) /\ B <= g /\ Blk w g t cells, fun h hb => by obtain ⟨g, e, h1, h2⟩ := h; exact ⟨g, e, h1, h2.below hb⟩⟩
def pze (x : Int) (n : Int) (B : Nat) : Pd := ⟨fun w t => ∃ v, t = .tuple #[v, .int .i64 n] /\ IsZ w v x /\ zO9 B v, fun h hb => by obtain ⟨v, e, h1, h2⟩ := h; exact ⟨v, e, h1.below hb, h2⟩⟩
theorem qG.pd {x : Int} {n : Int} {w : World} {e : Ending} {w' : World} {B : Nat} (h : qG x n w e w') (hB : B <= w.heap.size) : zH5 (pze x n B) w e w' := by
 obtain ⟨v, rfl, h1, h2, h3⟩ := h
 exact ⟨_, rfl, ⟨v, rfl, h1, h2.mono hB⟩, h3⟩
end Go.Proofs.YtmpalajamfiiiaaGreat.whl
namespace Go.Proofs.YtmpalajamfiiiaaGreat.whl
open Go.RowKit num mem nat txt str flow
def RetCut (b : Bool) (t : List UInt8) (w : World) (e : Ending) (w' : World) : Prop := ∃ R, e = .returned (.tuple #[.string R, .bool b]) /\ StrIs R t /\ Below w.heap.size w w'
end Go.Proofs.YtmpalajamfiiiaaGreat.whl
namespace Go.Proofs.YtmpalajamfiiiaaGreat.flow
open Go.RowKit num mem
/-- All but operation q are waited for. -/
def qB3 (L : List Oper) (q n : Nat) (o : Oper) : Bool :=
 (List.range n).all fun i => i == q || (zP2 o).contains i || (List.range n).any fun k => decide (i < k) && (!(k == q) && ((L[k]?).map fun x => (zP2 x).contains i).getD false)
theorem yN8 {L : List Oper} {q : Nat} {o : Oper} {ms : List (Option Value)} (hlen : ms.length = L.length) (h : qB3 L q L.length o = true) (hdone : ∀ e ∈ o.after, Region.binds .any e = true -> ∃ v, ms[e.on]? = some (some v))
    (hdc : ∀ (j : Nat) (x : Oper) (v : Value), L[j]? = some x -> ms[j]? = some (some v) -> ∀ e ∈ x.after, Region.binds .any e = true -> ∃ v, ms[e.on]? = some (some v)) : ∀ i, i < L.length -> i ≠ q -> ∃ v, ms[i]? = some (some v) := by
  unfold qB3 at h
  have key : ∀ k i, i + k = L.length -> i < L.length -> i ≠ q -> ∃ v, ms[i]? = some (some v) := by
    intro k
    induction k using Nat.strongRecOn with
    | ind k ih =>
      intro i hik hi hiq
      have h1 := List.all_eq_true.1 h i (by simp [hi])
      rw [Bool.or_eq_true, Bool.or_eq_true] at h1
      rcases h1 with (h1 | h1) | h1
      · exact absurd (by simpa using h1) hiq
      · obtain ⟨e, he, hb, rfl⟩ := zV2.1 (by simpa using h1)
        exact hdone e he hb
      · obtain ⟨m, hm, h2⟩ := List.any_eq_true.1 h1
        rw [Bool.and_eq_true, Bool.and_eq_true] at h2
        have hm2 : m < L.length := by simpa using hm
        have him : i < m := by simpa using h2.1
        have hmq : m ≠ q := by simpa using h2.2.1
        obtain ⟨v, hv⟩ := ih (L.length - m) (by omega) m (by omega) hm2 hmq
        have h3 := h2.2.2
        rw [zA3 hm2] at h3
        obtain ⟨e, he, hb, rfl⟩ := zV2.1 (by simpa using h3)
        exact hdc m _ v (zA3 hm2) hv e he hb
  intro i hi hiq
  exact key (L.length - i) i (by omega) hi hiq
/-- All of the first n are up but q. -/
def zS3 (n m q : Nat) : Array Bool := ((zB1 n true).set q false ++ zB1 m false).toArray
theorem lst_but {L : List Oper} {q m : Nat} {ms : List (Option Value)} (hlen : ms.length = L.length) (hbut : ∀ i, i < L.length -> i ≠ q -> ∃ v, ms[i]? = some (some v)) (hmq : ms[q]? = some none) : lst ms m = zS3 L.length m q := by
 unfold lst zS3
 congr 2
 refine List.ext_getElem (by simp [hlen]) fun i h1 h2 => ?_
 have h3 : i < ms.length := by simpa using h1
 rw [List.getElem_map, List.getElem_set]
 by_cases e : q = i
 ·subst e
  rw [if_pos rfl]
  rw [zA3 h3] at hmq
  rw [Option.some.inj hmq]; rfl
 ·rw [if_neg e]
  obtain ⟨v, hv⟩ := hbut i (by omega) (fun h => e h.symm)
  rw [zA3 h3] at hv
  rw [Option.some.inj hv]; simp
theorem yN9 {P : Program} {Q : Exit -> Act -> World -> Prop} {ops : Array Oper} {L L2 : List Oper} {Φ : List Pd} {w0 : World} {a0 : Act} (hop : ops.toList = L ++ L2) (hd : zK0 L = true) (hback : zO8 0 L = true) {q : Nat} {oq : Oper} (hq : L[q]? = some oq) (hcov : (L2.all fun o => zT6 L L.length o || qB3 L q L.length o) = true) (hsel : Region.noSelect ops = true) (hfree : Region.free .any ops (zS3 L.length L2.length q) q = true) (hrdy : (Region.ready .any ops (zS3 L.length L2.length q)).contains q = true) (hQ : ∀ c a w v, Q (.panic c) (a.put oq.dst v) w -> Q (.panic c) a w)
    (late : ∀ ms w, St L Φ w0 oq ms w -> ∃ v, Yields P ops oq v (zD8 a0 L ms) /\ (ph Φ q).p w v) (hA : isA oq = false)
    (ob : Obs P Q ops L Φ w0 a0 0 L)
    (done : ∀ ms w, (∀ i, i < L.length -> ∃ v, ms[i]? = some (some v)) -> Inv L Φ w0 ms w -> wpAny P .any ops Q L2.length (lst ms L2.length) (zD8 a0 L ms) w) :
    ∀ (k : Nat) (ms : List (Option Value)) (w : World), (ms.filter Option.isNone).length = k -> Inv L Φ w0 ms w -> wpAny P .any ops Q (k + L2.length) (lst ms L2.length) (zD8 a0 L ms) w := by
  have hsz : ops.size = L.length + L2.length := by
    have := congrArg List.length hop
    simpa using this
  have hat : ∀ i, ops[i]? = (L ++ L2)[i]? := fun i => by rw [<- hop, Array.getElem?_toList]
  intro k
  induction k with
  | zero =>
    intro ms w hk hI
    rw [Nat.zero_add]
    refine done ms w (fun i hi => ?_) hI
    have hi2 : i < ms.length := by rw [hI.len]; exact hi
    rcases hm : ms[i] with _ | v
    · exfalso
      have h1 : ms[i] ∈ ms.filter Option.isNone := List.mem_filter.2 ⟨List.getElem_mem hi2, by rw [hm]; rfl⟩
      rw [List.length_eq_zero_iff.1 hk] at h1
      simp at h1
    · exact ⟨v, by rw [zA3 hi2, hm]⟩
  | succ k ih =>
    intro ms w hk hI
    -- some operation of L has not come up
    have hnot : ¬ ∀ i, i < L.length -> ∃ v, ms[i]? = some (some v) := by
      intro hall
      have h0 : ms.filter Option.isNone = [] := by
        rw [List.filter_eq_nil_iff]
        intro m hm
        obtain ⟨i, hi, rfl⟩ := List.mem_iff_getElem.1 hm
        obtain ⟨v, hv⟩ := hall i (by rw [<- hI.len]; exact hi)
        rw [zA3 hi] at hv
        rw [Option.some.inj hv]; simp
      rw [h0] at hk; simp at hk
    -- the least one that has not may come up
    have least : ∀ n i, i <= n -> i < L.length -> Region.ready .any ops (lst ms L2.length) = [] -> ∃ v, ms[i]? = some (some v) := by
      intro n
      induction n with
      | zero =>
        intro i hin hi hr
        obtain rfl : i = 0 := by omega
        have hi2 : 0 < ms.length := by rw [hI.len]; exact hi
        rcases hm : ms[0] with _ | v
        · exfalso
          have : 0 ∈ Region.ready .any ops (lst ms L2.length) := by
            rw [mem_ready]
            refine ⟨by rw [zQ0 hi2, hm]; rfl, L[0], by rw [hat, zB2 hi, zA3 hi], ?_⟩
            intro e he hb
            have := zV3 L 0 0 _ hback (zA3 hi) e he hb
            omega
          rw [hr] at this; simp at this
        · exact ⟨v, by rw [zA3 hi2, hm]⟩
      | succ n ihn =>
        intro i hin hi hr
        have hi2 : i < ms.length := by rw [hI.len]; exact hi
        rcases hm : ms[i] with _ | v
        · exfalso
          have : i ∈ Region.ready .any ops (lst ms L2.length) := by
            rw [mem_ready]
            refine ⟨by rw [zQ0 hi2, hm]; rfl, L[i], by rw [hat, zB2 hi, zA3 hi], ?_⟩
            intro e he hb
            have h1 := zV3 L 0 i _ hback (zA3 hi) e he hb
            have h3 : e.on < ms.length := by rw [hI.len]; omega
            obtain ⟨v, hv⟩ := ihn e.on (by omega) (by omega) hr
            rw [zQ0 h3]
            rw [zA3 h3] at hv
            rw [Option.some.inj hv]; rfl
          rw [hr] at this; simp at this
        · exact ⟨v, by rw [zA3 hi2, hm]⟩
    have hcnt : ∀ (i : Nat) (v : Value), ms[i]? = some none -> ((ms.set i (some v)).filter Option.isNone).length = k := by
      intro i v hmi
      have key : ∀ (l : List (Option Value)) (i : Nat), l[i]? = some none -> ((l.set i (some v)).filter Option.isNone).length + 1 = (l.filter Option.isNone).length := by
        intro l
        induction l with
        | nil => intro i h; simp at h
        | cons m l ihl =>
          intro i h
          cases i with
          | zero =>
            obtain rfl : m = none := by simpa using h
            simp
          | succ i =>
            have := ihl i (by simpa using h)
            rw [zA1, List.filter_cons, List.filter_cons]
            split
            · simp only [List.length_cons]; omega
            · exact this
      have := key ms i hmi
      omega
    have hqL : q < L.length := (zA4.1 hq).1
    by_cases hbut : ∀ i, i < L.length -> i ≠ q -> ∃ v, ms[i]? = some (some v)
    · have hq2 : q < ms.length := by rw [hI.len]; exact hqL
      have hmq : ms[q]? = some none := by
        rw [zA3 hq2]
        rcases hm : ms[q] with _ | v
        · rfl
        · exact absurd (fun i hi => by
            by_cases e : i = q
            · subst e; exact ⟨v, by rw [zA3 hq2, hm]⟩
            · exact hbut i hi e) hnot
      have hdq : ∀ e ∈ oq.after, Region.binds .any e = true -> ∃ v, ms[e.on]? = some (some v) := by
        intro e he hb
        have := zV3 L 0 q _ hback hq e he hb
        exact hbut e.on (by omega) (by omega)
      obtain ⟨v, hy, hp⟩ := late ms w ⟨hI.len, hI.below, hI.ty, hdq⟩
      have el : lst ms L2.length = zS3 L.length L2.length q := lst_but hI.len hbut hmq
      have hoq : ops[q]? = some oq := by rw [hat, zB2 hqL]; exact hq
      have hnext := ih (ms.set q (some v)) w (hcnt q v hmq) (hI.step hq hmq hdq (Below.refl _ _) hp (fun h => by rw [hA] at h; cases h))
      rw [<- qA3 v hq2, <- zR7 v L ms a0 q oq hd hq hmq] at hnext
      rw [show k + 1 + L2.length = (k + L2.length) + 1 from by omega]
      exact wpAny_take hoq hsel (by rw [el]; exact hfree) (by rw [el]; exact hrdy) (fun c a w h => hQ c a w v h) hy hnext
    rw [show k + 1 + L2.length = (k + L2.length) + 1 from by omega]
    refine ⟨fun hr => absurd (fun i hi => least i i (zB3 _) hi hr) hnot, fun i hi => ?_⟩
    obtain ⟨h1, o, ho, haft⟩ := mem_ready.1 hi
    have hdeps : ∀ e ∈ o.after, Region.binds .any e = true -> ∃ v, ms[e.on]? = some (some v) := by
      intro e he hb
      have h2 := haft e he hb
      by_cases h3 : e.on < ms.length
      · rw [zQ0 h3] at h2
        obtain ⟨v, hv⟩ := Option.isSome_iff_exists.1 h2
        exact ⟨v, by rw [zA3 h3, hv]⟩
      · rw [qV2 (by omega)] at h2; cases h2
    by_cases hiL : i < L.length
    · have hi2 : i < ms.length := by rw [hI.len]; exact hiL
      rw [zQ0 hi2] at h1
      have hmi : ms[i]? = some none := by
        rw [zA3 hi2]
        rcases hm : ms[i] with _ | v
        · rfl
        · rw [hm] at h1; cases h1
      have hoL : L[i]? = some o := by rw [hat, zB2 hiL] at ho; exact ho
      have hob := ob.at_ L 0 i o hoL
      rw [Nat.zero_add] at hob
      have hst := hob ms w ⟨hI.len, hI.below, hI.ty, hdeps⟩
      have hcount : ∀ v : Value, ((ms.set i (some v)).filter Option.isNone).length = k := by
        intro v
        have key : ∀ (l : List (Option Value)) (i : Nat), l[i]? = some none -> ((l.set i (some v)).filter Option.isNone).length + 1 = (l.filter Option.isNone).length := by
          intro l
          induction l with
          | nil => intro i h; simp at h
          | cons m l ihl =>
            intro i h
            cases i with
            | zero =>
              obtain rfl : m = none := by simpa using h
              simp
            | succ i =>
              have := ihl i (by simpa using h)
              rw [zA1, List.filter_cons, List.filter_cons]
              split
              · simp only [List.length_cons]; omega
              · exact this
        have := key ms i hmi
        omega
      unfold wpOp
      rw [ho]
      simp only []
      by_cases hw : Region.wanted o (yielded ops (zD8 a0 L ms).tmps) = true
      · rw [if_pos hw] at hst |-
        refine .inl (Oper.wp_mono ?_ hst)
        rintro a' w' ⟨v, rfl, hb, hv, ha⟩
        rw [qA3 v hi2, zR7 v L ms a0 i o hd hoL hmi]
        exact ih _ w' (hcount v) (hI.step hoL hmi hdeps hb hv ha)
      · rw [if_neg hw] at hst |-
        rw [qA3 undef hi2, zR7 undef L ms a0 i o hd hoL hmi]
        exact ih _ w (hcount undef) (hI.step hoL hmi hdeps (Below.refl _ _) hst.1 (fun h => by rw [hst.2] at h; cases h))
    · exfalso
      have ho2 : o ∈ L2 := by
        rw [hat, List.getElem?_append_right (by omega)] at ho
        exact zA5 ho
      have hc := List.all_eq_true.1 hcov o ho2
      rcases Bool.or_eq_true _ _ ▸ hc with hc | hc
      · exact hnot (qV1 hI.len hc hdeps hI.dc)
      · exact hbut (yN8 hI.len hc hdeps hI.dc)
/-- Each operation's word once; then what stands behind, for whatever values. -/
theorem yO {P : Program} {Q : Exit -> Act -> World -> Prop} {ops : Array Oper} (n : Nat) (Φ : List Pd) {w : World} {a0 : Act}
  (h1 : zK0 (ops.toList.take n) = true) (h2 : zO8 0 (ops.toList.take n) = true) {q : Nat} {oq : Oper} (hq : (ops.toList.take n)[q]? = some oq) (h3 : ((ops.toList.drop n).all fun o => zT6 (ops.toList.take n) (ops.toList.take n).length o || qB3 (ops.toList.take n) q (ops.toList.take n).length o) = true) (h4 : Region.noSelect ops = true) (h5 : Region.free .any ops (zS3 (ops.toList.take n).length (ops.toList.drop n).length q) q = true) (h6 : (Region.ready .any ops (zS3 (ops.toList.take n).length (ops.toList.drop n).length q)).contains q = true) (hQ : ∀ c a w v, Q (.panic c) (a.put oq.dst v) w -> Q (.panic c) a w)
  (late : ∀ ms w1, St (ops.toList.take n) Φ w oq ms w1 -> ∃ v, Yields P ops oq v (zD8 a0 (ops.toList.take n) ms) /\ (ph Φ q).p w1 v) (hA : isA oq = false)
  (ob : Obs P Q ops (ops.toList.take n) Φ w a0 0 (ops.toList.take n))
  (done : ∀ w', Below w.heap.size w w' -> zT7 (fun a w' => wpAny P .any ops Q (ops.toList.drop n).length (zB1 (ops.toList.take n).length true ++ zB1 (ops.toList.drop n).length false).toArray a w') Φ w' 0 (ops.toList.take n) [] a0) : wpAny P .any ops Q ops.size (Array.replicate ops.size false) a0 w := by
 have hop : ops.toList = ops.toList.take n ++ ops.toList.drop n := (List.take_append_drop n _).symm
 generalize ops.toList.take n = L at *
 generalize ops.toList.drop n = L2 at *
 have hsz : ops.size = L.length + L2.length := by
  have := congrArg List.length hop
  simpa using this
 have none_ : ∀ (i : Nat) (v : Value), ¬ (zB1 L.length (none : Option Value))[i]? = some (some v) := by
  intro i v h
  rw [List.getElem?_replicate] at h
  split at h <;> cases h
 have hI0 : Inv L Φ w (zB1 L.length none) w := ⟨by simp, Below.refl _ _, fun i v h => absurd h (none_ i v), fun j x v _ h => absurd h (none_ j v), fun i j oi oj u v _ _ _ _ _ h _ => absurd h (none_ i u), fun i oi u _ _ h => absurd h (none_ i u)⟩
 have hmain := yN9 (P := P) (Q := Q) (ops := ops) (L := L) (L2 := L2) (Φ := Φ) (w0 := w) (a0 := a0) hop h1 h2 hq h3 h4 h5 h6 hQ late hA ob (fun ms w' hall hI => by
  rw [qV4 L2.length hI.len hall]
  have := qA4 (K := fun a w' => wpAny P .any ops Q L2.length (zB1 L.length true ++ zB1 L2.length false).toArray a w') hI hall L 0 a0 [] (by simp) (by omega) (by simp) (done w' hI.below)
  simpa using this) L.length (zB1 L.length none) w (by simp) hI0
 rw [qF4, qV3, <- hsz] at hmain
 exact hmain
/-- A region that draws its order: each operation's word once; then what stands behind, for whatever values. -/
theorem flowl {P : Program} {Q : Exit -> Act -> World -> Prop} {id : Nat} {ops : Array Oper} (n : Nat) (Φ : List Pd) {w : World} {a0 : Act} (hm : P.follows .mixedOrders = true)
  (q : Nat) {oq : Oper} (hq : (ops.toList.take n)[q]? = some oq) (hB : (zK0 (ops.toList.take n) && zO8 0 (ops.toList.take n) && (ops.toList.drop n).all (fun o => zT6 (ops.toList.take n) (ops.toList.take n).length o || qB3 (ops.toList.take n) q (ops.toList.take n).length o) && Region.noSelect ops && Region.free .any ops (zS3 (ops.toList.take n).length (ops.toList.drop n).length q) q && (Region.ready .any ops (zS3 (ops.toList.take n).length (ops.toList.drop n).length q)).contains q && !isA oq) = true) (hQ : ∀ c a w v, Q (.panic c) (a.put oq.dst v) w -> Q (.panic c) a w)
  (late : ∀ ms w1, St (ops.toList.take n) Φ w.drew oq ms w1 -> ∃ v, Yields P ops oq v (zD8 a0 (ops.toList.take n) ms) /\ (ph Φ q).p w1 v)
  (ob : Obs P Q ops (ops.toList.take n) Φ w.drew a0 0 (ops.toList.take n))
  (done : ∀ w', Below w.heap.size w w' -> zT7 (fun a w' => wpAny P .any ops Q (ops.toList.drop n).length (zB1 (ops.toList.take n).length true ++ zB1 (ops.toList.drop n).length false).toArray a w') Φ w' 0 (ops.toList.take n) [] a0) : (Code.region id ops true).wp P Q a0 w := by
 simp only [Bool.and_eq_true] at hB
 obtain ⟨⟨⟨⟨⟨⟨h1, h2⟩, h3⟩, h4⟩, h5⟩, h6⟩, hA⟩ := hB
 have hA : isA oq = false := by simpa using hA
 exact wp_region_any hm (yO n Φ (w := w.drew) h1 h2 hq h3 h4 h5 h6 hQ late hA ob fun w' hb => done w' ((Below.refl _ w).drew.trans hb))
/-- The late operation is an extract. -/
theorem yO0 {P : Program} {ops : Array Oper} {L : List Oper} {Φ : List Pd} {w0 : World} {a0 : Act} {o : Oper} {G : Pd} {x : Operand} {k : Nat} {F : World -> Value -> Prop} (hop : o.op = .extract x k) (hg : o.guard = none) (hx : Ev L Φ w0 a0 o x F)
  (hr : ∀ w u, F w u -> ∃ v, (∀ w, (Instr.extract u k).run P w = .ok v w) /\ G.p w v) : ∀ ms w1, St L Φ w0 o ms w1 -> ∃ v, Yields P ops o v (zD8 a0 L ms) /\ G.p w1 v := by
 intro ms w1 hS
 obtain ⟨v, h1, h2⟩ := hr w1 _ (hx ms w1 hS)
 refine ⟨v, .inl ⟨by unfold Region.wanted; rw [hg], fun w => ?_⟩, h2⟩
 unfold execOp; simp only [hop]; rw [Sem.run_bind, h1]; rfl
section
variable {P : Program} {Q : Exit -> Act -> World -> Prop} {ops : Array Oper} {L : List Oper} {Φ : List Pd} {w0 : World} {a0 : Act} {i : Nat} {o : Oper}
theorem zK6 {t : TypeId} {k l : Nat} {x y : Operand} {F G : World -> Value -> Prop} (hop : o.op = .build t #[(k, x), (l, y)]) (hw : Wt ops L Φ w0 a0 o true) (hx : Ev L Φ w0 a0 o x F) (hy : Ev L Φ w0 a0 o y G)
  (hr : ∀ w u u', Below w0.heap.size w0 w -> F w u -> G w u' -> ∃ v, (Instr.build t #[(k, u), (l, u')]).run P w = .ok v w /\ (ph Φ i).p w v) : Ob P Q ops L Φ w0 a0 i o :=
 zN0 hw (by unfold isA; rw [hop]) fun ms w hS => by
  obtain ⟨v, h1, h2⟩ := hr w _ _ hS.below (hx ms w hS) (hy ms w hS)
  exact ⟨v, by unfold execOp; simp only [hop, Sem.run_bind, List.map_toArray, List.map_cons, List.map_nil, h1]; rfl, h2⟩
end
end Go.Proofs.YtmpalajamfiiiaaGreat.flow
namespace Go.Proofs.YtmpalajamfiiiaaGreat.whl
open Go.RowKit num mem nat txt str flow
theorem zQ3 (w : World) (t1 : TypeId) (x : Array Value) : ∃ wx, w.alloc (.cells x t1) = wx /\ Below w.heap.size w wx /\ Blk wx w.heap.size t1 x /\ w.heap.size < wx.heap.size := ⟨_, rfl, zC8 (zB3 _) _, Blk.new w t1 x, by simp⟩
end Go.Proofs.YtmpalajamfiiiaaGreat.whl
namespace Go.Proofs.YtmpalajamfiiiaaGreat.nat
open Go.RowKit num mem
theorem yO1 (v : Value) (c : Nat) (w : World) (h : IsS w .i64 v []) (c1 : c <= 9223372036854775807) :
  Calls Tryz.prog 112 #[v, .int .i64 1, .int .i64 (c : Int)] w (zD1 .i64 (digs 10000 c) w) := by
 obtain ⟨A, cap, rfl, hcap, hcm, hr⟩ := h
 have h20 : c < 10000 ^ 5 := by
  have : (10000 : Nat) ^ 5 = 100000000000000000000 := by decide
  omega
 have H20 := Lib.hid h20
 clear h20
 go_enter Tryz.func112, Tryz.ntmps112
 go_wp2
 go_loopw [2, 7, 8] (fun vc vo vi wr => Own wr w.heap.size 3 .i64 vo [] /\ Below w.heap.size w wr /\ vc = .int .i64 (c : Int) /\ vi = .int .i64 0) (fun _ _ _ _ => 0)
 case atStart => exact ⟨zM6 w _ _ .i64 (zB3 _), zC8 (zB3 _) _, rfl, rfl⟩
 case round =>
  obtain ⟨hown, hb, rfl, rfl⟩ := hrel
  go_wp2
  go_loopw [2, 7] (fun vc vo wr => ∃ (c' j : Nat) (o : List Nat), c' <= 9223372036854775807 /\ Hid (c' < 10000 ^ j) /\ o.length + j <= 5 /\ MB c c' o /\ Own wr w.heap.size 3 .i64 vo o /\ Below w.heap.size w wr /\ vc = .int .i64 (c' : Int)) (fun vc _ _ => (intOf vc).toNat)
  case atStart => exact ⟨c, 5, [], c1, H20, by simp, by unfold MB; exact ⟨Lt.nil _, by simp [val]⟩, hown, hb, rfl⟩
  case round =>
   clear hown hb
   obtain ⟨c2, j, o2, hc', HJ, hoj, hM, hown, hb, rfl⟩ := hrel
   have hsz := hb.size
   by_cases hp : 0 < c2
   ·have HM := Lib.hid hM.step
    clear hM
    obtain ⟨j, rfl⟩ : ∃ i, j = i + 1 := by
     rcases j with _ | j
     ·have := HJ.out; simp at this; omega
     ·exact ⟨j, rfl⟩
    have HJ2 : Hid (c2 / 10000 < 10000 ^ j) := by
     show _ < _
     have := HJ.out
     rw [Nat.pow_succ] at this
     exact Nat.div_lt_of_lt_mul (by rw [Nat.mul_comm]; exact this)
    go_wp2_with (at_builtin; refine zM9 rfl (.tmp 33) (.tmp 36) rfl zK9 (c2 % 10000) rfl hown rfl (by omega) (by omega) (by omega) ?_; intro v' w1 hown1 hb1 hg1)
    go_roundw
    case rel => exact ⟨_, j, _, by omega, HJ2, by simp; omega, HM.out, hown1, hb.trans hb1, zM7 (by omega)⟩
    case measure => simp [intOf]; omega
   ·obtain rfl : c2 = 0 := by omega
    obtain ⟨h1, h2⟩ := hM.done
    have HV := Lib.hid h2
    clear h2 hM
    go_wp2_with fail
    refine (zT1 _ _ _ hown.isS h1 (by omega)).mono ?_
    rintro e w' ⟨v', rfl, hv, hf, hb2⟩
    go_wp2
    go_ret
    exact ⟨_, rfl, by rw [HV.out] at hv; exact hv, hf.mono hsz, hb.trans (hb2.mono hsz)⟩
/-- Of any number that is an int. -/
theorem qM9 (nI : Int) (n : Nat) (w : World) (hn : nI = (n : Int)) (n1 : n <= 9223372036854775807) :
  Calls Tryz.prog 81 #[.int .i64 nI] w (zD1 .i64 (digs 10000 n) w) := by
 subst hn
 go_enter Tryz.func81, Tryz.ntmps81
 go_wp2_with fail
 refine (yO1 _ n _ (zM6 w w.heap.size _ .i64 (zB3 _)).isS n1).mono ?_
 rintro e w' ⟨v', rfl, hv, hf, hb⟩
 go_wp2
 go_ret
 exact ⟨_, rfl, hv, hf.mono (by simp), (zC8 (zB3 _) _).trans (hb.mono (by simp))⟩
end Go.Proofs.YtmpalajamfiiiaaGreat.nat
namespace Go.Proofs.YtmpalajamfiiiaaGreat.whl
open Go.RowKit num mem nat txt str flow
section
variable {P : Program}
end
def hi (ps : List (Int × Value)) : List (Int × Value) := ps.filter fun p => !ngB p.1
def lo (ps : List (Int × Value)) : List (Int × Value) := ps.filter fun p => ngB p.1
end Go.Proofs.YtmpalajamfiiiaaGreat.whl
namespace Go.Proofs.YtmpalajamfiiiaaGreat.whl
open Go.RowKit Go.ChangeShapes Go.WideShapes Go.ChangeAt Go.Joins Go.Deep num mem nat txt str flow
theorem info_int : ∃ i, Tryz.prog.info? 42 = some i /\ i.zero = some (.agg #[.bool false, .slice none 0 0]) /\ i.size = 2 /\ i.bytes = 32 := info_parts (P := Tryz.prog) (e := 42) (z := .agg #[.bool false, .slice none 0 0]) (size := 2) (bytes := 32) (by kernel_rfl)
theorem Blk.other {w w' : World} {g : Nat} {t : TypeId} {cs : Array Value} {row : Option Nat} (h : Blk w g t cs) (hg : w.grownBy w' row) (hne : row ≠ some g) : Blk w' g t cs := (hg.block g h.lt (fun e => hne e.symm)).trans h
theorem dig32 {x : Nat} (h : x <= 9223372036854775808) : (digs 4294967296 x).length <= 2 := zI3 (by omega) (Nat.lt_of_le_of_lt h (by decide))
end Go.Proofs.YtmpalajamfiiiaaGreat.whl
namespace Go.Proofs.YtmpalajamfiiiaaGreat.rat
open Go.RowKit num mem nat txt str flow whl
def psn (k : IntKind) (l : List Nat) : Pd := ⟨fun w v => IsS w k v l, fun h hb => h.below hb⟩
theorem IsQ.drew {w : World} {v : Value} {q : Rat} (h : IsQ w v q) : IsQ w.drew v q := by
 obtain ⟨u, t, e, h1, h2⟩ := h
 exact ⟨u, t, e, h1.drew, h2.drew⟩
theorem IsP.drew {w : World} {v : Value} {q : Rat} (h : IsP w v q) : IsP w.drew v q := by
 obtain ⟨u, t, e, h1, h2⟩ := h
 exact ⟨u, t, e, h1.drew, h2.drew⟩
theorem qB4 (a0 : Value) (z : Int) (a1 : Value) (d : Nat) (w : World) (h0 : IsR w a0 z) (h1 : IsS w .i64 a1 (digs 10000 d)) (hd : d ≠ 0) (hl : zD0 z <= 30000) (hl2 : (digs 4294967296 d).length <= 30000) :
    Calls Tryz.prog 79 #[a0, a1] w (zM2 (mkRat z d) w) := by
  have HL : Hid ((digs 10000 z.natAbs).length <= 100000) := zB4 (zX4 z) (by omega)
  have HL2 : Hid ((digs 10000 d).length <= 100000) := zB4 (zV0 d) (by omega)
  obtain ⟨G, hG⟩ : ∃ G, G = Nat.gcd z.natAbs d := ⟨_, rfl⟩
  obtain ⟨X, hX⟩ : ∃ X, X = z.natAbs / G := ⟨_, rfl⟩
  obtain ⟨Y, hY⟩ : ∃ Y, Y = d / G := ⟨_, rfl⟩
  have hGp : 0 < G := by rw [hG]; exact Nat.gcd_pos_of_pos_right _ (by omega)
  have HGl : Hid ((digs 10000 G).length <= 100000) := zB4 (zG1 (by omega) (by rw [hG]; exact Nat.le_of_dvd (by omega) (Nat.gcd_dvd_right _ _))) HL2.out
  have HQN : Hid ((mkRat z d).num.natAbs = X) := by show _ = _; rw [hX, hG]; exact qW5 z hd
  have HQD : Hid ((mkRat z d).den = Y) := by show _ = _; rw [hY, hG]; exact zU z hd
  have HQS := Lib.hid (mk_neg z hd)
  have HXp : z < 0 -> 0 < X := by intro hz; rw [hX]; exact Nat.div_pos (Nat.le_of_dvd (by omega) (by rw [hG]; exact Nat.gcd_dvd_left _ _)) hGp
  have HG := Lib.hid hG.symm
  have HX := Lib.hid hX.symm
  have HY := Lib.hid hY.symm
  clear hG hX hY
  rcases hs0 : ngB z with _ | _
  · obtain ⟨u0, rfl, s0⟩ := h0
    obtain ⟨A0, c0, rfl, _⟩ := id s0
    have s1 := h1
    obtain ⟨A1, c1, rfl, _⟩ := id s1
    go_enter Tryz.func79, Tryz.ntmps79
    go_upto_region 1 with (fail)
    obtain ⟨wx, hwx, bb, B0, BR0, hsz⟩ := zG4 w 53 55 #[.bool false, .slice A0 (digs 10000 (z).natAbs).length c0] #[.bool false, .slice none 0 0, .slice none 0 0]
    rw [hwx]
    clear hwx
    have k0s := s0.below bb
    have k0 : IsR wx (.agg #[.bool false, .slice A0 (digs 10000 (z).natAbs).length c0]) (z) := zF8 k0s rfl hs0.symm
    have k1 := s1.below bb
    have hsz0 := bb.size
    have sB := bb.size
    refine zC5 5 [Pd.eq (.pointer (some ⟨w.heap.size, 1, none⟩)), Pd.eq (.slice A0 (digs 10000 (z).natAbs).length c0), Pd.eq (.slice A1 (digs 10000 d).length c1), psn .i64 (digs 10000 G), psn .i64 (digs 10000 G)] (by kernel_rfl) ?ob1 ?done1
    case ob1 =>
      refine zA (zC0 rfl (zB6 rfl) (zB8 rfl rfl) (fun _ => by kernel_rfl) (fun _ => rfl)) ?_
      refine zA (zB9 rfl (zB6 rfl) (zB7 (j := 0) (by kernel_rfl) rfl rfl) (fun w2 hb => zC2 Tryz.underlying51 rfl ((B0.below hb).cell 1)) (fun _ _ => rfl)) ?_
      refine zA (zC1 rfl (zB6 rfl) (zB8 rfl rfl) (fun _ _ h => h)) ?_
      refine zA (zD rfl Tryz.func109 (by kernel_rfl) (zB6 rfl) (zB7 (j := 1) (by kernel_rfl) rfl rfl) (zB7 (j := 2) (by kernel_rfl) rfl rfl) (fun w2 u0 u1 hb h0 h1 => by obtain rfl := h0; obtain rfl := h1; exact (HG.out ▸ qX1 _ _ _ _ _ (k0s.below hb) (k1.below hb) HL.out HL2.out).mono fun e w3 h => h)) ?_
      refine zA (zD4 rfl (zB6 rfl) (zB7 (j := 3) (by kernel_rfl) rfl rfl) (fun _ _ h => h)) ?_
      trivial
    case done1 =>
      refine fun w11 hb11 v0 h0 v1 h1 v2 h2 v3 h3 v4 h4 b hbf => ?_
      obtain rfl := h0; obtain rfl := h1; obtain rfl := h2
      have q3 := h3
      have q4 := h4
      simp only [Act.put, zA0, zA2, zA1] at hbf
      subst hbf
      replace B0 := B0.below hb11
      replace k0s := k0s.below hb11
      replace k0 := k0.below hb11
      replace BR0 := BR0.below hb11
      replace k1 := k1.below hb11
      replace bb := bb.trans (hb11.mono bb.size)
      have hsz11 := bb.size
      refine zC6 ?_
      obtain ⟨A5, c5, rfl, _⟩ := id q4
      have kg := q4
      have sB := bb.size
      go_upto_region 2 with (fail)
      refine zC5 9 [Pd.eq (.pointer (some ⟨w.heap.size, 1, none⟩)), Pd.eq (.slice A0 (digs 10000 (z).natAbs).length c0), Pd.eq (.slice A5 (digs 10000 G).length c5), pt2 .i64 (digs 10000 X) (digs 10000 (z.natAbs % G)) w11.heap.size, pt2 .i64 (digs 10000 X) (digs 10000 (z.natAbs % G)) w11.heap.size, ps .i64 (digs 10000 X) w11.heap.size, ps .i64 (digs 10000 (z.natAbs % G)) w11.heap.size, ps .i64 (digs 10000 X) w11.heap.size, ps .i64 (digs 10000 (z.natAbs % G)) w11.heap.size] (by kernel_rfl) ?ob2 ?done2
      case ob2 =>
        refine zA (zC0 rfl (zB6 rfl) (zB8 rfl rfl) (fun _ => by kernel_rfl) (fun _ => rfl)) ?_
        refine zA (zB9 rfl (zB6 rfl) (zB7 (j := 0) (by kernel_rfl) rfl rfl) (fun w2 hb => zC2 Tryz.underlying51 rfl ((B0.below hb).cell 1)) (fun _ _ => rfl)) ?_
        refine zA (zC1 rfl (zB6 rfl) (zB8 rfl rfl) (fun _ _ h => h)) ?_
        refine zA (zD rfl Tryz.func110 (by kernel_rfl) (zB6 rfl) (zB7 (j := 1) (by kernel_rfl) rfl rfl) (zB7 (j := 2) (by kernel_rfl) rfl rfl) (fun w2 u0 u1 hb h0 h1 => by obtain rfl := h0; obtain rfl := h1; exact (HX.out ▸ zZ4 _ _ z.natAbs G _ (k0s.below hb) (kg.below hb) HL.out HGl.out hGp).mono fun e w3 h => zR3.pd h hb.size)) ?_
        refine zA (zC1 rfl (zB6 rfl) (zB7 (j := 3) (by kernel_rfl) rfl rfl) (fun _ _ h => h)) ?_
        refine zA (zF7 rfl (zB6 rfl) (zB7 (j := 4) (by kernel_rfl) rfl rfl) (fun w2 u hu => by obtain ⟨v, u, rfl, q1, q2, q3, q4⟩ := hu; exact ⟨v, rfl, q1, q3⟩)) ?_
        refine zA (zF7 rfl (zB6 rfl) (zB7 (j := 4) (by kernel_rfl) rfl rfl) (fun w2 u hu => by obtain ⟨v, u, rfl, q1, q2, q3, q4⟩ := hu; exact ⟨u, rfl, q2, q4⟩)) ?_
        refine zA (zD4 rfl (zB6 rfl) (zB7 (j := 5) (by kernel_rfl) rfl rfl) (fun _ _ h => h)) ?_
        refine zA (zD4 rfl (zB6 rfl) (zB7 (j := 6) (by kernel_rfl) rfl rfl) (fun _ _ h => h)) ?_
        trivial
      case done2 =>
        refine fun w12 hb12 v0 h0 v1 h1 v2 h2 v3 h3 v4 h4 v5 h5 v6 h6 v7 h7 v8 h8 b hbf => ?_
        obtain rfl := h0; obtain rfl := h1; obtain rfl := h2
        clear h3
        clear h4
        obtain ⟨q5, f5⟩ := h5
        obtain ⟨q6, f6⟩ := h6
        obtain ⟨q7, f7⟩ := h7
        obtain ⟨q8, f8⟩ := h8
        simp only [Act.put, zA0, zA2, zA1] at hbf
        subst hbf
        replace B0 := B0.below hb12
        replace k0s := k0s.below hb12
        replace k0 := k0.below hb12
        replace BR0 := BR0.below hb12
        replace k1 := k1.below hb12
        replace kg := kg.below hb12
        replace bb := bb.trans (hb12.mono bb.size)
        have hsz12 := bb.size
        have s_5 := sB
        have s_6 := sB
        have s_7 := sB
        have s_8 := sB
        refine zC6 ?_
        obtain ⟨A6, c6, rfl, _⟩ := id q7
        have kx := q7
        have kxf := f7
        have kxz_ := s_7
        have sB := bb.size
        go_upto_region 3 with (fail)
        refine zC5 8 [Pd.eq (.slice A1 (digs 10000 d).length c1), Pd.eq (.slice A5 (digs 10000 G).length c5), pt2 .i64 (digs 10000 Y) (digs 10000 (d % G)) w12.heap.size, pt2 .i64 (digs 10000 Y) (digs 10000 (d % G)) w12.heap.size, ps .i64 (digs 10000 Y) w12.heap.size, ps .i64 (digs 10000 (d % G)) w12.heap.size, ps .i64 (digs 10000 Y) w12.heap.size, ps .i64 (digs 10000 (d % G)) w12.heap.size] (by kernel_rfl) ?ob3 ?done3
        case ob3 =>
          refine zA (zC1 rfl (zB6 rfl) (zB8 rfl rfl) (fun _ _ h => h)) ?_
          refine zA (zC1 rfl (zB6 rfl) (zB8 rfl rfl) (fun _ _ h => h)) ?_
          refine zA (zD rfl Tryz.func110 (by kernel_rfl) (zB6 rfl) (zB7 (j := 0) (by kernel_rfl) rfl rfl) (zB7 (j := 1) (by kernel_rfl) rfl rfl) (fun w2 u0 u1 hb h0 h1 => by obtain rfl := h0; obtain rfl := h1; exact (HY.out ▸ zZ4 _ _ d G _ (k1.below hb) (kg.below hb) HL2.out HGl.out hGp).mono fun e w3 h => zR3.pd h hb.size)) ?_
          refine zA (zC1 rfl (zB6 rfl) (zB7 (j := 2) (by kernel_rfl) rfl rfl) (fun _ _ h => h)) ?_
          refine zA (zF7 rfl (zB6 rfl) (zB7 (j := 3) (by kernel_rfl) rfl rfl) (fun w2 u hu => by obtain ⟨v, u, rfl, q1, q2, q3, q4⟩ := hu; exact ⟨v, rfl, q1, q3⟩)) ?_
          refine zA (zF7 rfl (zB6 rfl) (zB7 (j := 3) (by kernel_rfl) rfl rfl) (fun w2 u hu => by obtain ⟨v, u, rfl, q1, q2, q3, q4⟩ := hu; exact ⟨u, rfl, q2, q4⟩)) ?_
          refine zA (zD4 rfl (zB6 rfl) (zB7 (j := 4) (by kernel_rfl) rfl rfl) (fun _ _ h => h)) ?_
          refine zA (zD4 rfl (zB6 rfl) (zB7 (j := 5) (by kernel_rfl) rfl rfl) (fun _ _ h => h)) ?_
          trivial
        case done3 =>
          refine fun w13 hb13 v0 h0 v1 h1 v2 h2 v3 h3 v4 h4 v5 h5 v6 h6 v7 h7 b hbf => ?_
          obtain rfl := h0; obtain rfl := h1
          clear h2
          clear h3
          obtain ⟨q4, f4⟩ := h4
          obtain ⟨q5, f5⟩ := h5
          obtain ⟨q6, f6⟩ := h6
          obtain ⟨q7, f7⟩ := h7
          simp only [Act.put, zA0, zA2, zA1] at hbf
          subst hbf
          replace B0 := B0.below hb13
          replace k0s := k0s.below hb13
          replace k0 := k0.below hb13
          replace BR0 := BR0.below hb13
          replace k1 := k1.below hb13
          replace kg := kg.below hb13
          replace kx := kx.below hb13
          replace bb := bb.trans (hb13.mono bb.size)
          have hsz13 := bb.size
          have s_4 := sB
          have s_5 := sB
          have s_6 := sB
          have s_7 := sB
          refine zC6 ?_
          obtain ⟨A8, c8, rfl, _⟩ := id q6
          have ky := q6
          have kyf := f6
          have kyz_ := s_6
          have sB := bb.size
          go_upto_region 4 with (fail)
          refine zC5 11 [Pd.eq (.pointer (some ⟨w.heap.size, 0, none⟩)), Pd.eq (.bool false), Pd.eq (.bool false), Pd.any, Pd.any, Pd.any, Pd.eq (.bool false), Pd.eq (.slice A6 (digs 10000 X).length c6), Pd.eq (.agg #[.bool false, .slice A6 (digs 10000 X).length c6]), Pd.eq (.slice A8 (digs 10000 Y).length c8), Pd.eq (.agg #[.bool false, .slice A6 (digs 10000 X).length c6, .slice A8 (digs 10000 Y).length c8])] (by kernel_rfl) ?ob4 ?done4
          case ob4 =>
            refine zA (zC0 rfl (zB6 rfl) (zB8 rfl rfl) (fun _ => by kernel_rfl) (fun _ => rfl)) ?_
            refine zA (zB9 rfl (zB6 rfl) (zB7 (j := 0) (by kernel_rfl) rfl rfl) (fun w2 hb => zC2 Tryz.underlying4 rfl ((B0.below hb).cell 0)) (fun _ _ => rfl)) ?_
            refine zA (zC1 rfl (zB6 rfl) (zB7 (j := 1) (by kernel_rfl) rfl rfl) (fun _ _ h => h)) ?_
            refine zA (zF1 (zC9 (c := false) (b := true) (g := 2) rfl (by kernel_rfl) rfl rfl rfl (by exact fun _ _ h => h)) (fun _ => trivial) rfl) ?_
            refine zA (zF1 (zC9 (c := false) (b := true) (g := 2) rfl (by kernel_rfl) rfl rfl rfl (by exact fun _ _ h => h)) (fun _ => trivial) rfl) ?_
            refine zA (zF1 (zC9 (c := false) (b := true) (g := 2) rfl (by kernel_rfl) rfl rfl rfl (by exact fun _ _ h => h)) (fun _ => trivial) rfl) ?_
            refine zA (zJ4 (b := false) rfl (zB6 rfl) (zB7 (j := 2) (by kernel_rfl) rfl rfl) (zF0 _) (fun _ _ h => h)) ?_
            refine zA (zC1 rfl (zB6 rfl) (zB8 rfl rfl) (fun _ _ h => h)) ?_
            refine zA (zK6 rfl (zB6 rfl) (zB7 (j := 6) (by kernel_rfl) rfl rfl) (zB7 (j := 7) (by kernel_rfl) rfl rfl) (fun w2 u v hb hu hv => by obtain rfl := hu; obtain rfl := hv; exact ⟨.agg #[.bool false, .slice A6 (digs 10000 X).length c6], by kernel_rfl, rfl⟩)) ?_
            refine zA (zC1 rfl (zB6 rfl) (zB8 rfl rfl) (fun _ _ h => h)) ?_
            refine zA (zK6 rfl (zB6 rfl) (zB7 (j := 8) (by kernel_rfl) rfl rfl) (zB7 (j := 9) (by kernel_rfl) rfl rfl) (fun w2 u v hb hu hv => by obtain rfl := hu; obtain rfl := hv; exact ⟨.agg #[.bool false, .slice A6 (digs 10000 X).length c6, .slice A8 (digs 10000 Y).length c8], by kernel_rfl, rfl⟩)) ?_
            trivial
          case done4 =>
            refine fun w14 hb14 v0 h0 v1 h1 v2 h2 v3 h3 v4 h4 v5 h5 v6 h6 v7 h7 v8 h8 v9 h9 v10 h10 b hbf => ?_
            obtain rfl := h0; obtain rfl := h1; obtain rfl := h2; obtain rfl := h6; obtain rfl := h7; obtain rfl := h8; obtain rfl := h9; obtain rfl := h10
            clear h3
            clear h4
            clear h5
            simp only [Act.put, zA0, zA2, zA1] at hbf
            subst hbf
            replace B0 := B0.below hb14
            replace k0s := k0s.below hb14
            replace k0 := k0.below hb14
            replace BR0 := BR0.below hb14
            replace k1 := k1.below hb14
            replace kg := kg.below hb14
            replace kx := kx.below hb14
            replace ky := ky.below hb14
            replace bb := bb.trans (hb14.mono bb.size)
            have hsz14 := bb.size
            refine zH2 (i := 11) rfl rfl rfl rfl rfl rfl (cells := [.bool false, .slice A6 (digs 10000 X).length c6, .slice A8 (digs 10000 Y).length c8]) rfl BR0 rfl (by kernel_rfl) (zF9 rfl rfl rfl) fun w9 hg9 B9 => ?_
            have k9 := off kx BR0 zD2 hg9
            have d9 := off ky BR0 zD2 hg9
            have bb9 := bb.trans ((Below.refl _ _).grown hg9 bb.size (fun g hg => by injection hg with hg; omega))
            obtain ⟨C0, C1, C2, _, _, _⟩ := three B9
            refine zC6 ?_
            go_wp2
            exact bodyPost_ret (v := .agg #[.bool false, .slice A6 (digs 10000 X).length c6, .slice A8 (digs 10000 Y).length c8]) (by simp [results, Tryz.results79, go_sem, C0, C1, C2]) rfl ⟨_, rfl, qW6 k9 d9 (by rw [HQS.out, hs0]) HQN.out HQD.out, zM1 (kxf.mono kxz_) (kyf.mono kyz_), bb9⟩
  · obtain ⟨u0, rfl, s0⟩ := h0
    obtain ⟨A0, c0, rfl, _⟩ := id s0
    have s1 := h1
    obtain ⟨A1, c1, rfl, _⟩ := id s1
    go_enter Tryz.func79, Tryz.ntmps79
    go_upto_region 1 with (fail)
    obtain ⟨wx, hwx, bb, B0, BR0, hsz⟩ := zG4 w 53 55 #[.bool true, .slice A0 (digs 10000 (z).natAbs).length c0] #[.bool false, .slice none 0 0, .slice none 0 0]
    rw [hwx]
    clear hwx
    have k0s := s0.below bb
    have k0 : IsR wx (.agg #[.bool true, .slice A0 (digs 10000 (z).natAbs).length c0]) (z) := zF8 k0s rfl hs0.symm
    have k1 := s1.below bb
    have hsz0 := bb.size
    have sB := bb.size
    refine zC5 5 [Pd.eq (.pointer (some ⟨w.heap.size, 1, none⟩)), Pd.eq (.slice A0 (digs 10000 (z).natAbs).length c0), Pd.eq (.slice A1 (digs 10000 d).length c1), psn .i64 (digs 10000 G), psn .i64 (digs 10000 G)] (by kernel_rfl) ?ob5 ?done5
    case ob5 =>
      refine zA (zC0 rfl (zB6 rfl) (zB8 rfl rfl) (fun _ => by kernel_rfl) (fun _ => rfl)) ?_
      refine zA (zB9 rfl (zB6 rfl) (zB7 (j := 0) (by kernel_rfl) rfl rfl) (fun w2 hb => zC2 Tryz.underlying51 rfl ((B0.below hb).cell 1)) (fun _ _ => rfl)) ?_
      refine zA (zC1 rfl (zB6 rfl) (zB8 rfl rfl) (fun _ _ h => h)) ?_
      refine zA (zD rfl Tryz.func109 (by kernel_rfl) (zB6 rfl) (zB7 (j := 1) (by kernel_rfl) rfl rfl) (zB7 (j := 2) (by kernel_rfl) rfl rfl) (fun w2 u0 u1 hb h0 h1 => by obtain rfl := h0; obtain rfl := h1; exact (HG.out ▸ qX1 _ _ _ _ _ (k0s.below hb) (k1.below hb) HL.out HL2.out).mono fun e w3 h => h)) ?_
      refine zA (zD4 rfl (zB6 rfl) (zB7 (j := 3) (by kernel_rfl) rfl rfl) (fun _ _ h => h)) ?_
      trivial
    case done5 =>
      refine fun w11 hb11 v0 h0 v1 h1 v2 h2 v3 h3 v4 h4 b hbf => ?_
      obtain rfl := h0; obtain rfl := h1; obtain rfl := h2
      have q3 := h3
      have q4 := h4
      simp only [Act.put, zA0, zA2, zA1] at hbf
      subst hbf
      replace B0 := B0.below hb11
      replace k0s := k0s.below hb11
      replace k0 := k0.below hb11
      replace BR0 := BR0.below hb11
      replace k1 := k1.below hb11
      replace bb := bb.trans (hb11.mono bb.size)
      have hsz11 := bb.size
      refine zC6 ?_
      obtain ⟨A5, c5, rfl, _⟩ := id q4
      have kg := q4
      have sB := bb.size
      go_upto_region 2 with (fail)
      refine zC5 9 [Pd.eq (.pointer (some ⟨w.heap.size, 1, none⟩)), Pd.eq (.slice A0 (digs 10000 (z).natAbs).length c0), Pd.eq (.slice A5 (digs 10000 G).length c5), pt2 .i64 (digs 10000 X) (digs 10000 (z.natAbs % G)) w11.heap.size, pt2 .i64 (digs 10000 X) (digs 10000 (z.natAbs % G)) w11.heap.size, ps .i64 (digs 10000 X) w11.heap.size, ps .i64 (digs 10000 (z.natAbs % G)) w11.heap.size, ps .i64 (digs 10000 X) w11.heap.size, ps .i64 (digs 10000 (z.natAbs % G)) w11.heap.size] (by kernel_rfl) ?ob6 ?done6
      case ob6 =>
        refine zA (zC0 rfl (zB6 rfl) (zB8 rfl rfl) (fun _ => by kernel_rfl) (fun _ => rfl)) ?_
        refine zA (zB9 rfl (zB6 rfl) (zB7 (j := 0) (by kernel_rfl) rfl rfl) (fun w2 hb => zC2 Tryz.underlying51 rfl ((B0.below hb).cell 1)) (fun _ _ => rfl)) ?_
        refine zA (zC1 rfl (zB6 rfl) (zB8 rfl rfl) (fun _ _ h => h)) ?_
        refine zA (zD rfl Tryz.func110 (by kernel_rfl) (zB6 rfl) (zB7 (j := 1) (by kernel_rfl) rfl rfl) (zB7 (j := 2) (by kernel_rfl) rfl rfl) (fun w2 u0 u1 hb h0 h1 => by obtain rfl := h0; obtain rfl := h1; exact (HX.out ▸ zZ4 _ _ z.natAbs G _ (k0s.below hb) (kg.below hb) HL.out HGl.out hGp).mono fun e w3 h => zR3.pd h hb.size)) ?_
        refine zA (zC1 rfl (zB6 rfl) (zB7 (j := 3) (by kernel_rfl) rfl rfl) (fun _ _ h => h)) ?_
        refine zA (zF7 rfl (zB6 rfl) (zB7 (j := 4) (by kernel_rfl) rfl rfl) (fun w2 u hu => by obtain ⟨v, u, rfl, q1, q2, q3, q4⟩ := hu; exact ⟨v, rfl, q1, q3⟩)) ?_
        refine zA (zF7 rfl (zB6 rfl) (zB7 (j := 4) (by kernel_rfl) rfl rfl) (fun w2 u hu => by obtain ⟨v, u, rfl, q1, q2, q3, q4⟩ := hu; exact ⟨u, rfl, q2, q4⟩)) ?_
        refine zA (zD4 rfl (zB6 rfl) (zB7 (j := 5) (by kernel_rfl) rfl rfl) (fun _ _ h => h)) ?_
        refine zA (zD4 rfl (zB6 rfl) (zB7 (j := 6) (by kernel_rfl) rfl rfl) (fun _ _ h => h)) ?_
        trivial
      case done6 =>
        refine fun w12 hb12 v0 h0 v1 h1 v2 h2 v3 h3 v4 h4 v5 h5 v6 h6 v7 h7 v8 h8 b hbf => ?_
        obtain rfl := h0; obtain rfl := h1; obtain rfl := h2
        clear h3
        clear h4
        obtain ⟨q5, f5⟩ := h5
        obtain ⟨q6, f6⟩ := h6
        obtain ⟨q7, f7⟩ := h7
        obtain ⟨q8, f8⟩ := h8
        simp only [Act.put, zA0, zA2, zA1] at hbf
        subst hbf
        replace B0 := B0.below hb12
        replace k0s := k0s.below hb12
        replace k0 := k0.below hb12
        replace BR0 := BR0.below hb12
        replace k1 := k1.below hb12
        replace kg := kg.below hb12
        replace bb := bb.trans (hb12.mono bb.size)
        have hsz12 := bb.size
        have s_5 := sB
        have s_6 := sB
        have s_7 := sB
        have s_8 := sB
        refine zC6 ?_
        obtain ⟨A6, c6, rfl, _⟩ := id q7
        have kx := q7
        have kxf := f7
        have kxz_ := s_7
        have sB := bb.size
        go_upto_region 3 with (fail)
        refine zC5 8 [Pd.eq (.slice A1 (digs 10000 d).length c1), Pd.eq (.slice A5 (digs 10000 G).length c5), pt2 .i64 (digs 10000 Y) (digs 10000 (d % G)) w12.heap.size, pt2 .i64 (digs 10000 Y) (digs 10000 (d % G)) w12.heap.size, ps .i64 (digs 10000 Y) w12.heap.size, ps .i64 (digs 10000 (d % G)) w12.heap.size, ps .i64 (digs 10000 Y) w12.heap.size, ps .i64 (digs 10000 (d % G)) w12.heap.size] (by kernel_rfl) ?ob7 ?done7
        case ob7 =>
          refine zA (zC1 rfl (zB6 rfl) (zB8 rfl rfl) (fun _ _ h => h)) ?_
          refine zA (zC1 rfl (zB6 rfl) (zB8 rfl rfl) (fun _ _ h => h)) ?_
          refine zA (zD rfl Tryz.func110 (by kernel_rfl) (zB6 rfl) (zB7 (j := 0) (by kernel_rfl) rfl rfl) (zB7 (j := 1) (by kernel_rfl) rfl rfl) (fun w2 u0 u1 hb h0 h1 => by obtain rfl := h0; obtain rfl := h1; exact (HY.out ▸ zZ4 _ _ d G _ (k1.below hb) (kg.below hb) HL2.out HGl.out hGp).mono fun e w3 h => zR3.pd h hb.size)) ?_
          refine zA (zC1 rfl (zB6 rfl) (zB7 (j := 2) (by kernel_rfl) rfl rfl) (fun _ _ h => h)) ?_
          refine zA (zF7 rfl (zB6 rfl) (zB7 (j := 3) (by kernel_rfl) rfl rfl) (fun w2 u hu => by obtain ⟨v, u, rfl, q1, q2, q3, q4⟩ := hu; exact ⟨v, rfl, q1, q3⟩)) ?_
          refine zA (zF7 rfl (zB6 rfl) (zB7 (j := 3) (by kernel_rfl) rfl rfl) (fun w2 u hu => by obtain ⟨v, u, rfl, q1, q2, q3, q4⟩ := hu; exact ⟨u, rfl, q2, q4⟩)) ?_
          refine zA (zD4 rfl (zB6 rfl) (zB7 (j := 4) (by kernel_rfl) rfl rfl) (fun _ _ h => h)) ?_
          refine zA (zD4 rfl (zB6 rfl) (zB7 (j := 5) (by kernel_rfl) rfl rfl) (fun _ _ h => h)) ?_
          trivial
        case done7 =>
          refine fun w13 hb13 v0 h0 v1 h1 v2 h2 v3 h3 v4 h4 v5 h5 v6 h6 v7 h7 b hbf => ?_
          obtain rfl := h0; obtain rfl := h1
          clear h2
          clear h3
          obtain ⟨q4, f4⟩ := h4
          obtain ⟨q5, f5⟩ := h5
          obtain ⟨q6, f6⟩ := h6
          obtain ⟨q7, f7⟩ := h7
          simp only [Act.put, zA0, zA2, zA1] at hbf
          subst hbf
          replace B0 := B0.below hb13
          replace k0s := k0s.below hb13
          replace k0 := k0.below hb13
          replace BR0 := BR0.below hb13
          replace k1 := k1.below hb13
          replace kg := kg.below hb13
          replace kx := kx.below hb13
          replace bb := bb.trans (hb13.mono bb.size)
          have hsz13 := bb.size
          have s_4 := sB
          have s_5 := sB
          have s_6 := sB
          have s_7 := sB
          refine zC6 ?_
          obtain ⟨A8, c8, rfl, _⟩ := id q6
          have ky := q6
          have kyf := f6
          have kyz_ := s_6
          have HXl : Hid (decide ((0 : Int) < (((digs 10000 X).length : Nat) : Int)) = true) := by show _ = _; have := (zU7 (B := 10000) (by omega) (x := X)).1; have := HXp (zL5 hs0); exact decide_eq_true (by omega)
          have sB := bb.size
          go_upto_region 4 with (fail)
          refine zC5 11 [Pd.eq (.pointer (some ⟨w.heap.size, 0, none⟩)), Pd.eq (.bool true), Pd.eq (.bool true), Pd.eq (.slice A6 (digs 10000 X).length c6), Pd.eq (.int .i64 (((digs 10000 X).length : Nat) : Int)), Pd.eq (.bool true), Pd.eq (.bool true), Pd.eq (.slice A6 (digs 10000 X).length c6), Pd.eq (.agg #[.bool true, .slice A6 (digs 10000 X).length c6]), Pd.eq (.slice A8 (digs 10000 Y).length c8), Pd.eq (.agg #[.bool true, .slice A6 (digs 10000 X).length c6, .slice A8 (digs 10000 Y).length c8])] (by kernel_rfl) ?ob8 ?done8
          case ob8 =>
            refine zA (zC0 rfl (zB6 rfl) (zB8 rfl rfl) (fun _ => by kernel_rfl) (fun _ => rfl)) ?_
            refine zA (zB9 rfl (zB6 rfl) (zB7 (j := 0) (by kernel_rfl) rfl rfl) (fun w2 hb => zC2 Tryz.underlying4 rfl ((B0.below hb).cell 0)) (fun _ _ => rfl)) ?_
            refine zA (zC1 rfl (zB6 rfl) (zB7 (j := 1) (by kernel_rfl) rfl rfl) (fun _ _ h => h)) ?_
            refine zA (zC1 rfl (zC9 (c := true) (b := true) (g := 2) rfl (by kernel_rfl) rfl rfl rfl (by exact fun _ _ h => h)) (zB8 rfl rfl) (fun _ _ h => h)) ?_
            refine zA (zI8 rfl (zC9 (c := true) (b := true) (g := 2) rfl (by kernel_rfl) rfl rfl rfl (by exact fun _ _ h => h)) (zB7 (j := 3) (by kernel_rfl) rfl rfl) (fun _ _ hx => ⟨_, by rw [hx]; exact zI9 Tryz.underlying51 _ _ _ _, rfl⟩)) ?_
            refine zA (zE6 rfl (zC9 (c := true) (b := true) (g := 2) rfl (by kernel_rfl) rfl rfl rfl (by exact fun _ _ h => h)) (zB7 (j := 4) (by kernel_rfl) rfl rfl) (zF0 _) (fun _ _ _ hx hy => ⟨.bool true, by rw [hx, hy, qV9, HXl.out], rfl⟩)) ?_
            refine zA (zJ4 (b := true) rfl (zB6 rfl) (zB7 (j := 2) (by kernel_rfl) rfl rfl) (zB7 (j := 5) (by kernel_rfl) rfl rfl) (fun _ _ h => h)) ?_
            refine zA (zC1 rfl (zB6 rfl) (zB8 rfl rfl) (fun _ _ h => h)) ?_
            refine zA (zK6 rfl (zB6 rfl) (zB7 (j := 6) (by kernel_rfl) rfl rfl) (zB7 (j := 7) (by kernel_rfl) rfl rfl) (fun w2 u v hb hu hv => by obtain rfl := hu; obtain rfl := hv; exact ⟨.agg #[.bool true, .slice A6 (digs 10000 X).length c6], by kernel_rfl, rfl⟩)) ?_
            refine zA (zC1 rfl (zB6 rfl) (zB8 rfl rfl) (fun _ _ h => h)) ?_
            refine zA (zK6 rfl (zB6 rfl) (zB7 (j := 8) (by kernel_rfl) rfl rfl) (zB7 (j := 9) (by kernel_rfl) rfl rfl) (fun w2 u v hb hu hv => by obtain rfl := hu; obtain rfl := hv; exact ⟨.agg #[.bool true, .slice A6 (digs 10000 X).length c6, .slice A8 (digs 10000 Y).length c8], by kernel_rfl, rfl⟩)) ?_
            trivial
          case done8 =>
            refine fun w14 hb14 v0 h0 v1 h1 v2 h2 v3 h3 v4 h4 v5 h5 v6 h6 v7 h7 v8 h8 v9 h9 v10 h10 b hbf => ?_
            obtain rfl := h0; obtain rfl := h1; obtain rfl := h2; obtain rfl := h3; obtain rfl := h4; obtain rfl := h5; obtain rfl := h6; obtain rfl := h7; obtain rfl := h8; obtain rfl := h9; obtain rfl := h10
            simp only [Act.put, zA0, zA2, zA1] at hbf
            subst hbf
            replace B0 := B0.below hb14
            replace k0s := k0s.below hb14
            replace k0 := k0.below hb14
            replace BR0 := BR0.below hb14
            replace k1 := k1.below hb14
            replace kg := kg.below hb14
            replace kx := kx.below hb14
            replace ky := ky.below hb14
            replace bb := bb.trans (hb14.mono bb.size)
            have hsz14 := bb.size
            refine zH2 (i := 11) rfl rfl rfl rfl rfl rfl (cells := [.bool true, .slice A6 (digs 10000 X).length c6, .slice A8 (digs 10000 Y).length c8]) rfl BR0 rfl (by kernel_rfl) (zF9 rfl rfl rfl) fun w9 hg9 B9 => ?_
            have k9 := off kx BR0 zD2 hg9
            have d9 := off ky BR0 zD2 hg9
            have bb9 := bb.trans ((Below.refl _ _).grown hg9 bb.size (fun g hg => by injection hg with hg; omega))
            obtain ⟨C0, C1, C2, _, _, _⟩ := three B9
            refine zC6 ?_
            go_wp2
            exact bodyPost_ret (v := .agg #[.bool true, .slice A6 (digs 10000 X).length c6, .slice A8 (digs 10000 Y).length c8]) (by simp [results, Tryz.results79, go_sem, C0, C1, C2]) rfl ⟨_, rfl, qW6 k9 d9 (by rw [HQS.out, hs0]) HQN.out HQD.out, zM1 (kxf.mono kxz_) (kyf.mono kyz_), bb9⟩
theorem qof_any (a0 : Value) (q : Rat) (w : World) (h0 : IsQ w a0 q) (hl : zC3 q 30000) :
  Calls Tryz.prog 67 #[a0] w (zQ2 q w) := by
 obtain ⟨u0, t0, rfl, s0, r0⟩ := h0
 obtain ⟨A0, c0, rfl, _⟩ := id s0
 obtain ⟨D0, e0, rfl, _⟩ := id r0
 go_enter Tryz.func67, Tryz.ntmps67
 go_upto_region 1 with (fail)
 obtain ⟨wx, hwx, bb, B0, BR0, hsz⟩ := zG4 w 44 55 #[.bool (ngB (q).num), .slice A0 (digs 4294967296 (q).num.natAbs).length c0, .slice D0 (digs 4294967296 (q).den).length e0] #[.bool false, .slice none 0 0, .slice none 0 0]
 rw [hwx]
 clear hwx
 have k0s := s0.below bb
 have k0d := r0.below bb
 have k0z : IsZ wx (.agg #[.bool (ngB (q).num), .slice A0 (digs 4294967296 (q).num.natAbs).length c0]) (q).num := ⟨_, rfl, k0s⟩
 have k0 : IsQ wx (.agg #[.bool (ngB (q).num), .slice A0 (digs 4294967296 (q).num.natAbs).length c0, .slice D0 (digs 4294967296 (q).den).length e0]) (q) := ⟨_, _, rfl, k0s, k0d⟩
 have hsz0 := bb.size
 have sB := bb.size
 refine flow 7 [Pd.eq (.pointer (some ⟨w.heap.size, 0, none⟩)), Pd.eq (.agg #[.bool (ngB (q).num), .slice A0 (digs 4294967296 (q).num.natAbs).length c0]), pr ((q).num), Pd.eq (.pointer (some ⟨w.heap.size, 2, none⟩)), Pd.eq (.slice D0 (digs 4294967296 (q).den).length e0), ps .i64 (digs 10000 (q).den) wx.heap.size, pp (q)] (by kernel_rfl) (by kernel_rfl) ?ob9 ?done9
 case ob9 =>
  refine zA (zC0 rfl (zB6 rfl) (zB8 rfl rfl) (fun _ => by kernel_rfl) (fun _ => rfl)) ?_
  refine zA (zB9 rfl (zB6 rfl) (zB7 (j := 0) (by kernel_rfl) rfl rfl) (fun w2 hb => zK5 Tryz.underlying42 rfl (by kernel_rfl) (B0.drew.below hb) rfl) (fun _ _ => rfl)) ?_
  refine zA (zE4 rfl Tryz.func99 (by kernel_rfl) (zB6 rfl) (zB7 (j := 1) (by kernel_rfl) rfl rfl) (fun w2 u0 hb h0 => by obtain rfl := h0; exact (qM6 _ _ _ (k0z.drew.below hb) (zB4 hl.1 (by decide))).mono fun e w3 h => zN1.pd h)) ?_
  refine zA (zC0 rfl (zB6 rfl) (zB8 rfl rfl) (fun _ => by kernel_rfl) (fun _ => rfl)) ?_
  refine zA (zB9 rfl (zB6 rfl) (zB7 (j := 3) (by kernel_rfl) rfl rfl) (fun w2 hb => zC2 Tryz.underlying40 rfl ((B0.drew.below hb).cell 2)) (fun _ _ => rfl)) ?_
  refine zA (zE4 rfl Tryz.func101 (by kernel_rfl) (zB6 rfl) (zB7 (j := 4) (by kernel_rfl) rfl rfl) (fun w2 u0 hb h0 => by obtain rfl := h0; exact (zW8 _ _ _ (k0d.drew.below hb) (zB4 hl.2 (by decide))).mono fun e w3 h => zD1.pd h hb.size)) ?_
  refine zA (zK6 rfl (zB6 rfl) (zB7 (j := 2) (by kernel_rfl) rfl rfl) (zB7 (j := 5) (by kernel_rfl) rfl rfl) (fun w2 u v hb hu hv => by obtain ⟨u7, rfl, hu7⟩ := hu; obtain ⟨A7, c7, rfl, _⟩ := id hu7; obtain ⟨A8, c8, rfl, _⟩ := id hv.1; exact ⟨.agg #[.bool (ngB (q).num), .slice A7 (digs 10000 (q).num.natAbs).length c7, .slice A8 (digs 10000 (q).den).length c8], by kernel_rfl, ⟨_, _, rfl, hu7, hv.1⟩⟩)) ?_
  trivial
 case done9 =>
  refine fun w11 hb11 v0 h0 v1 h1 v2 h2 v3 h3 v4 h4 v5 h5 v6 h6 b hbf => ?_
  obtain rfl := h0; obtain rfl := h1; obtain rfl := h3; obtain rfl := h4
  have q2 := h2
  obtain ⟨q5, f5⟩ := h5
  have q6 := h6
  simp only [Act.put, zA0, zA2, zA1] at hbf
  subst hbf
  replace B0 := B0.below hb11
  replace k0s := k0s.below hb11
  replace k0d := k0d.below hb11
  replace k0z := k0z.below hb11
  replace k0 := k0.below hb11
  replace BR0 := BR0.below hb11
  replace bb := bb.trans (hb11.mono bb.size)
  have hsz11 := bb.size
  have s_5 := sB
  obtain ⟨u6, t6, rfl, q6, d6⟩ := q6
  obtain ⟨A9, c9, rfl, _⟩ := id q6
  obtain ⟨D9, e9, rfl, _⟩ := id d6
  refine zG2 (i := 7) (by kernel_rfl) rfl rfl rfl rfl rfl rfl (cells := [.bool (ngB (q).num), .slice A9 (digs 10000 (q).num.natAbs).length c9, .slice D9 (digs 10000 (q).den).length e9]) rfl BR0 rfl (by kernel_rfl) (zF9 rfl rfl rfl) fun w9 hg9 B9 => ?_
  have k9 := off q6 BR0 zD2 hg9
  have d9 := off d6 BR0 zD2 hg9
  have bb9 := bb.trans ((Below.refl _ _).grown hg9 bb.size (fun g hg => by injection hg with hg; omega))
  obtain ⟨C0, C1, C2, _, _, _⟩ := three B9
  refine zF2 (by kernel_rfl) ?_
  go_wp2
  exact bodyPost_ret (v := .agg #[.bool (ngB (q).num), .slice A9 (digs 10000 (q).num.natAbs).length c9, .slice D9 (digs 10000 (q).den).length e9]) (by simp [results, Tryz.results67, go_sem, C0, C1, C2]) rfl ⟨_, rfl, ⟨_, _, rfl, k9, d9⟩, bb9⟩
theorem qG4 (a0 : Value) (q : Rat) (w : World) (h0 : IsP w a0 q) (hl : zC3 q 30000) :
  Calls Tryz.prog 20 #[a0] w (RetQ q w) := by
 obtain ⟨u0, t0, rfl, s0, r0⟩ := h0
 obtain ⟨A0, c0, rfl, _⟩ := id s0
 obtain ⟨D0, e0, rfl, _⟩ := id r0
 go_enter Tryz.func20, Tryz.ntmps20
 go_upto_region 1 with (fail)
 obtain ⟨wx, hwx, bb, B0, BR0, hsz⟩ := zG4 w 55 44 #[.bool (ngB (q).num), .slice A0 (digs 10000 (q).num.natAbs).length c0, .slice D0 (digs 10000 (q).den).length e0] #[.bool false, .slice none 0 0, .slice none 0 0]
 rw [hwx]
 clear hwx
 have k0s := s0.below bb
 have k0d := r0.below bb
 have k0z : IsR wx (.agg #[.bool (ngB (q).num), .slice A0 (digs 10000 (q).num.natAbs).length c0]) (q).num := ⟨_, rfl, k0s⟩
 have k0 : IsP wx (.agg #[.bool (ngB (q).num), .slice A0 (digs 10000 (q).num.natAbs).length c0, .slice D0 (digs 10000 (q).den).length e0]) (q) := ⟨_, _, rfl, k0s, k0d⟩
 have hsz0 := bb.size
 have sB := bb.size
 refine flow 7 [Pd.eq (.pointer (some ⟨w.heap.size, 0, none⟩)), Pd.eq (.agg #[.bool (ngB (q).num), .slice A0 (digs 10000 (q).num.natAbs).length c0]), pz ((q).num) wx.heap.size, Pd.eq (.pointer (some ⟨w.heap.size, 2, none⟩)), Pd.eq (.slice D0 (digs 10000 (q).den).length e0), ps .u64 (digs 4294967296 (q).den) wx.heap.size, pq (q) wx.heap.size] (by kernel_rfl) (by kernel_rfl) ?ob10 ?done10
 case ob10 =>
  refine zA (zC0 rfl (zB6 rfl) (zB8 rfl rfl) (fun _ => by kernel_rfl) (fun _ => rfl)) ?_
  refine zA (zB9 rfl (zB6 rfl) (zB7 (j := 0) (by kernel_rfl) rfl rfl) (fun w2 hb => zK5 Tryz.underlying53 rfl (by kernel_rfl) (B0.drew.below hb) rfl) (fun _ _ => rfl)) ?_
  refine zA (zE4 rfl Tryz.func50 (by kernel_rfl) (zB6 rfl) (zB7 (j := 1) (by kernel_rfl) rfl rfl) (fun w2 u0 hb h0 => by obtain rfl := h0; exact (yM8 _ _ _ (k0z.drew.below hb) (zB4 hl.1 (by decide))).mono fun e w3 h => zG3.pd h hb.size)) ?_
  refine zA (zC0 rfl (zB6 rfl) (zB8 rfl rfl) (fun _ => by kernel_rfl) (fun _ => rfl)) ?_
  refine zA (zB9 rfl (zB6 rfl) (zB7 (j := 3) (by kernel_rfl) rfl rfl) (fun w2 hb => zC2 Tryz.underlying51 rfl ((B0.drew.below hb).cell 2)) (fun _ _ => rfl)) ?_
  refine zA (zE4 rfl Tryz.func51 (by kernel_rfl) (zB6 rfl) (zB7 (j := 4) (by kernel_rfl) rfl rfl) (fun w2 u0 hb h0 => by obtain rfl := h0; exact (qR6 _ _ _ (k0d.drew.below hb) (zB4 (zV0 _) (by have := hl.2; omega)) (zB4 hl.2 (by decide))).mono fun e w3 h => zD1.pd h hb.size)) ?_
  refine zA (zK6 rfl (zB6 rfl) (zB7 (j := 2) (by kernel_rfl) rfl rfl) (zB7 (j := 5) (by kernel_rfl) rfl rfl) (fun w2 u v hb hu hv => by obtain ⟨u7, rfl, hu7⟩ := hu.1; obtain ⟨A7, c7, rfl, _⟩ := id hu7; obtain ⟨A8, c8, rfl, _⟩ := id hv.1; exact ⟨.agg #[.bool (ngB (q).num), .slice A7 (digs 4294967296 (q).num.natAbs).length c7, .slice A8 (digs 4294967296 (q).den).length c8], by kernel_rfl, ⟨⟨_, _, rfl, hu7, hv.1⟩, zM1 (hu.2 _ _ rfl) hv.2⟩⟩)) ?_
  trivial
 case done10 =>
  refine fun w11 hb11 v0 h0 v1 h1 v2 h2 v3 h3 v4 h4 v5 h5 v6 h6 b hbf => ?_
  obtain rfl := h0; obtain rfl := h1; obtain rfl := h3; obtain rfl := h4
  obtain ⟨q2, f2⟩ := h2
  obtain ⟨q5, f5⟩ := h5
  obtain ⟨q6, f6⟩ := h6
  simp only [Act.put, zA0, zA2, zA1] at hbf
  subst hbf
  replace B0 := B0.below hb11
  replace k0s := k0s.below hb11
  replace k0d := k0d.below hb11
  replace k0z := k0z.below hb11
  replace k0 := k0.below hb11
  replace BR0 := BR0.below hb11
  replace bb := bb.trans (hb11.mono bb.size)
  have hsz11 := bb.size
  have s_2 := sB
  have s_5 := sB
  have s_6 := sB
  obtain ⟨u6, t6, rfl, q6, d6⟩ := q6
  obtain ⟨A9, c9, rfl, _⟩ := id q6
  obtain ⟨D9, e9, rfl, _⟩ := id d6
  refine zG2 (i := 7) (by kernel_rfl) rfl rfl rfl rfl rfl rfl (cells := [.bool (ngB (q).num), .slice A9 (digs 4294967296 (q).num.natAbs).length c9, .slice D9 (digs 4294967296 (q).den).length e9]) rfl BR0 rfl (by kernel_rfl) (zF9 rfl rfl rfl) fun w9 hg9 B9 => ?_
  have k9 := off q6 BR0 zD2 hg9
  have d9 := off d6 BR0 zD2 hg9
  have f9 := f6.mono (show w.heap.size <= _ from s_6)
  have bb9 := bb.trans ((Below.refl _ _).grown hg9 bb.size (fun g hg => by injection hg with hg; omega))
  obtain ⟨C0, C1, C2, _, _, _⟩ := three B9
  refine zF2 (by kernel_rfl) ?_
  go_wp2
  exact bodyPost_ret (v := .agg #[.bool (ngB (q).num), .slice A9 (digs 4294967296 (q).num.natAbs).length c9, .slice D9 (digs 4294967296 (q).den).length e9]) (by simp [results, Tryz.results20, go_sem, C0, C1, C2]) rfl ⟨_, rfl, ⟨_, _, rfl, k9, d9⟩, f9, bb9⟩
theorem yO2 (a0 : Value) (q : Rat) (w : World) (h0 : IsP w a0 q)  :
  Calls Tryz.prog 46 #[a0] w (zQ2 (-q) w) := by
 obtain ⟨u0, t0, rfl, s0, r0⟩ := h0
 obtain ⟨A0, c0, rfl, _⟩ := id s0
 obtain ⟨D0, e0, rfl, _⟩ := id r0
 have HN : Hid (-q.num = (-q).num) := (zX6 q).1.symm
 have HD : Hid (q.den = (-q).den) := (zX6 q).2.symm
 go_enter Tryz.func46, Tryz.ntmps46
 go_upto_region 1 with (fail)
 obtain ⟨wx, hwx, bb, B0, BR0, hsz⟩ := zG4 w 55 55 #[.bool (ngB (q).num), .slice A0 (digs 10000 (q).num.natAbs).length c0, .slice D0 (digs 10000 (q).den).length e0] #[.bool false, .slice none 0 0, .slice none 0 0]
 rw [hwx]
 clear hwx
 have k0s := s0.below bb
 have k0d := r0.below bb
 have k0z : IsR wx (.agg #[.bool (ngB (q).num), .slice A0 (digs 10000 (q).num.natAbs).length c0]) (q).num := ⟨_, rfl, k0s⟩
 have k0 : IsP wx (.agg #[.bool (ngB (q).num), .slice A0 (digs 10000 (q).num.natAbs).length c0, .slice D0 (digs 10000 (q).den).length e0]) (q) := ⟨_, _, rfl, k0s, k0d⟩
 have hsz0 := bb.size
 have sB := bb.size
 refine flow 6 [Pd.eq (.pointer (some ⟨w.heap.size, 0, none⟩)), Pd.eq (.agg #[.bool (ngB (q).num), .slice A0 (digs 10000 (q).num.natAbs).length c0]), pr ((-q).num), Pd.eq (.pointer (some ⟨w.heap.size, 2, none⟩)), Pd.eq (.slice D0 (digs 10000 (q).den).length e0), pp (-q)] (by kernel_rfl) (by kernel_rfl) ?ob11 ?done11
 case ob11 =>
  refine zA (zC0 rfl (zB6 rfl) (zB8 rfl rfl) (fun _ => by kernel_rfl) (fun _ => rfl)) ?_
  refine zA (zB9 rfl (zB6 rfl) (zB7 (j := 0) (by kernel_rfl) rfl rfl) (fun w2 hb => zK5 Tryz.underlying53 rfl (by kernel_rfl) (B0.drew.below hb) rfl) (fun _ _ => rfl)) ?_
  refine zA (zE4 rfl Tryz.func84 (by kernel_rfl) (zB6 rfl) (zB7 (j := 1) (by kernel_rfl) rfl rfl) (fun w2 u0 hb h0 => by obtain rfl := h0; exact (HN.out ▸ yM7 _ _ _ (k0z.drew.below hb)).mono fun e w3 h => zN1.pd h)) ?_
  refine zA (zC0 rfl (zB6 rfl) (zB8 rfl rfl) (fun _ => by kernel_rfl) (fun _ => rfl)) ?_
  refine zA (zB9 rfl (zB6 rfl) (zB7 (j := 3) (by kernel_rfl) rfl rfl) (fun w2 hb => zC2 Tryz.underlying51 rfl ((B0.drew.below hb).cell 2)) (fun _ _ => rfl)) ?_
  refine zA (zK6 rfl (zB6 rfl) (zB7 (j := 2) (by kernel_rfl) rfl rfl) (zB7 (j := 4) (by kernel_rfl) rfl rfl) (fun w2 u v hb hu hv => by obtain ⟨u7, rfl, hu7⟩ := hu; obtain ⟨A7, c7, rfl, _⟩ := id hu7; obtain rfl := hv; exact ⟨.agg #[.bool (ngB (-q).num), .slice A7 (digs 10000 (-q).num.natAbs).length c7, .slice D0 (digs 10000 (q).den).length e0], by kernel_rfl, ⟨_, _, rfl, hu7, (k0d.drew.below hb)⟩⟩)) ?_
  trivial
 case done11 =>
  refine fun w11 hb11 v0 h0 v1 h1 v2 h2 v3 h3 v4 h4 v5 h5 b hbf => ?_
  obtain rfl := h0; obtain rfl := h1; obtain rfl := h3; obtain rfl := h4
  have q2 := h2
  have q5 := h5
  simp only [Act.put, zA0, zA2, zA1] at hbf
  subst hbf
  replace B0 := B0.below hb11
  replace k0s := k0s.below hb11
  replace k0d := k0d.below hb11
  replace k0z := k0z.below hb11
  replace k0 := k0.below hb11
  replace BR0 := BR0.below hb11
  replace bb := bb.trans (hb11.mono bb.size)
  have hsz11 := bb.size
  obtain ⟨u5, t5, rfl, q5, d5⟩ := q5
  obtain ⟨A9, c9, rfl, _⟩ := id q5
  obtain ⟨D9, e9, rfl, _⟩ := id d5
  refine zG2 (i := 6) (by kernel_rfl) rfl rfl rfl rfl rfl rfl (cells := [.bool (ngB (-q).num), .slice A9 (digs 10000 (-q).num.natAbs).length c9, .slice D9 (digs 10000 (-q).den).length e9]) rfl BR0 rfl (by kernel_rfl) (zF9 rfl rfl rfl) fun w9 hg9 B9 => ?_
  have k9 := off q5 BR0 zD2 hg9
  have d9 := off d5 BR0 zD2 hg9
  have bb9 := bb.trans ((Below.refl _ _).grown hg9 bb.size (fun g hg => by injection hg with hg; omega))
  obtain ⟨C0, C1, C2, _, _, _⟩ := three B9
  refine zF2 (by kernel_rfl) ?_
  go_wp2
  exact bodyPost_ret (v := .agg #[.bool (ngB (-q).num), .slice A9 (digs 10000 (-q).num.natAbs).length c9, .slice D9 (digs 10000 (-q).den).length e9]) (by simp [results, Tryz.results46, go_sem, C0, C1, C2]) rfl ⟨_, rfl, ⟨_, _, rfl, k9, d9⟩, bb9⟩
theorem yO3 (a0 : Value) (x : Rat) (a1 : Value) (y : Rat) (w : World) (h0 : IsP w a0 x) (h1 : IsP w a1 y) (hl : zC3 x 10000) (hl2 : zC3 y 10000) :
  Calls Tryz.prog 45 #[a0, a1] w (zM2 (x * y) w) := by
 obtain ⟨u0, t0, rfl, s0, r0⟩ := h0
 obtain ⟨A0, c0, rfl, _⟩ := id s0
 obtain ⟨D0, e0, rfl, _⟩ := id r0
 obtain ⟨u1, t1, rfl, s1, r1⟩ := h1
 obtain ⟨A1, c1, rfl, _⟩ := id s1
 obtain ⟨D1, e1, rfl, _⟩ := id r1
 have HM : Hid (mkRat (x.num * y.num) (x.den * y.den) = x * y) := (Rat.mul_def' x y).symm
 have HLZ : Hid (zD0 (x.num * y.num) <= 30000) := zB4 (zS2 hl.1 hl2.1) (by decide)
 have HLD : Hid ((digs 4294967296 (x.den * y.den)).length <= 30000) := by show _ <= _; have := zT4 x.den y.den; have h1 := hl.2; have h2 := hl2.2; omega
 go_enter Tryz.func45, Tryz.ntmps45
 go_upto_region 1 with (fail)
 obtain ⟨wx, hwx, bb, B0, B1, BR0, hsz⟩ := zK4 w 55 55 55 #[.bool (ngB (x).num), .slice A0 (digs 10000 (x).num.natAbs).length c0, .slice D0 (digs 10000 (x).den).length e0] #[.bool (ngB (y).num), .slice A1 (digs 10000 (y).num.natAbs).length c1, .slice D1 (digs 10000 (y).den).length e1] #[.bool false, .slice none 0 0, .slice none 0 0]
 rw [hwx]
 clear hwx
 have k0s := s0.below bb
 have k0d := r0.below bb
 have k0z : IsR wx (.agg #[.bool (ngB (x).num), .slice A0 (digs 10000 (x).num.natAbs).length c0]) (x).num := ⟨_, rfl, k0s⟩
 have k0 : IsP wx (.agg #[.bool (ngB (x).num), .slice A0 (digs 10000 (x).num.natAbs).length c0, .slice D0 (digs 10000 (x).den).length e0]) (x) := ⟨_, _, rfl, k0s, k0d⟩
 have k1s := s1.below bb
 have k1d := r1.below bb
 have k1z : IsR wx (.agg #[.bool (ngB (y).num), .slice A1 (digs 10000 (y).num.natAbs).length c1]) (y).num := ⟨_, rfl, k1s⟩
 have k1 : IsP wx (.agg #[.bool (ngB (y).num), .slice A1 (digs 10000 (y).num.natAbs).length c1, .slice D1 (digs 10000 (y).den).length e1]) (y) := ⟨_, _, rfl, k1s, k1d⟩
 have hsz0 := bb.size
 have sB := bb.size
 refine flow 11 [Pd.eq (.pointer (some ⟨w.heap.size, 0, none⟩)), Pd.eq (.agg #[.bool (ngB (x).num), .slice A0 (digs 10000 (x).num.natAbs).length c0]), Pd.eq (.pointer (some ⟨w.heap.size + 1, 0, none⟩)), Pd.eq (.agg #[.bool (ngB (y).num), .slice A1 (digs 10000 (y).num.natAbs).length c1]), pr ((x.num * y.num)), Pd.eq (.pointer (some ⟨w.heap.size, 2, none⟩)), Pd.eq (.slice D0 (digs 10000 (x).den).length e0), Pd.eq (.pointer (some ⟨w.heap.size + 1, 2, none⟩)), Pd.eq (.slice D1 (digs 10000 (y).den).length e1), ps .i64 (digs 10000 (x.den * y.den)) wx.heap.size, ppf (x * y) wx.heap.size] (by kernel_rfl) (by kernel_rfl) ?ob12 ?done12
 case ob12 =>
  refine zA (zC0 rfl (zB6 rfl) (zB8 rfl rfl) (fun _ => by kernel_rfl) (fun _ => rfl)) ?_
  refine zA (zB9 rfl (zB6 rfl) (zB7 (j := 0) (by kernel_rfl) rfl rfl) (fun w2 hb => zK5 Tryz.underlying53 rfl (by kernel_rfl) (B0.drew.below hb) rfl) (fun _ _ => rfl)) ?_
  refine zA (zC0 rfl (zB6 rfl) (zB8 rfl rfl) (fun _ => by kernel_rfl) (fun _ => rfl)) ?_
  refine zA (zB9 rfl (zB6 rfl) (zB7 (j := 2) (by kernel_rfl) rfl rfl) (fun w2 hb => zK5 Tryz.underlying53 rfl (by kernel_rfl) (B1.drew.below hb) rfl) (fun _ _ => rfl)) ?_
  refine zA (zD rfl Tryz.func82 (by kernel_rfl) (zB6 rfl) (zB7 (j := 1) (by kernel_rfl) rfl rfl) (zB7 (j := 3) (by kernel_rfl) rfl rfl) (fun w2 u0 u1 hb h0 h1 => by obtain rfl := h0; obtain rfl := h1; exact (qM7 _ _ _ _ _ (k0z.drew.below hb) (k1z.drew.below hb) (zB4 hl.1 (by decide)) (zB4 hl2.1 (by decide))).mono fun e w3 h => zN1.pd h)) ?_
  refine zA (zC0 rfl (zB6 rfl) (zB8 rfl rfl) (fun _ => by kernel_rfl) (fun _ => rfl)) ?_
  refine zA (zB9 rfl (zB6 rfl) (zB7 (j := 5) (by kernel_rfl) rfl rfl) (fun w2 hb => zC2 Tryz.underlying51 rfl ((B0.drew.below hb).cell 2)) (fun _ _ => rfl)) ?_
  refine zA (zC0 rfl (zB6 rfl) (zB8 rfl rfl) (fun _ => by kernel_rfl) (fun _ => rfl)) ?_
  refine zA (zB9 rfl (zB6 rfl) (zB7 (j := 7) (by kernel_rfl) rfl rfl) (fun w2 hb => zC2 Tryz.underlying51 rfl ((B1.drew.below hb).cell 2)) (fun _ _ => rfl)) ?_
  refine zA (zD rfl Tryz.func83 (by kernel_rfl) (zB6 rfl) (zB7 (j := 6) (by kernel_rfl) rfl rfl) (zB7 (j := 8) (by kernel_rfl) rfl rfl) (fun w2 u0 u1 hb h0 h1 => by obtain rfl := h0; obtain rfl := h1; exact (qK0 _ _ x.den y.den _ (k0d.drew.below hb) (k1d.drew.below hb) (zB4 (zV0 _) (by have := hl.2; omega)) (zB4 (zV0 _) (by have := hl2.2; omega))).mono fun e w3 h => zD1.pd h hb.size)) ?_
  refine zA (zD rfl Tryz.func79 (by kernel_rfl) (zB6 rfl) (zB7 (j := 4) (by kernel_rfl) rfl rfl) (zB7 (j := 9) (by kernel_rfl) rfl rfl) (fun w2 u0 u1 hb h0 h1 => by exact (HM.out ▸ qB4 _ (x.num * y.num) _ (x.den * y.den) _ h0 h1.1 (Nat.mul_ne_zero x.den_nz y.den_nz) HLZ.out HLD.out).mono fun e w3 h => zM2.pdf h hb.size)) ?_
  trivial
 case done12 =>
  refine fun w11 hb11 v0 h0 v1 h1 v2 h2 v3 h3 v4 h4 v5 h5 v6 h6 v7 h7 v8 h8 v9 h9 v10 h10 b hbf => ?_
  obtain rfl := h0; obtain rfl := h1; obtain rfl := h2; obtain rfl := h3; obtain rfl := h5; obtain rfl := h6; obtain rfl := h7; obtain rfl := h8
  have q4 := h4
  obtain ⟨q9, f9⟩ := h9
  obtain ⟨q10, f10⟩ := h10
  simp only [Act.put, zA0, zA2, zA1] at hbf
  subst hbf
  replace B0 := B0.below hb11
  replace k0s := k0s.below hb11
  replace k0d := k0d.below hb11
  replace k0z := k0z.below hb11
  replace k0 := k0.below hb11
  replace B1 := B1.below hb11
  replace k1s := k1s.below hb11
  replace k1d := k1d.below hb11
  replace k1z := k1z.below hb11
  replace k1 := k1.below hb11
  replace BR0 := BR0.below hb11
  replace bb := bb.trans (hb11.mono bb.size)
  have hsz11 := bb.size
  have s_9 := sB
  have s_10 := sB
  obtain ⟨u10, t10, rfl, q10, d10⟩ := q10
  obtain ⟨A9, c9, rfl, _⟩ := id q10
  obtain ⟨D9, e9, rfl, _⟩ := id d10
  refine zG2 (i := 11) (by kernel_rfl) rfl rfl rfl rfl rfl rfl (cells := [.bool (ngB (x * y).num), .slice A9 (digs 10000 (x * y).num.natAbs).length c9, .slice D9 (digs 10000 (x * y).den).length e9]) rfl BR0 rfl (by kernel_rfl) (zF9 rfl rfl rfl) fun w9 hg9 B9 => ?_
  have k9 := off q10 BR0 zD2 hg9
  have d9 := off d10 BR0 zD2 hg9
  have f9 := f10.mono (show w.heap.size <= _ from s_10)
  have bb9 := bb.trans ((Below.refl _ _).grown hg9 bb.size (fun g hg => by injection hg with hg; omega))
  obtain ⟨C0, C1, C2, _, _, _⟩ := three B9
  refine zF2 (by kernel_rfl) ?_
  go_wp2
  exact bodyPost_ret (v := .agg #[.bool (ngB (x * y).num), .slice A9 (digs 10000 (x * y).num.natAbs).length c9, .slice D9 (digs 10000 (x * y).den).length e9]) (by simp [results, Tryz.results45, go_sem, C0, C1, C2]) rfl ⟨_, rfl, ⟨_, _, rfl, k9, d9⟩, f9, bb9⟩
theorem qG5 (a0 : Value) (q : Rat) (b : Bool) (w : World) (h0 : IsP w a0 q) (hb : b = decide (q = 0)) :
  Calls Tryz.prog 21 #[a0] w (zD7 (.bool b) w) := by
 have HB : Hid (((((digs 10000 q.num.natAbs).length : Nat) : Int) == 0) = b) := by
  show _ = _
  have h1 := zU7 (B := 10000) (by omega) (x := q.num.natAbs)
  rw [hb, Bool.eq_iff_iff, beq_iff_eq, decide_eq_true_eq, <- Rat.num_eq_zero]
  omega
 clear hb
 obtain ⟨u0, t0, rfl, s0, r0⟩ := h0
 obtain ⟨A0, c0, rfl, _⟩ := id s0
 obtain ⟨D0, e0, rfl, _⟩ := id r0
 go_enter Tryz.func21, Tryz.ntmps21
 go_upto_region 1 with (fail)
 obtain ⟨wx, hwx, bb, B0, hsz⟩ := zQ3 w 55 #[.bool (ngB (q).num), .slice A0 (digs 10000 (q).num.natAbs).length c0, .slice D0 (digs 10000 (q).den).length e0]
 rw [hwx]
 clear hwx
 have k0s := s0.below bb
 have k0d := r0.below bb
 have k0z : IsR wx (.agg #[.bool (ngB (q).num), .slice A0 (digs 10000 (q).num.natAbs).length c0]) (q).num := ⟨_, rfl, k0s⟩
 have k0 : IsP wx (.agg #[.bool (ngB (q).num), .slice A0 (digs 10000 (q).num.natAbs).length c0, .slice D0 (digs 10000 (q).den).length e0]) (q) := ⟨_, _, rfl, k0s, k0d⟩
 have hsz0 := bb.size
 have sB := bb.size
 refine zC5 6 [Pd.eq (.pointer (some ⟨w.heap.size, 0, none⟩)), Pd.eq (.pointer (some ⟨w.heap.size, 1, none⟩)), Pd.eq (.slice A0 (digs 10000 (q).num.natAbs).length c0), Pd.eq (.int .i64 (((digs 10000 (q).num.natAbs).length : Nat) : Int)), Pd.eq (.bool b), Pd.eq (.bool b)] (by kernel_rfl) ?ob15 ?done15
 case ob15 =>
  refine zA (zC0 rfl (zB6 rfl) (zB8 rfl rfl) (fun _ => by kernel_rfl) (fun _ => rfl)) ?_
  refine zA (zC0 rfl (zB6 rfl) (zB7 (j := 0) (by kernel_rfl) rfl rfl) (fun _ => by kernel_rfl) (fun _ => rfl)) ?_
  refine zA (zB9 rfl (zB6 rfl) (zB7 (j := 1) (by kernel_rfl) rfl rfl) (fun w2 hb => zC2 Tryz.underlying51 rfl ((B0.below hb).cell 1)) (fun _ _ => rfl)) ?_
  refine zA (zI8 rfl (zB6 rfl) (zB7 (j := 2) (by kernel_rfl) rfl rfl) (fun _ _ hx => ⟨_, by rw [hx]; exact zI9 Tryz.underlying51 _ _ _ _, rfl⟩)) ?_
  refine zA (zE6 rfl (zB6 rfl) (zB7 (j := 3) (by kernel_rfl) rfl rfl) (zF0 _) (fun _ _ _ hx hy => ⟨.bool b, by rw [hx, hy, zP3, HB.out], rfl⟩)) ?_
  refine zA (zD4 rfl (zB6 rfl) (zB7 (j := 4) (by kernel_rfl) rfl rfl) (fun _ _ h => h)) ?_
  trivial
 case done15 =>
  refine fun w11 hb11 v0 h0 v1 h1 v2 h2 v3 h3 v4 h4 v5 h5 b hbf => ?_
  obtain rfl := h0; obtain rfl := h1; obtain rfl := h2; obtain rfl := h3; obtain rfl := h4; obtain rfl := h5
  simp only [Act.put, zA0, zA2, zA1] at hbf
  subst hbf
  replace B0 := B0.below hb11
  replace k0s := k0s.below hb11
  replace k0d := k0d.below hb11
  replace k0z := k0z.below hb11
  replace k0 := k0.below hb11
  replace bb := bb.trans (hb11.mono bb.size)
  have hsz11 := bb.size
  refine zC6 ?_
  go_wp2
  go_ret
  exact ⟨rfl, bb⟩
theorem yO4 (n : Int) (w : World) (h1 : -9223372036854775807 <= n) (h2 : n <= 9223372036854775807) :
  Calls Tryz.prog 80 #[.int .i64 n] w (zN1 n w) := by
 by_cases hn : n < 0
 ·have HZ : Hid (sg true n.natAbs = n) := by show _ = _; rw [zR9]; omega
  go_enter Tryz.func80, Tryz.ntmps80
  go_upto_region 1 with (fail)
  obtain ⟨wx, hwx, bb, BR0, hsz⟩ := zQ3 w 53 #[.bool false, .slice none 0 0]
  rw [hwx]
  clear hwx
  go_upto_region 2 with (fail)
  refine zC5 4 [Pd.eq (.int .i64 n), Pd.eq (.int .i64 (-n)), ps .i64 (digs 10000 n.natAbs) wx.heap.size, pr (n)] (by kernel_rfl) ?ob16 ?done16
  case ob16 =>
   refine zA (zC1 rfl (zB6 rfl) (zB8 rfl rfl) (fun _ _ h => h)) ?_
   refine zA (zR8 rfl (zB6 rfl) (zB7 (j := 0) (by kernel_rfl) rfl rfl) (fun _ => un_neg _ _ (by omega)) (fun _ => rfl)) ?_
   refine zA (zE4 rfl Tryz.func81 (by kernel_rfl) (zB6 rfl) (zB7 (j := 1) (by kernel_rfl) rfl rfl) (fun w2 u0 hb h0 => by obtain rfl := h0; exact (qM9 _ n.natAbs _ (by omega) (by omega)).mono fun e w3 h => zD1.pd h hb.size)) ?_
   refine zA (zD rfl Tryz.func111 (by kernel_rfl) (zB6 rfl) (zF0 _) (zB7 (j := 2) (by kernel_rfl) rfl rfl) (fun w2 u0 u1 hb h0 h1 => by obtain rfl := h0; exact zP4 _ _ _ n _ h1.1 HZ.out)) ?_
   trivial
  case done16 =>
   refine fun w1 hb1 v0 h0 v1 h1 v2 h2 v3 h3 b hbf => ?_
   obtain rfl := h0; obtain rfl := h1
   obtain ⟨q2, f2⟩ := h2
   have q3 := h3
   simp only [Act.put, zA0, zA2, zA1] at hbf
   subst hbf
   replace BR0 := BR0.below hb1
   replace bb := bb.trans (hb1.mono bb.size)
   have hsz1 := bb.size
   obtain ⟨u3, rfl, q3⟩ := q3
   obtain ⟨A9, c9, rfl, _⟩ := id q3
   refine zH2 (i := 4) rfl rfl rfl rfl rfl rfl (cells := [.bool (ngB n), .slice A9 (digs 10000 n.natAbs).length c9]) rfl BR0 rfl (by kernel_rfl) (zG6 rfl rfl) fun w9 hg9 B9 => ?_
   have k9 := off q3 BR0 zD3 hg9
   have bb9 := bb.trans ((Below.refl _ _).grown hg9 bb.size (fun g hg => by injection hg with hg; omega))
   obtain ⟨c0, c1, _, _⟩ := Blk.two B9
   refine zC6 ?_
   go_wp2
   exact bodyPost_ret (v := .agg #[.bool (ngB n), .slice A9 (digs 10000 n.natAbs).length c9]) (by simp [results, Tryz.results80, go_sem, c0, c1]) rfl ⟨_, rfl, ⟨_, rfl, k9⟩, bb9⟩
 ·have HZ : Hid (sg false n.natAbs = n) := by show _ = _; rw [zS]; omega
  go_enter Tryz.func80, Tryz.ntmps80
  go_upto_region 1 with (fail)
  obtain ⟨wx, hwx, bb, BR0, hsz⟩ := zQ3 w 53 #[.bool false, .slice none 0 0]
  rw [hwx]
  clear hwx
  go_upto_region 3 with (fail)
  refine zC5 3 [Pd.eq (.int .i64 n), ps .i64 (digs 10000 n.natAbs) wx.heap.size, pr (n)] (by kernel_rfl) ?ob17 ?done17
  case ob17 =>
   refine zA (zC1 rfl (zB6 rfl) (zB8 rfl rfl) (fun _ _ h => h)) ?_
   refine zA (zE4 rfl Tryz.func81 (by kernel_rfl) (zB6 rfl) (zB7 (j := 0) (by kernel_rfl) rfl rfl) (fun w2 u0 hb h0 => by obtain rfl := h0; exact (qM9 _ n.natAbs _ (by omega) (by omega)).mono fun e w3 h => zD1.pd h hb.size)) ?_
   refine zA (zD rfl Tryz.func111 (by kernel_rfl) (zB6 rfl) (zF0 _) (zB7 (j := 1) (by kernel_rfl) rfl rfl) (fun w2 u0 u1 hb h0 h1 => by obtain rfl := h0; exact zP4 _ _ _ n _ h1.1 HZ.out)) ?_
   trivial
  case done17 =>
   refine fun w1 hb1 v0 h0 v1 h1 v2 h2 b hbf => ?_
   obtain rfl := h0
   obtain ⟨q1, f1⟩ := h1
   have q2 := h2
   simp only [Act.put, zA0, zA2, zA1] at hbf
   subst hbf
   replace BR0 := BR0.below hb1
   replace bb := bb.trans (hb1.mono bb.size)
   have hsz1 := bb.size
   obtain ⟨u2, rfl, q2⟩ := q2
   obtain ⟨A9, c9, rfl, _⟩ := id q2
   refine zH2 (i := 3) rfl rfl rfl rfl rfl rfl (cells := [.bool (ngB n), .slice A9 (digs 10000 n.natAbs).length c9]) rfl BR0 rfl (by kernel_rfl) (zG6 rfl rfl) fun w9 hg9 B9 => ?_
   have k9 := off q2 BR0 zD3 hg9
   have bb9 := bb.trans ((Below.refl _ _).grown hg9 bb.size (fun g hg => by injection hg with hg; omega))
   obtain ⟨c0, c1, _, _⟩ := Blk.two B9
   refine zC6 ?_
   go_wp2
   exact bodyPost_ret (v := .agg #[.bool (ngB n), .slice A9 (digs 10000 n.natAbs).length c9]) (by simp [results, Tryz.results80, go_sem, c0, c1]) rfl ⟨_, rfl, ⟨_, rfl, k9⟩, bb9⟩
theorem qX8 (n : Int) (d : Int) (w : World)  (dn : Nat) (hd : d = (dn : Int)) (h1 : -9223372036854775807 <= n) (h2 : n <= 9223372036854775807) (h3 : dn ≠ 0) (h4 : dn <= 9223372036854775807) :
  Calls Tryz.prog 44 #[.int .i64 n, .int .i64 d] w (zM2 (mkRat n dn) w) := by
 have HLZ : Hid (zD0 n <= 30000) := zB4 (dig32 (by omega)) (by decide)
 have HLD : Hid ((digs 4294967296 dn).length <= 30000) := zB4 (dig32 (by omega)) (by decide)
 go_enter Tryz.func44, Tryz.ntmps44
 go_upto_region 1 with (fail)
 obtain ⟨wx, hwx, bb, BR0, hsz⟩ := zQ3 w 55 #[.bool false, .slice none 0 0, .slice none 0 0]
 rw [hwx]
 clear hwx
 have hsz0 := bb.size
 have sB := bb.size
 refine zC5 5 [Pd.eq (.int .i64 n), pr (n), Pd.eq (.int .i64 d), ps .i64 (digs 10000 dn) wx.heap.size, ppf (mkRat n dn) wx.heap.size] (by kernel_rfl) ?ob18 ?done18
 case ob18 =>
  refine zA (zC1 rfl (zB6 rfl) (zB8 rfl rfl) (fun _ _ h => h)) ?_
  refine zA (zE4 rfl Tryz.func80 (by kernel_rfl) (zB6 rfl) (zB7 (j := 0) (by kernel_rfl) rfl rfl) (fun w2 u0 hb h0 => by obtain rfl := h0; exact (yO4 n _ h1 h2).mono fun e w3 h => zN1.pd h)) ?_
  refine zA (zC1 rfl (zB6 rfl) (zB8 rfl rfl) (fun _ _ h => h)) ?_
  refine zA (zE4 rfl Tryz.func81 (by kernel_rfl) (zB6 rfl) (zB7 (j := 2) (by kernel_rfl) rfl rfl) (fun w2 u0 hb h0 => by obtain rfl := h0; exact (qM9 _ dn _ hd h4).mono fun e w3 h => zD1.pd h hb.size)) ?_
  refine zA (zD rfl Tryz.func79 (by kernel_rfl) (zB6 rfl) (zB7 (j := 1) (by kernel_rfl) rfl rfl) (zB7 (j := 3) (by kernel_rfl) rfl rfl) (fun w2 u0 u1 hb h0 h1 => by exact (qB4 _ n _ dn _ h0 h1.1 h3 HLZ.out HLD.out).mono fun e w3 h => zM2.pdf h hb.size)) ?_
  trivial
 case done18 =>
  refine fun w11 hb11 v0 h0 v1 h1 v2 h2 v3 h3 v4 h4 b hbf => ?_
  obtain rfl := h0; obtain rfl := h2
  have q1 := h1
  obtain ⟨q3, f3⟩ := h3
  obtain ⟨q4, f4⟩ := h4
  simp only [Act.put, zA0, zA2, zA1] at hbf
  subst hbf
  replace BR0 := BR0.below hb11
  replace bb := bb.trans (hb11.mono bb.size)
  have hsz11 := bb.size
  have s_3 := sB
  have s_4 := sB
  obtain ⟨u4, t4, rfl, q4, d4⟩ := q4
  obtain ⟨A9, c9, rfl, _⟩ := id q4
  obtain ⟨D9, e9, rfl, _⟩ := id d4
  refine zH2 (i := 5) rfl rfl rfl rfl rfl rfl (cells := [.bool (ngB (mkRat n dn).num), .slice A9 (digs 10000 (mkRat n dn).num.natAbs).length c9, .slice D9 (digs 10000 (mkRat n dn).den).length e9]) rfl BR0 rfl (by kernel_rfl) (zF9 rfl rfl rfl) fun w9 hg9 B9 => ?_
  have k9 := off q4 BR0 zD2 hg9
  have d9 := off d4 BR0 zD2 hg9
  have f9 := f4.mono (show w.heap.size <= _ from s_4)
  have bb9 := bb.trans ((Below.refl _ _).grown hg9 bb.size (fun g hg => by injection hg with hg; omega))
  obtain ⟨C0, C1, C2, _, _, _⟩ := three B9
  refine zC6 ?_
  go_wp2
  exact bodyPost_ret (v := .agg #[.bool (ngB (mkRat n dn).num), .slice A9 (digs 10000 (mkRat n dn).num.natAbs).length c9, .slice D9 (digs 10000 (mkRat n dn).den).length e9]) (by simp [results, Tryz.results44, go_sem, C0, C1, C2]) rfl ⟨_, rfl, ⟨_, _, rfl, k9, d9⟩, f9, bb9⟩
theorem qX9 (a0 : Value) (x : Int) (a1 : Value) (y : Int) (b : Bool) (w : World) (h0 : IsZ w a0 x) (h1 : IsZ w a1 y) (hb : b = decide (x = y)) :
  Calls Tryz.prog 48 #[a0, a1] w (zD7 (.bool b) w) := by
 rcases hs0 : ngB x with _ | _ <;> rcases hs1 : ngB y with _ | _
 ·have HB : Hid (b = decide (x.natAbs = y.natAbs)) := by show _ = _; rw [hb, decide_eq_decide]; have := zM hs0; have := zM hs1; omega
  clear hb
  obtain ⟨u0, rfl, s0⟩ := h0
  obtain ⟨A0, c0, rfl, _⟩ := id s0
  obtain ⟨u1, rfl, s1⟩ := h1
  obtain ⟨A1, c1, rfl, _⟩ := id s1
  go_enter Tryz.func48, Tryz.ntmps48
  go_upto_region 1 with (fail)
  obtain ⟨wx, hwx, bb, B0, B1, hsz⟩ := zG4 w 42 42 #[.bool false, .slice A0 (digs 4294967296 (x).natAbs).length c0] #[.bool false, .slice A1 (digs 4294967296 (y).natAbs).length c1]
  rw [hwx]
  clear hwx
  have k0s := s0.below bb
  have k0 : IsZ wx (.agg #[.bool false, .slice A0 (digs 4294967296 (x).natAbs).length c0]) (x) := zF5 k0s rfl hs0.symm
  have k1s := s1.below bb
  have k1 : IsZ wx (.agg #[.bool false, .slice A1 (digs 4294967296 (y).natAbs).length c1]) (y) := zF5 k1s rfl hs1.symm
  have hsz0 := bb.size
  have sB := bb.size
  refine zC5 13 [Pd.eq (.pointer (some ⟨w.heap.size, 0, none⟩)), Pd.eq (.bool false), Pd.eq (.pointer (some ⟨w.heap.size + 1, 0, none⟩)), Pd.eq (.bool false), Pd.eq (.bool true), Pd.eq (.bool true), Pd.eq (.pointer (some ⟨w.heap.size, 1, none⟩)), Pd.eq (.slice A0 (digs 4294967296 (x).natAbs).length c0), Pd.eq (.pointer (some ⟨w.heap.size + 1, 1, none⟩)), Pd.eq (.slice A1 (digs 4294967296 (y).natAbs).length c1), Pd.eq (.bool b), Pd.eq (.bool b), Pd.eq (.bool b)] (by kernel_rfl) ?ob20 ?done20
  case ob20 =>
   refine zA (zC0 rfl (zB6 rfl) (zB8 rfl rfl) (fun _ => by kernel_rfl) (fun _ => rfl)) ?_
   refine zA (zB9 rfl (zB6 rfl) (zB7 (j := 0) (by kernel_rfl) rfl rfl) (fun w2 hb => zC2 Tryz.underlying4 rfl ((B0.below hb).cell 0)) (fun _ _ => rfl)) ?_
   refine zA (zC0 rfl (zB6 rfl) (zB8 rfl rfl) (fun _ => by kernel_rfl) (fun _ => rfl)) ?_
   refine zA (zB9 rfl (zB6 rfl) (zB7 (j := 2) (by kernel_rfl) rfl rfl) (fun w2 hb => zC2 Tryz.underlying4 rfl ((B1.below hb).cell 0)) (fun _ _ => rfl)) ?_
   refine zA (zE6 rfl (zB6 rfl) (zB7 (j := 1) (by kernel_rfl) rfl rfl) (zB7 (j := 3) (by kernel_rfl) rfl rfl) (fun _ _ _ hx hy => ⟨.bool (false == false), by rw [hx, hy]; exact zL0 _ _ _ _ Tryz.underlying4 _, rfl⟩)) ?_
   refine zA (zC1 rfl (zB6 rfl) (zB7 (j := 4) (by kernel_rfl) rfl rfl) (fun _ _ h => h)) ?_
   refine zA (zC0 rfl (zC9 (c := true) (b := true) (g := 5) rfl (by kernel_rfl) rfl rfl rfl (by exact fun _ _ h => h)) (zB8 rfl rfl) (fun _ => by kernel_rfl) (fun _ => rfl)) ?_
   refine zA (zB9 rfl (zC9 (c := true) (b := true) (g := 5) rfl (by kernel_rfl) rfl rfl rfl (by exact fun _ _ h => h)) (zB7 (j := 6) (by kernel_rfl) rfl rfl) (fun w2 hb => zC2 Tryz.underlying40 rfl ((B0.below hb).cell 1)) (fun _ _ => rfl)) ?_
   refine zA (zC0 rfl (zC9 (c := true) (b := true) (g := 5) rfl (by kernel_rfl) rfl rfl rfl (by exact fun _ _ h => h)) (zB8 rfl rfl) (fun _ => by kernel_rfl) (fun _ => rfl)) ?_
   refine zA (zB9 rfl (zC9 (c := true) (b := true) (g := 5) rfl (by kernel_rfl) rfl rfl rfl (by exact fun _ _ h => h)) (zB7 (j := 8) (by kernel_rfl) rfl rfl) (fun w2 hb => zC2 Tryz.underlying40 rfl ((B1.below hb).cell 1)) (fun _ _ => rfl)) ?_
   refine zA (zD rfl Tryz.func49 (by kernel_rfl) (zC9 (c := true) (b := true) (g := 5) rfl (by kernel_rfl) rfl rfl rfl (by exact fun _ _ h => h)) (zB7 (j := 7) (by kernel_rfl) rfl rfl) (zB7 (j := 9) (by kernel_rfl) rfl rfl) (fun w2 u0 u1 hb h0 h1 => by obtain rfl := h0; obtain rfl := h1; exact (qL0 _ _ x.natAbs y.natAbs b _ (k0s.below hb) (k1s.below hb) HB.out).mono fun e w3 h => zD7.pd h)) ?_
   refine zA (zJ4 (b := true) rfl (zB6 rfl) (zB7 (j := 5) (by kernel_rfl) rfl rfl) (zB7 (j := 10) (by kernel_rfl) rfl rfl) (fun _ _ h => h)) ?_
   refine zA (zD4 rfl (zB6 rfl) (zB7 (j := 11) (by kernel_rfl) rfl rfl) (fun _ _ h => h)) ?_
   trivial
  case done20 =>
   refine fun w11 hb11 v0 h0 v1 h1 v2 h2 v3 h3 v4 h4 v5 h5 v6 h6 v7 h7 v8 h8 v9 h9 v10 h10 v11 h11 v12 h12 b hbf => ?_
   obtain rfl := h0; obtain rfl := h1; obtain rfl := h2; obtain rfl := h3; obtain rfl := h4; obtain rfl := h5; obtain rfl := h6; obtain rfl := h7; obtain rfl := h8; obtain rfl := h9; obtain rfl := h10; obtain rfl := h11; obtain rfl := h12
   simp only [Act.put, zA0, zA2, zA1] at hbf
   subst hbf
   replace B0 := B0.below hb11
   replace k0s := k0s.below hb11
   replace k0 := k0.below hb11
   replace B1 := B1.below hb11
   replace k1s := k1s.below hb11
   replace k1 := k1.below hb11
   replace bb := bb.trans (hb11.mono bb.size)
   have hsz11 := bb.size
   refine zC6 ?_
   go_wp2
   go_ret
   exact ⟨rfl, bb⟩
 ·obtain rfl : b = false := by rw [hb, decide_eq_false_iff_not]; have := zM hs0; have := zL5 hs1; omega
  clear hb
  obtain ⟨u0, rfl, s0⟩ := h0
  obtain ⟨A0, c0, rfl, _⟩ := id s0
  obtain ⟨u1, rfl, s1⟩ := h1
  obtain ⟨A1, c1, rfl, _⟩ := id s1
  go_enter Tryz.func48, Tryz.ntmps48
  go_upto_region 1 with (fail)
  obtain ⟨wx, hwx, bb, B0, B1, hsz⟩ := zG4 w 42 42 #[.bool false, .slice A0 (digs 4294967296 (x).natAbs).length c0] #[.bool true, .slice A1 (digs 4294967296 (y).natAbs).length c1]
  rw [hwx]
  clear hwx
  have k0s := s0.below bb
  have k0 : IsZ wx (.agg #[.bool false, .slice A0 (digs 4294967296 (x).natAbs).length c0]) (x) := zF5 k0s rfl hs0.symm
  have k1s := s1.below bb
  have k1 : IsZ wx (.agg #[.bool true, .slice A1 (digs 4294967296 (y).natAbs).length c1]) (y) := zF5 k1s rfl hs1.symm
  have hsz0 := bb.size
  have sB := bb.size
  refine zC5 13 [Pd.eq (.pointer (some ⟨w.heap.size, 0, none⟩)), Pd.eq (.bool false), Pd.eq (.pointer (some ⟨w.heap.size + 1, 0, none⟩)), Pd.eq (.bool true), Pd.eq (.bool false), Pd.eq (.bool false), Pd.any, Pd.any, Pd.any, Pd.any, Pd.any, Pd.eq (.bool false), Pd.eq (.bool false)] (by kernel_rfl) ?ob21 ?done21
  case ob21 =>
   refine zA (zC0 rfl (zB6 rfl) (zB8 rfl rfl) (fun _ => by kernel_rfl) (fun _ => rfl)) ?_
   refine zA (zB9 rfl (zB6 rfl) (zB7 (j := 0) (by kernel_rfl) rfl rfl) (fun w2 hb => zC2 Tryz.underlying4 rfl ((B0.below hb).cell 0)) (fun _ _ => rfl)) ?_
   refine zA (zC0 rfl (zB6 rfl) (zB8 rfl rfl) (fun _ => by kernel_rfl) (fun _ => rfl)) ?_
   refine zA (zB9 rfl (zB6 rfl) (zB7 (j := 2) (by kernel_rfl) rfl rfl) (fun w2 hb => zC2 Tryz.underlying4 rfl ((B1.below hb).cell 0)) (fun _ _ => rfl)) ?_
   refine zA (zE6 rfl (zB6 rfl) (zB7 (j := 1) (by kernel_rfl) rfl rfl) (zB7 (j := 3) (by kernel_rfl) rfl rfl) (fun _ _ _ hx hy => ⟨.bool (false == true), by rw [hx, hy]; exact zL0 _ _ _ _ Tryz.underlying4 _, rfl⟩)) ?_
   refine zA (zC1 rfl (zB6 rfl) (zB7 (j := 4) (by kernel_rfl) rfl rfl) (fun _ _ h => h)) ?_
   refine zA (zF1 (zC9 (c := false) (b := true) (g := 5) rfl (by kernel_rfl) rfl rfl rfl (by exact fun _ _ h => h)) (fun _ => trivial) rfl) ?_
   refine zA (zF1 (zC9 (c := false) (b := true) (g := 5) rfl (by kernel_rfl) rfl rfl rfl (by exact fun _ _ h => h)) (fun _ => trivial) rfl) ?_
   refine zA (zF1 (zC9 (c := false) (b := true) (g := 5) rfl (by kernel_rfl) rfl rfl rfl (by exact fun _ _ h => h)) (fun _ => trivial) rfl) ?_
   refine zA (zF1 (zC9 (c := false) (b := true) (g := 5) rfl (by kernel_rfl) rfl rfl rfl (by exact fun _ _ h => h)) (fun _ => trivial) rfl) ?_
   refine zA (zF1 (zC9 (c := false) (b := true) (g := 5) rfl (by kernel_rfl) rfl rfl rfl (by exact fun _ _ h => h)) (fun _ => trivial) rfl) ?_
   refine zA (zJ4 (b := false) rfl (zB6 rfl) (zB7 (j := 5) (by kernel_rfl) rfl rfl) (zF0 _) (fun _ _ h => h)) ?_
   refine zA (zD4 rfl (zB6 rfl) (zB7 (j := 11) (by kernel_rfl) rfl rfl) (fun _ _ h => h)) ?_
   trivial
  case done21 =>
   refine fun w11 hb11 v0 h0 v1 h1 v2 h2 v3 h3 v4 h4 v5 h5 v6 h6 v7 h7 v8 h8 v9 h9 v10 h10 v11 h11 v12 h12 b hbf => ?_
   obtain rfl := h0; obtain rfl := h1; obtain rfl := h2; obtain rfl := h3; obtain rfl := h4; obtain rfl := h5; obtain rfl := h11; obtain rfl := h12
   clear h6
   clear h7
   clear h8
   clear h9
   clear h10
   simp only [Act.put, zA0, zA2, zA1] at hbf
   subst hbf
   replace B0 := B0.below hb11
   replace k0s := k0s.below hb11
   replace k0 := k0.below hb11
   replace B1 := B1.below hb11
   replace k1s := k1s.below hb11
   replace k1 := k1.below hb11
   replace bb := bb.trans (hb11.mono bb.size)
   have hsz11 := bb.size
   refine zC6 ?_
   go_wp2
   go_ret
   exact ⟨rfl, bb⟩
 ·obtain rfl : b = false := by rw [hb, decide_eq_false_iff_not]; have := zL5 hs0; have := zM hs1; omega
  clear hb
  obtain ⟨u0, rfl, s0⟩ := h0
  obtain ⟨A0, c0, rfl, _⟩ := id s0
  obtain ⟨u1, rfl, s1⟩ := h1
  obtain ⟨A1, c1, rfl, _⟩ := id s1
  go_enter Tryz.func48, Tryz.ntmps48
  go_upto_region 1 with (fail)
  obtain ⟨wx, hwx, bb, B0, B1, hsz⟩ := zG4 w 42 42 #[.bool true, .slice A0 (digs 4294967296 (x).natAbs).length c0] #[.bool false, .slice A1 (digs 4294967296 (y).natAbs).length c1]
  rw [hwx]
  clear hwx
  have k0s := s0.below bb
  have k0 : IsZ wx (.agg #[.bool true, .slice A0 (digs 4294967296 (x).natAbs).length c0]) (x) := zF5 k0s rfl hs0.symm
  have k1s := s1.below bb
  have k1 : IsZ wx (.agg #[.bool false, .slice A1 (digs 4294967296 (y).natAbs).length c1]) (y) := zF5 k1s rfl hs1.symm
  have hsz0 := bb.size
  have sB := bb.size
  refine zC5 13 [Pd.eq (.pointer (some ⟨w.heap.size, 0, none⟩)), Pd.eq (.bool true), Pd.eq (.pointer (some ⟨w.heap.size + 1, 0, none⟩)), Pd.eq (.bool false), Pd.eq (.bool false), Pd.eq (.bool false), Pd.any, Pd.any, Pd.any, Pd.any, Pd.any, Pd.eq (.bool false), Pd.eq (.bool false)] (by kernel_rfl) ?ob22 ?done22
  case ob22 =>
   refine zA (zC0 rfl (zB6 rfl) (zB8 rfl rfl) (fun _ => by kernel_rfl) (fun _ => rfl)) ?_
   refine zA (zB9 rfl (zB6 rfl) (zB7 (j := 0) (by kernel_rfl) rfl rfl) (fun w2 hb => zC2 Tryz.underlying4 rfl ((B0.below hb).cell 0)) (fun _ _ => rfl)) ?_
   refine zA (zC0 rfl (zB6 rfl) (zB8 rfl rfl) (fun _ => by kernel_rfl) (fun _ => rfl)) ?_
   refine zA (zB9 rfl (zB6 rfl) (zB7 (j := 2) (by kernel_rfl) rfl rfl) (fun w2 hb => zC2 Tryz.underlying4 rfl ((B1.below hb).cell 0)) (fun _ _ => rfl)) ?_
   refine zA (zE6 rfl (zB6 rfl) (zB7 (j := 1) (by kernel_rfl) rfl rfl) (zB7 (j := 3) (by kernel_rfl) rfl rfl) (fun _ _ _ hx hy => ⟨.bool (true == false), by rw [hx, hy]; exact zL0 _ _ _ _ Tryz.underlying4 _, rfl⟩)) ?_
   refine zA (zC1 rfl (zB6 rfl) (zB7 (j := 4) (by kernel_rfl) rfl rfl) (fun _ _ h => h)) ?_
   refine zA (zF1 (zC9 (c := false) (b := true) (g := 5) rfl (by kernel_rfl) rfl rfl rfl (by exact fun _ _ h => h)) (fun _ => trivial) rfl) ?_
   refine zA (zF1 (zC9 (c := false) (b := true) (g := 5) rfl (by kernel_rfl) rfl rfl rfl (by exact fun _ _ h => h)) (fun _ => trivial) rfl) ?_
   refine zA (zF1 (zC9 (c := false) (b := true) (g := 5) rfl (by kernel_rfl) rfl rfl rfl (by exact fun _ _ h => h)) (fun _ => trivial) rfl) ?_
   refine zA (zF1 (zC9 (c := false) (b := true) (g := 5) rfl (by kernel_rfl) rfl rfl rfl (by exact fun _ _ h => h)) (fun _ => trivial) rfl) ?_
   refine zA (zF1 (zC9 (c := false) (b := true) (g := 5) rfl (by kernel_rfl) rfl rfl rfl (by exact fun _ _ h => h)) (fun _ => trivial) rfl) ?_
   refine zA (zJ4 (b := false) rfl (zB6 rfl) (zB7 (j := 5) (by kernel_rfl) rfl rfl) (zF0 _) (fun _ _ h => h)) ?_
   refine zA (zD4 rfl (zB6 rfl) (zB7 (j := 11) (by kernel_rfl) rfl rfl) (fun _ _ h => h)) ?_
   trivial
  case done22 =>
   refine fun w11 hb11 v0 h0 v1 h1 v2 h2 v3 h3 v4 h4 v5 h5 v6 h6 v7 h7 v8 h8 v9 h9 v10 h10 v11 h11 v12 h12 b hbf => ?_
   obtain rfl := h0; obtain rfl := h1; obtain rfl := h2; obtain rfl := h3; obtain rfl := h4; obtain rfl := h5; obtain rfl := h11; obtain rfl := h12
   clear h6
   clear h7
   clear h8
   clear h9
   clear h10
   simp only [Act.put, zA0, zA2, zA1] at hbf
   subst hbf
   replace B0 := B0.below hb11
   replace k0s := k0s.below hb11
   replace k0 := k0.below hb11
   replace B1 := B1.below hb11
   replace k1s := k1s.below hb11
   replace k1 := k1.below hb11
   replace bb := bb.trans (hb11.mono bb.size)
   have hsz11 := bb.size
   refine zC6 ?_
   go_wp2
   go_ret
   exact ⟨rfl, bb⟩
 ·have HB : Hid (b = decide (x.natAbs = y.natAbs)) := by show _ = _; rw [hb, decide_eq_decide]; have := zL5 hs0; have := zL5 hs1; omega
  clear hb
  obtain ⟨u0, rfl, s0⟩ := h0
  obtain ⟨A0, c0, rfl, _⟩ := id s0
  obtain ⟨u1, rfl, s1⟩ := h1
  obtain ⟨A1, c1, rfl, _⟩ := id s1
  go_enter Tryz.func48, Tryz.ntmps48
  go_upto_region 1 with (fail)
  obtain ⟨wx, hwx, bb, B0, B1, hsz⟩ := zG4 w 42 42 #[.bool true, .slice A0 (digs 4294967296 (x).natAbs).length c0] #[.bool true, .slice A1 (digs 4294967296 (y).natAbs).length c1]
  rw [hwx]
  clear hwx
  have k0s := s0.below bb
  have k0 : IsZ wx (.agg #[.bool true, .slice A0 (digs 4294967296 (x).natAbs).length c0]) (x) := zF5 k0s rfl hs0.symm
  have k1s := s1.below bb
  have k1 : IsZ wx (.agg #[.bool true, .slice A1 (digs 4294967296 (y).natAbs).length c1]) (y) := zF5 k1s rfl hs1.symm
  have hsz0 := bb.size
  have sB := bb.size
  refine zC5 13 [Pd.eq (.pointer (some ⟨w.heap.size, 0, none⟩)), Pd.eq (.bool true), Pd.eq (.pointer (some ⟨w.heap.size + 1, 0, none⟩)), Pd.eq (.bool true), Pd.eq (.bool true), Pd.eq (.bool true), Pd.eq (.pointer (some ⟨w.heap.size, 1, none⟩)), Pd.eq (.slice A0 (digs 4294967296 (x).natAbs).length c0), Pd.eq (.pointer (some ⟨w.heap.size + 1, 1, none⟩)), Pd.eq (.slice A1 (digs 4294967296 (y).natAbs).length c1), Pd.eq (.bool b), Pd.eq (.bool b), Pd.eq (.bool b)] (by kernel_rfl) ?ob23 ?done23
  case ob23 =>
   refine zA (zC0 rfl (zB6 rfl) (zB8 rfl rfl) (fun _ => by kernel_rfl) (fun _ => rfl)) ?_
   refine zA (zB9 rfl (zB6 rfl) (zB7 (j := 0) (by kernel_rfl) rfl rfl) (fun w2 hb => zC2 Tryz.underlying4 rfl ((B0.below hb).cell 0)) (fun _ _ => rfl)) ?_
   refine zA (zC0 rfl (zB6 rfl) (zB8 rfl rfl) (fun _ => by kernel_rfl) (fun _ => rfl)) ?_
   refine zA (zB9 rfl (zB6 rfl) (zB7 (j := 2) (by kernel_rfl) rfl rfl) (fun w2 hb => zC2 Tryz.underlying4 rfl ((B1.below hb).cell 0)) (fun _ _ => rfl)) ?_
   refine zA (zE6 rfl (zB6 rfl) (zB7 (j := 1) (by kernel_rfl) rfl rfl) (zB7 (j := 3) (by kernel_rfl) rfl rfl) (fun _ _ _ hx hy => ⟨.bool (true == true), by rw [hx, hy]; exact zL0 _ _ _ _ Tryz.underlying4 _, rfl⟩)) ?_
   refine zA (zC1 rfl (zB6 rfl) (zB7 (j := 4) (by kernel_rfl) rfl rfl) (fun _ _ h => h)) ?_
   refine zA (zC0 rfl (zC9 (c := true) (b := true) (g := 5) rfl (by kernel_rfl) rfl rfl rfl (by exact fun _ _ h => h)) (zB8 rfl rfl) (fun _ => by kernel_rfl) (fun _ => rfl)) ?_
   refine zA (zB9 rfl (zC9 (c := true) (b := true) (g := 5) rfl (by kernel_rfl) rfl rfl rfl (by exact fun _ _ h => h)) (zB7 (j := 6) (by kernel_rfl) rfl rfl) (fun w2 hb => zC2 Tryz.underlying40 rfl ((B0.below hb).cell 1)) (fun _ _ => rfl)) ?_
   refine zA (zC0 rfl (zC9 (c := true) (b := true) (g := 5) rfl (by kernel_rfl) rfl rfl rfl (by exact fun _ _ h => h)) (zB8 rfl rfl) (fun _ => by kernel_rfl) (fun _ => rfl)) ?_
   refine zA (zB9 rfl (zC9 (c := true) (b := true) (g := 5) rfl (by kernel_rfl) rfl rfl rfl (by exact fun _ _ h => h)) (zB7 (j := 8) (by kernel_rfl) rfl rfl) (fun w2 hb => zC2 Tryz.underlying40 rfl ((B1.below hb).cell 1)) (fun _ _ => rfl)) ?_
   refine zA (zD rfl Tryz.func49 (by kernel_rfl) (zC9 (c := true) (b := true) (g := 5) rfl (by kernel_rfl) rfl rfl rfl (by exact fun _ _ h => h)) (zB7 (j := 7) (by kernel_rfl) rfl rfl) (zB7 (j := 9) (by kernel_rfl) rfl rfl) (fun w2 u0 u1 hb h0 h1 => by obtain rfl := h0; obtain rfl := h1; exact (qL0 _ _ x.natAbs y.natAbs b _ (k0s.below hb) (k1s.below hb) HB.out).mono fun e w3 h => zD7.pd h)) ?_
   refine zA (zJ4 (b := true) rfl (zB6 rfl) (zB7 (j := 5) (by kernel_rfl) rfl rfl) (zB7 (j := 10) (by kernel_rfl) rfl rfl) (fun _ _ h => h)) ?_
   refine zA (zD4 rfl (zB6 rfl) (zB7 (j := 11) (by kernel_rfl) rfl rfl) (fun _ _ h => h)) ?_
   trivial
  case done23 =>
   refine fun w11 hb11 v0 h0 v1 h1 v2 h2 v3 h3 v4 h4 v5 h5 v6 h6 v7 h7 v8 h8 v9 h9 v10 h10 v11 h11 v12 h12 b hbf => ?_
   obtain rfl := h0; obtain rfl := h1; obtain rfl := h2; obtain rfl := h3; obtain rfl := h4; obtain rfl := h5; obtain rfl := h6; obtain rfl := h7; obtain rfl := h8; obtain rfl := h9; obtain rfl := h10; obtain rfl := h11; obtain rfl := h12
   simp only [Act.put, zA0, zA2, zA1] at hbf
   subst hbf
   replace B0 := B0.below hb11
   replace k0s := k0s.below hb11
   replace k0 := k0.below hb11
   replace B1 := B1.below hb11
   replace k1s := k1s.below hb11
   replace k1 := k1.below hb11
   replace bb := bb.trans (hb11.mono bb.size)
   have hsz11 := bb.size
   refine zC6 ?_
   go_wp2
   go_ret
   exact ⟨rfl, bb⟩
theorem qY (a0 a1 : Value) (x y : Rat) (b : Bool) (w : World) (h0 : IsQ w a0 x) (h1 : IsQ w a1 y) (hb : b = decide (x = y)) :
  Calls Tryz.prog 19 #[a0, a1] w (zD7 (.bool b) w) := by
 by_cases hn : x.num = y.num
 ·have HB : Hid (b = decide (x.den = y.den)) := by show _ = _; rw [hb, decide_eq_decide]; exact ⟨fun e => by rw [e], fun e => Rat.ext hn e⟩
  clear hb
  have HN := Lib.hid hn
  clear hn
  obtain ⟨u0, t0, rfl, s0, r0⟩ := h0
  obtain ⟨A0, c0, rfl, _⟩ := id s0
  obtain ⟨D0, e0, rfl, _⟩ := id r0
  obtain ⟨u1, t1, rfl, s1, r1⟩ := h1
  obtain ⟨A1, c1, rfl, _⟩ := id s1
  obtain ⟨D1, e1, rfl, _⟩ := id r1
  go_enter Tryz.func19, Tryz.ntmps19
  go_upto_region 1 with (fail)
  obtain ⟨wx, hwx, bb, B0, B1, hsz⟩ := zG4 w 44 44 #[.bool (ngB (x).num), .slice A0 (digs 4294967296 (x).num.natAbs).length c0, .slice D0 (digs 4294967296 (x).den).length e0] #[.bool (ngB (y).num), .slice A1 (digs 4294967296 (y).num.natAbs).length c1, .slice D1 (digs 4294967296 (y).den).length e1]
  rw [hwx]
  clear hwx
  have k0s := s0.below bb
  have k0d := r0.below bb
  have k0z : IsZ wx (.agg #[.bool (ngB (x).num), .slice A0 (digs 4294967296 (x).num.natAbs).length c0]) (x).num := ⟨_, rfl, k0s⟩
  have k0 : IsQ wx (.agg #[.bool (ngB (x).num), .slice A0 (digs 4294967296 (x).num.natAbs).length c0, .slice D0 (digs 4294967296 (x).den).length e0]) (x) := ⟨_, _, rfl, k0s, k0d⟩
  have k1s := s1.below bb
  have k1d := r1.below bb
  have k1z : IsZ wx (.agg #[.bool (ngB (y).num), .slice A1 (digs 4294967296 (y).num.natAbs).length c1]) (y).num := ⟨_, rfl, k1s⟩
  have k1 : IsQ wx (.agg #[.bool (ngB (y).num), .slice A1 (digs 4294967296 (y).num.natAbs).length c1, .slice D1 (digs 4294967296 (y).den).length e1]) (y) := ⟨_, _, rfl, k1s, k1d⟩
  have hsz0 := bb.size
  have sB := bb.size
  refine zC5 13 [Pd.eq (.pointer (some ⟨w.heap.size, 0, none⟩)), Pd.eq (.agg #[.bool (ngB (x).num), .slice A0 (digs 4294967296 (x).num.natAbs).length c0]), Pd.eq (.pointer (some ⟨w.heap.size + 1, 0, none⟩)), Pd.eq (.agg #[.bool (ngB (y).num), .slice A1 (digs 4294967296 (y).num.natAbs).length c1]), Pd.eq (.bool true), Pd.eq (.bool true), Pd.eq (.pointer (some ⟨w.heap.size, 2, none⟩)), Pd.eq (.slice D0 (digs 4294967296 (x).den).length e0), Pd.eq (.pointer (some ⟨w.heap.size + 1, 2, none⟩)), Pd.eq (.slice D1 (digs 4294967296 (y).den).length e1), Pd.eq (.bool b), Pd.eq (.bool b), Pd.eq (.bool b)] (by kernel_rfl) ?ob24 ?done24
  case ob24 =>
   refine zA (zC0 rfl (zB6 rfl) (zB8 rfl rfl) (fun _ => by kernel_rfl) (fun _ => rfl)) ?_
   refine zA (zB9 rfl (zB6 rfl) (zB7 (j := 0) (by kernel_rfl) rfl rfl) (fun w2 hb => zK5 Tryz.underlying42 rfl (by kernel_rfl) (B0.below hb) rfl) (fun _ _ => rfl)) ?_
   refine zA (zC0 rfl (zB6 rfl) (zB8 rfl rfl) (fun _ => by kernel_rfl) (fun _ => rfl)) ?_
   refine zA (zB9 rfl (zB6 rfl) (zB7 (j := 2) (by kernel_rfl) rfl rfl) (fun w2 hb => zK5 Tryz.underlying42 rfl (by kernel_rfl) (B1.below hb) rfl) (fun _ _ => rfl)) ?_
   refine zA (zD rfl Tryz.func48 (by kernel_rfl) (zB6 rfl) (zB7 (j := 1) (by kernel_rfl) rfl rfl) (zB7 (j := 3) (by kernel_rfl) rfl rfl) (fun w2 u0 u1 hb h0 h1 => by obtain rfl := h0; obtain rfl := h1; exact (qX9 _ x.num _ y.num true _ (k0z.below hb) (k1z.below hb) (decide_eq_true HN.out).symm).mono fun e w3 h => zD7.pd h)) ?_
   refine zA (zC1 rfl (zB6 rfl) (zB7 (j := 4) (by kernel_rfl) rfl rfl) (fun _ _ h => h)) ?_
   refine zA (zC0 rfl (zC9 (c := true) (b := true) (g := 5) rfl (by kernel_rfl) rfl rfl rfl (by exact fun _ _ h => h)) (zB8 rfl rfl) (fun _ => by kernel_rfl) (fun _ => rfl)) ?_
   refine zA (zB9 rfl (zC9 (c := true) (b := true) (g := 5) rfl (by kernel_rfl) rfl rfl rfl (by exact fun _ _ h => h)) (zB7 (j := 6) (by kernel_rfl) rfl rfl) (fun w2 hb => zC2 Tryz.underlying40 rfl ((B0.below hb).cell 2)) (fun _ _ => rfl)) ?_
   refine zA (zC0 rfl (zC9 (c := true) (b := true) (g := 5) rfl (by kernel_rfl) rfl rfl rfl (by exact fun _ _ h => h)) (zB8 rfl rfl) (fun _ => by kernel_rfl) (fun _ => rfl)) ?_
   refine zA (zB9 rfl (zC9 (c := true) (b := true) (g := 5) rfl (by kernel_rfl) rfl rfl rfl (by exact fun _ _ h => h)) (zB7 (j := 8) (by kernel_rfl) rfl rfl) (fun w2 hb => zC2 Tryz.underlying40 rfl ((B1.below hb).cell 2)) (fun _ _ => rfl)) ?_
   refine zA (zD rfl Tryz.func49 (by kernel_rfl) (zC9 (c := true) (b := true) (g := 5) rfl (by kernel_rfl) rfl rfl rfl (by exact fun _ _ h => h)) (zB7 (j := 7) (by kernel_rfl) rfl rfl) (zB7 (j := 9) (by kernel_rfl) rfl rfl) (fun w2 u0 u1 hb h0 h1 => by obtain rfl := h0; obtain rfl := h1; exact (qL0 _ _ x.den y.den b _ (k0d.below hb) (k1d.below hb) HB.out).mono fun e w3 h => zD7.pd h)) ?_
   refine zA (zJ4 (b := true) rfl (zB6 rfl) (zB7 (j := 5) (by kernel_rfl) rfl rfl) (zB7 (j := 10) (by kernel_rfl) rfl rfl) (fun _ _ h => h)) ?_
   refine zA (zD4 rfl (zB6 rfl) (zB7 (j := 11) (by kernel_rfl) rfl rfl) (fun _ _ h => h)) ?_
   trivial
  case done24 =>
   refine fun w11 hb11 v0 h0 v1 h1 v2 h2 v3 h3 v4 h4 v5 h5 v6 h6 v7 h7 v8 h8 v9 h9 v10 h10 v11 h11 v12 h12 b hbf => ?_
   obtain rfl := h0; obtain rfl := h1; obtain rfl := h2; obtain rfl := h3; obtain rfl := h4; obtain rfl := h5; obtain rfl := h6; obtain rfl := h7; obtain rfl := h8; obtain rfl := h9; obtain rfl := h10; obtain rfl := h11; obtain rfl := h12
   simp only [Act.put, zA0, zA2, zA1] at hbf
   subst hbf
   replace B0 := B0.below hb11
   replace k0s := k0s.below hb11
   replace k0d := k0d.below hb11
   replace k0z := k0z.below hb11
   replace k0 := k0.below hb11
   replace B1 := B1.below hb11
   replace k1s := k1s.below hb11
   replace k1d := k1d.below hb11
   replace k1z := k1z.below hb11
   replace k1 := k1.below hb11
   replace bb := bb.trans (hb11.mono bb.size)
   have hsz11 := bb.size
   refine zC6 ?_
   go_wp2
   go_ret
   exact ⟨rfl, bb⟩
 ·obtain rfl : b = false := by rw [hb, decide_eq_false_iff_not]; exact fun e => hn (by rw [e])
  clear hb
  have HN := Lib.hid hn
  clear hn
  obtain ⟨u0, t0, rfl, s0, r0⟩ := h0
  obtain ⟨A0, c0, rfl, _⟩ := id s0
  obtain ⟨D0, e0, rfl, _⟩ := id r0
  obtain ⟨u1, t1, rfl, s1, r1⟩ := h1
  obtain ⟨A1, c1, rfl, _⟩ := id s1
  obtain ⟨D1, e1, rfl, _⟩ := id r1
  go_enter Tryz.func19, Tryz.ntmps19
  go_upto_region 1 with (fail)
  obtain ⟨wx, hwx, bb, B0, B1, hsz⟩ := zG4 w 44 44 #[.bool (ngB (x).num), .slice A0 (digs 4294967296 (x).num.natAbs).length c0, .slice D0 (digs 4294967296 (x).den).length e0] #[.bool (ngB (y).num), .slice A1 (digs 4294967296 (y).num.natAbs).length c1, .slice D1 (digs 4294967296 (y).den).length e1]
  rw [hwx]
  clear hwx
  have k0s := s0.below bb
  have k0d := r0.below bb
  have k0z : IsZ wx (.agg #[.bool (ngB (x).num), .slice A0 (digs 4294967296 (x).num.natAbs).length c0]) (x).num := ⟨_, rfl, k0s⟩
  have k0 : IsQ wx (.agg #[.bool (ngB (x).num), .slice A0 (digs 4294967296 (x).num.natAbs).length c0, .slice D0 (digs 4294967296 (x).den).length e0]) (x) := ⟨_, _, rfl, k0s, k0d⟩
  have k1s := s1.below bb
  have k1d := r1.below bb
  have k1z : IsZ wx (.agg #[.bool (ngB (y).num), .slice A1 (digs 4294967296 (y).num.natAbs).length c1]) (y).num := ⟨_, rfl, k1s⟩
  have k1 : IsQ wx (.agg #[.bool (ngB (y).num), .slice A1 (digs 4294967296 (y).num.natAbs).length c1, .slice D1 (digs 4294967296 (y).den).length e1]) (y) := ⟨_, _, rfl, k1s, k1d⟩
  have hsz0 := bb.size
  have sB := bb.size
  refine zC5 13 [Pd.eq (.pointer (some ⟨w.heap.size, 0, none⟩)), Pd.eq (.agg #[.bool (ngB (x).num), .slice A0 (digs 4294967296 (x).num.natAbs).length c0]), Pd.eq (.pointer (some ⟨w.heap.size + 1, 0, none⟩)), Pd.eq (.agg #[.bool (ngB (y).num), .slice A1 (digs 4294967296 (y).num.natAbs).length c1]), Pd.eq (.bool false), Pd.eq (.bool false), Pd.any, Pd.any, Pd.any, Pd.any, Pd.any, Pd.eq (.bool false), Pd.eq (.bool false)] (by kernel_rfl) ?ob25 ?done25
  case ob25 =>
   refine zA (zC0 rfl (zB6 rfl) (zB8 rfl rfl) (fun _ => by kernel_rfl) (fun _ => rfl)) ?_
   refine zA (zB9 rfl (zB6 rfl) (zB7 (j := 0) (by kernel_rfl) rfl rfl) (fun w2 hb => zK5 Tryz.underlying42 rfl (by kernel_rfl) (B0.below hb) rfl) (fun _ _ => rfl)) ?_
   refine zA (zC0 rfl (zB6 rfl) (zB8 rfl rfl) (fun _ => by kernel_rfl) (fun _ => rfl)) ?_
   refine zA (zB9 rfl (zB6 rfl) (zB7 (j := 2) (by kernel_rfl) rfl rfl) (fun w2 hb => zK5 Tryz.underlying42 rfl (by kernel_rfl) (B1.below hb) rfl) (fun _ _ => rfl)) ?_
   refine zA (zD rfl Tryz.func48 (by kernel_rfl) (zB6 rfl) (zB7 (j := 1) (by kernel_rfl) rfl rfl) (zB7 (j := 3) (by kernel_rfl) rfl rfl) (fun w2 u0 u1 hb h0 h1 => by obtain rfl := h0; obtain rfl := h1; exact (qX9 _ x.num _ y.num false _ (k0z.below hb) (k1z.below hb) (decide_eq_false HN.out).symm).mono fun e w3 h => zD7.pd h)) ?_
   refine zA (zC1 rfl (zB6 rfl) (zB7 (j := 4) (by kernel_rfl) rfl rfl) (fun _ _ h => h)) ?_
   refine zA (zF1 (zC9 (c := false) (b := true) (g := 5) rfl (by kernel_rfl) rfl rfl rfl (by exact fun _ _ h => h)) (fun _ => trivial) rfl) ?_
   refine zA (zF1 (zC9 (c := false) (b := true) (g := 5) rfl (by kernel_rfl) rfl rfl rfl (by exact fun _ _ h => h)) (fun _ => trivial) rfl) ?_
   refine zA (zF1 (zC9 (c := false) (b := true) (g := 5) rfl (by kernel_rfl) rfl rfl rfl (by exact fun _ _ h => h)) (fun _ => trivial) rfl) ?_
   refine zA (zF1 (zC9 (c := false) (b := true) (g := 5) rfl (by kernel_rfl) rfl rfl rfl (by exact fun _ _ h => h)) (fun _ => trivial) rfl) ?_
   refine zA (zF1 (zC9 (c := false) (b := true) (g := 5) rfl (by kernel_rfl) rfl rfl rfl (by exact fun _ _ h => h)) (fun _ => trivial) rfl) ?_
   refine zA (zJ4 (b := false) rfl (zB6 rfl) (zB7 (j := 5) (by kernel_rfl) rfl rfl) (zF0 _) (fun _ _ h => h)) ?_
   refine zA (zD4 rfl (zB6 rfl) (zB7 (j := 11) (by kernel_rfl) rfl rfl) (fun _ _ h => h)) ?_
   trivial
  case done25 =>
   refine fun w11 hb11 v0 h0 v1 h1 v2 h2 v3 h3 v4 h4 v5 h5 v6 h6 v7 h7 v8 h8 v9 h9 v10 h10 v11 h11 v12 h12 b hbf => ?_
   obtain rfl := h0; obtain rfl := h1; obtain rfl := h2; obtain rfl := h3; obtain rfl := h4; obtain rfl := h5; obtain rfl := h11; obtain rfl := h12
   clear h6
   clear h7
   clear h8
   clear h9
   clear h10
   simp only [Act.put, zA0, zA2, zA1] at hbf
   subst hbf
   replace B0 := B0.below hb11
   replace k0s := k0s.below hb11
   replace k0d := k0d.below hb11
   replace k0z := k0z.below hb11
   replace k0 := k0.below hb11
   replace B1 := B1.below hb11
   replace k1s := k1s.below hb11
   replace k1d := k1d.below hb11
   replace k1z := k1z.below hb11
   replace k1 := k1.below hb11
   replace bb := bb.trans (hb11.mono bb.size)
   have hsz11 := bb.size
   refine zC6 ?_
   go_wp2
   go_ret
   exact ⟨rfl, bb⟩
theorem yO5 (a0 : Value) (x : Rat) (a1 : Value) (y : Rat) (w : World) (h0 : IsP w a0 x) (h1 : IsP w a1 y) (hl : zC3 x 5000) (hl2 : zC3 y 5000) :
  Calls Tryz.prog 47 #[a0, a1] w (zM2 (x + y) w) := by
 obtain ⟨u0, t0, rfl, s0, r0⟩ := h0
 obtain ⟨A0, c0, rfl, _⟩ := id s0
 obtain ⟨D0, e0, rfl, _⟩ := id r0
 obtain ⟨u1, t1, rfl, s1, r1⟩ := h1
 obtain ⟨A1, c1, rfl, _⟩ := id s1
 obtain ⟨D1, e1, rfl, _⟩ := id r1
 have HA : Hid (mkRat (x.num * y.den + y.num * x.den) (x.den * y.den) = x + y) := (Rat.add_def' x y).symm
 have lx1 := hl.1
 have lx2 : zD0 ((x.den : Nat) : Int) <= 5000 := by rw [zK3]; exact hl.2
 have ly1 := hl2.1
 have ly2 : zD0 ((y.den : Nat) : Int) <= 5000 := by rw [zK3]; exact hl2.2
 have lp : zD0 (x.num * ((y.den : Nat) : Int)) <= 10000 := zS2 lx1 ly2
 have lq : zD0 (y.num * ((x.den : Nat) : Int)) <= 10000 := zS2 ly1 lx2
 have HLZ : Hid (zD0 (x.num * ((y.den : Nat) : Int) + y.num * ((x.den : Nat) : Int)) <= 30000) := zB4 (qX7 lp lq) (by decide)
 have HLD : Hid ((digs 4294967296 (x.den * y.den)).length <= 30000) := by show _ <= _; have := zT4 x.den y.den; have h1 := hl.2; have h2 := hl2.2; omega
 go_enter Tryz.func47, Tryz.ntmps47
 go_upto_region 1 with (fail)
 obtain ⟨wx, hwx, bb, B0, B1, BR0, hsz⟩ := zK4 w 55 55 55 #[.bool (ngB (x).num), .slice A0 (digs 10000 (x).num.natAbs).length c0, .slice D0 (digs 10000 (x).den).length e0] #[.bool (ngB (y).num), .slice A1 (digs 10000 (y).num.natAbs).length c1, .slice D1 (digs 10000 (y).den).length e1] #[.bool false, .slice none 0 0, .slice none 0 0]
 rw [hwx]
 clear hwx
 have k0s := s0.below bb
 have k0d := r0.below bb
 have k0z : IsR wx (.agg #[.bool (ngB (x).num), .slice A0 (digs 10000 (x).num.natAbs).length c0]) (x).num := ⟨_, rfl, k0s⟩
 have k0 : IsP wx (.agg #[.bool (ngB (x).num), .slice A0 (digs 10000 (x).num.natAbs).length c0, .slice D0 (digs 10000 (x).den).length e0]) (x) := ⟨_, _, rfl, k0s, k0d⟩
 have k1s := s1.below bb
 have k1d := r1.below bb
 have k1z : IsR wx (.agg #[.bool (ngB (y).num), .slice A1 (digs 10000 (y).num.natAbs).length c1]) (y).num := ⟨_, rfl, k1s⟩
 have k1 : IsP wx (.agg #[.bool (ngB (y).num), .slice A1 (digs 10000 (y).num.natAbs).length c1, .slice D1 (digs 10000 (y).den).length e1]) (y) := ⟨_, _, rfl, k1s, k1d⟩
 have hsz0 := bb.size
 have sB := bb.size
 have lt10_2 := Blk.lt B0
 have lt10_3 := Blk.lt B1
 have lt10_4 := Blk.lt BR0
 refine flow 14 [Pd.eq (.pointer (some ⟨w.heap.size, 0, none⟩)), Pd.eq (.agg #[.bool (ngB (x).num), .slice A0 (digs 10000 (x).num.natAbs).length c0]), Pd.eq (.pointer (some ⟨w.heap.size + 1, 2, none⟩)), Pd.eq (.slice D1 (digs 10000 (y).den).length e1), pr (((y.den : Nat) : Int)), pr ((x.num * ((y.den : Nat) : Int))), Pd.eq (.pointer (some ⟨w.heap.size + 1, 0, none⟩)), Pd.eq (.agg #[.bool (ngB (y).num), .slice A1 (digs 10000 (y).num.natAbs).length c1]), Pd.eq (.pointer (some ⟨w.heap.size, 2, none⟩)), Pd.eq (.slice D0 (digs 10000 (x).den).length e0), pr (((x.den : Nat) : Int)), pr ((y.num * ((x.den : Nat) : Int))), pn 53 #[.bool false, .slice none 0 0] wx.heap.size, pn 53 #[.bool false, .slice none 0 0] wx.heap.size] (by kernel_rfl) (by kernel_rfl) ?ob1 ?done1
 case ob1 =>
  refine zA (zC0 rfl (zB6 rfl) (zB8 rfl rfl) (fun _ => by kernel_rfl) (fun _ => rfl)) ?_
  refine zA (zB9 rfl (zB6 rfl) (zB7 (j := 0) (by kernel_rfl) rfl rfl) (fun w2 hb => zK5 Tryz.underlying53 rfl (by kernel_rfl) (B0.drew.below hb) rfl) (fun _ _ => rfl)) ?_
  refine zA (zC0 rfl (zB6 rfl) (zB8 rfl rfl) (fun _ => by kernel_rfl) (fun _ => rfl)) ?_
  refine zA (zB9 rfl (zB6 rfl) (zB7 (j := 2) (by kernel_rfl) rfl rfl) (fun w2 hb => zC2 Tryz.underlying51 rfl ((B1.drew.below hb).cell 2)) (fun _ _ => rfl)) ?_
  refine zA (qM8 rfl (zB6 rfl) (zB7 (j := 3) (by kernel_rfl) rfl rfl) (fun w2 u hb hu => by obtain rfl := hu; exact ⟨.agg #[.bool false, .slice D1 (digs 10000 (y).den).length e1], by kernel_rfl, zF8 (k1d.drew.below hb) (Int.natAbs_natCast _) (qA6 (by omega)).symm⟩)) ?_
  refine zA (zD rfl Tryz.func82 (by kernel_rfl) (zB6 rfl) (zB7 (j := 1) (by kernel_rfl) rfl rfl) (zB7 (j := 4) (by kernel_rfl) rfl rfl) (fun w2 u0 u1 hb h0 h1 => by obtain rfl := h0; exact (qM7 _ _ _ _ _ (k0z.drew.below hb) h1 (zB4 lx1 (by decide)) (zB4 ly2 (by decide))).mono fun e w3 h => zN1.pd h)) ?_
  refine zA (zC0 rfl (zB6 rfl) (zB8 rfl rfl) (fun _ => by kernel_rfl) (fun _ => rfl)) ?_
  refine zA (zB9 rfl (zB6 rfl) (zB7 (j := 6) (by kernel_rfl) rfl rfl) (fun w2 hb => zK5 Tryz.underlying53 rfl (by kernel_rfl) (B1.drew.below hb) rfl) (fun _ _ => rfl)) ?_
  refine zA (zC0 rfl (zB6 rfl) (zB8 rfl rfl) (fun _ => by kernel_rfl) (fun _ => rfl)) ?_
  refine zA (zB9 rfl (zB6 rfl) (zB7 (j := 8) (by kernel_rfl) rfl rfl) (fun w2 hb => zC2 Tryz.underlying51 rfl ((B0.drew.below hb).cell 2)) (fun _ _ => rfl)) ?_
  refine zA (qM8 rfl (zB6 rfl) (zB7 (j := 9) (by kernel_rfl) rfl rfl) (fun w2 u hb hu => by obtain rfl := hu; exact ⟨.agg #[.bool false, .slice D0 (digs 10000 (x).den).length e0], by kernel_rfl, zF8 (k0d.drew.below hb) (Int.natAbs_natCast _) (qA6 (by omega)).symm⟩)) ?_
  refine zA (zD rfl Tryz.func82 (by kernel_rfl) (zB6 rfl) (zB7 (j := 7) (by kernel_rfl) rfl rfl) (zB7 (j := 10) (by kernel_rfl) rfl rfl) (fun w2 u0 u1 hb h0 h1 => by obtain rfl := h0; exact (qM7 _ _ _ _ _ (k1z.drew.below hb) h1 (zB4 ly1 (by decide)) (zB4 lx2 (by decide))).mono fun e w3 h => zN1.pd h)) ?_
  refine zA (zL (z := .agg #[.bool false, .slice none 0 0]) rfl rfl (fun _ => by kernel_rfl) (fun _ _ hB h => ⟨_, rfl, hB, h⟩)) ?_
  refine zA (zL (z := .agg #[.bool false, .slice none 0 0]) rfl rfl (fun _ => by kernel_rfl) (fun _ _ hB h => ⟨_, rfl, hB, h⟩)) ?_
  trivial
 case done1 =>
  refine fun w11 hb11 v0 h0 v1 h1 v2 h2 v3 h3 v4 h4 v5 h5 v6 h6 v7 h7 v8 h8 v9 h9 v10 h10 v11 h11 v12 h12 d12 v13 h13 d13 b hbf => ?_
  obtain rfl := h0; obtain rfl := h1; obtain rfl := h2; obtain rfl := h3; obtain rfl := h6; obtain rfl := h7; obtain rfl := h8; obtain rfl := h9
  have q4 := h4
  have q5 := h5
  have q10 := h10
  have q11 := h11
  obtain ⟨g1_12, rfl, hg12, B12⟩ := h12
  obtain ⟨g1_13, rfl, hg13, B13⟩ := h13
  simp only [Act.put, zA0, zA2, zA1] at hbf
  subst hbf
  replace B0 := B0.below hb11
  replace k0s := k0s.below hb11
  replace k0d := k0d.below hb11
  replace k0z := k0z.below hb11
  replace k0 := k0.below hb11
  replace B1 := B1.below hb11
  replace k1s := k1s.below hb11
  replace k1d := k1d.below hb11
  replace k1z := k1z.below hb11
  replace k1 := k1.below hb11
  replace BR0 := BR0.below hb11
  replace bb := bb.trans (hb11.mono bb.size)
  have hsz11 := bb.size
  have BA5 := B12
  have BA6 := B13
  have hne12_13 : g1_12 ≠ g1_13 := fun e => d13 (.pointer (some ⟨g1_12, 0, none⟩)) (by simp) (by rw [e])
  obtain ⟨u5, rfl, q5⟩ := q5
  obtain ⟨A5, c5, rfl, _⟩ := id q5
  obtain ⟨u11, rfl, q11⟩ := q11
  obtain ⟨A6, c6, rfl, _⟩ := id q11
  refine zG2 (i := 14) (by kernel_rfl) rfl rfl rfl rfl rfl rfl (cells := [.bool (ngB (x.num * ((y.den : Nat) : Int))), .slice A5 (digs 10000 ((x.num * ((y.den : Nat) : Int))).natAbs).length c5]) rfl BA5 rfl (by kernel_rfl) (zG6 rfl rfl) fun w12 hg12 BN12 => ?_
  replace q11 := off q11 BA5 zD3 hg12
  replace q5 := off q5 BA5 zD3 hg12
  replace k0s := off k0s BA5 zD3 hg12
  replace k0d := off k0d BA5 zD3 hg12
  replace k0z : IsR w12 (.agg #[.bool (ngB (x).num), .slice A0 (digs 10000 (x).num.natAbs).length c0]) ((x).num) := ⟨_, rfl, k0s⟩
  replace k0 : IsP w12 (.agg #[.bool (ngB (x).num), .slice A0 (digs 10000 (x).num.natAbs).length c0, .slice D0 (digs 10000 (x).den).length e0]) (x) := ⟨_, _, rfl, k0s, k0d⟩
  replace B0 := B0.grown hg12 (by omega)
  replace k1s := off k1s BA5 zD3 hg12
  replace k1d := off k1d BA5 zD3 hg12
  replace k1z : IsR w12 (.agg #[.bool (ngB (y).num), .slice A1 (digs 10000 (y).num.natAbs).length c1]) ((y).num) := ⟨_, rfl, k1s⟩
  replace k1 : IsP w12 (.agg #[.bool (ngB (y).num), .slice A1 (digs 10000 (y).num.natAbs).length c1, .slice D1 (digs 10000 (y).den).length e1]) (y) := ⟨_, _, rfl, k1s, k1d⟩
  replace B1 := B1.grown hg12 (by omega)
  replace BR0 := BR0.grown hg12 (by omega)
  replace BA6 := BA6.grown hg12 (by omega)
  replace bb := bb.trans ((Below.refl _ _).grown hg12 bb.size (fun g hg => by injection hg with hg; omega))
  have hsz12 := bb.size
  have B5 : Blk w12 (g1_12) _ _ := BN12
  have k5s := q5
  have k5 : IsR w12 (.agg #[.bool (ngB (x.num * ((y.den : Nat) : Int))), .slice A5 (digs 10000 ((x.num * ((y.den : Nat) : Int))).natAbs).length c5]) ((x.num * ((y.den : Nat) : Int))) := ⟨_, rfl, k5s⟩
  refine zG2 (i := 15) (by kernel_rfl) rfl rfl rfl rfl rfl rfl (cells := [.bool (ngB (y.num * ((x.den : Nat) : Int))), .slice A6 (digs 10000 ((y.num * ((x.den : Nat) : Int))).natAbs).length c6]) rfl BA6 rfl (by kernel_rfl) (zG6 rfl rfl) fun w13 hg13 BN13 => ?_
  replace q11 := off q11 BA6 zD3 hg13
  replace k0s := off k0s BA6 zD3 hg13
  replace k0d := off k0d BA6 zD3 hg13
  replace k0z : IsR w13 (.agg #[.bool (ngB (x).num), .slice A0 (digs 10000 (x).num.natAbs).length c0]) ((x).num) := ⟨_, rfl, k0s⟩
  replace k0 : IsP w13 (.agg #[.bool (ngB (x).num), .slice A0 (digs 10000 (x).num.natAbs).length c0, .slice D0 (digs 10000 (x).den).length e0]) (x) := ⟨_, _, rfl, k0s, k0d⟩
  replace B0 := B0.grown hg13 (by omega)
  replace k1s := off k1s BA6 zD3 hg13
  replace k1d := off k1d BA6 zD3 hg13
  replace k1z : IsR w13 (.agg #[.bool (ngB (y).num), .slice A1 (digs 10000 (y).num.natAbs).length c1]) ((y).num) := ⟨_, rfl, k1s⟩
  replace k1 : IsP w13 (.agg #[.bool (ngB (y).num), .slice A1 (digs 10000 (y).num.natAbs).length c1, .slice D1 (digs 10000 (y).den).length e1]) (y) := ⟨_, _, rfl, k1s, k1d⟩
  replace B1 := B1.grown hg13 (by omega)
  replace BR0 := BR0.grown hg13 (by omega)
  replace k5s := off k5s BA6 zD3 hg13
  replace k5 : IsR w13 (.agg #[.bool (ngB (x.num * ((y.den : Nat) : Int))), .slice A5 (digs 10000 ((x.num * ((y.den : Nat) : Int))).natAbs).length c5]) ((x.num * ((y.den : Nat) : Int))) := ⟨_, rfl, k5s⟩
  replace B5 := B5.grown hg13 (by omega)
  replace bb := bb.trans ((Below.refl _ _).grown hg13 bb.size (fun g hg => by injection hg with hg; omega))
  have hsz13 := bb.size
  have B6 : Blk w13 (g1_13) _ _ := BN13
  have k6s := q11
  have k6 : IsR w13 (.agg #[.bool (ngB (y.num * ((x.den : Nat) : Int))), .slice A6 (digs 10000 ((y.num * ((x.den : Nat) : Int))).natAbs).length c6]) ((y.num * ((x.den : Nat) : Int))) := ⟨_, rfl, k6s⟩
  refine zF2 (by kernel_rfl) ?_
  have sB := bb.size
  go_upto_region 2 with (fail)
  refine flow 9 [Pd.eq (.agg #[.bool (ngB (x.num * ((y.den : Nat) : Int))), .slice A5 (digs 10000 ((x.num * ((y.den : Nat) : Int))).natAbs).length c5]), Pd.eq (.agg #[.bool (ngB (y.num * ((x.den : Nat) : Int))), .slice A6 (digs 10000 ((y.num * ((x.den : Nat) : Int))).natAbs).length c6]), pr (((x.num * ((y.den : Nat) : Int)) + (y.num * ((x.den : Nat) : Int)))), Pd.eq (.pointer (some ⟨w.heap.size, 2, none⟩)), Pd.eq (.slice D0 (digs 10000 (x).den).length e0), Pd.eq (.pointer (some ⟨w.heap.size + 1, 2, none⟩)), Pd.eq (.slice D1 (digs 10000 (y).den).length e1), ps .i64 (digs 10000 (x.den * y.den)) w13.heap.size, ppf (x + y) w13.heap.size] (by kernel_rfl) (by kernel_rfl) ?ob2 ?done2
  case ob2 =>
   refine zA (zB9 rfl (zB6 rfl) (zB8 rfl rfl) (fun w2 hb => zF4 Tryz.underlying53 rfl (by kernel_rfl) (B5.drew.below hb)) (fun _ _ => rfl)) ?_
   refine zA (zB9 rfl (zB6 rfl) (zB8 rfl rfl) (fun w2 hb => zF4 Tryz.underlying53 rfl (by kernel_rfl) (B6.drew.below hb)) (fun _ _ => rfl)) ?_
   refine zA (zD rfl Tryz.func85 (by kernel_rfl) (zB6 rfl) (zB7 (j := 0) (by kernel_rfl) rfl rfl) (zB7 (j := 1) (by kernel_rfl) rfl rfl) (fun w2 u0 u1 hb h0 h1 => by obtain rfl := h0; obtain rfl := h1; exact (yN _ _ _ _ _ (k5.drew.below hb) (k6.drew.below hb) (zB4 lp (by decide)) (zB4 lq (by decide))).mono fun e w3 h => zN1.pd h)) ?_
   refine zA (zC0 rfl (zB6 rfl) (zB8 rfl rfl) (fun _ => by kernel_rfl) (fun _ => rfl)) ?_
   refine zA (zB9 rfl (zB6 rfl) (zB7 (j := 3) (by kernel_rfl) rfl rfl) (fun w2 hb => zC2 Tryz.underlying51 rfl ((B0.drew.below hb).cell 2)) (fun _ _ => rfl)) ?_
   refine zA (zC0 rfl (zB6 rfl) (zB8 rfl rfl) (fun _ => by kernel_rfl) (fun _ => rfl)) ?_
   refine zA (zB9 rfl (zB6 rfl) (zB7 (j := 5) (by kernel_rfl) rfl rfl) (fun w2 hb => zC2 Tryz.underlying51 rfl ((B1.drew.below hb).cell 2)) (fun _ _ => rfl)) ?_
   refine zA (zD rfl Tryz.func83 (by kernel_rfl) (zB6 rfl) (zB7 (j := 4) (by kernel_rfl) rfl rfl) (zB7 (j := 6) (by kernel_rfl) rfl rfl) (fun w2 u0 u1 hb h0 h1 => by obtain rfl := h0; obtain rfl := h1; exact (qK0 _ _ x.den y.den _ (k0d.drew.below hb) (k1d.drew.below hb) (zB4 (zV0 _) (by have := hl.2; omega)) (zB4 (zV0 _) (by have := hl2.2; omega))).mono fun e w3 h => zD1.pd h hb.size)) ?_
   refine zA (zD rfl Tryz.func79 (by kernel_rfl) (zB6 rfl) (zB7 (j := 2) (by kernel_rfl) rfl rfl) (zB7 (j := 7) (by kernel_rfl) rfl rfl) (fun w2 u0 u1 hb h0 h1 => by exact (HA.out ▸ qB4 _ _ _ (x.den * y.den) _ h0 h1.1 (Nat.mul_ne_zero x.den_nz y.den_nz) HLZ.out HLD.out).mono fun e w3 h => zM2.pdf h hb.size)) ?_
   trivial
  case done2 =>
   refine fun w14 hb14 v0 h0 v1 h1 v2 h2 v3 h3 v4 h4 v5 h5 v6 h6 v7 h7 v8 h8 b hbf => ?_
   obtain rfl := h0; obtain rfl := h1; obtain rfl := h3; obtain rfl := h4; obtain rfl := h5; obtain rfl := h6
   have q2 := h2
   obtain ⟨q7, f7⟩ := h7
   obtain ⟨q8, f8⟩ := h8
   simp only [Act.put, zA0, zA2, zA1] at hbf
   subst hbf
   replace B0 := B0.below hb14
   replace k0s := k0s.below hb14
   replace k0d := k0d.below hb14
   replace k0z := k0z.below hb14
   replace k0 := k0.below hb14
   replace B1 := B1.below hb14
   replace k1s := k1s.below hb14
   replace k1d := k1d.below hb14
   replace k1z := k1z.below hb14
   replace k1 := k1.below hb14
   replace BR0 := BR0.below hb14
   replace B5 := B5.below hb14
   replace k5s := k5s.below hb14
   replace k5 := k5.below hb14
   replace B6 := B6.below hb14
   replace k6s := k6s.below hb14
   replace k6 := k6.below hb14
   replace bb := bb.trans (hb14.mono bb.size)
   have hsz14 := bb.size
   have s_7 := sB
   have s_8 := sB
   obtain ⟨u8, t8, rfl, q8, d8⟩ := q8
   obtain ⟨A9, c9, rfl, _⟩ := id q8
   obtain ⟨D9, e9, rfl, _⟩ := id d8
   refine zG2 (i := 9) (by kernel_rfl) rfl rfl rfl rfl rfl rfl (cells := [.bool (ngB (x + y).num), .slice A9 (digs 10000 (x + y).num.natAbs).length c9, .slice D9 (digs 10000 (x + y).den).length e9]) rfl BR0 rfl (by kernel_rfl) (zF9 rfl rfl rfl) fun w9 hg9 B9 => ?_
   have k9 := off q8 BR0 zD2 hg9
   have d9 := off d8 BR0 zD2 hg9
   have f9 := f8.mono (show w.heap.size <= _ from s_8)
   have bb9 := bb.trans ((Below.refl _ _).grown hg9 bb.size (fun g hg => by injection hg with hg; omega))
   obtain ⟨C0, C1, C2, _, _, _⟩ := three B9
   refine zF2 (by kernel_rfl) ?_
   go_wp2
   exact bodyPost_ret (v := .agg #[.bool (ngB (x + y).num), .slice A9 (digs 10000 (x + y).num.natAbs).length c9, .slice D9 (digs 10000 (x + y).den).length e9]) (by simp [results, Tryz.results47, go_sem, C0, C1, C2]) rfl ⟨_, rfl, ⟨_, _, rfl, k9, d9⟩, f9, bb9⟩
end Go.Proofs.YtmpalajamfiiiaaGreat.rat
namespace Go.Proofs.YtmpalajamfiiiaaGreat.flow
open Go.RowKit num mem
section
variable {P : Program} {Q : Exit -> Act -> World -> Prop} {ops : Array Oper} {o : Oper}
theorem yO6 {L : List Oper} {Φ : List Pd} {w0 : World} {a0 : Act} {i : Nat} {t : TypeId} {x : Operand} {k : Nat} {F : World -> Value -> Prop} (hop : o.op = .field t x k) (hw : Wt ops L Φ w0 a0 o true) (hx : Ev L Φ w0 a0 o x F) (hr : ∀ w u, F w u -> ∃ v, (Instr.field t u k).run P w = .ok v w /\ (ph Φ i).p w v) : Ob P Q ops L Φ w0 a0 i o :=
 zN0 hw (by unfold isA; rw [hop]) fun ms w hS => by
  obtain ⟨v, h1, h2⟩ := hr w _ (hx ms w hS)
  exact ⟨v, by unfold execOp; simp only [hop, Sem.run_bind, h1]; rfl, h2⟩
end
end Go.Proofs.YtmpalajamfiiiaaGreat.flow
namespace Go.Proofs.YtmpalajamfiiiaaGreat.flow
open Go.RowKit num mem nat txt str
section
variable {P : Program} {Q : Exit -> Act -> World -> Prop} {ops : Array Oper} {o : Oper}
end
section
variable {P : Program} {Q : Exit -> Act -> World -> Prop} {ops : Array Oper} {L : List Oper} {Φ : List Pd} {w0 : World} {a0 : Act} {i : Nat} {o : Oper}
theorem zH6 {t : TypeId} {x y : Operand} {F G : World -> Value -> Prop} (hop : o.op = .indexAddr t x y) (hw : Wt ops L Φ w0 a0 o true) (hx : Ev L Φ w0 a0 o x F) (hy : Ev L Φ w0 a0 o y G)
  (hr : ∀ w u v, F w u -> G w v -> ∃ r, (Instr.indexAt t u v).run P w = .ok r w /\ (ph Φ i).p w r) : Ob P Q ops L Φ w0 a0 i o :=
 zN0 hw (by unfold isA; rw [hop]) fun ms w hS => by
  obtain ⟨v, h1, h2⟩ := hr w _ _ (hx ms w hS) (hy ms w hS)
  exact ⟨v, by unfold execOp; simp only [hop, Sem.run_bind, h1]; rfl, h2⟩
end
end Go.Proofs.YtmpalajamfiiiaaGreat.flow
namespace Go.Proofs.YtmpalajamfiiiaaGreat.rat
open Go.RowKit num mem nat txt str flow whl
theorem qY0 {x y m : Nat} (hx : (digs 4294967296 x).length <= m) (hy : (digs 4294967296 y).length <= m) : (digs 4294967296 (x + y)).length <= m + 1 := by
 have h1 := Nat.lt_of_lt_of_le (zJ (B := 4294967296) (by omega) x) (Nat.pow_le_pow_right (by omega) hx)
 have h2 := Nat.lt_of_lt_of_le (zJ (B := 4294967296) (by omega) y) (Nat.pow_le_pow_right (by omega) hy)
 refine zI3 (by omega) ?_
 rw [Nat.pow_succ]
 omega
theorem yO7 {x y : Int} {m : Nat} (hx : zD0 x <= m) (hy : zD0 y <= m) : zD0 (x + y) <= m + 1 :=
 zB4 (zG1 (by omega) (show (x + y).natAbs <= x.natAbs + y.natAbs by omega)) (qY0 hx hy)
theorem qY1 {x y : Rat} {m n : Nat} (h : zC3 x m) (h' : zC3 y n) : zC3 (x + y) (m + n + 1) := by
 rw [Rat.add_def']
 have e1 := zX3 x.num y.den
 have e2 := zX3 y.num x.den
 have e4 := zX3 x.den y.den
 have h1 := h.1; have h2 := h.2; have h3 := h'.1; have h4 := h'.2
 rw [zK3] at e1 e2
 rw [zK3, zK3, <- Int.natCast_mul, zK3] at e4
 have e3 := yO7 (x := x.num * y.den) (y := y.num * x.den) (m := m + n) (by omega) (by omega)
 exact zV8 (Nat.mul_ne_zero x.den_nz y.den_nz) e3 (by omega)
/-- An element: a fraction, and the slices of its parts. -/
abbrev Elt := Rat × Value × Value
/-- Its parts read as it, with limbs of this kind. -/
def IsE (k : IntKind) (B : Nat) (w : World) (p : Elt) : Prop := IsS w k p.2.1 (digs B p.1.num.natAbs) /\ IsS w k p.2.2 (digs B p.1.den)
theorem IsE.below {k : IntKind} {B : Nat} {w w' : World} {p : Elt} (h : IsE k B w p) (hb : Below w.heap.size w w') : IsE k B w' p := ⟨h.1.below hb, h.2.below hb⟩
def zJ5 (p : Elt) : List Value := [.bool (ngB p.1.num), p.2.1, p.2.2]
def zE8 (ps : List Elt) : List Value := ps.flatMap zJ5
theorem yO8 (ps : List Elt) (p : Elt) : zE8 (ps ++ [p]) = zE8 ps ++ zJ5 p := by simp [zE8]
theorem qG6 : ∀ (ps : List Elt) (i : Nat) (p : Elt), ps[i]? = some p -> (zE8 ps)[i * 3]? = some (.bool (ngB p.1.num)) /\ (zE8 ps)[i * 3 + 1]? = some p.2.1 /\ (zE8 ps)[i * 3 + 2]? = some p.2.2
  | [], i, p, h => by simp at h
  | q :: ps, 0, p, h => by
    obtain rfl : q = p := by simpa using h
    exact ⟨rfl, rfl, rfl⟩
  | q :: ps, i + 1, p, h => by
    have ih := qG6 ps i p (by simpa using h)
    have e : zE8 (q :: ps) = .bool (ngB q.1.num) :: q.2.1 :: q.2.2 :: zE8 ps := rfl
    rw [e, show (i + 1) * 3 = i * 3 + 1 + 1 + 1 from by omega]
    simpa using ih
/-- The value is a slice of these elements. -/
def zL1 (w : World) (v : Value) (ps : List Elt) : Prop := ∃ A c, v = .slice A ps.length c /\ ps.length <= c /\ c <= maxLen /\ ∀ i p, ps[i]? = some p -> ∃ g o, A = some ⟨g, o, none⟩ /\ w.cell? ⟨g, o + i * 3, none⟩ = some (.bool (ngB p.1.num)) /\ w.cell? ⟨g, o + i * 3 + 1, none⟩ = some p.2.1 /\ w.cell? ⟨g, o + i * 3 + 2, none⟩ = some p.2.2
theorem zL1.below {w w' : World} {v : Value} {ps : List Elt} (h : zL1 w v ps) (hb : Below w.heap.size w w') : zL1 w' v ps := by
 obtain ⟨A, c, e, h1, h2, h3⟩ := h
 refine ⟨A, c, e, h1, h2, fun i p hp => ?_⟩
 obtain ⟨g, o, e2, c0, c1, c2⟩ := h3 i p hp
 exact ⟨g, o, e2, (hb.cell (World.block_lt_of_cell? w _ c0)).trans c0, (hb.cell (World.block_lt_of_cell? w _ c1)).trans c1, (hb.cell (World.block_lt_of_cell? w _ c2)).trans c2⟩
/-- The value reads as these fractions, with limbs of this kind. -/
def SlF (k : IntKind) (B : Nat) (w : World) (v : Value) (qs : List Rat) : Prop := ∃ ps : List Elt, ps.map (·.1) = qs /\ zL1 w v ps /\ ∀ p ∈ ps, IsE k B w p
theorem SlF.below {k : IntKind} {B : Nat} {w w' : World} {v : Value} {qs : List Rat} (h : SlF k B w v qs) (hb : Below w.heap.size w w') : SlF k B w' v qs := by
 obtain ⟨ps, e, h1, h2⟩ := h
 exact ⟨ps, e, h1.below hb, fun p hp => (h2 p hp).below hb⟩
theorem SlF.shape {k : IntKind} {B : Nat} {w : World} {v : Value} {qs : List Rat} (h : SlF k B w v qs) : ∃ A c, v = .slice A qs.length c /\ qs.length <= c /\ c <= maxLen := by
 obtain ⟨ps, rfl, ⟨A, c, e, h1, h2, _⟩, _⟩ := h
 rw [List.length_map]
 exact ⟨A, c, e, h1, h2⟩
/-- One of them. -/
theorem SlF.at_ {k : IntKind} {B : Nat} {w : World} {A : Option Addr} {n c : Nat} {qs : List Rat} {i : Nat} {q : Rat} (h : SlF k B w (.slice A n c) qs) (hq : qs[i]? = some q) : ∃ g o u t, A = some ⟨g, o, none⟩ /\ i < n /\ w.cell? ⟨g, o + i * 3, none⟩ = some (.bool (ngB q.num)) /\ w.cell? ⟨g, o + i * 3 + 1, none⟩ = some u /\ w.cell? ⟨g, o + i * 3 + 2, none⟩ = some t /\ IsS w k u (digs B q.num.natAbs) /\ IsS w k t (digs B q.den) := by
  obtain ⟨ps, rfl, ⟨A', c', e, h1, h2, h3⟩, h4⟩ := h
  injection e with e1 e2 e3
  subst e1; subst e2; subst e3
  rw [List.getElem?_map] at hq
  cases hp : ps[i]? with
  | none => rw [hp] at hq; cases hq
  | some p =>
    rw [hp] at hq
    obtain rfl : p.1 = q := by simpa using hq
    obtain ⟨g, o, e4, c0, c1, c2⟩ := h3 i p hp
    have h5 := h4 p (zA5 hp)
    exact ⟨g, o, p.2.1, p.2.2, e4, (zA4.1 hp).1, c0, c1, c2, h5.1, h5.2⟩
theorem zH8 {P : Program} {t e : TypeId} (hu : P.underlying t = some (.slice e)) (hs : (P.info? e).map (·.size) = some 3) {g o n c k : Nat} (hk : k < n) (w : World) : (Instr.indexAt t (.slice (some ⟨g, o, none⟩) n c) (.int .i64 (k : Int))).run P w = .ok (.pointer (some ⟨g, o + k * 3, none⟩)) w := by
  cases hq : P.info? e with
  | none => simp [hq] at hs
  | some inf =>
    have hsz : inf.size = 3 := by simpa [hq] using hs
    simp [Instr.indexAt, asIntOf, go_sem, run_underlying hu, sizeOf, typeInfo, hq, hsz, hk]
theorem zN2 {P : Program} {t : TypeId} {g o : Nat} {x y z : Value} {d : TypeDesc} {w : World} (hu : P.underlying t = some d) (hd : d.isRow = true) (hi : (P.info? t).map (·.size) = some 3) (h0 : w.cell? ⟨g, o, none⟩ = some x) (h1 : w.cell? ⟨g, o + 1, none⟩ = some y) (h2 : w.cell? ⟨g, o + 2, none⟩ = some z) : (Instr.loadAt t (.pointer (some ⟨g, o, none⟩))).run P w = .ok (.agg #[x, y, z]) w :=
 run_loadAt_mid w g o t [x, y, z] d (fun j v hj => by
  match j, hj with
  | 0, hj => simp at hj; subst hj; exact h0
  | 1, hj => simp at hj; subst hj; exact h1
  | 2, hj => simp at hj; subst hj; exact h2
  | j + 3, hj => simp at hj) hu hd hi
/-- A row of the call's own that holds these elements. -/
def zE0 (T : TypeId) (w : World) (base : Nat) (v : Value) (ps : List Elt) : Prop := w.ownsRow base T 3 v ps.length (zE8 ps)
theorem zE0.below {T : TypeId} {w w' : World} {base : Nat} {v : Value} {ps : List Elt} (h : zE0 T w base v ps) (hb : Below w.heap.size w w') : zE0 T w' base v ps :=
 World.ownsRow.kept (row := none) h ⟨hb.os, hb.tape, hb.output, hb.size, fun i hi _ => hb.block i hi⟩ (by cases hv : v.ownBlock <;> simp)
theorem zE0.other {T : TypeId} {w w' : World} {base : Nat} {v : Value} {ps : List Elt} {row : Option Nat} (h : zE0 T w base v ps) (hg : w.grownBy w' row) (hne : ∀ g, v.ownBlock = some g -> row ≠ some g) : zE0 T w' base v ps :=
 World.ownsRow.kept (row := row) h hg (by
  cases hv : v.ownBlock with
  | none => exact .inl rfl
  | some g => exact .inr fun e => hne g hv e.symm)
theorem zE0.under {T : TypeId} {w : World} {base : Nat} {v : Value} {ps : List Elt} (h : zE0 T w base v ps) : ∀ g, v.ownBlock = some g -> g < w.heap.size := fun g hg => (World.ownsRow.lt h g hg).2
theorem zE0.base_le {T : TypeId} {w : World} {base : Nat} {v : Value} {ps : List Elt} (h : zE0 T w base v ps) : ∀ g, v.ownBlock = some g -> base <= g := fun g hg => (World.ownsRow.lt h g hg).1
theorem zE0.isVF {T : TypeId} {w : World} {base : Nat} {v : Value} {ps : List Elt} (h : zE0 T w base v ps) : zL1 w v ps := by
 rcases h.2 with ⟨rfl, h0⟩ | ⟨g, cap, cur, rfl, _, hg, hn, hm, _, _⟩
 ·obtain rfl : ps = [] := List.length_eq_zero_iff.1 h0
  exact ⟨none, 0, rfl, by simp, by unfold maxLen; omega, fun i u hu => by simp at hu⟩
 ·refine ⟨_, cap, rfl, hn, hm, fun i p hp => ⟨g, 0, rfl, ?_⟩⟩
  have e : ∀ j, (⟨g, 0, none⟩ : Addr).add j = ⟨g, 0 + j, none⟩ := by
   intro j
   unfold Addr.add
   by_cases h : j = 0
   ·simp [h]
   ·simp [h]
  obtain ⟨f0, f1, f2⟩ := qG6 ps i p hp
  have k0 := World.ownsRow.cells h (g := g) rfl _ _ f0
  have k1 := World.ownsRow.cells h (g := g) rfl _ _ f1
  have k2 := World.ownsRow.cells h (g := g) rfl _ _ f2
  rw [e] at k0 k1 k2
  exact ⟨k0, by rw [Nat.add_assoc]; exact k1, by rw [Nat.add_assoc]; exact k2⟩
theorem qN (T : TypeId) (w : World) (base : Nat) (hb : base <= w.heap.size) : zE0 T (w.alloc (.cells #[] T)) base (.slice (some ⟨w.heap.size, 0, none⟩) 0 0) [] := by
 have h := World.ownsRow_lit (e := T) (size := 3) w #[] 0 hb (by simp) (by simp)
 simpa [zE0, zE8] using h
theorem yO9 (T : TypeId) (w : World) (base : Nat) : zE0 T w base (.slice none 0 0) [] := World.ownsRow_nil w base T 3
/-- Elements of a row whose slices lie elsewhere than the row itself. -/
def zG5 (k : IntKind) (B : Nat) (w : World) (v : Value) (ps : List Elt) : Prop := ∀ p ∈ ps, IsE k B w p /\ Far v p.2.1 /\ Far v p.2.2
theorem zG5.nil (k : IntKind) (B : Nat) (w : World) (v : Value) : zG5 k B w v [] := fun p hp => by cases hp
theorem zG5.below {k : IntKind} {B : Nat} {w w' : World} {v : Value} {ps : List Elt} (h : zG5 k B w v ps) (hb : Below w.heap.size w w') : zG5 k B w' v ps := fun p hp => ⟨(h p hp).1.below hb, (h p hp).2⟩
theorem zG5.snoc {k : IntKind} {B : Nat} {w w' : World} {v v' : Value} {ps : List Elt} {p : Elt} (h : zG5 k B w v ps) (hk : qE8 w w' v v') (hp : IsE k B w p) (f1 : Far v p.2.1) (f2 : Far v p.2.2) : zG5 k B w' v' (ps ++ [p]) := by
 intro r hr
 rcases List.mem_append.1 hr with hr | hr
 ·obtain ⟨⟨a1, a2⟩, b1, b2⟩ := h r hr
  have x1 := hk _ _ _ a1 b1
  have x2 := hk _ _ _ a2 b2
  exact ⟨⟨x1.1, x2.1⟩, x1.2, x2.2⟩
 ·obtain rfl := List.mem_singleton.1 hr
  have x1 := hk _ _ _ hp.1 f1
  have x2 := hk _ _ _ hp.2 f2
  exact ⟨⟨x1.1, x2.1⟩, x1.2, x2.2⟩
theorem zE0.sl {T : TypeId} {k : IntKind} {B : Nat} {w : World} {base : Nat} {v : Value} {ps : List Elt} (h : zE0 T w base v ps) (hf : zG5 k B w v ps) : SlF k B w v (ps.map (·.1)) := ⟨ps, rfl, h.isVF, fun p hp => (hf p hp).1⟩
section
variable {P : Program}
end
theorem zQ4 : ∃ i, Tryz.prog.info? 44 = some i /\ i.zero = some (.agg #[.bool false, .slice none 0 0, .slice none 0 0]) /\ i.size = 3 /\ i.bytes = 56 := info_parts (P := Tryz.prog) (e := 44) (z := .agg #[.bool false, .slice none 0 0, .slice none 0 0]) (size := 3) (bytes := 56) (by kernel_rfl)
theorem qN0 : ∃ i, Tryz.prog.info? 55 = some i /\ i.zero = some (.agg #[.bool false, .slice none 0 0, .slice none 0 0]) /\ i.size = 3 /\ i.bytes = 56 := info_parts (P := Tryz.prog) (e := 55) (z := .agg #[.bool false, .slice none 0 0, .slice none 0 0]) (size := 3) (bytes := 56) (by kernel_rfl)
/-- The fraction that Clean makes of any. -/
def zJ1 (d : Nat) : Nat := if d = 0 then 1 else d
theorem qG7 (d : Nat) : zJ1 d ≠ 0 := by unfold zJ1; split <;> omega
theorem qY2 {d m : Nat} (h : (digs 4294967296 d).length <= m) (hm : 1 <= m) : (digs 4294967296 (zJ1 d)).length <= m := by
 unfold zJ1
 split
 ·exact zB4 (zI3 (k := 1) (by omega) (by omega)) hm
 ·exact h
def qB5 (b : Bool) (l m : List Nat) (most : Nat) : Rat := mkRat (zS1 b l most) (zJ1 (zV m most))
theorem yP (b : Bool) (l m : List Nat) {most : Nat} (hm : 1 <= most) : zC3 (qB5 b l m most) most := zV8 (qG7 _) (qX4 _ _ _) (qY2 (qL _ _) hm)
theorem yP0 (b : Bool) (v u : Value) (l m : List Nat) (mI : Int) (most : Nat) (w : World) (hmI : mI = (most : Int)) (h0 : IsS w .u64 v l) (u0 : Lt 18446744073709551616 l) (h1 : IsS w .u64 u m) (u1 : Lt 18446744073709551616 m) (hmost : most <= 1000) (hm1 : 1 <= most) :
  Calls Tryz.prog 66 #[.agg #[.bool b, v, u], .int .i64 mI] w (RetQ (qB5 b l m most) w) := by
 obtain ⟨A0, c0, rfl, _⟩ := id h0
 obtain ⟨D0, e0, rfl, _⟩ := id h1
 have HM := Lib.hid hmI
 clear hmI
 obtain ⟨y, hy⟩ : ∃ y, y = zV m most := ⟨_, rfl⟩
 have my : (digs 4294967296 y).length <= most := by rw [hy]; exact qL _ _
 have HY := Lib.hid hy.symm
 obtain ⟨x, hx⟩ : ∃ x, x = zS1 b l most := ⟨_, rfl⟩
 have lx : zD0 x <= most := by rw [hx]; exact qX4 _ _ _
 have HX := Lib.hid hx.symm
 have HQ : Hid (qB5 b l m most = mkRat x (zJ1 y)) := by show _ = _; unfold qB5; rw [hx, hy]
 clear hx hy
 go_enter Tryz.func66, Tryz.ntmps66
 go_upto_region 1 with (fail)
 obtain ⟨wx, hwx, bb, B0, B1, hsz⟩ := zG4 w 44 44 #[.bool b, .slice A0 l.length c0, .slice D0 m.length e0] #[.bool false, .slice none 0 0, .slice none 0 0]
 rw [hwx]
 clear hwx
 have k0s := h0.below bb
 have k0d := h1.below bb
 obtain ⟨x00, x01, x02, _, _, _⟩ := three B0
 have hs0 := bb.size
 go_wp2_with fail
 refine (HY.out ▸ qT6 _ m _ most _ HM.out k0d u1 (zB4 hmost (by decide))).mono ?_
 rintro e w1 ⟨v1, rfl, k1, f1, b1⟩
 obtain ⟨A1, c1, rfl, _⟩ := id k1
 replace B0 := B0.below b1
 replace B1 := B1.below b1
 replace k0s := k0s.below b1
 replace bb := bb.trans (b1.mono bb.size)
 have hs1 := bb.size
 clear x00 x01 x02 k0d
 have HL1 : Hid (zD0 x <= 30000) := zB4 lx (by omega)
 have HL2 : Hid ((digs 4294967296 (zJ1 y)).length <= 30000) := zB4 (qY2 my (by omega)) (by omega)
 have HLQ : Hid (zC3 (mkRat x (zJ1 y)) 30000) := zV8 (qG7 y) HL1.out HL2.out
 by_cases hy0 : y = 0
 ·have HZ : Hid ((digs 4294967296 y).length = 0) := by show _ = _; rw [hy0, zH0]; rfl
  have HO : Hid (digs 4294967296 (zJ1 y) = [1]) := by show _ = _; rw [hy0]; exact qT7 1 (by omega) (by omega)
  have hz0 : (digs 4294967296 y).length = 0 := HZ.out
  clear hy0
  have bA := zC8 (zB3 w1.heap.size) (.cells #[.int .u64 1] 99)
  have k1o := (qR5 w1 w1.heap.size 99 .u64 (show (1 : Int) = ((1 : Nat) : Int) from rfl) (zB3 _)).isS
  rw [<- HO.out] at k1o
  replace k0s := k0s.below bA
  obtain ⟨x10, x11, x12, _, _, _⟩ := three (B0.below bA)
  replace B1 := B1.below bA
  replace bb := bb.trans (bA.mono bb.size)
  have hs2 := bb.size
  clear k1 f1
  go_wp2_with fail
  refine (HX.out ▸ qX5 b _ l _ most _ HM.out k0s u0 (zB4 hmost (by decide))).mono ?_
  rintro e w2 ⟨v2, rfl, k2, f2, b2⟩
  replace B1 := B1.below b2
  replace k1o := k1o.below b2
  replace bb := bb.trans (b2.mono bb.size)
  have hs3 := bb.size
  go_wp2_with fail
  refine (qM6 _ x _ k2 HL1.out).mono ?_
  rintro e w3 ⟨v3, rfl, k3, b3⟩
  replace B1 := B1.below b3
  replace k1o := k1o.below b3
  replace bb := bb.trans (b3.mono bb.size)
  have hs4 := bb.size
  go_wp2_with fail
  refine (zW8 _ (zJ1 y) _ k1o (zB4 HL2.out (by decide))).mono ?_
  rintro e w4 ⟨v4, rfl, k4, f4, b4⟩
  replace B1 := B1.below b4
  replace k3 := k3.below b4
  replace bb := bb.trans (b4.mono bb.size)
  have hs5 := bb.size
  go_wp2_with fail
  refine (qB4 _ x _ (zJ1 y) _ k3 k4 (qG7 y) HL1.out HL2.out).mono ?_
  rintro e w5 ⟨v5, rfl, k5, f5, b5⟩
  replace B1 := B1.below b5
  replace bb := bb.trans (b5.mono bb.size)
  have hs6 := bb.size
  have hg5 := B1.lt
  go_wp2_with fail
  refine (qG4 _ _ _ k5 HLQ.out).mono ?_
  rintro e w6 ⟨v6, rfl, ⟨u6, t6, rfl, k6, d6⟩, f6, b6⟩
  obtain ⟨A6, c6, rfl, _⟩ := id k6
  obtain ⟨D6, e6, rfl, _⟩ := id d6
  replace B1 := B1.below b6
  replace bb := bb.trans (b6.mono bb.size)
  obtain ⟨y0, y1, y2, z0, z1, z2⟩ := three B1
  go_wp2
  exact bodyPost_ret (v := .agg #[.bool (ngB (mkRat x (zJ1 y)).num), .slice A6 (digs 4294967296 (mkRat x (zJ1 y)).num.natAbs).length c6, .slice D6 (digs 4294967296 (mkRat x (zJ1 y)).den).length e6]) (by simp [results, Tryz.results66, go_sem, y0, y1, y2]) rfl (by rw [HQ.out]; exact endQ bb (by omega) hg5 k6 d6 f6)
 ·have HZ : 0 < (digs 4294967296 y).length := qA2 (by omega)
  have HO : Hid (zJ1 y = y) := if_neg hy0
  clear hy0
  obtain ⟨x10, x11, x12, _, _, _⟩ := three B0
  have k1o : IsS w1 .u64 (.slice A1 (digs 4294967296 y).length c1) (digs 4294967296 (zJ1 y)) := by rw [HO.out]; exact k1
  go_wp2_with fail
  refine (HX.out ▸ qX5 b _ l _ most _ HM.out k0s u0 (zB4 hmost (by decide))).mono ?_
  rintro e w2 ⟨v2, rfl, k2, f2, b2⟩
  replace B1 := B1.below b2
  replace k1o := k1o.below b2
  replace bb := bb.trans (b2.mono bb.size)
  have hs3 := bb.size
  go_wp2_with fail
  refine (qM6 _ x _ k2 HL1.out).mono ?_
  rintro e w3 ⟨v3, rfl, k3, b3⟩
  replace B1 := B1.below b3
  replace k1o := k1o.below b3
  replace bb := bb.trans (b3.mono bb.size)
  have hs4 := bb.size
  go_wp2_with fail
  refine (zW8 _ (zJ1 y) _ k1o (zB4 HL2.out (by decide))).mono ?_
  rintro e w4 ⟨v4, rfl, k4, f4, b4⟩
  replace B1 := B1.below b4
  replace k3 := k3.below b4
  replace bb := bb.trans (b4.mono bb.size)
  have hs5 := bb.size
  go_wp2_with fail
  refine (qB4 _ x _ (zJ1 y) _ k3 k4 (qG7 y) HL1.out HL2.out).mono ?_
  rintro e w5 ⟨v5, rfl, k5, f5, b5⟩
  replace B1 := B1.below b5
  replace bb := bb.trans (b5.mono bb.size)
  have hs6 := bb.size
  have hg5 := B1.lt
  go_wp2_with fail
  refine (qG4 _ _ _ k5 HLQ.out).mono ?_
  rintro e w6 ⟨v6, rfl, ⟨u6, t6, rfl, k6, d6⟩, f6, b6⟩
  obtain ⟨A6, c6, rfl, _⟩ := id k6
  obtain ⟨D6, e6, rfl, _⟩ := id d6
  replace B1 := B1.below b6
  replace bb := bb.trans (b6.mono bb.size)
  obtain ⟨y0, y1, y2, z0, z1, z2⟩ := three B1
  go_wp2
  exact bodyPost_ret (v := .agg #[.bool (ngB (mkRat x (zJ1 y)).num), .slice A6 (digs 4294967296 (mkRat x (zJ1 y)).num.natAbs).length c6, .slice D6 (digs 4294967296 (mkRat x (zJ1 y)).den).length e6]) (by simp [results, Tryz.results66, go_sem, y0, y1, y2]) rfl (by rw [HQ.out]; exact endQ bb (by omega) hg5 k6 d6 f6)
theorem qG8 (z : Int) {d : Nat} (hd : d ≠ 0) : (mkRat z d).num = z / ((z.natAbs.gcd d : Nat) : Int) := by
 rw [Rat.num_mkRat, if_neg hd, Nat.gcd_comm]
/-- The upper part, and what it divides. -/
theorem qN1 (z : Int) {d : Nat} (hd : d ≠ 0) : z = (mkRat z d).num * ((z.natAbs.gcd d : Nat) : Int) := by
 rw [qG8 z hd, Int.ediv_mul_cancel (Int.ofNat_dvd_left.2 (Nat.gcd_dvd_left _ _))]
theorem qY3 (z : Int) {d : Nat} (hd : d ≠ 0) : d = (mkRat z d).den * (z.natAbs.gcd d) := by
 rw [zU z hd, Nat.div_mul_cancel (Nat.gcd_dvd_right _ _)]
/-- A fraction by its own parts, which nothing divides. -/
theorem yP1 {q : Rat} {n : Int} {d : Nat} (hd : d ≠ 0) (h : q = mkRat n d) (hc : Nat.gcd n.natAbs d = 1) : q.num = n /\ q.den = d := by
 subst h
 constructor
 ·rw [qG8 n hd, hc]; exact Int.ediv_one n
 ·rw [zU n hd, hc, Nat.div_one]
theorem yP2 (x y : Rat) : (x * y).num = (mkRat x.num y.den).num * (mkRat y.num x.den).num /\ (x * y).den = (mkRat y.num x.den).den * (mkRat x.num y.den).den := by
 have e1 := qN1 x.num y.den_nz
 have e2 := qY3 x.num y.den_nz
 have e3 := qN1 y.num x.den_nz
 have e4 := qY3 y.num x.den_nz
 have r1 := (mkRat x.num y.den).reduced
 have r2 := (mkRat y.num x.den).reduced
 have n1 := (mkRat x.num y.den).den_nz
 have n2 := (mkRat y.num x.den).den_nz
 have x1 := x.reduced
 have y1 := y.reduced
 refine yP1 (Nat.mul_ne_zero n2 n1) ?_ ?_
 ·rw [Nat.mul_comm, <- Rat.mkRat_mul_mkRat, Rat.mkRat_self, Rat.mkRat_self, Rat.mkRat_mul_mkRat, Nat.mul_comm y.den, Rat.mul_def']
 ·have d1 : (mkRat x.num y.den).num.natAbs ∣ x.num.natAbs := Int.natAbs_dvd_natAbs.2 ⟨_, e1⟩
  have d2 : (mkRat y.num x.den).den ∣ x.den := ⟨_, e4⟩
  have d3 : (mkRat y.num x.den).num.natAbs ∣ y.num.natAbs := Int.natAbs_dvd_natAbs.2 ⟨_, e3⟩
  have d4 : (mkRat x.num y.den).den ∣ y.den := ⟨_, e2⟩
  rw [Int.natAbs_mul]
  have c1 : Nat.Coprime (mkRat x.num y.den).num.natAbs (mkRat y.num x.den).den := Nat.Coprime.coprime_dvd_left d1 (Nat.Coprime.coprime_dvd_right d2 x1)
  have c2 : Nat.Coprime (mkRat y.num x.den).num.natAbs (mkRat x.num y.den).den := Nat.Coprime.coprime_dvd_left d3 (Nat.Coprime.coprime_dvd_right d4 y1)
  exact (Nat.Coprime.mul_right c1 r1).mul_left (Nat.Coprime.mul_right r2 c2)
theorem yP3 (x y : Rat) {g a b : Nat} (hg : g = x.den.gcd y.den) (ha : a = x.den / g) (hb : b = y.den / g) : (x + y).num = (mkRat (x.num * (b : Int) + y.num * (a : Int)) g).num /\ (x + y).den = a * b * (mkRat (x.num * (b : Int) + y.num * (a : Int)) g).den := by
 have gp : 0 < g := by rw [hg]; exact Nat.gcd_pos_of_pos_left _ x.den_pos
 have haux := Rat.add.aux x y hg ha hb
 have e1 : x.den = a * g := by rw [ha, Nat.div_mul_cancel (by rw [hg]; exact Nat.gcd_dvd_left _ _)]
 have e2 : y.den = b * g := by rw [hb, Nat.div_mul_cancel (by rw [hg]; exact Nat.gcd_dvd_right _ _)]
 obtain ⟨S, hS⟩ : ∃ S, S = x.num * (b : Int) + y.num * (a : Int) := ⟨_, rfl⟩
 rw [<- hS]
 have haux : S.natAbs.gcd g = S.natAbs.gcd (a * y.den) := by rw [hS]; exact haux
 have e3 : x + y = mkRat S (a * y.den) := by
  rw [Rat.add_def', show x.num * (y.den : Int) + y.num * (x.den : Int) = S * (g : Int) by rw [hS, e1, e2, Int.natCast_mul, Int.natCast_mul, Int.add_mul, Int.mul_assoc, Int.mul_assoc], show x.den * y.den = a * y.den * g by rw [e1]; rw [zB5, Nat.mul_comm g, <- zB5], Rat.mkRat_mul_right (by omega)]
 have ne : a * y.den ≠ 0 := Nat.mul_ne_zero (fun e => x.den_nz (by rw [e1, e, Nat.zero_mul])) y.den_nz
 rw [e3]
 constructor
 ·rw [qG8 S ne, qG8 S (by omega), haux]
 ·rw [zU S ne, zU S (by omega), <- haux, e2, <- zB5, Nat.mul_div_assoc _ (Nat.gcd_dvd_right _ _)]
theorem yP4 {x y : Rat} : x = y ↔ x.num = y.num /\ x.den = y.den := ⟨fun h => by rw [h]; exact ⟨rfl, rfl⟩, fun h => Rat.ext h.1 h.2⟩
/-- A whole number, and a number, both in new memory. -/
def zX9 (z : Int) (d : Nat) (w : World) (e : Ending) (w' : World) : Prop := ∃ v u, e = .returned (.tuple #[v, u]) /\ IsZ w' v z /\ IsS w' .u64 u (digs 4294967296 d) /\ zO9 w.heap.size v /\ zD5 w.heap.size u /\ Below w.heap.size w w'
def pzs (z : Int) (d : Nat) (B : Nat) : Pd := ⟨fun w t => ∃ v u, t = .tuple #[v, u] /\ IsZ w v z /\ IsS w .u64 u (digs 4294967296 d) /\ zO9 B v /\ zD5 B u, fun h hb => by obtain ⟨v, u, e, h1, h2, h3, h4⟩ := h; exact ⟨v, u, e, h1.below hb, h2.below hb, h3, h4⟩⟩
theorem zX9.pd {z : Int} {d : Nat} {w : World} {e : Ending} {w' : World} {B : Nat} (h : zX9 z d w e w') (hB : B <= w.heap.size) : zH5 (pzs z d B) w e w' := by
 obtain ⟨v, u, h1, h2, h3, h4, h5, h6⟩ := h
 exact ⟨_, h1, ⟨v, u, rfl, h2, h3, h4.mono hB, h5.mono hB⟩, h6⟩
/-- A fraction in new memory, and an error's number. -/
def RetQF (q : Rat) (n : Int) (w : World) (e : Ending) (w' : World) : Prop := ∃ v, e = .returned (.tuple #[v, .int .i64 n]) /\ IsQ w' v q /\ zQ1 w.heap.size v /\ Below w.heap.size w w'
theorem zG3.to {x y : Int} {w : World} {e : Ending} {w' : World} (h : zG3 x w e w') (k : x = y) : zG3 y w e w' := k ▸ h
theorem zD1.to {l m : List Nat} {w : World} {e : Ending} {w' : World} (h : zD1 .u64 l w e w') (k : l = m) : zD1 .u64 m w e w' := k ▸ h
theorem RetQ.to {x y : Rat} {w : World} {e : Ending} {w' : World} (h : RetQ x w e w') (k : x = y) : RetQ y w e w' := k ▸ h
/-- A struct of a sign, a slice told, and a new number. -/
def pbq (b : Bool) (S : Value) (l : List Nat) (B : Nat) : Pd := ⟨fun w v => ∃ A c, v = .agg #[.bool b, S, .slice A l.length c] /\ IsS w .u64 (.slice A l.length c) l /\ zD5 B (.slice A l.length c), fun h hb => by obtain ⟨A, c, e, h1, h2⟩ := h; exact ⟨A, c, e, h1.below hb, h2⟩⟩
theorem yP5 (a0 : Value) (x : Nat) (w : World) (h0 : IsS w .u64 a0 (digs 4294967296 x)) :
  Calls Tryz.prog 123 #[a0] w (zD7 (.agg #[.bool false, a0]) w) := by
 have s0 := h0
 obtain ⟨A0, c0, rfl, _⟩ := id s0
 go_enter Tryz.func123, Tryz.ntmps123
 go_upto_region 1 with (fail)
 obtain ⟨wx, hwx, bb, BR0, hsz⟩ := zQ3 w 42 #[.bool false, .slice none 0 0]
 rw [hwx]
 clear hwx
 have k0 := s0.below bb
 have hsz0 := bb.size
 have sB := bb.size
 refine zC5 2 [Pd.eq (.slice A0 (digs 4294967296 x).length c0), Pd.eq (.agg #[.bool false, .slice A0 (digs 4294967296 x).length c0])] (by kernel_rfl) ?ob1 ?done1
 case ob1 =>
  refine zA (zC1 rfl (zB6 rfl) (zB8 rfl rfl) (fun _ _ h => h)) ?_
  refine zA (qM8 rfl (zB6 rfl) (zB7 (j := 0) (by kernel_rfl) rfl rfl) (fun w2 u hb hu => by obtain rfl := hu; exact ⟨.agg #[.bool false, .slice A0 (digs 4294967296 x).length c0], by kernel_rfl, rfl⟩)) ?_
  trivial
 case done1 =>
  refine fun w1 hb1 v0 h0 v1 h1 b hbf => ?_
  obtain rfl := h0; obtain rfl := h1
  simp only [Act.put, zA0, zA2, zA1] at hbf
  subst hbf
  replace BR0 := BR0.below hb1
  replace k0 := k0.below hb1
  replace bb := bb.trans (hb1.mono bb.size)
  have hsz1 := bb.size
  refine zH2 (i := 2) rfl rfl rfl rfl rfl rfl (cells := [.bool false, .slice A0 (digs 4294967296 x).length c0]) rfl BR0 rfl (by kernel_rfl) (zG6 rfl rfl) fun w9 hg9 B9 => ?_
  have bb9 := bb.trans ((Below.refl _ _).grown hg9 bb.size (fun g hg => by injection hg with hg; omega))
  obtain ⟨C0, C1, _, _⟩ := Blk.two B9
  refine zC6 ?_
  go_wp2
  exact bodyPost_ret (v := .agg #[.bool false, .slice A0 (digs 4294967296 x).length c0]) (by simp [results, Tryz.results123, go_sem, C0, C1]) rfl ⟨rfl, bb9⟩
theorem qB6 (a0 : Value) (x : Nat) (w : World) (h0 : IsS w .u64 a0 (digs 4294967296 x)) : Calls Tryz.prog 123 #[a0] w (zH5 (pi ((x : Nat) : Int)) w) :=
 (yP5 a0 x w h0).mono fun e w' h => ⟨_, h.1, zF5 (h0.below h.2) (Int.natAbs_natCast _) (qA6 (by omega)).symm, h.2⟩
theorem qN2 (a0 : Value) (x : Nat) (a1 : Value) (y : Nat) (w : World) (h0 : IsS w .u64 a0 (digs 4294967296 x)) (h1 : IsS w .u64 a1 (digs 4294967296 y)) (hl : (digs 4294967296 x).length <= 100000) (hl2 : (digs 4294967296 y).length <= 100000) :
  Calls Tryz.prog 104 #[a0, a1] w (zD1 .u64 (digs 4294967296 (x * y)) w) := by
 have s0 := h0
 obtain ⟨A0, c0, rfl, _⟩ := id s0
 have s1 := h1
 obtain ⟨A1, c1, rfl, _⟩ := id s1
 have bb : Below w.heap.size w w := Below.refl _ _
 have HM : Hid (((x * y : Nat) : Int) = ((x : Nat) : Int) * ((y : Nat) : Int)) := Int.natCast_mul x y
 have HL1 : Hid (zD0 ((x : Nat) : Int) <= 100000) := by show _ <= _; rw [zK3]; omega
 have HL2 : Hid (zD0 ((y : Nat) : Int) <= 100000) := by show _ <= _; rw [zK3]; omega
 go_enter Tryz.func104, Tryz.ntmps104
 go_upto_region 1 with (fail)
 have k0 := s0.below bb
 have k1 := s1.below bb
 have hsz0 := bb.size
 have sB := bb.size
 refine zC5 7 [Pd.eq (.slice A0 (digs 4294967296 x).length c0), pi (((x : Nat) : Int)), Pd.eq (.slice A1 (digs 4294967296 y).length c1), pi (((y : Nat) : Int)), pz (((x * y : Nat) : Int)) w.heap.size, ps .u64 (digs 4294967296 (x * y)) w.heap.size, ps .u64 (digs 4294967296 (x * y)) w.heap.size] (by kernel_rfl) ?ob2 ?done2
 case ob2 =>
  refine zA (zC1 rfl (zB6 rfl) (zB8 rfl rfl) (fun _ _ h => h)) ?_
  refine zA (zE4 rfl Tryz.func123 (by kernel_rfl) (zB6 rfl) (zB7 (j := 0) (by kernel_rfl) rfl rfl) (fun w2 u0 hb h0 => by obtain rfl := h0; exact qB6 _ (x) _ (k0.below hb))) ?_
  refine zA (zC1 rfl (zB6 rfl) (zB8 rfl rfl) (fun _ _ h => h)) ?_
  refine zA (zE4 rfl Tryz.func123 (by kernel_rfl) (zB6 rfl) (zB7 (j := 2) (by kernel_rfl) rfl rfl) (fun w2 u0 hb h0 => by obtain rfl := h0; exact qB6 _ (y) _ (k1.below hb))) ?_
  refine zA (zD rfl Tryz.func103 (by kernel_rfl) (zB6 rfl) (zB7 (j := 1) (by kernel_rfl) rfl rfl) (zB7 (j := 3) (by kernel_rfl) rfl rfl) (fun w2 u0 u1 hb h0 h1 => by exact (qG0 _ _ _ _ _ _ h0 h1 HL1.out HL2.out HM.out).mono fun e w3 h => zG3.pd h hb.size)) ?_
  refine zA (yO6 rfl (zB6 rfl) (zB7 (j := 4) (by kernel_rfl) rfl rfl) (fun w2 u hu => by obtain ⟨⟨u', rfl, q'⟩, f'⟩ := hu; exact ⟨u', by kernel_rfl, q', f' _ _ rfl⟩)) ?_
  refine zA (zD4 rfl (zB6 rfl) (zB7 (j := 5) (by kernel_rfl) rfl rfl) (fun _ _ h => h)) ?_
  trivial
 case done2 =>
  refine fun w1 hb1 v0 h0 v1 h1 v2 h2 v3 h3 v4 h4 v5 h5 v6 h6 b hbf => ?_
  obtain rfl := h0; obtain rfl := h2
  have q1 := h1
  have q3 := h3
  obtain ⟨q4, f4⟩ := h4
  obtain ⟨q5, f5⟩ := h5
  obtain ⟨q6, f6⟩ := h6
  simp only [Act.put, zA0, zA2, zA1] at hbf
  subst hbf
  replace k0 := k0.below hb1
  replace k1 := k1.below hb1
  replace bb := bb.trans (hb1.mono bb.size)
  have hsz1 := bb.size
  have s_4 := sB
  have s_5 := sB
  have s_6 := sB
  refine zC6 ?_
  go_wp2
  go_ret
  exact ⟨_, rfl, q6, f6.mono s_6, bb⟩
theorem qN3 (a0 : Value) (z : Int) (a1 : Value) (d : Nat) (U : Int) (L : Nat) (w : World) (h0 : IsZ w a0 z) (h1 : IsS w .u64 a1 (digs 4294967296 d)) (hd : d ≠ 0) (hl : zD0 z <= 20000) (hl2 : (digs 4294967296 d).length <= 20000) (hU : U = (mkRat z d).num) (hL : L = (mkRat z d).den) :
  Calls Tryz.prog 102 #[a0, a1] w (zX9 U L w) := by
 obtain ⟨u0, rfl, s0⟩ := h0
 obtain ⟨A0, c0, rfl, _⟩ := id s0
 have s1 := h1
 obtain ⟨A1, c1, rfl, _⟩ := id s1
 obtain ⟨G, hG⟩ : ∃ G, G = Nat.gcd z.natAbs d := ⟨_, rfl⟩
 have hGp : 0 < G := by rw [hG]; exact Nat.gcd_pos_of_pos_right _ (by omega)
 have hGd : G <= d := by rw [hG]; exact Nat.le_of_dvd (by omega) (Nat.gcd_dvd_right _ _)
 have HL1 : Hid ((digs 4294967296 z.natAbs).length <= 90000) := zB4 hl (by decide)
 have HL2 : Hid ((digs 4294967296 d).length <= 90000) := zB4 hl2 (by decide)
 have HL3 : Hid (zD0 ((G : Nat) : Int) <= 20000) := by show _ <= _; rw [zK3]; exact zB4 (zG1 (by omega) hGd) hl2
 have HL4 : Hid ((digs 4294967296 G).length <= 90000) := zB4 (zG1 (by omega) hGd) HL2.out
 have HG : Hid (zN8 [z.natAbs, d] = G) := by show _ = _; rw [hG]; simp [zN8]
 have HU : Hid (z = U * ((G : Nat) : Int)) := by show _ = _; rw [hU, hG]; exact qN1 z hd
 have HM : Hid (d % G = 0) := by show _ = _; rw [hG]; exact Nat.mod_eq_zero_of_dvd (Nat.gcd_dvd_right _ _)
 have HQ : Hid (L = d / G) := by show _ = _; rw [hL, hG]; exact zU z hd
 have HN : Hid (((G : Nat) : Int) ≠ 0) := by show _ ≠ _; omega
 clear hG hU hL hGd
 go_enter Tryz.func102, Tryz.ntmps102
 go_upto_region 1 with (fail)
 obtain ⟨wx, hwx, bb, B0, BR0, hsz⟩ := zG4 w 42 42 #[.bool (ngB z), .slice A0 (digs 4294967296 (z).natAbs).length c0] #[.bool false, .slice none 0 0]
 rw [hwx]
 clear hwx
 have k0s := s0.below bb
 have k0 : IsZ wx (.agg #[.bool (ngB z), .slice A0 (digs 4294967296 (z).natAbs).length c0]) (z) := zF5 k0s rfl rfl
 have k1 := s1.below bb
 have hsz0 := bb.size
 obtain ⟨x00, x01, _, _⟩ := Blk.two B0
 go_wp2_with fail
 have hbA := zC8 (zB3 wx.heap.size) (.cells #[.slice A0 (digs 4294967296 (z).natAbs).length c0, .slice A1 (digs 4294967296 d).length c1] 40)
 refine (qX3 _ [_, _] [z.natAbs, d] _ (zT3 wx 40 [_, _]) (qK4 (k0s.below hbA) (k1.below hbA)) (by simp) (by intro q hq; simp at hq; rcases hq with rfl | rfl; exact HL1.out; exact HL2.out)).mono ?_
 rintro e w1 ⟨v1, rfl, kg, kgf, b1⟩
 have hb1 := hbA.trans (b1.mono hbA.size)
 rw [HG.out] at kg
 clear x00 x01
 replace B0 := B0.below hb1
 replace k0s := k0s.below hb1
 replace k0 := k0.below hb1
 replace BR0 := BR0.below hb1
 replace k1 := k1.below hb1
 replace bb := bb.trans (hb1.mono bb.size)
 have hsz1 := bb.size
 obtain ⟨Akg, ckg, rfl, _⟩ := id kg
 have sB := bb.size
 go_upto_region 2 with (fail)
 have lt1_2 := Blk.lt B0
 have lt1_4 := Blk.lt BR0
 refine flowl 8 [Pd.eq (.agg #[.bool (ngB z), .slice A0 (digs 4294967296 (z).natAbs).length c0]), Pd.eq (.slice Akg (digs 4294967296 G).length ckg), pi (((G : Nat) : Int)), pze (U) 0 w1.heap.size, pze (U) 0 w1.heap.size, pz (U) w1.heap.size, Pd.eq (.int .i64 0), pn 42 #[.bool false, .slice none 0 0] w1.heap.size] (by kernel_rfl) 6 rfl (by kernel_rfl) (fun _ _ _ _ h => h) (yO0 rfl rfl (zB7 (j := 4) (by kernel_rfl) rfl rfl) (fun w2 u hu => by obtain ⟨v, rfl, q1, q2⟩ := hu; exact ⟨_, fun _ => rfl, rfl⟩)) ?ob3 ?done3
 case ob3 =>
  refine zA (zB9 rfl (zB6 rfl) (zB8 rfl rfl) (fun w2 hb => zF4 Tryz.underlying42 rfl (by kernel_rfl) (B0.drew.below hb)) (fun _ _ => rfl)) ?_
  refine zA (zC1 rfl (zB6 rfl) (zB8 rfl rfl) (fun _ _ h => h)) ?_
  refine zA (zE4 rfl Tryz.func123 (by kernel_rfl) (zB6 rfl) (zB7 (j := 1) (by kernel_rfl) rfl rfl) (fun w2 u0 hb h0 => by obtain rfl := h0; exact qB6 _ (G) _ (kg.drew.below hb))) ?_
  refine zA (zD rfl Tryz.func122 (by kernel_rfl) (zB6 rfl) (zB7 (j := 0) (by kernel_rfl) rfl rfl) (zB7 (j := 2) (by kernel_rfl) rfl rfl) (fun w2 u0 u1 hb h0 h1 => by obtain rfl := h0; exact (yN7 _ z _ _ U _ (k0.drew.below hb) h1 hl HL3.out HN.out HU.out).mono fun e w3 h => qG.pd h hb.size)) ?_
  refine zA (zC1 rfl (zB6 rfl) (zB7 (j := 3) (by kernel_rfl) rfl rfl) (fun _ _ h => h)) ?_
  refine zA (zF7 rfl (zB6 rfl) (zB7 (j := 4) (by kernel_rfl) rfl rfl) (fun w2 u hu => by obtain ⟨v, rfl, q1, q2⟩ := hu; exact ⟨v, rfl, q1, q2⟩)) ?_
  refine zA (zF7 rfl (zB6 rfl) (zB7 (j := 4) (by kernel_rfl) rfl rfl) (fun w2 u hu => by obtain ⟨v, rfl, q1, q2⟩ := hu; exact ⟨_, rfl, rfl⟩)) ?_
  refine zA (zL (z := .agg #[.bool false, .slice none 0 0]) rfl rfl (fun _ => by kernel_rfl) (fun _ _ hB h => ⟨_, rfl, hB, h⟩)) ?_
  trivial
 case done3 =>
  refine fun w2 hb2 v0 h0 v1 h1 v2 h2 v3 h3 v4 h4 v5 h5 v6 h6 v7 h7 d7 b hbf => ?_
  obtain rfl := h0; obtain rfl := h1; obtain rfl := h6
  have q2 := h2
  clear h3
  clear h4
  obtain ⟨q5, f5⟩ := h5
  obtain ⟨g3_7, rfl, hg7, B7⟩ := h7
  simp only [Act.put, zA0, zA2, zA1] at hbf
  subst hbf
  replace B0 := B0.below hb2
  replace k0s := k0s.below hb2
  replace k0 := k0.below hb2
  replace BR0 := BR0.below hb2
  replace k1 := k1.below hb2
  replace kg := kg.below hb2
  replace bb := bb.trans (hb2.mono bb.size)
  have hsz2 := bb.size
  have s_5 := sB
  have BA7 := B7
  obtain ⟨u5, rfl, q5⟩ := q5
  obtain ⟨A7, c7, rfl, _⟩ := id q5
  refine zG2 (i := 8) (by kernel_rfl) rfl rfl rfl rfl rfl rfl (cells := [.bool (ngB U), .slice A7 (digs 4294967296 (U).natAbs).length c7]) rfl BA7 rfl (by kernel_rfl) (zG6 rfl rfl) fun w3 hg3 BN3 => ?_
  replace q5 := off q5 BA7 zD3 hg3
  replace k1 := off k1 BA7 zD3 hg3
  replace kg := off kg BA7 zD3 hg3
  replace k0s := off k0s BA7 zD3 hg3
  replace k0 : IsZ w3 (.agg #[.bool (ngB z), .slice A0 (digs 4294967296 (z).natAbs).length c0]) (z) := ⟨_, rfl, k0s⟩
  replace B0 := B0.grown hg3 (by omega)
  replace BR0 := BR0.grown hg3 (by omega)
  replace bb := bb.trans ((Below.refl _ _).grown hg3 bb.size (fun g hg => by injection hg with hg; omega))
  have hsz3 := bb.size
  have B7 : Blk w3 (g3_7) _ _ := BN3
  have k7s := q5
  have k7 : IsZ w3 (.agg #[.bool (ngB U), .slice A7 (digs 4294967296 (U).natAbs).length c7]) (U) := ⟨_, rfl, k7s⟩
  refine qM1 (i := 9) (.int .i64 0) (by kernel_rfl) rfl rfl rfl rfl rfl fun b hbf => ?_
  simp only [Act.put, zA0, zA2, zA1] at hbf
  subst hbf
  refine zF2 (by kernel_rfl) ?_
  have f7_ := (f5 _ _ rfl).mono s_5
  have sB := bb.size
  go_upto_region 3 with (fail)
  refine zC5 8 [Pd.eq (.slice A1 (digs 4294967296 d).length c1), Pd.eq (.slice Akg (digs 4294967296 G).length ckg), pt .u64 (digs 4294967296 L) 0 w3.heap.size, pt .u64 (digs 4294967296 L) 0 w3.heap.size, ps .u64 (digs 4294967296 L) w3.heap.size, Pd.eq (.int .i64 0), ps .u64 (digs 4294967296 L) w3.heap.size, Pd.eq (.int .i64 0)] (by kernel_rfl) ?ob4 ?done4
  case ob4 =>
   refine zA (zC1 rfl (zB6 rfl) (zB8 rfl rfl) (fun _ _ h => h)) ?_
   refine zA (zC1 rfl (zB6 rfl) (zB8 rfl rfl) (fun _ _ h => h)) ?_
   refine zA (zD rfl Tryz.func124 (by kernel_rfl) (zB6 rfl) (zB7 (j := 0) (by kernel_rfl) rfl rfl) (zB7 (j := 1) (by kernel_rfl) rfl rfl) (fun w2 u0 u1 hb h0 h1 => by obtain rfl := h0; obtain rfl := h1; exact (qF1 _ _ d G _ (k1.below hb) (kg.below hb) HL2.out HL4.out hGp L HM.out HQ.out).mono fun e w3 h => zM8.pd h hb.size)) ?_
   refine zA (zC1 rfl (zB6 rfl) (zB7 (j := 2) (by kernel_rfl) rfl rfl) (fun _ _ h => h)) ?_
   refine zA (zF7 rfl (zB6 rfl) (zB7 (j := 3) (by kernel_rfl) rfl rfl) (fun w2 u hu => by obtain ⟨v, rfl, q1, q2⟩ := hu; exact ⟨v, rfl, q1, q2⟩)) ?_
   refine zA (zF7 rfl (zB6 rfl) (zB7 (j := 3) (by kernel_rfl) rfl rfl) (fun w2 u hu => by obtain ⟨v, rfl, q1, q2⟩ := hu; exact ⟨_, rfl, rfl⟩)) ?_
   refine zA (zD4 rfl (zB6 rfl) (zB7 (j := 4) (by kernel_rfl) rfl rfl) (fun _ _ h => h)) ?_
   refine zA (zD4 rfl (zB6 rfl) (zB7 (j := 5) (by kernel_rfl) rfl rfl) (fun _ _ h => h)) ?_
   trivial
  case done4 =>
   refine fun w4 hb4 v0 h0 v1 h1 v2 h2 v3 h3 v4 h4 v5 h5 v6 h6 v7 h7 b hbf => ?_
   obtain rfl := h0; obtain rfl := h1; obtain rfl := h5; obtain rfl := h7
   clear h2
   clear h3
   obtain ⟨q4, f4⟩ := h4
   obtain ⟨q6, f6⟩ := h6
   simp only [Act.put, zA0, zA2, zA1] at hbf
   subst hbf
   replace B0 := B0.below hb4
   replace k0s := k0s.below hb4
   replace k0 := k0.below hb4
   replace BR0 := BR0.below hb4
   replace B7 := B7.below hb4
   replace k7s := k7s.below hb4
   replace k7 := k7.below hb4
   replace k1 := k1.below hb4
   replace kg := kg.below hb4
   replace bb := bb.trans (hb4.mono bb.size)
   have hsz4 := bb.size
   have s_4 := sB
   have s_6 := sB
   refine zC6 ?_
   obtain ⟨A9, c9, rfl, _⟩ := id q6
   have n9 := q6
   have n9f := f6
   have n9z_ := s_6
   have sB := bb.size
   go_upto_region 4 with (fail)
   refine zC5 2 [Pd.eq (.agg #[.bool (ngB U), .slice A7 (digs 4294967296 (U).natAbs).length c7]), Pd.eq (.slice A9 (digs 4294967296 L).length c9)] (by kernel_rfl) ?ob5 ?done5
   case ob5 =>
    refine zA (zB9 rfl (zB6 rfl) (zB8 rfl rfl) (fun w2 hb => zF4 Tryz.underlying42 rfl (by kernel_rfl) (B7.below hb)) (fun _ _ => rfl)) ?_
    refine zA (zC1 rfl (zB6 rfl) (zB8 rfl rfl) (fun _ _ h => h)) ?_
    trivial
   case done5 =>
    refine fun w5 hb5 v0 h0 v1 h1 b hbf => ?_
    obtain rfl := h0; obtain rfl := h1
    simp only [Act.put, zA0, zA2, zA1] at hbf
    subst hbf
    replace B0 := B0.below hb5
    replace k0s := k0s.below hb5
    replace k0 := k0.below hb5
    replace BR0 := BR0.below hb5
    replace B7 := B7.below hb5
    replace k7s := k7s.below hb5
    replace k7 := k7.below hb5
    replace k1 := k1.below hb5
    replace kg := kg.below hb5
    replace n9 := n9.below hb5
    replace bb := bb.trans (hb5.mono bb.size)
    have hsz5 := bb.size
    refine zH2 (i := 2) rfl rfl rfl rfl rfl rfl (cells := [.bool (ngB U), .slice A7 (digs 4294967296 (U).natAbs).length c7]) rfl BR0 rfl (by kernel_rfl) (zG6 rfl rfl) fun wx9 hg9 BX9 => ?_
    have m9 := off k7s BR0 zD3 hg9
    have l9 := off n9 BR0 zD3 hg9
    have bb9 := bb.trans ((Below.refl _ _).grown hg9 bb.size (fun g hg => by injection hg with hg; omega))
    obtain ⟨C0, C1, _, _⟩ := Blk.two BX9
    refine zV5 (i := 3) (.slice A9 (digs 4294967296 L).length c9) rfl rfl rfl rfl rfl fun b hbf => ?_
    simp only [Act.put, zA0, zA2, zA1] at hbf
    subst hbf
    refine zC6 ?_
    go_wp2
    exact bodyPost_ret (v := .tuple #[.agg #[.bool (ngB U), .slice A7 (digs 4294967296 (U).natAbs).length c7], .slice A9 (digs 4294967296 L).length c9]) (by simp [results, Tryz.results102, go_sem, C0, C1]) rfl ⟨_, _, rfl, zF5 m9 rfl rfl, l9, zL6 f7_, n9f.mono n9z_, bb9⟩
theorem qY4 (a0 : Value) (q : Rat) (w : World) (h0 : IsQ w a0 q) (hl : zC3 q 100000) :
  Calls Tryz.prog 60 #[a0] w (RetQ (-q) w) := by
 obtain ⟨u0, t0, rfl, s0, r0⟩ := h0
 obtain ⟨A0, c0, rfl, _⟩ := id s0
 obtain ⟨D0, e0, rfl, _⟩ := id r0
 have HN : Hid (-q.num = (-q).num) := (zX6 q).1.symm
 have HD : Hid (q.den = (-q).den) := (zX6 q).2.symm
 go_enter Tryz.func60, Tryz.ntmps60
 go_upto_region 1 with (fail)
 obtain ⟨wx, hwx, bb, B0, BR0, hsz⟩ := zG4 w 44 44 #[.bool (ngB (q).num), .slice A0 (digs 4294967296 (q).num.natAbs).length c0, .slice D0 (digs 4294967296 (q).den).length e0] #[.bool false, .slice none 0 0, .slice none 0 0]
 rw [hwx]
 clear hwx
 have k0s := s0.below bb
 have k0d := r0.below bb
 have k0z : IsZ wx (.agg #[.bool (ngB (q).num), .slice A0 (digs 4294967296 (q).num.natAbs).length c0]) (q).num := ⟨_, rfl, k0s⟩
 have k0 : IsQ wx (.agg #[.bool (ngB (q).num), .slice A0 (digs 4294967296 (q).num.natAbs).length c0, .slice D0 (digs 4294967296 (q).den).length e0]) (q) := ⟨_, _, rfl, k0s, k0d⟩
 have hsz0 := bb.size
 have sB := bb.size
 refine flow 7 [Pd.eq (.pointer (some ⟨w.heap.size, 0, none⟩)), Pd.eq (.agg #[.bool (ngB (q).num), .slice A0 (digs 4294967296 (q).num.natAbs).length c0]), pz ((-q).num) wx.heap.size, Pd.eq (.pointer (some ⟨w.heap.size, 2, none⟩)), Pd.eq (.slice D0 (digs 4294967296 (q).den).length e0), ps .u64 (digs 4294967296 (-q).den) wx.heap.size, pq (-q) wx.heap.size] (by kernel_rfl) (by kernel_rfl) ?ob6 ?done6
 case ob6 =>
  refine zA (zC0 rfl (zB6 rfl) (zB8 rfl rfl) (fun _ => by kernel_rfl) (fun _ => rfl)) ?_
  refine zA (zB9 rfl (zB6 rfl) (zB7 (j := 0) (by kernel_rfl) rfl rfl) (fun w2 hb => zK5 Tryz.underlying42 rfl (by kernel_rfl) (B0.drew.below hb) rfl) (fun _ _ => rfl)) ?_
  refine zA (zE4 rfl Tryz.func92 (by kernel_rfl) (zB6 rfl) (zB7 (j := 1) (by kernel_rfl) rfl rfl) (fun w2 u0 hb h0 => by obtain rfl := h0; exact (yM6 _ q.num _ (k0z.drew.below hb) (zB4 hl.1 (by decide))).mono fun e w3 h => zG3.pd (zG3.to h HN.out) hb.size)) ?_
  refine zA (zC0 rfl (zB6 rfl) (zB8 rfl rfl) (fun _ => by kernel_rfl) (fun _ => rfl)) ?_
  refine zA (zB9 rfl (zB6 rfl) (zB7 (j := 3) (by kernel_rfl) rfl rfl) (fun w2 hb => zC2 Tryz.underlying40 rfl ((B0.drew.below hb).cell 2)) (fun _ _ => rfl)) ?_
  refine zA (zE4 rfl Tryz.func93 (by kernel_rfl) (zB6 rfl) (zB7 (j := 4) (by kernel_rfl) rfl rfl) (fun w2 u0 hb h0 => by obtain rfl := h0; exact (zT5 _ _ _ (k0d.drew.below hb) (zB4 hl.2 (by decide))).mono fun e w3 h => zD1.pd (zD1.to h (congrArg (digs 4294967296) HD.out)) hb.size)) ?_
  refine zA (zK6 rfl (zB6 rfl) (zB7 (j := 2) (by kernel_rfl) rfl rfl) (zB7 (j := 5) (by kernel_rfl) rfl rfl) (fun w2 u v hb hu hv => by obtain ⟨u7, rfl, hu7⟩ := hu.1; obtain ⟨A7, c7, rfl, _⟩ := id hu7; obtain ⟨A8, c8, rfl, _⟩ := id hv.1; exact ⟨.agg #[.bool (ngB (-q).num), .slice A7 (digs 4294967296 (-q).num.natAbs).length c7, .slice A8 (digs 4294967296 (-q).den).length c8], by kernel_rfl, ⟨⟨_, _, rfl, hu7, hv.1⟩, zM1 (hu.2 _ _ rfl) hv.2⟩⟩)) ?_
  trivial
 case done6 =>
  refine fun w11 hb11 v0 h0 v1 h1 v2 h2 v3 h3 v4 h4 v5 h5 v6 h6 b hbf => ?_
  obtain rfl := h0; obtain rfl := h1; obtain rfl := h3; obtain rfl := h4
  obtain ⟨q2, f2⟩ := h2
  obtain ⟨q5, f5⟩ := h5
  obtain ⟨q6, f6⟩ := h6
  simp only [Act.put, zA0, zA2, zA1] at hbf
  subst hbf
  replace B0 := B0.below hb11
  replace k0s := k0s.below hb11
  replace k0d := k0d.below hb11
  replace k0z := k0z.below hb11
  replace k0 := k0.below hb11
  replace BR0 := BR0.below hb11
  replace bb := bb.trans (hb11.mono bb.size)
  have hsz11 := bb.size
  have s_2 := sB
  have s_5 := sB
  have s_6 := sB
  obtain ⟨u6, t6, rfl, q6, d6⟩ := q6
  obtain ⟨A9, c9, rfl, _⟩ := id q6
  obtain ⟨D9, e9, rfl, _⟩ := id d6
  refine zG2 (i := 7) (by kernel_rfl) rfl rfl rfl rfl rfl rfl (cells := [.bool (ngB (-q).num), .slice A9 (digs 4294967296 (-q).num.natAbs).length c9, .slice D9 (digs 4294967296 (-q).den).length e9]) rfl BR0 rfl (by kernel_rfl) (zF9 rfl rfl rfl) fun w9 hg9 B9 => ?_
  have k9 := off q6 BR0 zD2 hg9
  have d9 := off d6 BR0 zD2 hg9
  have f9 := f6.mono (show w.heap.size <= _ from s_6)
  have bb9 := bb.trans ((Below.refl _ _).grown hg9 bb.size (fun g hg => by injection hg with hg; omega))
  obtain ⟨C0, C1, C2, _, _, _⟩ := three B9
  refine zF2 (by kernel_rfl) ?_
  go_wp2
  exact bodyPost_ret (v := .agg #[.bool (ngB (-q).num), .slice A9 (digs 4294967296 (-q).num.natAbs).length c9, .slice D9 (digs 4294967296 (-q).den).length e9]) (by simp [results, Tryz.results60, go_sem, C0, C1, C2]) rfl ⟨_, rfl, ⟨_, _, rfl, k9, d9⟩, f9, bb9⟩
theorem zS4 (a0 : Value) (x : Rat) (t : Int) (w : World) (h0 : IsQ w a0 x) (ht : t = zM0 x.num 0) :
  Calls Tryz.prog 62 #[a0] w (zD7 (.int .i64 t) w) := by
 obtain ⟨u0, t0, rfl, s0, r0⟩ := h0
 obtain ⟨A0, c0, rfl, _⟩ := id s0
 obtain ⟨D0, e0, rfl, _⟩ := id r0
 have HT := Lib.hid ht
 clear ht
 go_enter Tryz.func62, Tryz.ntmps62
 go_upto_region 1 with (fail)
 obtain ⟨wx, hwx, bb, B0, hsz⟩ := zQ3 w 44 #[.bool (ngB (x).num), .slice A0 (digs 4294967296 (x).num.natAbs).length c0, .slice D0 (digs 4294967296 (x).den).length e0]
 rw [hwx]
 clear hwx
 have k0s := s0.below bb
 have k0d := r0.below bb
 have k0z : IsZ wx (.agg #[.bool (ngB (x).num), .slice A0 (digs 4294967296 (x).num.natAbs).length c0]) (x).num := ⟨_, rfl, k0s⟩
 have k0 : IsQ wx (.agg #[.bool (ngB (x).num), .slice A0 (digs 4294967296 (x).num.natAbs).length c0, .slice D0 (digs 4294967296 (x).den).length e0]) (x) := ⟨_, _, rfl, k0s, k0d⟩
 have hsz0 := bb.size
 have sB := bb.size
 refine zC5 4 [Pd.eq (.pointer (some ⟨w.heap.size, 0, none⟩)), Pd.eq (.agg #[.bool (ngB (x).num), .slice A0 (digs 4294967296 (x).num.natAbs).length c0]), Pd.eq (.int .i64 t), Pd.eq (.int .i64 t)] (by kernel_rfl) ?ob7 ?done7
 case ob7 =>
  refine zA (zC0 rfl (zB6 rfl) (zB8 rfl rfl) (fun _ => by kernel_rfl) (fun _ => rfl)) ?_
  refine zA (zB9 rfl (zB6 rfl) (zB7 (j := 0) (by kernel_rfl) rfl rfl) (fun w2 hb => zK5 Tryz.underlying42 rfl (by kernel_rfl) (B0.below hb) rfl) (fun _ _ => rfl)) ?_
  refine zA (zE4 rfl Tryz.func95 (by kernel_rfl) (zB6 rfl) (zB7 (j := 1) (by kernel_rfl) rfl rfl) (fun w2 u0 hb h0 => by obtain rfl := h0; exact (yM5 _ x.num t _ (k0z.below hb) HT.out).mono fun e w3 h => zD7.pd h)) ?_
  refine zA (zD4 rfl (zB6 rfl) (zB7 (j := 2) (by kernel_rfl) rfl rfl) (fun _ _ h => h)) ?_
  trivial
 case done7 =>
  refine fun w1 hb1 v0 h0 v1 h1 v2 h2 v3 h3 b hbf => ?_
  obtain rfl := h0; obtain rfl := h1; obtain rfl := h2; obtain rfl := h3
  simp only [Act.put, zA0, zA2, zA1] at hbf
  subst hbf
  replace B0 := B0.below hb1
  replace k0s := k0s.below hb1
  replace k0d := k0d.below hb1
  replace k0z := k0z.below hb1
  replace k0 := k0.below hb1
  replace bb := bb.trans (hb1.mono bb.size)
  have hsz1 := bb.size
  refine zC6 ?_
  go_wp2
  go_ret
  exact ⟨rfl, bb⟩
def HoldQ (w : World) (g : Nat) (q : Rat) : Prop := ∃ u t, Blk w g 44 #[.bool (ngB q.num), u, t] /\ IsS w .u64 u (digs 4294967296 q.num.natAbs) /\ IsS w .u64 t (digs 4294967296 q.den)
/-- The sum, and the product, of these. -/
def zM3 (l : List Rat) : Rat := l.foldl (· + ·) 0
theorem qN4 (l : List Rat) (q : Rat) : zM3 (l ++ [q]) = zM3 l + q := by simp [zM3]
theorem zQ5 {l : List Rat} {k : Nat} {q : Rat} (h : l[k]? = some q) : l.take (k + 1) = l.take k ++ [q] := by rw [List.take_add_one, h]; rfl
theorem qY5 {l : List Rat} {m : Nat} (h : ∀ q ∈ l, zC3 q m) : zC3 (zM3 l) ((m + 1) * l.length + 1) := by
  have key : ∀ k, k <= l.length -> zC3 (zM3 (l.take k)) ((m + 1) * k + 1) := by
    intro k
    induction k with
    | zero => intro _; rw [List.take_zero]; exact ⟨by show zD0 0 <= _; rw [qW3]; omega, zI3 (k := 1) (by omega) (by decide +kernel)⟩
    | succ k ih =>
      intro hk
      have hq : l[k]? = some (l[k]'hk) := zA3 hk
      rw [zQ5 hq, qN4]
      refine (qY1 (ih (by omega)) (h _ (List.getElem_mem hk))).mono ?_
      rw [Nat.mul_succ]; omega
  have := key l.length (zB3 _)
  rwa [List.take_length] at this
/-- What a row of pairs is made of. -/
theorem qG9 {f : Rat -> Rat -> Rat} : ∀ {p q : List Rat} {r : Rat}, r ∈ List.zipWith f p q -> ∃ x ∈ p, ∃ y ∈ q, r = f x y
  | [], _, _, h => by simp at h
  | _ :: _, [], _, h => by simp at h
  | x :: p, y :: q, r, h => by
    rw [List.zipWith_cons_cons] at h
    rcases List.mem_cons.1 h with h | h
    · exact ⟨x, List.mem_cons_self, y, List.mem_cons_self, h⟩
    · obtain ⟨a, ha, b, hb, e⟩ := qG9 h
      exact ⟨a, List.mem_cons_of_mem _ ha, b, List.mem_cons_of_mem _ hb, e⟩
theorem qN5 {f : Rat -> Rat -> Rat} {p q : List Rat} {k : Nat} {x y : Rat} (hx : p[k]? = some x) (hy : q[k]? = some y) : (List.zipWith f p q)[k]? = some (f x y) := by rw [List.getElem?_zipWith, hx, hy]
theorem qN6 {f : Rat -> Rat -> Rat} {p q : List Rat} (h : p.length = q.length) : (List.zipWith f p q).length = p.length := by rw [List.length_zipWith, h, Nat.min_self]
/-- The sum of the products; a row less another so many times; so many times a row. -/
def zN9 (p q : List Rat) : List Rat := List.zipWith (fun x y => x * y) p q
def zI1 (p q : List Rat) : Rat := zM3 (zN9 p q)
def zI2 (p : List Rat) (k : Rat) (q : List Rat) : List Rat := List.zipWith (fun x y => x - k * y) p q
def zG7 (p : List Rat) (k : Rat) : List Rat := p.map (fun x => x * k)
theorem yP6 {p q : List Rat} {m : Nat} (h : ∀ x ∈ p, zC3 x m) (h2 : ∀ x ∈ q, zC3 x m) : ∀ r ∈ zN9 p q, zC3 r (m + m) := by
 intro r hr
 obtain ⟨x, hx, y, hy, rfl⟩ := qG9 hr
 exact zU0 (h x hx) (h2 y hy)
theorem yP7 {p q : List Rat} {m : Nat} (h : ∀ x ∈ p, zC3 x m) (h2 : ∀ x ∈ q, zC3 x m) (he : p.length = q.length) : zC3 (zI1 p q) ((m + m + 1) * p.length + 1) := by
 have := qY5 (yP6 h h2)
 rwa [show (zN9 p q).length = p.length from qN6 he] at this
/-- All from 0 to 1, and their sum 1. -/
def qY6 (l : List Rat) : Prop := (∀ q ∈ l, ¬ q < 0 /\ ¬ 1 < q) /\ zM3 l = 1
instance (l : List Rat) : Decidable (qY6 l) := by unfold qY6; infer_instance
end Go.Proofs.YtmpalajamfiiiaaGreat.rat
namespace Go.Proofs.YtmpalajamfiiiaaGreat.rat
open Go.RowKit Go.ChangeShapes Go.WideShapes Go.ChangeAt Go.Joins Go.Deep num mem nat txt str flow whl
/-- A slice of structs of a sign, limbs, and limbs, as it came in. -/
def zV9 (w : World) (v : Value) : Prop := ∃ A n c, v = .slice A n c /\ n <= c /\ c <= maxLen /\ ∀ i, i < n -> ∃ ad b u t l m, A = some ad /\ w.cell? (ad.add (i * 3)) = some (.bool b) /\ w.cell? (ad.add (i * 3 + 1)) = some u /\ w.cell? (ad.add (i * 3 + 2)) = some t /\ IsS w .u64 u l /\ Lt 18446744073709551616 l /\ IsS w .u64 t m /\ Lt 18446744073709551616 m
theorem trod_q {H : Type} {enc : TypeId × Value -> H} {P : Program} {W : World} {fuel : Nat} {t e : TypeId} {f0 f1 g0 g1 : Field} {c0 c1 c2 : Value} {x : DataW H × List MemPlace} (hs : P.underlying t = some (.struct #[f0, f1])) (ho : (f0.offset == 0 && f1.offset == 2 && P.cellsOf f0.type == 2 && P.cellsOf f1.type == 1) = true)
    (hs2 : P.underlying f0.type = some (.struct #[g0, g1])) (hone : oneCellFields P #[g0, g1] = true) (hb : P.underlying g0.type = some .bool) (hsl : P.underlying g1.type = some (.slice e)) (hsl2 : P.underlying f1.type = some (.slice e)) (he : P.underlying e = some (.int .u64)) (ce : P.cellsOf e = 1)
    (hf : DataW.trod enc P W 0 (fun _ => true) true fuel t [c0, c1, c2] = some x) : ∃ b l m, c0 = .bool b /\ IsS W .u64 c1 l /\ Lt 18446744073709551616 l /\ IsS W .u64 c2 m /\ Lt 18446744073709551616 m := by
  simp only [Bool.and_eq_true, beq_iff_eq] at ho
  obtain ⟨⟨⟨o0, o1⟩, k0⟩, k1⟩ := ho
  obtain ⟨xs, n, _, hx, _, hlen, hg⟩ := DataW.trod_struct hs hf
  have h0 := hg 0 f0 rfl
  have h1 := hg 1 f1 rfl
  simp [o0, o1, k0, k1] at h0 h1
  match xs, hlen with
  | [y0, y1], _ =>
    have h0' : DataW.trod enc P W 0 (fun _ => true) true n f0.type [c0, c1] = some y0 := by simpa using h0
    have h1' : DataW.trod enc P W 0 (fun _ => true) true n f1.type [c2] = some y1 := by simpa using h1
    obtain ⟨zs, n2, _, hz, _, hlen2, hg2⟩ := DataW.trod_struct hs2 h0'
    obtain ⟨p0, q0⟩ := hone_of hone 0 g0 rfl
    obtain ⟨p1, q1⟩ := hone_of hone 1 g1 rfl
    have j0 := hg2 0 g0 rfl
    have j1 := hg2 1 g1 rfl
    simp [p0, p1, q0, q1] at j0 j1
    match zs, hlen2 with
    | [z0, z1], _ =>
      have j0' : DataW.trod enc P W 0 (fun _ => true) true n2 g0.type [c0] = some z0 := by simpa using j0
      have j1' : DataW.trod enc P W 0 (fun _ => true) true n2 g1.type [c1] = some z1 := by simpa using j1
      obtain ⟨b, e0, _⟩ := DataW.trod_bool hb j0'
      injection e0 with e0 _
      subst e0
      obtain ⟨l, a1, a2⟩ := qX6 hsl he ce j1'
      obtain ⟨m, b1, b2⟩ := qX6 hsl2 he ce h1'
      exact ⟨b, l, m, rfl, a1, a2, b1, b2⟩
theorem yP8 {P : Program} {t e : TypeId} (hu : P.underlying t = some (.slice e)) (hs : (P.info? e).map (·.size) = some 3) (ad : Addr) {n c k : Nat} (hk : k < n) (w : World) : (Instr.indexAt t (.slice (some ad) n c) (.int .i64 (k : Int))).run P w = .ok (.pointer (some (ad.add (k * 3)))) w := by
  cases hq : P.info? e with
  | none => simp [hq] at hs
  | some inf =>
    have hsz : inf.size = 3 := by simpa [hq] using hs
    simp [Instr.indexAt, asIntOf, go_sem, run_underlying hu, sizeOf, typeInfo, hq, hsz, hk]
theorem yP9 {P : Program} {t : TypeId} {p : Addr} {k : Nat} {x y z : Value} {d : TypeDesc} {w : World} (hu : P.underlying t = some d) (hd : d.isRow = true) (hi : (P.info? t).map (·.size) = some 3) (h0 : w.cell? (p.add k) = some x) (h1 : w.cell? (p.add (k + 1)) = some y) (h2 : w.cell? (p.add (k + 2)) = some z) : (Instr.loadAt t (.pointer (some (p.add k)))).run P w = .ok (.agg #[x, y, z]) w := by
  have hl : (loadCells (p.add k) 3).run P w = .ok [x, y, z].toArray w :=
    run_loadCells_list (P := P) w (p.add k) [x, y, z] (fun j v hj => by
      rw [add_add]
      match j, hj with
      | 0, hj => simp at hj; subst hj; exact h0
      | 1, hj => simp at hj; subst hj; exact h1
      | 2, hj => simp at hj; subst hj; exact h2
      | j + 3, hj => simp at hj)
  cases hq : P.info? t with
  | none => simp [hq] at hi
  | some i =>
    have hs : i.size = 3 := by simpa [hq] using hi
    have hagg : (isAgg t).run P w = .ok true w := by
      unfold isAgg
      rw [Sem.run_bind, run_underlying hu w]
      cases d <;> simp_all
    have hv : (loadVar t (p.add k)).run P w = .ok (.agg #[x, y, z]) w := by simp [loadVar, Sem.run_bind, hagg, sizeOf, typeInfo, hq, hs, hl]
    simp only [Instr.loadAt, Instr.sureAddr, Sem.run_bind, Sem.run_pure, Result.andThen_ok, hv]
end Go.Proofs.YtmpalajamfiiiaaGreat.rat
namespace Go.Proofs.YtmpalajamfiiiaaGreat.rat
open Go.RowKit num mem nat txt str flow whl
section
variable {P : Program}
/-- What an append leaves: slices elsewhere, rows and variables elsewhere are kept. -/
def zH9 (w w' : World) (v v' : Value) : Prop := qE8 w w' v v' /\ w.grownBy w' v.ownBlock /\ ∀ g, g < w.heap.size -> v.ownBlock ≠ some g -> v'.ownBlock ≠ some g
theorem yQ {w : World} {base : Nat} {t ty T : TypeId} (hT : P.underlying t = some (.slice T)) (hI : ∃ i, P.info? T = some i /\ i.zero = some (.agg #[.bool false, .slice none 0 0, .slice none 0 0]) /\ i.size = 3 /\ i.bytes = 56) {v : Value} {p : Elt} {ps : List Elt} (hown : zE0 T w base v ps) {ad : Addr} {c : Nat}
  (h0 : w.cell? (ad.add 0) = some (.bool (ngB p.1.num))) (h1 : w.cell? (ad.add 1) = some p.2.1) (h2 : w.cell? (ad.add 2) = some p.2.2) (k1 : p.2.1.oneCell' = true) (k2 : p.2.2.oneCell' = true) (hlen : ps.length <= 1000000000) (hbase : base <= w.heap.size) :
  ∃ v' w', (Builtin.append_ #[t, t] ty #[v, .slice (some ad) 1 c]).run P w = .ok v' w' /\ zE0 T w' base v' (ps ++ [p]) /\ zH9 w w' v v' := by
 obtain ⟨i, hi, hz, hs, hb⟩ := hI
 obtain ⟨v', w', g1, g2, g3, _, g5⟩ := run_append_own_at (P := P) w base t ty T i (.agg #[.bool false, .slice none 0 0, .slice none 0 0]) 3 56 hT hi hz hs hb rfl (by decide) v ps.length (zE8 ps) hown ad 1 c [.bool (ngB p.1.num), p.2.1, p.2.2] rfl (fun j u hu => by
  match j, hu with
  | 0, hu => simp at hu; subst hu; exact h0
  | 1, hu => simp at hu; subst hu; exact h1
  | 2, hu => simp at hu; subst hu; exact h2
  | j + 3, hu => simp at hu) (zF9 rfl k1 k2) (by unfold maxLen; omega) (by omega) hbase
 refine ⟨v', w', g1, by unfold zE0; rw [zB0, yO8]; exact g2, qL5 g3 g5, g3, fun g hg hne e1 => ?_⟩
 rcases g5 with h | h
 ·exact hne (h ▸ e1)
 ·rw [h] at e1; injection e1 with e1; omega
theorem qY7 {w : World} {o : Oper} {a : Act} {K : Act -> World -> Prop} {Q : Exit -> Act -> World -> Prop} (s x : Operand) {t : TypeId}
  (ho : o.op = .call { callee := .builtin .append, args := #[s, x], argTypes := #[t, t] })
  {base : Nat} {T : TypeId} (hT : P.underlying t = some (.slice T)) (hI : ∃ i, P.info? T = some i /\ i.zero = some (.agg #[.bool false, .slice none 0 0, .slice none 0 0]) /\ i.size = 3 /\ i.bytes = 56) {v : Value} {p : Elt} {ps : List Elt} (hs : a.eval s = v) (hown : zE0 T w base v ps) {ad : Addr} {c : Nat} (hx : a.eval x = .slice (some ad) 1 c)
  (h0 : w.cell? (ad.add 0) = some (.bool (ngB p.1.num))) (h1 : w.cell? (ad.add 1) = some p.2.1) (h2 : w.cell? (ad.add 2) = some p.2.2) (k1 : p.2.1.oneCell' = true) (k2 : p.2.2.oneCell' = true) (hlen : ps.length <= 1000000000) (hbase : base <= w.heap.size)
  (h : ∀ v' w', zE0 T w' base v' (ps ++ [p]) -> Below base w w' -> Hid (zH9 w w' v v') -> K (a.put o.dst v') w') : o.wp P a w K Q := by
 obtain ⟨v', w', hrun, g2, g3⟩ := yQ (P := P) (ty := o.type) hT hI hown (c := c) h0 h1 h2 k1 k2 hlen hbase
 unfold Oper.wp execOp
 simp only [ho, resolve, invoke, builtin, Sem.run_bind, Sem.run_pure, Result.andThen_ok, List.map_toArray, List.map_cons, List.map_nil, hs, hx, hrun]
 exact h v' w' g2 ((Below.refl base w).grown g3.2.1 hbase hown.base_le) g3
theorem qN7 {w : World} {ops : Array Oper} {o : Oper} {a : Act} {K : Act -> World -> Prop} {Q : Exit -> Act -> World -> Prop} {E : Prop} (hgd : o.guard = none) (s x : Operand) {t : TypeId}
  (ho : o.op = .call { callee := .builtin .append, args := #[s, x], argTypes := #[t, t] })
  {base : Nat} {T : TypeId} (hT : P.underlying t = some (.slice T)) (hI : ∃ i, P.info? T = some i /\ i.zero = some (.agg #[.bool false, .slice none 0 0, .slice none 0 0]) /\ i.size = 3 /\ i.bytes = 56) {v : Value} {p : Elt} {ps : List Elt} (hs : a.eval s = v) (hown : zE0 T w base v ps) {ad : Addr} {c : Nat} (hx : a.eval x = .slice (some ad) 1 c)
  (h0 : w.cell? (ad.add 0) = some (.bool (ngB p.1.num))) (h1 : w.cell? (ad.add 1) = some p.2.1) (h2 : w.cell? (ad.add 2) = some p.2.2) (k1 : p.2.1.oneCell' = true) (k2 : p.2.2.oneCell' = true) (hlen : ps.length <= 1000000000) (hbase : base <= w.heap.size)
  (h : ∀ v' w', zE0 T w' base v' (ps ++ [p]) -> Below base w w' -> Hid (zH9 w w' v v') -> K (a.put o.dst v') w') :
  if Region.wanted o (yielded ops a.tmps) = true then Oper.wp P o a w K Q else E := by
 have hw : Region.wanted o (yielded ops a.tmps) = true := by simp [Region.wanted, hgd]
 rw [if_pos hw]
 exact qY7 s x ho hT hI hs hown hx h0 h1 h2 k1 k2 hlen hbase h
end
/-- A new element's cells. -/
theorem qH (w : World) (T : TypeId) (x y z : Value) : (w.alloc (.cells #[x, y, z] T)).cell? ((⟨w.heap.size, 0, none⟩ : Addr).add 0) = some x /\ (w.alloc (.cells #[x, y, z] T)).cell? ((⟨w.heap.size, 0, none⟩ : Addr).add 1) = some y /\ (w.alloc (.cells #[x, y, z] T)).cell? ((⟨w.heap.size, 0, none⟩ : Addr).add 2) = some z := by
 have h := Blk.new w T #[x, y, z]
 obtain ⟨a, b, c, _, _, _⟩ := three h
 exact ⟨a, b, c⟩
theorem zG5.keep {k : IntKind} {B : Nat} {w w' : World} {v v' : Value} {ps : List Elt} (h : zG5 k B w v ps) (hk : qE8 w w' v v') : zG5 k B w' v' ps := fun r hr => by
 obtain ⟨⟨a1, a2⟩, b1, b2⟩ := h r hr
 have x1 := hk _ _ _ a1 b1
 have x2 := hk _ _ _ a2 b2
 exact ⟨⟨x1.1, x2.1⟩, x1.2, x2.2⟩
/-- Two rows that grow side by side: each one's elements lie elsewhere than both. -/
def zO (w wr : World) (v4 v5 : Value) (ps rs : List Elt) : Prop := zE0 44 wr w.heap.size v4 ps /\ zE0 55 wr w.heap.size v5 rs /\ (zG5 .u64 4294967296 wr v4 ps /\ zG5 .u64 4294967296 wr v5 ps) /\ (zG5 .i64 10000 wr v4 rs /\ zG5 .i64 10000 wr v5 rs) /\ (∀ g, v4.ownBlock = some g -> v5.ownBlock ≠ some g) /\ Below w.heap.size w wr
theorem zO.below {w wr w' : World} {v4 v5 : Value} {ps rs : List Elt} (h : zO w wr v4 v5 ps rs) (hb : Below wr.heap.size wr w') : zO w w' v4 v5 ps rs :=
 ⟨h.1.below hb, h.2.1.below hb, ⟨h.2.2.1.1.below hb, h.2.2.1.2.below hb⟩, ⟨h.2.2.2.1.1.below hb, h.2.2.2.1.2.below hb⟩, h.2.2.2.2.1, h.2.2.2.2.2.trans (hb.mono h.2.2.2.2.2.size)⟩
/-- The first one grows. -/
theorem zO.one {w wr w' : World} {v4 v5 v' : Value} {ps rs : List Elt} {p : Elt} (h : zO w wr v4 v5 ps rs) (hrow : zE0 44 w' w.heap.size v' (ps ++ [p])) (hg : zH9 wr w' v4 v') (hb : Below w.heap.size wr w') (hp : IsE .u64 4294967296 wr p) (f4 : Far v4 p.2.1 /\ Far v4 p.2.2) (f5 : Far v5 p.2.1 /\ Far v5 p.2.2) : zO w w' v' v5 (ps ++ [p]) rs := by
 obtain ⟨h1, h2, ⟨h3, h4⟩, ⟨h5, h6⟩, h7, h8⟩ := h
 obtain ⟨k1, k2, k3⟩ := hg
 have keep : ∀ {k : IntKind} {B : Nat} {r : Elt}, IsE k B wr r -> Far v4 r.2.1 -> Far v4 r.2.2 -> IsE k B w' r /\ Far v' r.2.1 /\ Far v' r.2.2 := fun a b c => by
  have x1 := k1 _ _ _ a.1 b
  have x2 := k1 _ _ _ a.2 c
  exact ⟨⟨x1.1, x2.1⟩, x1.2, x2.2⟩
 refine ⟨hrow, h2.other k2 (fun g hg e => h7 g e hg), ⟨h3.snoc k1 hp f4.1 f4.2, ?_⟩, ⟨h5.keep k1, ?_⟩, ?_, h8.trans hb⟩
 ·intro r hr
  rcases List.mem_append.1 hr with hr | hr
  ·exact ⟨(keep (h3 r hr).1 (h3 r hr).2.1 (h3 r hr).2.2).1, (h4 r hr).2⟩
  ·obtain rfl := List.mem_singleton.1 hr
   exact ⟨(keep hp f4.1 f4.2).1, f5⟩
 ·intro r hr
  exact ⟨(keep (h5 r hr).1 (h5 r hr).2.1 (h5 r hr).2.2).1, (h6 r hr).2⟩
 ·intro g e4 e5
  have hlt := h2.under g e5
  exact k3 g hlt (fun e => h7 g e e5) e4
/-- The second one grows. -/
theorem zO.two {w wr w' : World} {v4 v5 v' : Value} {ps rs : List Elt} {p : Elt} (h : zO w wr v4 v5 ps rs) (hrow : zE0 55 w' w.heap.size v' (rs ++ [p])) (hg : zH9 wr w' v5 v') (hb : Below w.heap.size wr w') (hp : IsE .i64 10000 wr p) (f4 : Far v4 p.2.1 /\ Far v4 p.2.2) (f5 : Far v5 p.2.1 /\ Far v5 p.2.2) : zO w w' v4 v' ps (rs ++ [p]) := by
 obtain ⟨h1, h2, ⟨h3, h4⟩, ⟨h5, h6⟩, h7, h8⟩ := h
 obtain ⟨k1, k2, k3⟩ := hg
 have keep : ∀ {k : IntKind} {B : Nat} {r : Elt}, IsE k B wr r -> Far v5 r.2.1 -> Far v5 r.2.2 -> IsE k B w' r /\ Far v' r.2.1 /\ Far v' r.2.2 := fun a b c => by
  have x1 := k1 _ _ _ a.1 b
  have x2 := k1 _ _ _ a.2 c
  exact ⟨⟨x1.1, x2.1⟩, x1.2, x2.2⟩
 refine ⟨h1.other k2 (fun g hg e => h7 g hg e), hrow, ⟨?_, h4.keep k1⟩, ⟨?_, h6.snoc k1 hp f5.1 f5.2⟩, ?_, h8.trans hb⟩
 ·intro r hr
  exact ⟨(keep (h4 r hr).1 (h4 r hr).2.1 (h4 r hr).2.2).1, (h3 r hr).2⟩
 ·intro r hr
  rcases List.mem_append.1 hr with hr | hr
  ·exact ⟨(keep (h6 r hr).1 (h6 r hr).2.1 (h6 r hr).2.2).1, (h5 r hr).2⟩
  ·obtain rfl := List.mem_singleton.1 hr
   exact ⟨(keep hp f5.1 f5.2).1, f4⟩
 ·intro g e4 e5
  have hlt := h1.under g e4
  exact k3 g hlt (fun e => h7 g e4 e) e5
theorem slF_nil (k : IntKind) (B : Nat) (w : World) : SlF k B w (.slice none 0 0) [] := ⟨[], rfl, ⟨none, 0, rfl, by simp, by unfold maxLen; omega, fun i p hp => by simp at hp⟩, fun p hp => by cases hp⟩
theorem zY {P : Program} {t e : TypeId} (hu : P.underlying t = some (.slice e)) (hs : (P.info? e).map (·.size) = some 1) (ad : Addr) {n c k : Nat} (hk : k < n) (w : World) : (Instr.indexAt t (.slice (some ad) n c) (.int .i64 (k : Int))).run P w = .ok (.pointer (some (ad.add k))) w := by
  cases hq : P.info? e with
  | none => simp [hq] at hs
  | some inf =>
    have hsz : inf.size = 1 := by simpa [hq] using hs
    simp [Instr.indexAt, asIntOf, go_sem, run_underlying hu, sizeOf, typeInfo, hq, hsz, hk]
theorem yQ0 (l : List Rat) : ∀ a : Rat, l.foldl (· + ·) a = a + l.foldl (· + ·) 0 := by
 induction l with
 | nil => intro a; simp [Rat.add_zero]
 | cons b l ih => intro a; rw [List.foldl_cons, List.foldl_cons, ih (a + b), ih (0 + b)]; grind
theorem yQ1 (q : Rat) (l : List Rat) : zM3 (q :: l) = q + zM3 l := by
 unfold zM3
 rw [List.foldl_cons, yQ0 l (0 + q)]; grind
theorem qH0 (p : List Rat) (k : Rat) : (zG7 p k).length = p.length := List.length_map _
theorem qN8 {p q : List Rat} {k : Rat} (h : p.length = q.length) : (zI2 p k q).length = p.length := qN6 h
theorem qH1 (x y : Rat) (p q : List Rat) : zI1 (x :: p) (y :: q) = x * y + zI1 p q := by
 unfold zI1 zN9
 rw [List.zipWith_cons_cons, yQ1]
theorem yQ2 (q : List Rat) : zI1 [] q = 0 := rfl
/-- Noughts, and a unit. -/
def zG (d : Nat) : List Rat := zB1 d 0
def zJ6 (d k : Nat) : List Rat := (zG d).set k 1
theorem zS5 (d : Nat) : (zG d).length = d := List.length_replicate
theorem qB7 (d k : Nat) : (zJ6 d k).length = d := by rw [zJ6, List.length_set, zS5]
theorem yQ3 {d k : Nat} (h : k < d) : (zG d)[k]? = some 0 := by simp [zG, h]
theorem yQ4 {d k : Nat} (h : k < d) : (zJ6 d k)[k]? = some 1 := by rw [zJ6, List.getElem?_set_self (by rw [zS5]; exact h)]
theorem yQ5 {d : Nat} {x : Rat} (h : x ∈ zG d) : x = 0 := (List.mem_replicate.1 h).2
theorem yQ6 {d k : Nat} {x : Rat} (h : x ∈ zJ6 d k) : x = 0 \/ x = 1 := by
 rcases List.mem_or_eq_of_mem_set h with h | h
 ·exact .inl (yQ5 h)
 ·exact .inr h
theorem qY8 {x : Rat} (h : x = 0 \/ x = 1) : zC3 x 1 := by
 rcases h with rfl | rfl
 ·exact ⟨by show zD0 0 <= _; rw [qW3]; omega, zI3 (k := 1) (by omega) (by decide +kernel)⟩
 ·exact ⟨zI3 (k := 1) (by omega) (by decide +kernel), zI3 (k := 1) (by omega) (by decide +kernel)⟩
/-- How many places rows have; whether all have so many; the places of one number; a product; what is turned; the table that changes nothing. -/
def zC4 : List (List Rat) -> Nat
 | [] => 0
 | r :: _ => r.length
def zW (t : List (List Rat)) : Prop := ∀ r ∈ t, r.length = zC4 t
def zK1 (t : List (List Rat)) (j : Nat) : List Rat := t.map fun r => r.getD j 0
def zQ6 (r : List Rat) (b : List (List Rat)) (n : Nat) : List Rat := (List.range n).map fun j => zI1 r (zK1 b j)
def zI6 (a b : List (List Rat)) : List (List Rat) := a.map fun r => zQ6 r b (zC4 b)
def zL7 (t : List (List Rat)) : List (List Rat) := (List.range (zC4 t)).map (zK1 t)
def zF (n : Nat) : List (List Rat) := (List.range n).map (zJ6 n)
theorem qH2 (t : List (List Rat)) (j : Nat) : (zK1 t j).length = t.length := List.length_map _
theorem yQ7 (r : List Rat) (b : List (List Rat)) (n : Nat) : (zQ6 r b n).length = n := by rw [zQ6, List.length_map, List.length_range]
theorem qN9 (a b : List (List Rat)) : (zI6 a b).length = a.length := List.length_map _
theorem yQ8 (t : List (List Rat)) : (zL7 t).length = zC4 t := by rw [zL7, List.length_map, List.length_range]
theorem zW0 (n : Nat) : (zF n).length = n := by rw [zF, List.length_map, List.length_range]
theorem rowq_at {r : List Rat} {b : List (List Rat)} {n j : Nat} (h : j < n) : (zQ6 r b n)[j]? = some (zI1 r (zK1 b j)) := by simp [zQ6, h]
theorem mulq_at {a b : List (List Rat)} {i : Nat} {r : List Rat} (h : a[i]? = some r) : (zI6 a b)[i]? = some (zQ6 r b (zC4 b)) := by rw [zI6, List.getElem?_map, h]; rfl
theorem qB8 {n i : Nat} (h : i < n) : (zF n)[i]? = some (zJ6 n i) := by simp [zF, h]
theorem qY9 {a b : List (List Rat)} : ∀ r ∈ zI6 a b, r.length = zC4 b := by
 intro r hr
 obtain ⟨s, _, rfl⟩ := List.mem_map.1 hr
 exact yQ7 _ _ _
theorem yQ9 {t : List (List Rat)} : ∀ r ∈ zL7 t, r.length = t.length := by
 intro r hr
 obtain ⟨j, _, rfl⟩ := List.mem_map.1 hr
 exact qH2 _ _
theorem qZ {n : Nat} : ∀ r ∈ zF n, r.length = n := by
 intro r hr
 obtain ⟨j, _, rfl⟩ := List.mem_map.1 hr
 exact qB7 _ _
theorem getD_at {r : List Rat} {j : Nat} (h : j < r.length) : r[j]? = some (r.getD j 0) := by rw [zA6, zA3 h]; rfl
theorem getD_of {r : List Rat} {j : Nat} {x : Rat} (h : r[j]? = some x) : r.getD j 0 = x := by rw [zA6, h]; rfl
theorem yR {r : List Rat} {b : List (List Rat)} {n j : Nat} (h : j < n) : (zQ6 r b n).getD j 0 = zI1 r (zK1 b j) := by rw [zA6, rowq_at h]; rfl
theorem qZ0 : ∀ (p q : List Rat), zI1 p q = zI1 q p
 | [], [] => rfl
 | [], _ :: _ => rfl
 | _ :: _, [] => rfl
 | x :: p, y :: q => by rw [qH1, qH1, qZ0 p q, Rat.mul_comm]
/-- May it be a table: not too many rows and places, all rows of one length. -/
def zG8 (t : List (List Rat)) : Prop := t.length <= 200 /\ zC4 t <= 200 /\ zW t
instance (t : List (List Rat)) : Decidable (zW t) := inferInstanceAs (Decidable (∀ r ∈ t, r.length = zC4 t))
instance (t : List (List Rat)) : Decidable (zG8 t) := inferInstanceAs (Decidable (_ /\ _ /\ _))
/-- What is turned, as far as r rows and i places of the next one are laid. -/
def tst (t : List (List Rat)) (r i : Nat) : List (List Rat) := (List.range (zC4 t)).map fun j => zK1 (t.take (if j < i then r + 1 else r)) j
theorem zY0 (t : List (List Rat)) (r i : Nat) : (tst t r i).length = zC4 t := by rw [tst, List.length_map, List.length_range]
theorem yR0 (t : List (List Rat)) : tst t 0 0 = zB1 (zC4 t) [] := by
 refine List.ext_getElem? fun j => ?_
 by_cases hj : j < zC4 t
 ·simp [tst, hj, zK1]
 ·rw [List.getElem?_eq_none (by rw [zY0]; omega), List.getElem?_eq_none (by simp; omega)]
theorem qB9 {t : List (List Rat)} {r i j : Nat} (h : j < zC4 t) : (tst t r i)[j]? = some (zK1 (t.take (if j < i then r + 1 else r)) j) := by simp [tst, h]
theorem yR1 {t : List (List Rat)} {r i : Nat} (h : i < zC4 t) : (tst t r i)[i]? = some (zK1 (t.take r) i) := by rw [qB9 h, if_neg (by omega)]
theorem yR2 {t : List (List Rat)} {r j : Nat} {row : List Rat} {x : Rat} (hr : t[r]? = some row) (hx : row[j]? = some x) : zK1 (t.take (r + 1)) j = zK1 (t.take r) j ++ [x] := by
 rw [List.take_add_one, hr]
 unfold zK1
 rw [List.map_append]
 exact congrArg (_ ++ [·]) (getD_of hx)
theorem tst_set {t : List (List Rat)} {r i : Nat} {row : List Rat} {x : Rat} (hi : i < zC4 t) (hr : t[r]? = some row) (hx : row[i]? = some x) : (tst t r i).set i (zK1 (t.take r) i ++ [x]) = tst t r (i + 1) := by
 refine List.ext_getElem? fun j => ?_
 by_cases hj : j < zC4 t
 ·rw [qB9 hj]
  by_cases e : i = j
  ·subst e
   rw [List.getElem?_set_self (by rw [zY0]; exact hj), if_pos (by omega), yR2 hr hx]
  ·rw [List.getElem?_set_ne e, qB9 hj]
   by_cases e2 : j < i
   ·rw [if_pos e2, if_pos (by omega)]
   ·rw [if_neg e2, if_neg (by omega)]
 ·rw [List.getElem?_eq_none (by rw [List.length_set, zY0]; omega), List.getElem?_eq_none (by rw [zY0]; omega)]
theorem yR3 (t : List (List Rat)) (r : Nat) : tst t r (zC4 t) = tst t (r + 1) 0 := by
 refine List.ext_getElem? fun j => ?_
 by_cases hj : j < zC4 t
 ·rw [qB9 hj, qB9 hj, if_pos hj, if_neg (by omega)]
 ·rw [List.getElem?_eq_none (by rw [zY0]; omega), List.getElem?_eq_none (by rw [zY0]; omega)]
theorem tst_end (t : List (List Rat)) : tst t t.length 0 = zL7 t := by
 refine List.map_congr_left fun j hj => ?_
 rw [if_neg (by omega), zA7 (zB3 _)]
/-- Rows with others behind them, as far as so many are laid. -/
def jst {α : Type} (P t : List (List α)) (k : Nat) : List (List α) := List.zipWith (· ++ ·) (P.take k) (t.take k) ++ P.drop k
def zI {α : Type} (P t : List (List α)) : List (List α) := List.zipWith (· ++ ·) P t
theorem qZ1 {α : Type} (P t : List (List α)) : jst P t 0 = P := by simp [jst]
theorem qZ2 {α : Type} {P t : List (List α)} {k : Nat} (h : P.length = t.length) (hk : k = t.length) : jst P t k = zI P t := by
 subst hk
 unfold jst zI
 rw [zA7 (by omega), zA7 (zB3 _), List.drop_eq_nil_of_le (by omega), List.append_nil]
theorem qH3 {α : Type} {P t : List (List α)} {k : Nat} (h : P.length = t.length) (hk : k <= t.length) : (List.zipWith (· ++ ·) (P.take k) (t.take k)).length = k := by
 rw [List.length_zipWith, List.length_take, List.length_take]; omega
theorem qZ3 {α : Type} {P t : List (List α)} {k : Nat} {p : List α} (h : P.length = t.length) (hp : P[k]? = some p) : (jst P t k)[k]? = some p := by
 have hk := (zA4.1 hp).1
 unfold jst
 rw [List.getElem?_append_right (by rw [qH3 h (by omega)]; exact zB3 _), qH3 h (by omega), Nat.sub_self, List.getElem?_drop, Nat.add_zero, hp]
theorem qZ4 {α : Type} {P t : List (List α)} {k : Nat} {p r : List α} (h : P.length = t.length) (hp : P[k]? = some p) (hr : t[k]? = some r) : (jst P t k).set k (p ++ r) = jst P t (k + 1) := by
 have hk := (zA4.1 hp).1
 have hd : P.drop k = p :: P.drop (k + 1) := by
  have e : P[k] = p := by rw [zA3 hk] at hp; exact Option.some.inj hp
  rw [<- e]
  exact List.drop_eq_getElem_cons hk
 unfold jst
 rw [List.set_append_right _ _ (by rw [qH3 h (by omega)]; exact zB3 _), qH3 h (by omega), Nat.sub_self, hd, zA2, List.take_add_one, hp, List.take_add_one, hr, List.zipWith_append (by rw [List.length_take, List.length_take]; omega)]
 simp
theorem qZ5 {α : Type} (t : List (List α)) : zI (zB1 t.length []) t = t := by
 refine List.ext_getElem? fun i => ?_
 unfold zI
 rw [List.getElem?_zipWith]
 cases ht : t[i]? with
 | none => cases (zB1 t.length ([] : List α))[i]? <;> rfl
 | some r => rw [List.getElem?_replicate, if_pos (zA4.1 ht).1]; rfl
/-- Products of each row with one row. -/
def zO0 (t : List (List Rat)) (v : List Rat) : List Rat := t.map fun r => zI1 r v
theorem yR4 (t : List (List Rat)) (v : List Rat) : (zO0 t v).length = t.length := List.length_map _
theorem yR5 {t : List (List Rat)} {v r : List Rat} {i : Nat} (h : t[i]? = some r) : (zO0 t v)[i]? = some (zI1 r v) := by rw [zO0, List.getElem?_map, h]; rfl
theorem yR6 (r : List Rat) (b : List (List Rat)) : zO0 (zL7 b) r = zQ6 r b (zC4 b) := by
 unfold zO0 zL7 zQ6
 rw [List.map_map]
 exact List.map_congr_left fun j _ => qZ0 _ _
/-- How long the numbers of a table are. -/
def zE9 (t : List (List Rat)) (m : Nat) : Prop := ∀ r ∈ t, ∀ x ∈ r, zC3 x m
theorem zE9.mono {t : List (List Rat)} {m n : Nat} (h : zE9 t m) (hmn : m <= n) : zE9 t n := fun r hr x hx => (h r hr x hx).mono hmn
theorem qO (m : Nat) : zC3 (0 : Rat) (m + 1) := zC3.mono (m := 1) ⟨zI3 (k := 1) (by omega) (by decide +kernel), zI3 (k := 1) (by omega) (by decide +kernel)⟩ (by omega)
theorem yR7 {r : List Rat} {j m : Nat} (h : ∀ x ∈ r, zC3 x m) (hm : 1 <= m) : zC3 (r.getD j 0) m := by
 by_cases hj : j < r.length
 ·exact h _ (zA5 (getD_at hj))
 ·rw [zA6, List.getElem?_eq_none (by omega)]
  obtain ⟨n, rfl⟩ : ∃ n, m = n + 1 := ⟨m - 1, by omega⟩
  exact qO n
theorem qZ6 {t : List (List Rat)} {j m : Nat} (h : zE9 t m) (hm : 1 <= m) : ∀ x ∈ zK1 t j, zC3 x m := by
 intro x hx
 obtain ⟨r, hr, rfl⟩ := List.mem_map.1 hx
 exact yR7 (h r hr) hm
theorem yR8 {t : List (List Rat)} {m : Nat} (h : zE9 t m) (hm : 1 <= m) : zE9 (zL7 t) m := by
 intro r hr
 obtain ⟨j, _, rfl⟩ := List.mem_map.1 hr
 exact qZ6 h hm
theorem yR9 {a b : List (List Rat)} {m n : Nat} (ha : zE9 a m) (hb : zE9 b m) (hm : 1 <= m) (he : ∀ r ∈ a, r.length = b.length) (hn : b.length <= n) : zE9 (zI6 a b) ((m + m + 1) * n + 1) := by
 intro r hr x hx
 obtain ⟨s, hs, rfl⟩ := List.mem_map.1 hr
 obtain ⟨j, _, rfl⟩ := List.mem_map.1 hx
 refine (yP7 (ha s hs) (qZ6 hb hm) (by rw [qH2]; exact he s hs)).mono ?_
 rw [he s hs]
 exact Nat.add_le_add_right (Nat.mul_le_mul_left _ hn) _
/-- Tables that fit, from the left: all may be, and each has as many rows as the one ahead has places. -/
def zY1 (ts : List (List (List Rat))) : Prop := ts ≠ [] /\ ∀ (i : Nat) (t : List (List Rat)), ts[i]? = some t -> zG8 t /\ ∀ (s : List (List Rat)), 0 < i -> ts[i - 1]? = some s -> zC4 s = t.length
/-- Their product. -/
def qH4 (ts : List (List (List Rat))) : List (List Rat) := ts.tail.foldl zI6 (ts.headD [])
/-- All laid side by side. -/
def zP (n : Nat) (ts : List (List (List Rat))) : List (List Rat) := ts.foldl zI (zB1 n [])
/-- What stands in row i, at place j. -/
def qC (T : List (List Rat)) (i j : Nat) : Option Rat := (T[i]?).bind fun r => r[j]?
/-- So many rows, each of so many places. -/
def shp (T : List (List Rat)) (R C : Nat) : Prop := T.length = R /\ ∀ r ∈ T, r.length = C
theorem qZ7 {T : List (List Rat)} {i j : Nat} {r : List Rat} {q : Rat} (h : T[i]? = some r) (hq : r[j]? = some q) : qC T i j = some q := by unfold qC; rw [h]; exact hq
theorem zI0 {T : List (List Rat)} {R C i : Nat} (hs : shp T R C) (hi : i < R) : ∃ r, T[i]? = some r /\ r.length = C := by
 have h1 : T[i]? = some (T[i]'(by rw [hs.1]; exact hi)) := zA3 _
 exact ⟨_, h1, hs.2 _ (zA5 h1)⟩
theorem shp_ext {T U : List (List Rat)} {R C : Nat} (h : shp T R C) (h' : shp U R C) (he : ∀ i j, i < R -> j < C -> qC T i j = qC U i j) : T = U := by
 apply List.ext_getElem?
 intro i
 by_cases hi : i < R
 ·obtain ⟨r, h1, h2⟩ := zI0 h hi
  obtain ⟨s, h3, h4⟩ := zI0 h' hi
  rw [h1, h3]
  congr 1
  apply List.ext_getElem?
  intro j
  by_cases hj : j < C
  ·have h5 := he i j hi hj
   unfold qC at h5
   rw [h1, h3] at h5
   exact h5
  ·rw [List.getElem?_eq_none (by omega), List.getElem?_eq_none (by omega)]
 ·rw [List.getElem?_eq_none (by rw [h.1]; omega), List.getElem?_eq_none (by rw [h'.1]; omega)]
end Go.Proofs.YtmpalajamfiiiaaGreat.rat
