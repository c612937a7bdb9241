/- Package mul: Product. Condition: the slice holds slices that read as limbs. -/
import Derived.Test.YtcgmbmiingppgaaMulD
namespace Go.Proofs.Ytcgmbmiingppgaa.nat
open Go.RowKit Go.Proofs.Ytcgmbmiingppgaa.num Go.Proofs.Ytcgmbmiingppgaa.mem Go.Proofs.Ytcgmbmiingppgaa.limb
set_option linter.unusedVariables false

theorem IsV.below {w w' : World} {v : Value} {vs : List Value} (h : IsV w v vs) (hb : Below w.heap.size w w') : IsV w' v vs := by
  obtain ⟨A, c, e, h1, h2⟩ := h
  refine ⟨A, c, e, h1, fun i u hu => ?_⟩
  obtain ⟨ad, ha, hc⟩ := h2 i u hu
  exact ⟨ad, ha, (hb.cell (World.block_lt_of_cell? w _ hc)).trans hc⟩
theorem Nums.below {w w' : World} {vs : List Value} {xs : List Nat} (h : Nums w vs xs) (hb : Below w.heap.size w w') : Nums w' vs xs := ⟨h.1, fun i u x hu hx => (h.2 i u x hu hx).below hb⟩
theorem Nums.take {w : World} {vs : List Value} {xs : List Nat} (h : Nums w vs xs) (n : Nat) : Nums w (vs.take n) (xs.take n) := by
  refine ⟨by rw [List.length_take, List.length_take, h.1], fun i u x hu hx => ?_⟩
  rw [List.getElem?_take] at hu hx
  split at hu
  · rename_i hi
    rw [if_pos hi] at hx
    exact h.2 i u x hu hx
  · cases hu
theorem Nums.drop {w : World} {vs : List Value} {xs : List Nat} (h : Nums w vs xs) (n : Nat) : Nums w (vs.drop n) (xs.drop n) := by
  refine ⟨by rw [List.length_drop, List.length_drop, h.1], fun i u x hu hx => ?_⟩
  rw [List.getElem?_drop] at hu hx
  exact h.2 _ u x hu hx
/-- How many limbs all of them have. -/
def plen (xs : List Nat) : Nat := (xs.map fun x => (digs 4294967296 x).length).sum
theorem plen_cut (xs : List Nat) (n : Nat) : plen (xs.take n) + plen (xs.drop n) = plen xs := by
  unfold plen
  have e : xs.map (fun x => (digs 4294967296 x).length) = (xs.take n).map (fun x => (digs 4294967296 x).length) ++ (xs.drop n).map (fun x => (digs 4294967296 x).length) := by
    rw [← List.map_append, List.take_append_drop]
  rw [e, List.sum_append]
theorem prod_cut (xs : List Nat) (n : Nat) : (xs.take n).prod * (xs.drop n).prod = xs.prod := by
  have e := congrArg List.prod (List.take_append_drop n xs)
  rwa [List.prod_append] at e
theorem prod_len (xs : List Nat) : (digs 4294967296 xs.prod).length ≤ plen xs + 1 := by
  induction xs with
  | nil => rw [List.prod_nil]; exact digs_len_le (by omega) (by decide)
  | cons x xs ih =>
    have h := mul_len x xs.prod
    have e : plen (x :: xs) = (digs 4294967296 x).length + plen xs := by simp [plen]
    rw [List.prod_cons, e]; omega

end Go.Proofs.Ytcgmbmiingppgaa.nat
