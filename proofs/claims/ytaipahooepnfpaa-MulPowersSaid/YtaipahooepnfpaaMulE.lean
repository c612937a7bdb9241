/- Package mul: Product. Condition: the slice holds slices that read as limbs. -/
import Derived.Test.YtaipahooepnfpaaMulD
namespace Go.Proofs.Ytaipahooepnfpaa.nat
open Go.RowKit Go.Proofs.Ytaipahooepnfpaa.num Go.Proofs.Ytaipahooepnfpaa.mem Go.Proofs.Ytaipahooepnfpaa.limb
set_option linter.unusedVariables false

theorem IsV.below {w w' : World} {v : Value} {vs : List Value} (h : IsV w v vs) (hb : Below w.heap.size w w') : IsV w' v vs := by
  obtain ⟨A, c, e, h1, h2⟩ := h
  refine ⟨A, c, e, h1, fun i u hu => ?_⟩
  obtain ⟨ad, ha, hc⟩ := h2 i u hu
  exact ⟨ad, ha, (hb.cell (World.block_lt_of_cell? w _ hc)).trans hc⟩
theorem Nums.below {w w' : World} {vs : List Value} {xs : List Nat} (h : Nums w vs xs) (hb : Below w.heap.size w w') : Nums w' vs xs := ⟨h.1, fun i u x hu hx => (h.2 i u x hu hx).below hb⟩
theorem Nums.take {w : World} {vs : List Value} {xs : List Nat} (h : Nums w vs xs) (n : Nat) : Nums w (vs.take n) (xs.take n) := by
  refine ⟨by rw [List.length_take, List.length_take, h.1], fun i u x hu hx => ?_⟩
  rw [List.getElem?_take] at hu hx
  split at hu
  · rename_i hi
    rw [if_pos hi] at hx
    exact h.2 i u x hu hx
  · cases hu
theorem Nums.drop {w : World} {vs : List Value} {xs : List Nat} (h : Nums w vs xs) (n : Nat) : Nums w (vs.drop n) (xs.drop n) := by
  refine ⟨by rw [List.length_drop, List.length_drop, h.1], fun i u x hu hx => ?_⟩
  rw [List.getElem?_drop] at hu hx
  exact h.2 _ u x hu hx
/-- How many limbs all of them have. -/
def plen (xs : List Nat) : Nat := (xs.map fun x => (digs 4294967296 x).length).sum
theorem plen_cut (xs : List Nat) (n : Nat) : plen (xs.take n) + plen (xs.drop n) = plen xs := by
  unfold plen
  have e : xs.map (fun x => (digs 4294967296 x).length) = (xs.take n).map (fun x => (digs 4294967296 x).length) ++ (xs.drop n).map (fun x => (digs 4294967296 x).length) := by
    rw [← List.map_append, List.take_append_drop]
  rw [e, List.sum_append]
theorem prod_cut (xs : List Nat) (n : Nat) : (xs.take n).prod * (xs.drop n).prod = xs.prod := by
  have e := congrArg List.prod (List.take_append_drop n xs)
  rwa [List.prod_append] at e
theorem prod_len (xs : List Nat) : (digs 4294967296 xs.prod).length ≤ plen xs + 1 := by
  induction xs with
  | nil => rw [List.prod_nil]; exact digs_len_le (by omega) (by decide)
  | cons x xs ih =>
    have h := mul_len x xs.prod
    have e : plen (x :: xs) = (digs 4294967296 x).length + plen xs := by simp [plen]
    rw [List.prod_cons, e]; omega

set_option maxHeartbeats 1600000 in
theorem product_any (n : Nat) : ∀ (V : Value) (vs : List Value) (xs : List Nat) (w : World), vs.length = n → n ≤ 1000 → plen xs ≤ 50000 → IsV w V vs → Nums w vs xs →
    Calls Try.prog 19 #[V] w (RetS .u64 (digs 4294967296 xs.prod) w) := by
  induction n using Nat.strongRecOn with
  | ind n ih =>
    intro V vs xs w hn hn2 hp hV hN
    subst hn
    obtain ⟨A, c, rfl, hc, hcells⟩ := hV
    have hxl := hN.1
    rcases (show vs.length = 0 ∨ vs.length = 1 ∨ 2 ≤ vs.length by omega) with h0 | h0 | h0
    · obtain rfl : vs = [] := List.length_eq_zero_iff.1 h0
      obtain rfl : xs = [] := List.length_eq_zero_iff.1 hxl.symm
      clear ih h0 hcells hN hxl
      go_enter Try.func19, Try.ntmps19
      go_wp2_with fail
      refine (of_any _ 1 _ rfl (by omega)).mono ?_
      rintro e w1 ⟨v1, rfl, k1, f1, b1⟩
      go_wp2
      go_ret
      exact ⟨_, rfl, by rw [List.prod_nil]; exact k1, f1, b1⟩
    · obtain ⟨u, rfl⟩ := List.length_eq_one_iff.1 h0
      obtain ⟨x, rfl⟩ := List.length_eq_one_iff.1 (hxl.symm.trans h0)
      obtain ⟨ad, rfl, hcell⟩ := hcells 0 u (by simp)
      have hu := hN.2 0 u x (by simp) (by simp)
      have hxn : (digs 4294967296 x).length ≤ 50000 := by simpa [plen] using hp
      have HE : Hid ([x].prod = x) := by show _ = _; simp
      have e0 : ad.add 0 = ad := by unfold Addr.add; simp
      rw [e0] at hcell
      clear ih h0 hcells hN hxl e0 hp
      go_enter Try.func19, Try.ntmps19
      go_wp2_with fail
      refine (clone_any _ _ _ hu (by omega)).mono ?_
      rintro e w1 ⟨v1, rfl, k1, f1, b1⟩
      go_wp2
      go_ret
      exact ⟨_, rfl, by rw [HE.out]; exact k1, f1, b1⟩
    · obtain ⟨h, hh⟩ : ∃ h, h = vs.length / 2 := ⟨_, rfl⟩
      have hh1 : 1 ≤ h := by omega
      have hh2 : h < vs.length := by omega
      have hhI : ((vs.length : Int)) / 2 = (h : Int) := by omega
      have q1 : ((vs.length : Int) == 0) = false := by rw [beq_eq_false_iff_ne]; omega
      have q2 : ((vs.length : Int) == 1) = false := by rw [beq_eq_false_iff_ne]; omega
      obtain ⟨ad, rfl, hc0⟩ := hcells 0 _ (List.getElem?_eq_getElem (by omega))
      clear hc0
      obtain ⟨p1, hp1⟩ : ∃ p, p = (xs.take h).prod := ⟨_, rfl⟩
      obtain ⟨p2, hp2⟩ : ∃ p, p = (xs.drop h).prod := ⟨_, rfl⟩
      have hpl := plen_cut xs h
      have l1 := prod_len (xs.take h)
      have l2 := prod_len (xs.drop h)
      rw [← hp1] at l1
      rw [← hp2] at l2
      have HP : Hid (xs.prod = p1 * p2) := by show _ = _; rw [hp1, hp2, prod_cut]
      have i1 := ih h (by omega) (.slice (some ad) h c) (vs.take h) (xs.take h)
      have i2 := ih (vs.length - h) (by omega) (.slice (some (ad.add h)) (vs.length - h) (c - h)) (vs.drop h) (xs.drop h)
      rw [← hp1] at i1
      rw [← hp2] at i2
      have H1 : Hid (∀ w', Below w.heap.size w w' → Calls Try.prog 19 #[.slice (some ad) h c] w' (RetS .u64 (digs 4294967296 p1) w')) := by
        intro w' hb
        refine i1 w' (by simp; omega) (by omega) (by omega) ?_ ((hN.below hb).take h)
        have e : (vs.take h).length = h := by simp; omega
        refine ⟨some ad, c, by rw [e], by omega, fun i u hu => ?_⟩
        rw [List.getElem?_take] at hu
        split at hu
        · obtain ⟨ad', ha, hc'⟩ := hcells i u hu
          exact ⟨ad', ha, (hb.cell (World.block_lt_of_cell? w _ hc')).trans hc'⟩
        · cases hu
      have H2 : Hid (∀ w', Below w.heap.size w w' → Calls Try.prog 19 #[.slice (some (ad.add h)) (vs.length - h) (c - h)] w' (RetS .u64 (digs 4294967296 p2) w')) := by
        intro w' hb
        refine i2 w' (by simp) (by omega) (by omega) ?_ ((hN.below hb).drop h)
        refine ⟨some (ad.add h), c - h, by simp, by simp; omega, fun i u hu => ?_⟩
        rw [List.getElem?_drop] at hu
        obtain ⟨ad', ha, hc'⟩ := hcells (h + i) u hu
        injection ha with ha; subst ha
        refine ⟨_, rfl, ?_⟩
        have e : (ad.add h).add i = ad.add (h + i) := by
          unfold Addr.add
          by_cases hn : h = 0 <;> by_cases hi : i = 0 <;> simp [hn, hi, Nat.add_assoc]
        rw [e]
        exact (hb.cell (World.block_lt_of_cell? w _ hc')).trans hc'
      clear ih i1 i2 hcells hN hp1 hp2 hxl hh
      have HV := Lib.hid hhI
      have hcN : ¬ c = h := by omega
      have hle1 : (h : Int) ≤ (c : Int) := by omega
      have hle2 : (h : Int) ≤ (vs.length : Int) := by omega
      have B0 : Below w.heap.size w w := Below.refl _ _
      go_enter Try.func19, Try.ntmps19
      go_wp2
      (try rw [hhI])
      clear hhI
      go_region_law (first
        | (go_simp; go_at_call 12; refine (mul_any _ _ p1 p2 _ (by first | exact k1 | exact k1.below b2) (by first | exact k2 | exact k2.below b1) (by omega) (by omega) (p1 * p2) rfl).mono ?_; rintro e w3 ⟨v3, rfl, k3, f3, b3⟩)
        | (go_simp; (with_reducible refine (H1.out _ (by first | exact B0 | exact B0.drew | exact B2 | exact B2.drew)).mono ?_); rintro e w1 ⟨v1, rfl, k1, f1, b1⟩; have B1 := (by first | exact B0.trans (b1.mono B0.size) | exact B0.drew.trans (b1.mono B0.drew.size) | exact B2.trans (b1.mono B2.size) | exact B2.drew.trans (b1.mono B2.drew.size) : Below w.heap.size w w1))
        | (go_simp; (with_reducible refine (H2.out _ (by first | exact B0 | exact B0.drew | exact B1 | exact B1.drew)).mono ?_); rintro e w2 ⟨v2, rfl, k2, f2, b2⟩; have B2 := (by first | exact B0.trans (b2.mono B0.size) | exact B0.drew.trans (b2.mono B0.drew.size) | exact B1.trans (b2.mono B1.size) | exact B1.drew.trans (b2.mono B1.drew.size) : Below w.heap.size w w2)))
      all_goals
        have B3 : Below w.heap.size w w3 := by first | exact B2.trans (b3.mono B2.size) | exact B1.trans (b3.mono B1.size) | exact B2.drew.trans (b3.mono B2.drew.size) | exact B1.drew.trans (b3.mono B1.drew.size)
        have F3 : Fresh w.heap.size v3 := by first | exact f3.mono B2.size | exact f3.mono B1.size
        go_wp2
        go_ret
        exact ⟨_, rfl, by rw [HP.out]; exact k3, F3, B3⟩
end Go.Proofs.Ytaipahooepnfpaa.nat
