/- Package whole: signed, Of, Made, Neg, Sign. Condition: as each says. -/
import Derived.Test.YtbebmknfecehnaaGreatWhlA
import Derived.Deep.RegionHeld3
import Derived.Deep.DrawnRows
import Derived.Deep.MidRow
namespace Go.Proofs.YtbebmknfecehnaaGreat.whl
open Go.RowKit Go.Proofs.YtbebmknfecehnaaGreat.num Go.Proofs.YtbebmknfecehnaaGreat.mem Go.Proofs.YtbebmknfecehnaaGreat.nat Go.Proofs.YtbebmknfecehnaaGreat.txt Go.Proofs.YtbebmknfecehnaaGreat.str
set_option linter.unusedVariables false

/-- A sign and a size put together, in the size's own memory. -/
def RetSg (b : Bool) (x : Nat) (u : Value) (w : World) (e : Ending) (w' : World) : Prop := e = .returned (.agg #[.bool (ngB (sg b x)), u]) ∧ Below w.heap.size w w'
theorem ret_agg {b c : Bool} {u : Value} (h : b = c) : Ending.returned (.agg #[.bool b, u]) = .returned (.agg #[.bool c, u]) := by rw [h]
set_option maxHeartbeats 400000 in
theorem signed_any (b : Bool) (u : Value) (x : Nat) (w : World) (h : IsS w .u64 u (digs 4294967296 x)) :
    Calls Tryz.prog 72 #[.bool b, u] w (RetSg b x u w) := by
  obtain ⟨A, c, rfl, _⟩ := h
  by_cases hx : 0 < x
  · have hn : 0 < (digs 4294967296 x).length := len_pos hx
    have HE := Lib.hid (ngB_sg_pos (b := b) hx)
    generalize (digs 4294967296 x).length = n at hn ⊢
    cases b
    · go_enter Tryz.func72, Tryz.ntmps72
      go_wp2
      exact bodyPost_ret (v := .agg #[.bool false, .slice A n c]) (by simp [results, Tryz.results72, go_sem]) rfl ⟨ret_agg HE.out.symm, below_alloc (Nat.le_refl _) _⟩
    · go_enter Tryz.func72, Tryz.ntmps72
      go_wp2
      exact bodyPost_ret (v := .agg #[.bool true, .slice A n c]) (by simp [results, Tryz.results72, go_sem]) rfl ⟨ret_agg HE.out.symm, below_alloc (Nat.le_refl _) _⟩
  · obtain rfl : x = 0 := by omega
    have HE := Lib.hid (ngB_sg_zero b)
    rw [digs_zero]
    cases b
    all_goals
      go_enter Tryz.func72, Tryz.ntmps72
      go_wp2
      exact bodyPost_ret (v := .agg #[.bool false, .slice A 0 c]) (by simp [results, Tryz.results72, go_sem]) rfl ⟨ret_agg HE.out.symm, below_alloc (Nat.le_refl _) _⟩

/-- The document's. -/
def RetMd (b : Bool) (x : Nat) (u : Value) (w : World) (e : Ending) (w' : World) : Prop := e = .returned (.agg #[.bool (ngB (sg b x)), u]) ∧ Below w.heap.size w w'
set_option maxHeartbeats 400000 in
theorem rmade_any (b : Bool) (u : Value) (x : Nat) (w : World) (h : IsS w .i64 u (digs 10000 x)) :
    Calls Tryz.prog 66 #[.bool b, u] w (RetSg b x u w) := by
  obtain ⟨A, c, rfl, _⟩ := h
  by_cases hx : 0 < x
  · have hn : 0 < (digs 10000 x).length := rlenp hx
    have HE := Lib.hid (ngB_sg_pos (b := b) hx)
    generalize (digs 10000 x).length = n at hn ⊢
    cases b
    · go_enter Tryz.func66, Tryz.ntmps66
      go_wp2
      exact bodyPost_ret (v := .agg #[.bool false, .slice A n c]) (by simp [results, Tryz.results66, go_sem]) rfl ⟨ret_agg HE.out.symm, below_alloc (Nat.le_refl _) _⟩
    · go_enter Tryz.func66, Tryz.ntmps66
      go_wp2
      exact bodyPost_ret (v := .agg #[.bool true, .slice A n c]) (by simp [results, Tryz.results66, go_sem]) rfl ⟨ret_agg HE.out.symm, below_alloc (Nat.le_refl _) _⟩
  · obtain rfl : x = 0 := by omega
    have HE := Lib.hid (ngB_sg_zero b)
    rw [digs_zero]
    cases b
    all_goals
      go_enter Tryz.func66, Tryz.ntmps66
      go_wp2
      exact bodyPost_ret (v := .agg #[.bool false, .slice A 0 c]) (by simp [results, Tryz.results66, go_sem]) rfl ⟨ret_agg HE.out.symm, below_alloc (Nat.le_refl _) _⟩

set_option maxHeartbeats 400000 in
theorem sign_any (v : Value) (z t : Int) (w : World) (h : IsZ w v z) (ht : t = ordz z 0) :
    Calls Tryz.prog 50 #[v] w (RetV (.int .i64 t) w) := by
  obtain ⟨u, rfl, A, c, rfl, _⟩ := h
  rcases Int.lt_trichotomy z 0 with h | h | h
  · have h1 : t = -1 := by rw [ht]; exact ordz_lt h
    have hn : 0 < (digs 4294967296 z.natAbs).length := len_pos (by omega)
    rw [ngB_of_neg h]
    subst h1
    clear ht
    generalize (digs 4294967296 z.natAbs).length = n at hn ⊢
    have hn1 : ((n : Int) == 0) = false := by rw [beq_eq_false_iff_ne]; omega
    go_enter Tryz.func50, Tryz.ntmps50
    go_wp2
    go_ret
    exact ⟨rfl, below_alloc (Nat.le_refl _) _⟩
  · have h1 : t = 0 := by rw [ht]; exact ordz_eq h
    subst h; subst h1
    clear ht
    rw [ngB_zero, Int.natAbs_zero, digs_zero]
    go_enter Tryz.func50, Tryz.ntmps50
    go_wp2
    go_ret
    exact ⟨rfl, below_alloc (Nat.le_refl _) _⟩
  · have h1 : t = 1 := by rw [ht]; exact ordz_gt h
    have hn : 0 < (digs 4294967296 z.natAbs).length := len_pos (by omega)
    rw [ngB_of_pos (by omega)]
    subst h1
    clear ht
    generalize (digs 4294967296 z.natAbs).length = n at hn ⊢
    have hn1 : ((n : Int) == 0) = false := by rw [beq_eq_false_iff_ne]; omega
    go_enter Tryz.func50, Tryz.ntmps50
    go_wp2
    go_ret
    exact ⟨rfl, below_alloc (Nat.le_refl _) _⟩
set_option maxHeartbeats 400000 in
theorem rsign_any (v : Value) (z t : Int) (w : World) (h : IsR w v z) (ht : t = ordz z 0) :
    Calls Tryz.prog 51 #[v] w (RetV (.int .i64 t) w) := by
  obtain ⟨u, rfl, A, c, rfl, _⟩ := h
  rcases Int.lt_trichotomy z 0 with h | h | h
  · have h1 : t = -1 := by rw [ht]; exact ordz_lt h
    have hn : 0 < (digs 10000 z.natAbs).length := rlenp (by omega)
    rw [ngB_of_neg h]
    subst h1
    clear ht
    generalize (digs 10000 z.natAbs).length = n at hn ⊢
    have hn1 : ((n : Int) == 0) = false := by rw [beq_eq_false_iff_ne]; omega
    go_enter Tryz.func51, Tryz.ntmps51
    go_wp2
    go_ret
    exact ⟨rfl, below_alloc (Nat.le_refl _) _⟩
  · have h1 : t = 0 := by rw [ht]; exact ordz_eq h
    subst h; subst h1
    clear ht
    rw [ngB_zero, Int.natAbs_zero, digs_zero]
    go_enter Tryz.func51, Tryz.ntmps51
    go_wp2
    go_ret
    exact ⟨rfl, below_alloc (Nat.le_refl _) _⟩
  · have h1 : t = 1 := by rw [ht]; exact ordz_gt h
    have hn : 0 < (digs 10000 z.natAbs).length := rlenp (by omega)
    rw [ngB_of_pos (by omega)]
    subst h1
    clear ht
    generalize (digs 10000 z.natAbs).length = n at hn ⊢
    have hn1 : ((n : Int) == 0) = false := by rw [beq_eq_false_iff_ne]; omega
    go_enter Tryz.func51, Tryz.ntmps51
    go_wp2
    go_ret
    exact ⟨rfl, below_alloc (Nat.le_refl _) _⟩

set_option maxHeartbeats 400000 in
theorem made_any (b : Bool) (v : Value) (x : Nat) (z : Int) (w : World) (h : IsS w .u64 v (digs 4294967296 x)) (hl : (digs 4294967296 x).length ≤ 1000000) (hz : z = sg b x) :
    Calls Tryz.prog 57 #[.bool b, v] w (RetZ z w) := by
  have HZ := Lib.hid hz
  clear hz
  go_enter Tryz.func57, Tryz.ntmps57
  go_wp2_with fail
  refine (clone_any _ _ _ (h.below (below_alloc (Nat.le_refl _) _)) hl).mono ?_
  rintro e w1 ⟨v1, rfl, k1, f1, b1⟩
  obtain ⟨A1, C1, rfl, _⟩ := id k1
  go_wp2_with fail
  refine (signed_any b _ x _ k1).mono ?_
  rintro e w2 ⟨rfl, b2⟩
  have B2 := ((Blk.new w 25 #[.bool false, .slice none 0 0]).below b1).below b2
  obtain ⟨c0, c1, g0, g1⟩ := B2.two
  go_wp2
  exact bodyPost_ret (v := .agg #[.bool (ngB (sg b x)), .slice A1 (digs 4294967296 x).length C1]) (by simp [results, Tryz.results57, go_sem, c0, c1]) rfl (by
    rw [HZ.out]
    exact endZ (((below_alloc (Nat.le_refl _) _).trans (b1.mono (by simp))).trans (b2.mono (by have := b1.size; simp at this; omega))) (Nat.le_refl _) (by simp) (by rw [sg_abs]; exact k1.below b2) f1 rfl)
end Go.Proofs.YtbebmknfecehnaaGreat.whl
