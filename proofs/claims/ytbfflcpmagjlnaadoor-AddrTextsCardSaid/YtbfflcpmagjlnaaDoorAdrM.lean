/- Which prefix is within another one: addr.Within. Condition: none. -/
import Derived.Test.YtbfflcpmagjlnaaDoorAdrK
namespace Go.Proofs.YtbfflcpmagjlnaaDoor.adr
open Go.RowKit Go.Proofs.YtbfflcpmagjlnaaDoor.num Go.Proofs.YtbfflcpmagjlnaaDoor.mem Go.Proofs.YtbfflcpmagjlnaaDoor.txt Go.Proofs.YtbfflcpmagjlnaaDoor.str
set_option linter.unusedVariables false
set_option linter.unusedSimpArgs false
theorem mul_gap {d x y : Nat} (hx : x % d = 0) (hy : y % d = 0) (h : x < y) : x + d ≤ y := by
  have e1 := Nat.div_add_mod x d
  have e2 := Nat.div_add_mod y d
  rw [hx, Nat.add_zero] at e1
  rw [hy, Nat.add_zero] at e2
  rw [← e1, ← e2] at h ⊢
  have h3 : x / d < y / d := Nat.lt_of_mul_lt_mul_left h
  have h4 := Nat.mul_le_mul_left d (show x / d + 1 ≤ y / d by omega)
  rw [Nat.mul_add, Nat.mul_one] at h4
  exact h4
/-- All that p has, q has. -/
def withinP (A : Nat) (L : Int) (B : Nat) (M : Int) : Prop := mayP A L ∧ M ≤ L ∧ hasP B M A
theorem mod_of_mod {x j k : Nat} (h : x % 2 ^ j = 0) (hk : k ≤ j) : x % 2 ^ k = 0 :=
  Nat.mod_eq_zero_of_dvd (Nat.dvd_trans (Nat.pow_dvd_pow 2 hk) (Nat.dvd_of_mod_eq_zero h))
theorem within_gap {A B : Nat} {L M : Int} (h : withinP A L B M) : A + 2 ^ (32 - L.toNat) ≤ B + 2 ^ (32 - M.toNat) := by
  obtain ⟨⟨a0, a1, a2⟩, hl, ⟨b0, b1, b2⟩, h1, h2⟩ := h
  have hk : 32 - L.toNat ≤ 32 - M.toNat := by omega
  refine mul_gap a2 ?_ h2
  have e1 := mod_of_mod b2 hk
  have e2 : 2 ^ (32 - M.toNat) % 2 ^ (32 - L.toNat) = 0 := Nat.mod_eq_zero_of_dvd (Nat.pow_dvd_pow 2 hk)
  rw [Nat.add_mod, e1, e2]
  simp
theorem within_iff {A B : Nat} {L M : Int} : withinP A L B M ↔ mayP A L ∧ mayP B M ∧ B ≤ A ∧ A + 2 ^ (32 - L.toNat) ≤ B + 2 ^ (32 - M.toNat) := by
  constructor
  · intro h
    exact ⟨h.1, h.2.2.1, h.2.2.2.1, within_gap h⟩
  · rintro ⟨h1, h2, h3, h4⟩
    have hp := Nat.two_pow_pos (32 - L.toNat)
    refine ⟨h1, ?_, h2, h3, by omega⟩
    have h5 : 2 ^ (32 - L.toNat) ≤ 2 ^ (32 - M.toNat) := by omega
    have h6 : 32 - L.toNat ≤ 32 - M.toNat := (Nat.pow_le_pow_iff_right (by omega)).1 h5
    have := h1.1
    have := h1.2.1
    have := h2.1
    have := h2.2.1
    omega
set_option maxHeartbeats 3200000 in
set_option maxRecDepth 100000 in
theorem within_any18 (A B : Nat) (L M : Int) (b : Bool) (w : World) (hA : A < 4294967296) (hB : B < 4294967296) (hL0 : -9223372036854775808 ≤ L) (hL1 : L ≤ 9223372036854775807) (hM0 : -9223372036854775808 ≤ M) (hM1 : M ≤ 9223372036854775807) (hb : b = true ↔ withinP A L B M) : Calls Tryd.prog 23 #[.agg #[.int .u32 (A : Int), .int .i64 L], .agg #[.int .u32 (B : Int), .int .i64 M]] w (RetV (.bool b) w) := by
  have HB := Lib.hid hb
  clear hb
  by_cases hm : mayP A L
  · have CY := fun w => may_any18 A L true w hA hL0 hL1 ⟨fun _ => hm, fun _ => rfl⟩
    by_cases hle : M ≤ L
    · have CH := fun w => has_any18 B A M b w hB hA hM0 hM1 (by rw [HB.out]; exact ⟨fun h => h.2.2, fun h => ⟨hm, hle, h⟩⟩)
      have hd : decide (M ≤ L) = true := decide_eq_true hle
      clear hm
      go_enter Tryd.func23, Tryd.ntmps23
      go_upto_region 1 with (fail)
      obtain ⟨w1, hw1, x0, x1, b1, lt1⟩ := pairbox w 24 (.int .u32 (A : Int)) (.int .i64 L)
      rw [hw1]
      have hsz1 : w1.heap.size = w.heap.size + 1 := by rw [← hw1, World.size_alloc]
      clear hw1
      obtain ⟨wb, hwb, r0, r1, bb, ltb⟩ := pairbox w1 24 (.int .u32 (B : Int)) (.int .i64 M)
      rw [hwb]
      clear hwb
      rw [hsz1] at r0 r1 bb ltb
      have x0b := (bb.cell (by show w.heap.size < _; omega)).trans x0
      have x1b := (bb.cell (by show w.heap.size < _; omega)).trans x1
      have lt0 : w.heap.size < wb.heap.size := by omega
      have bt : Below w.heap.size w wb := b1.trans (bb.mono (by omega))
      clear x0 x1 b1 lt1 hsz1 bb
      go_wp2_with fail
      refine (CY _).mono ?_
      rintro e w2 ⟨rfl, b2⟩
      have y0 := (b2.cell lt0).trans x0b
      have y1 := (b2.cell lt0).trans x1b
      have z0 := (b2.cell ltb).trans r0
      have z1 := (b2.cell ltb).trans r1
      have bt2 := bt.trans (b2.mono bt.size)
      clear x0b x1b r0 r1
      go_wp2_with fail
      refine (CH _).mono ?_
      rintro e w3 ⟨rfl, b3⟩
      go_wp2
      go_ret
      exact ⟨rfl, bt2.trans (b3.mono bt2.size)⟩
    · obtain rfl : b = false := Bool.eq_false_iff.2 fun h => hle (HB.out.1 h).2.1
      have hd : decide (M ≤ L) = false := decide_eq_false hle
      have hlt : L < M := by omega
      clear hm hle
      go_enter Tryd.func23, Tryd.ntmps23
      go_upto_region 1 with (fail)
      obtain ⟨w1, hw1, x0, x1, b1, lt1⟩ := pairbox w 24 (.int .u32 (A : Int)) (.int .i64 L)
      rw [hw1]
      have hsz1 : w1.heap.size = w.heap.size + 1 := by rw [← hw1, World.size_alloc]
      clear hw1
      obtain ⟨wb, hwb, r0, r1, bb, ltb⟩ := pairbox w1 24 (.int .u32 (B : Int)) (.int .i64 M)
      rw [hwb]
      clear hwb
      rw [hsz1] at r0 r1 bb ltb
      have x0b := (bb.cell (by show w.heap.size < _; omega)).trans x0
      have x1b := (bb.cell (by show w.heap.size < _; omega)).trans x1
      have lt0 : w.heap.size < wb.heap.size := by omega
      have bt : Below w.heap.size w wb := b1.trans (bb.mono (by omega))
      clear x0 x1 b1 lt1 hsz1 bb
      go_wp2_with fail
      refine (CY _).mono ?_
      rintro e w2 ⟨rfl, b2⟩
      have y0 := (b2.cell lt0).trans x0b
      have y1 := (b2.cell lt0).trans x1b
      have z0 := (b2.cell ltb).trans r0
      have z1 := (b2.cell ltb).trans r1
      have bt2 := bt.trans (b2.mono bt.size)
      clear x0b x1b r0 r1
      go_wp2
      go_ret
      exact ⟨rfl, bt2⟩
  · obtain rfl : b = false := Bool.eq_false_iff.2 fun h => hm (HB.out.1 h).1
    have CY := fun w => may_any18 A L false w hA hL0 hL1 ⟨fun h => Bool.noConfusion h, fun h => absurd h hm⟩
    clear hm
    go_enter Tryd.func23, Tryd.ntmps23
    go_wp2_with fail
    refine (CY _).mono ?_
    rintro e w2 ⟨rfl, b2⟩
    go_wp2
    go_ret
    exact ⟨rfl, (below_alloc (Nat.le_refl _) _).alloc (by simp) _ |>.trans (b2.mono (by simp; omega))⟩
end Go.Proofs.YtbfflcpmagjlnaaDoor.adr
