/- A prefix's range, and which prefix is within another one: addr.Range, the document's, addr.Within. Condition: none. -/
import Derived.Test.YtbfflcpmagjlnaaDoorAdrJ
import Derived.Deep.RegionLaw
import Derived.Deep.RegionHeld
namespace Go.Proofs.YtbfflcpmagjlnaaDoor.adr
open Go.RowKit Go.Proofs.YtbfflcpmagjlnaaDoor.num Go.Proofs.YtbfflcpmagjlnaaDoor.mem Go.Proofs.YtbfflcpmagjlnaaDoor.txt Go.Proofs.YtbfflcpmagjlnaaDoor.str
set_option linter.unusedVariables false
set_option linter.unusedSimpArgs false
theorem pairboxB (w : World) (t : TypeId) (x y : Value) : ∃ w1, w.alloc (.cells #[x, y] t) = w1 ∧ w1.cell? ⟨w.heap.size, 0, none⟩ = some x ∧ w1.cell? ⟨w.heap.size, 1, none⟩ = some y ∧ Below w.heap.size w w1 ∧ w.heap.size < w1.heap.size ∧ w1.heap[w.heap.size]? = some (.cells #[x, y] t (0, 0)) := by
  refine ⟨_, rfl, ?_, ?_, below_alloc (Nat.le_refl _) _, ?_, ?_⟩
  · rw [World.cell?_alloc_new]; rfl
  · rw [World.cell?_alloc_new]; rfl
  · rw [World.size_alloc]; omega
  · exact heap_alloc_new w _
theorem two18 {w : World} {g : Nat} {t : TypeId} {x y : Value} (h : w.heap[g]? = some (.cells #[x, y] t (0, 0))) : w.cell? ⟨g, 0, none⟩ = some x ∧ w.cell? ⟨g, 1, none⟩ = some y ∧ w.frozen? ⟨g, 0, none⟩ = false ∧ w.frozen? ⟨g, 1, none⟩ = false :=
  ⟨cell_of_row w g 0 _ t (0, 0) h, cell_of_row w g 1 _ t (0, 0) h, by simp [World.frozen?, h], by simp [World.frozen?, h]⟩
theorem set2_18 {w : World} {g : Nat} {x y : Value} (h0 : w.cell? ⟨g, 0, none⟩ = some x) (h1 : w.cell? ⟨g, 1, none⟩ = some y) (u v : Value) : ((w.setCell ⟨g, 0, none⟩ u).setCell ⟨g, 1, none⟩ v).cell? ⟨g, 0, none⟩ = some u ∧ ((w.setCell ⟨g, 0, none⟩ u).setCell ⟨g, 1, none⟩ v).cell? ⟨g, 1, none⟩ = some v := by
  have n1 : (⟨g, 1, none⟩ : Addr) ≠ ⟨g, 0, none⟩ := by simp
  have n0 : (⟨g, 0, none⟩ : Addr) ≠ ⟨g, 1, none⟩ := by simp
  exact ⟨(World.cell?_setCell_other _ _ _ _ n1).trans (World.cell?_setCell_same _ _ _ h0), World.cell?_setCell_same (u := y) _ _ _ ((World.cell?_setCell_other _ _ _ _ n0).trans h1)⟩
/-- A range's ends. -/
def rngP (A : Nat) (L : Int) : Nat × Nat := if mayP A L then (A, A + (2 ^ (32 - L.toNat) - 1)) else (0, 0)
set_option maxHeartbeats 3200000 in
set_option maxRecDepth 100000 in
theorem range_any18 (A : Nat) (L : Int) (f g : Nat) (w : World) (hA : A < 4294967296) (hL0 : -9223372036854775808 ≤ L) (hL1 : L ≤ 9223372036854775807) (hr : rngP A L = (f, g)) : Calls Tryd.prog 21 #[.agg #[.int .u32 (A : Int), .int .i64 L]] w (RetV (.agg #[.int .u32 (f : Int), .int .u32 (g : Int)]) w) := by
  by_cases hm : mayP A L
  · obtain ⟨h0, h1, h2⟩ := id hm
    obtain ⟨k, hk⟩ : ∃ k, k = restN L := ⟨_, rfl⟩
    have hk32 : k ≤ 32 := by rw [hk]; exact restN_le L
    unfold rngP at hr
    rw [if_pos hm, ← restN_in h0 h1, ← hk] at hr
    rw [← restN_in h0 h1, ← hk] at h2
    injection hr with e1 e2
    subst e1
    have CM := fun w => mask_any L k w hL0 hL1 hk
    have CY := fun w => may_any18 A L true w hA hL0 hL1 ⟨fun _ => hm, fun _ => rfl⟩
    have hfl := bits_flip (maskN_lt k)
    have hor := bits_or_low hA hk32 h2
    obtain ⟨M, hM⟩ : ∃ M : Int, M = ((maskN k : Nat) : Int) := ⟨_, rfl⟩
    obtain ⟨n, hn⟩ : ∃ n : Nat, n = 4294967295 - maskN k := ⟨_, rfl⟩
    have hn2 : 2 ^ k - 1 = n := by have := maskN_add hk32; have := Nat.two_pow_pos k; omega
    rw [hn2] at hor e2
    rw [← hM, ← hn] at hfl
    rw [← hM] at CM
    rw [e2] at hor
    clear hM hn hn2 e2 hm h2 hk
    go_enter Tryd.func21, Tryd.ntmps21
    go_upto_region 1 with (fail)
    obtain ⟨w1, hw1, x0, x1, b1, lt1⟩ := pairbox w 24 (.int .u32 (A : Int)) (.int .i64 L)
    rw [hw1]
    have hsz1 : w1.heap.size = w.heap.size + 1 := by rw [← hw1, World.size_alloc]
    clear hw1
    obtain ⟨wb, hwb, r0, r1, bb, ltb, hB⟩ := pairboxB w1 35 (.int .u32 0) (.int .u32 0)
    rw [hwb]
    clear hwb
    rw [hsz1] at r0 r1 bb ltb hB
    have x0b := (bb.cell (by show w.heap.size < _; omega)).trans x0
    have x1b := (bb.cell (by show w.heap.size < _; omega)).trans x1
    have lt0 : w.heap.size < wb.heap.size := by omega
    have bt : Below w.heap.size w wb := b1.trans (bb.mono (by omega))
    clear x0 x1 r0 r1 b1 lt1 hsz1 bb
    go_wp2_with fail
    refine (CY _).mono ?_
    rintro e w2 ⟨rfl, b2⟩
    have y0 := cell_drew ((b2.cell lt0).trans x0b)
    have y1 := cell_drew ((b2.cell lt0).trans x1b)
    have hB2 : w2.heap[w.heap.size + 1]? = some (.cells #[.int .u32 0, .int .u32 0] 35 (0, 0)) := (b2.block _ ltb).trans hB
    obtain ⟨k0, k1, k2, k3⟩ := two18 hB2
    have hfl2 : bits .xor .u32 (if IntKind.u32.signed = true then -1 else IntKind.u32.max) M = (n : Int) := hfl
    clear hB2 hB
    have bt2 := (bt.trans (b2.mono bt.size)).drew
    go_upto_region 3 with (fail)
    go_region_law (first
      | (go_simp; go_at_call 22; (with_reducible refine (CM _).mono ?_); rintro e w3 ⟨rfl, rfl⟩))
    all_goals
      obtain ⟨w4, hw4⟩ : ∃ w4, w4 = ((w2.setCell ⟨w.heap.size + 1, 0, none⟩ (.int .u32 (A : Int))).setCell ⟨w.heap.size + 1, 1, none⟩ (.int .u32 (g : Int))).drew := ⟨_, rfl⟩
      have c0 : w4.cell? ⟨w.heap.size + 1, 0, none⟩ = some (.int .u32 (A : Int)) := by rw [hw4]; exact (set2_18 k0 k1 _ _).1
      have c1 : w4.cell? ⟨w.heap.size + 1, 1, none⟩ = some (.int .u32 (g : Int)) := by rw [hw4]; exact (set2_18 k0 k1 _ _).2
      have b4 : Below w.heap.size w w4 := by rw [hw4]; exact ((bt.trans (b2.mono bt.size)).setCell (Nat.le_succ _) _ |>.setCell (Nat.le_succ _) _).drew
      rw [← hw4]
      clear hw4 y0 y1 k0 k1 k2 k3 x0b x1b
      go_wp2
      exact bodyPost_ret (v := .agg #[.int .u32 (A : Int), .int .u32 (g : Int)]) (by simp [results, Tryd.results21, go_sem, c0, c1]) rfl ⟨rfl, b4⟩
  · unfold rngP at hr
    rw [if_neg hm] at hr
    injection hr with e1 e2
    subst e1
    subst e2
    have CY := fun w => may_any18 A L false w hA hL0 hL1 ⟨fun h => Bool.noConfusion h, fun h => absurd h hm⟩
    clear hm
    go_enter Tryd.func21, Tryd.ntmps21
    go_upto_region 1 with (fail)
    obtain ⟨w1, hw1, x0, x1, b1, lt1⟩ := pairbox w 24 (.int .u32 (A : Int)) (.int .i64 L)
    rw [hw1]
    have hsz1 : w1.heap.size = w.heap.size + 1 := by rw [← hw1, World.size_alloc]
    clear hw1
    obtain ⟨wb, hwb, r0, r1, bb, ltb, hB⟩ := pairboxB w1 35 (.int .u32 0) (.int .u32 0)
    rw [hwb]
    clear hwb
    rw [hsz1] at r0 r1 bb ltb hB
    have x0b := (bb.cell (by show w.heap.size < _; omega)).trans x0
    have x1b := (bb.cell (by show w.heap.size < _; omega)).trans x1
    have bt : Below w.heap.size w wb := b1.trans (bb.mono (by omega))
    clear x0 x1 r0 r1 b1 lt1 hsz1 bb
    go_wp2_with fail
    refine (CY _).mono ?_
    rintro e w2 ⟨rfl, b2⟩
    have hB2 : w2.heap[w.heap.size + 1]? = some (.cells #[.int .u32 0, .int .u32 0] 35 (0, 0)) := (b2.block _ ltb).trans hB
    obtain ⟨k0, k1, k2, k3⟩ := two18 hB2
    have bt2 := bt.trans (b2.mono bt.size)
    clear hB2 hB
    go_wp2
    obtain ⟨w4, hw4⟩ : ∃ w4, w4 = (w2.setCell ⟨w.heap.size + 1, 0, none⟩ (.int .u32 0)).setCell ⟨w.heap.size + 1, 1, none⟩ (.int .u32 0) := ⟨_, rfl⟩
    have c0 : w4.cell? ⟨w.heap.size + 1, 0, none⟩ = some (.int .u32 0) := by rw [hw4]; exact (set2_18 k0 k1 _ _).1
    have c1 : w4.cell? ⟨w.heap.size + 1, 1, none⟩ = some (.int .u32 0) := by rw [hw4]; exact (set2_18 k0 k1 _ _).2
    have b4 : Below w.heap.size w w4 := by rw [hw4]; exact (bt2.setCell (Nat.le_succ _) _).setCell (Nat.le_succ _) _
    rw [← hw4]
    clear hw4
    exact bodyPost_ret (v := .agg #[.int .u32 ((0 : Nat) : Int), .int .u32 ((0 : Nat) : Int)]) (by simp [results, Tryd.results21, go_sem, c0, c1]) rfl ⟨rfl, b4⟩
set_option maxHeartbeats 3200000 in
set_option maxRecDepth 100000 in
theorem rrange_any18 (A : Nat) (L : Int) (f g : Nat) (w : World) (hA : A < 4294967296) (hL0 : -9223372036854775808 ≤ L) (hL1 : L ≤ 9223372036854775807) (hr : rngP A L = (f, g)) : Calls Tryd.prog 16 #[.agg #[.int .u32 (A : Int), .int .i64 L]] w (RetV (.agg #[.int .u32 (f : Int), .int .u32 (g : Int)]) w) := by
  by_cases hm : mayP A L
  · obtain ⟨h0, h1, h2⟩ := id hm
    obtain ⟨k, hk⟩ : ∃ k, k = restN L := ⟨_, rfl⟩
    have hk32 : k ≤ 32 := by rw [hk]; exact restN_le L
    unfold rngP at hr
    rw [if_pos hm, ← restN_in h0 h1, ← hk] at hr
    rw [← restN_in h0 h1, ← hk] at h2
    injection hr with e1 e2
    subst e1
    have hk2 : (k : Int) = 32 - L := by rw [hk, restN_in h0 h1]; omega
    have CM := fun w => size_any L k w h0 h1 hk2
    have CY := fun w => rmay_any18 A L true w hA hL0 hL1 ⟨fun _ => hm, fun _ => rfl⟩
    have hle := may_le h2 hA hk32
    have hpw := two_pow_le hk32
    have hpp := Nat.two_pow_pos k
    obtain ⟨m, hm2⟩ : ∃ m : Nat, m = 2 ^ k := ⟨_, rfl⟩
    rw [← hm2] at CM e2 hle hpw hpp
    obtain ⟨n, hn⟩ : ∃ n : Nat, n = m - 1 := ⟨_, rfl⟩
    rw [← hn] at e2
    have hs1 : IntKind.u64.wrap ((m : Int) - 1) = (n : Int) := by rw [IntKind.wrap_u64]; omega
    have hs2 : IntKind.u32.wrap (n : Int) = (n : Int) := wraps_u32 _ (by omega) (by omega)
    have hs3 : IntKind.u32.wrap ((A : Int) + (n : Int)) = (g : Int) := by rw [wraps_u32 _ (by omega) (by omega)]; omega
    clear hm2 hn hle hpw hpp e2 hm h2 hk hk2
    go_enter Tryd.func16, Tryd.ntmps16
    go_upto_region 1 with (fail)
    obtain ⟨w1, hw1, x0, x1, b1, lt1⟩ := pairbox w 24 (.int .u32 (A : Int)) (.int .i64 L)
    rw [hw1]
    have hsz1 : w1.heap.size = w.heap.size + 1 := by rw [← hw1, World.size_alloc]
    clear hw1
    obtain ⟨wb, hwb, r0, r1, bb, ltb, hB⟩ := pairboxB w1 35 (.int .u32 0) (.int .u32 0)
    rw [hwb]
    clear hwb
    rw [hsz1] at r0 r1 bb ltb hB
    have x0b := (bb.cell (by show w.heap.size < _; omega)).trans x0
    have x1b := (bb.cell (by show w.heap.size < _; omega)).trans x1
    have lt0 : w.heap.size < wb.heap.size := by omega
    have bt : Below w.heap.size w wb := b1.trans (bb.mono (by omega))
    clear x0 x1 r0 r1 b1 lt1 hsz1 bb
    go_wp2_with fail
    refine (CY _).mono ?_
    rintro e w2 ⟨rfl, b2⟩
    have y0 := cell_drew ((b2.cell lt0).trans x0b)
    have y1 := cell_drew ((b2.cell lt0).trans x1b)
    have hB2 : w2.heap[w.heap.size + 1]? = some (.cells #[.int .u32 0, .int .u32 0] 35 (0, 0)) := (b2.block _ ltb).trans hB
    obtain ⟨k0, k1, k2, k3⟩ := two18 hB2
    clear hB2 hB
    have bt2 := (bt.trans (b2.mono bt.size)).drew
    go_upto_region 3 with (fail)
    go_region_law (first
      | (go_simp; go_at_call 31; (with_reducible refine (CM _).mono ?_); rintro e w3 ⟨rfl, rfl⟩))
    all_goals
      obtain ⟨w4, hw4⟩ : ∃ w4, w4 = ((w2.setCell ⟨w.heap.size + 1, 0, none⟩ (.int .u32 (A : Int))).setCell ⟨w.heap.size + 1, 1, none⟩ (.int .u32 (g : Int))).drew := ⟨_, rfl⟩
      have c0 : w4.cell? ⟨w.heap.size + 1, 0, none⟩ = some (.int .u32 (A : Int)) := by rw [hw4]; exact (set2_18 k0 k1 _ _).1
      have c1 : w4.cell? ⟨w.heap.size + 1, 1, none⟩ = some (.int .u32 (g : Int)) := by rw [hw4]; exact (set2_18 k0 k1 _ _).2
      have b4 : Below w.heap.size w w4 := by rw [hw4]; exact ((bt.trans (b2.mono bt.size)).setCell (Nat.le_succ _) _ |>.setCell (Nat.le_succ _) _).drew
      rw [← hw4]
      clear hw4 y0 y1 k0 k1 k2 k3 x0b x1b
      go_wp2
      exact bodyPost_ret (v := .agg #[.int .u32 (A : Int), .int .u32 (g : Int)]) (by simp [results, Tryd.results16, go_sem, c0, c1]) rfl ⟨rfl, b4⟩
  · unfold rngP at hr
    rw [if_neg hm] at hr
    injection hr with e1 e2
    subst e1
    subst e2
    have CY := fun w => rmay_any18 A L false w hA hL0 hL1 ⟨fun h => Bool.noConfusion h, fun h => absurd h hm⟩
    clear hm
    go_enter Tryd.func16, Tryd.ntmps16
    go_upto_region 1 with (fail)
    obtain ⟨w1, hw1, x0, x1, b1, lt1⟩ := pairbox w 24 (.int .u32 (A : Int)) (.int .i64 L)
    rw [hw1]
    have hsz1 : w1.heap.size = w.heap.size + 1 := by rw [← hw1, World.size_alloc]
    clear hw1
    obtain ⟨wb, hwb, r0, r1, bb, ltb, hB⟩ := pairboxB w1 35 (.int .u32 0) (.int .u32 0)
    rw [hwb]
    clear hwb
    rw [hsz1] at r0 r1 bb ltb hB
    have x0b := (bb.cell (by show w.heap.size < _; omega)).trans x0
    have x1b := (bb.cell (by show w.heap.size < _; omega)).trans x1
    have bt : Below w.heap.size w wb := b1.trans (bb.mono (by omega))
    clear x0 x1 r0 r1 b1 lt1 hsz1 bb
    go_wp2_with fail
    refine (CY _).mono ?_
    rintro e w2 ⟨rfl, b2⟩
    have hB2 : w2.heap[w.heap.size + 1]? = some (.cells #[.int .u32 0, .int .u32 0] 35 (0, 0)) := (b2.block _ ltb).trans hB
    obtain ⟨k0, k1, k2, k3⟩ := two18 hB2
    have bt2 := bt.trans (b2.mono bt.size)
    clear hB2 hB
    go_wp2
    obtain ⟨w4, hw4⟩ : ∃ w4, w4 = (w2.setCell ⟨w.heap.size + 1, 0, none⟩ (.int .u32 0)).setCell ⟨w.heap.size + 1, 1, none⟩ (.int .u32 0) := ⟨_, rfl⟩
    have c0 : w4.cell? ⟨w.heap.size + 1, 0, none⟩ = some (.int .u32 0) := by rw [hw4]; exact (set2_18 k0 k1 _ _).1
    have c1 : w4.cell? ⟨w.heap.size + 1, 1, none⟩ = some (.int .u32 0) := by rw [hw4]; exact (set2_18 k0 k1 _ _).2
    have b4 : Below w.heap.size w w4 := by rw [hw4]; exact (bt2.setCell (Nat.le_succ _) _).setCell (Nat.le_succ _) _
    rw [← hw4]
    clear hw4
    exact bodyPost_ret (v := .agg #[.int .u32 ((0 : Nat) : Int), .int .u32 ((0 : Nat) : Int)]) (by simp [results, Tryd.results16, go_sem, c0, c1]) rfl ⟨rfl, b4⟩
end Go.Proofs.YtbfflcpmagjlnaaDoor.adr
