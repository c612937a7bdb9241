/- May a prefix be: addr.May and the document's. Condition: none. -/
import Derived.Test.YtbfflcpmagjlnaaDoorAdrH
namespace Go.Proofs.YtbfflcpmagjlnaaDoor.adr
open Go.RowKit Go.Proofs.YtbfflcpmagjlnaaDoor.num Go.Proofs.YtbfflcpmagjlnaaDoor.mem Go.Proofs.YtbfflcpmagjlnaaDoor.txt Go.Proofs.YtbfflcpmagjlnaaDoor.str
set_option linter.unusedVariables false
theorem restN_in {L : Int} (h0 : 0 ≤ L) (h1 : L ≤ 32) : restN L = 32 - L.toNat := by unfold restN; omega
set_option maxHeartbeats 1600000 in
set_option maxRecDepth 100000 in
theorem may_any18 (A : Nat) (L : Int) (b : Bool) (w : World) (hA : A < 4294967296) (hL0 : -9223372036854775808 ≤ L) (hL1 : L ≤ 9223372036854775807) (hb : b = true ↔ mayP A L) : Calls Tryd.prog 18 #[.agg #[.int .u32 (A : Int), .int .i64 L]] w (RetV (.bool b) w) := by
  have HB := Lib.hid hb
  clear hb
  by_cases h0 : 0 ≤ L
  · by_cases h1 : L ≤ 32
    · obtain ⟨k, hk⟩ : ∃ k, k = restN L := ⟨_, rfl⟩
      have hk32 : k ≤ 32 := by rw [hk]; exact restN_le L
      have hm := bits_not_mask hA hk32
      obtain ⟨M, hM⟩ : ∃ M : Int, M = ((maskN k : Nat) : Int) := ⟨_, rfl⟩
      have CM := fun w => mask_any L k w hL0 hL1 hk
      rw [← hM] at hm
      rw [← hM] at CM
      obtain ⟨r, hr⟩ : ∃ r, r = A % 2 ^ k := ⟨_, rfl⟩
      rw [← hr] at hm
      have hbr : ((r : Int) == 0) = b := by
        rw [Bool.eq_iff_iff, HB.out, beq_iff_eq]
        unfold mayP
        rw [← restN_in h0 h1, ← hk, ← hr]
        constructor
        · intro h; exact ⟨h0, h1, by omega⟩
        · intro h; have := h.2.2; omega
      have HBR := Lib.hid hbr
      clear hbr hr hM hk
      go_enter Tryd.func18, Tryd.ntmps18
      go_upto_region 1 with (fail)
      go_quiet ((go_at_call 22; exact Calls.quiet_of_same (CM _)))
      go_wp2
      go_ret
      exact ⟨by rw [HBR.out]; rfl, below_drewN (below_alloc (Nat.le_refl _) _) _⟩
    · obtain rfl : b = false := Bool.eq_false_iff.2 fun h => h1 (HB.out.1 h).2.1
      have hd : decide (L ≤ 32) = false := decide_eq_false h1
      clear h1
      go_enter Tryd.func18, Tryd.ntmps18
      go_upto_region 1 with (fail)
      go_quiet (fail)
      go_wp2
      go_ret
      exact ⟨rfl, below_drewN (below_alloc (Nat.le_refl _) _) _⟩
  · obtain rfl : b = false := Bool.eq_false_iff.2 fun h => h0 (HB.out.1 h).1
    have hd : decide (0 ≤ L) = false := decide_eq_false h0
    clear h0
    go_enter Tryd.func18, Tryd.ntmps18
    go_upto_region 1 with (fail)
    go_quiet (fail)
    go_wp2
    go_ret
    exact ⟨rfl, below_drewN (below_alloc (Nat.le_refl _) _) _⟩
set_option maxHeartbeats 1600000 in
set_option maxRecDepth 100000 in
theorem rmay_any18 (A : Nat) (L : Int) (b : Bool) (w : World) (hA : A < 4294967296) (hL0 : -9223372036854775808 ≤ L) (hL1 : L ≤ 9223372036854775807) (hb : b = true ↔ mayP A L) : Calls Tryd.prog 17 #[.agg #[.int .u32 (A : Int), .int .i64 L]] w (RetV (.bool b) w) := by
  have HB := Lib.hid hb
  clear hb
  by_cases h0 : 0 ≤ L
  · by_cases h1 : L ≤ 32
    · obtain ⟨k, hk⟩ : ∃ k, k = restN L := ⟨_, rfl⟩
      have hk32 : k ≤ 32 := by rw [hk]; exact restN_le L
      have hk2 : (k : Int) = 32 - L := by rw [hk, restN_in h0 h1]; omega
      have CM := fun w => size_any L k w h0 h1 hk2
      obtain ⟨M, hM⟩ : ∃ M : Int, M = ((2 ^ k : Nat) : Int) := ⟨_, rfl⟩
      have hMp : 0 < M := by rw [hM]; have := Nat.two_pow_pos k; omega
      have hMn : (M == 0) = false := by rw [beq_eq_false_iff_ne]; omega
      obtain ⟨r, hr⟩ : ∃ r, r = A % 2 ^ k := ⟨_, rfl⟩
      have hm : (A : Int).tmod M = (r : Int) := by rw [hM, hr, Int.tmod_eq_emod_of_nonneg (by omega)]; exact (Int.natCast_emod _ _).symm
      rw [← hM] at CM
      have hbr : ((r : Int) == 0) = b := by
        rw [Bool.eq_iff_iff, HB.out, beq_iff_eq]
        unfold mayP
        rw [← restN_in h0 h1, ← hk, ← hr]
        constructor
        · intro h; exact ⟨h0, h1, by omega⟩
        · intro h; have := h.2.2; omega
      have HBR := Lib.hid hbr
      clear hbr hr hM hk hk2
      go_enter Tryd.func17, Tryd.ntmps17
      go_upto_region 1 with (fail)
      go_quiet ((go_at_call 31; exact Calls.quiet_of_same (CM _)))
      go_wp2
      go_ret
      exact ⟨by rw [HBR.out]; rfl, below_drewN (below_alloc (Nat.le_refl _) _) _⟩
    · obtain rfl : b = false := Bool.eq_false_iff.2 fun h => h1 (HB.out.1 h).2.1
      have hd : decide (L ≤ 32) = false := decide_eq_false h1
      clear h1
      go_enter Tryd.func17, Tryd.ntmps17
      go_upto_region 1 with (fail)
      go_quiet (fail)
      go_wp2
      go_ret
      exact ⟨rfl, below_drewN (below_alloc (Nat.le_refl _) _) _⟩
  · obtain rfl : b = false := Bool.eq_false_iff.2 fun h => h0 (HB.out.1 h).1
    have hd : decide (0 ≤ L) = false := decide_eq_false h0
    clear h0
    go_enter Tryd.func17, Tryd.ntmps17
    go_upto_region 1 with (fail)
    go_quiet (fail)
    go_wp2
    go_ret
    exact ⟨rfl, below_drewN (below_alloc (Nat.le_refl _) _) _⟩
end Go.Proofs.YtbfflcpmagjlnaaDoor.adr
