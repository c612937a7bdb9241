/- Package whole: Of, Print; the chapter's example. Condition: as each says. -/
import Derived.Test.YtbebmknfecehnaaGreatWhlG
namespace Go.Proofs.YtbebmknfecehnaaGreat.whl
open Go.RowKit Go.Proofs.YtbebmknfecehnaaGreat.num Go.Proofs.YtbebmknfecehnaaGreat.mem Go.Proofs.YtbebmknfecehnaaGreat.nat Go.Proofs.YtbebmknfecehnaaGreat.txt Go.Proofs.YtbebmknfecehnaaGreat.str Go.Proofs.YtbebmknfecehnaaGreat.flow
set_option linter.unusedVariables false

set_option maxHeartbeats 800000 in
theorem zof_any (n : Int) (w : World) (h1 : -9223372036854775808 ≤ n) (h2 : n ≤ 9223372036854775807) :
    Calls Tryz.prog 84 #[.int .i64 n] w (RetZ n w) := by
  by_cases hn : n < 0
  · have HW : Hid (IntKind.u64.wrap (-IntKind.u64.wrap n) = ((n.natAbs : Nat) : Int)) := by
      show _ = _
      rw [IntKind.wrap_u64, IntKind.wrap_u64]; omega
    have HB : Hid (IntKind.u64.wrap (-IntKind.u64.wrap n) ≤ 18446744073709551615) := by
      show _ ≤ _
      rw [HW.out]; omega
    have HZ : Hid (sg true n.natAbs = n) := by show _ = _; rw [sg_true]; omega
    go_enter Tryz.func84, Tryz.ntmps84
    go_wp2_with fail
    refine (of_any _ n.natAbs _ HW.out HB.out).mono ?_
    rintro e w1 ⟨v1, rfl, k1, f1, b1⟩
    obtain ⟨A1, C1, rfl, _⟩ := id k1
    go_wp2_with fail
    refine (signed_pd true _ n.natAbs n _ k1 f1 HZ.out).mono ?_
    rintro e w2 ⟨v2, rfl, ⟨⟨u2, rfl, k2⟩, f2⟩, b2⟩
    obtain ⟨A2, C2, rfl, _⟩ := id k2
    have B2 := ((Blk.new w 25 #[.bool false, .slice none 0 0]).below b1).below b2
    obtain ⟨c0, c1, g0, g1⟩ := B2.two
    have bb1 := (below_alloc (Nat.le_refl w.heap.size) (.cells #[.bool false, .slice none 0 0] 25)).trans (b1.mono (by simp))
    have bb2 := bb1.trans (b2.mono bb1.size)
    go_wp2
    exact bodyPost_ret (v := .agg #[.bool (ngB n), .slice A2 (digs 4294967296 n.natAbs).length C2]) (by simp [results, Tryz.results84, go_sem, c0, c1]) rfl (endZ bb2 (Nat.le_refl _) (by simp) k2 (f2 _ _ rfl) rfl)
  · have HW : Hid (n = ((n.natAbs : Nat) : Int)) := by show _ = _; omega
    have HZ : Hid (sg false n.natAbs = n) := by show _ = _; rw [sg_false]; omega
    have hn0 : 0 ≤ n := by omega
    go_enter Tryz.func84, Tryz.ntmps84
    go_wp2_with fail
    refine (of_any _ n.natAbs _ HW.out (by omega)).mono ?_
    rintro e w1 ⟨v1, rfl, k1, f1, b1⟩
    obtain ⟨A1, C1, rfl, _⟩ := id k1
    go_wp2_with fail
    refine (signed_pd false _ n.natAbs n _ k1 f1 HZ.out).mono ?_
    rintro e w2 ⟨v2, rfl, ⟨⟨u2, rfl, k2⟩, f2⟩, b2⟩
    obtain ⟨A2, C2, rfl, _⟩ := id k2
    have B2 := ((Blk.new w 25 #[.bool false, .slice none 0 0]).below b1).below b2
    obtain ⟨c0, c1, g0, g1⟩ := B2.two
    have bb1 := (below_alloc (Nat.le_refl w.heap.size) (.cells #[.bool false, .slice none 0 0] 25)).trans (b1.mono (by simp))
    have bb2 := bb1.trans (b2.mono bb1.size)
    go_wp2
    exact bodyPost_ret (v := .agg #[.bool (ngB n), .slice A2 (digs 4294967296 n.natAbs).length C2]) (by simp [results, Tryz.results84, go_sem, c0, c1]) rfl (endZ bb2 (Nat.le_refl _) (by simp) k2 (f2 _ _ rfl) rfl)

/-- A whole number as a text. -/
def txtz (z : Int) : List UInt8 := if z < 0 then 45 :: txt 10 z.natAbs else txt 10 z.natAbs
theorem concat_minus (R : ByteArray) (l : List UInt8) (h : StrIs R l) : StrIs (⟨#[45]⟩ ++ R) (45 :: l) := by
  subst h
  show (ByteArray.append ⟨#[45]⟩ R).data.toList = _
  simp [ByteArray.append]
theorem txt10_len (x : Nat) : (txt 10 x).length ≤ 10 * (digs 4294967296 x).length + 1 := by
  unfold txt
  split
  · simp
  · rw [List.length_map, List.length_reverse]
    refine Nat.le_succ_of_le (digs_len_le (by omega) ?_)
    have h1 : x < 4294967296 ^ (digs 4294967296 x).length := digs_lt_pow (by omega) x
    rw [Nat.pow_mul]
    exact Nat.lt_of_lt_of_le h1 (Nat.pow_le_pow_left (by decide) _)
theorem txtz_4 : txtz (-4) = [45, 52] := by decide +kernel
theorem txtz_1 : txtz 1 = [49] := by decide +kernel
theorem f72 : ((-7 : Int).fdiv 2) = -4 ∧ ((-7 : Int).fmod 2) = 1 := by decide
end Go.Proofs.YtbebmknfecehnaaGreat.whl
