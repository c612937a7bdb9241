/- Masks and sizes: addr.Mask, the document's Size. Condition: none. -/
import Derived.Test.YtbfflcpmagjlnaaDoorAdrG
import Derived.Deep.QuietTactic
import Derived.BigQuiet
namespace Go.Proofs.YtbfflcpmagjlnaaDoor.adr
open Go.RowKit Go.Proofs.YtbfflcpmagjlnaaDoor.num Go.Proofs.YtbfflcpmagjlnaaDoor.mem Go.Proofs.YtbfflcpmagjlnaaDoor.txt Go.Proofs.YtbfflcpmagjlnaaDoor.str
set_option linter.unusedVariables false
/-- A value; the world is as it was. -/
def RetW (v : Value) (w : World) (e : Ending) (w' : World) : Prop := e = .returned v ∧ w' = w
/-- How many bits lie behind a prefix of this length. -/
def restN (n : Int) : Nat := 32 - min n.toNat 32
theorem restN_le (n : Int) : restN n ≤ 32 := by unfold restN; omega
set_option maxRecDepth 100000 in
theorem mask_any (n : Int) (k : Nat) (w : World) (hn0 : -9223372036854775808 ≤ n) (hn1 : n ≤ 9223372036854775807) (hk : k = restN n) : Calls Tryd.prog 22 #[.int .i64 n] w (RetW (.int .u32 ((maskN k : Nat) : Int)) w) := by
  have hk32 : k ≤ 32 := by rw [hk]; exact restN_le n
  have HM := Lib.hid (shift_mask hk32)
  have HK := Lib.hid hk
  clear hk
  by_cases h0 : n < 0
  · have HE : Hid (maskN k = 0) := by show _ = _; rw [HK.out]; unfold restN; rw [show n.toNat = 0 by omega]; rfl
    go_enter Tryd.func22, Tryd.ntmps22
    go_wp2
    go_ret
    exact ⟨by rw [HE.out]; rfl, rfl⟩
  by_cases h1 : 32 < n
  · have HE : Hid (maskN k = 4294967295) := by show _ = _; rw [HK.out]; unfold restN; rw [show min n.toNat 32 = 32 by omega]; rfl
    have h0' : 0 ≤ n := by omega
    go_enter Tryd.func22, Tryd.ntmps22
    go_wp2
    go_ret
    exact ⟨by rw [HE.out]; rfl, rfl⟩
  have h0' : 0 ≤ n := by omega
  have h1' : n ≤ 32 := by omega
  have HE : Hid (4294967295 * 2 ^ (32 - n).toNat % 4294967296 = ((maskN k : Nat) : Int)) := by
    show _ = _
    rw [← HM.out, IntKind.wrap_u32, HK.out]
    unfold restN
    rw [show 32 - min n.toNat 32 = (32 - n).toNat by omega]
  clear h0 h1
  go_enter Tryd.func22, Tryd.ntmps22
  go_wp2
  go_ret
  exact ⟨by rw [HE.out]; rfl, rfl⟩
set_option maxRecDepth 100000 in
theorem size_any (n : Int) (k : Nat) (w : World) (hn0 : 0 ≤ n) (hn1 : n ≤ 32) (hk : (k : Int) = 32 - n) : Calls Tryd.prog 31 #[.int .i64 n] w (RetW (.int .u64 ((2 ^ k : Nat) : Int)) w) := by
  have HK := Lib.hid hk
  clear hk
  go_enter Tryd.func31, Tryd.ntmps31
  go_wp2
  go_loop [3, 4] (fun v3 v4 => ∃ (i : Int) (s : Nat), n ≤ i ∧ i ≤ 32 ∧ Hid (s = 2 ^ (i - n).toNat) ∧ s ≤ 4294967296 ∧ v3 = .int .u64 (s : Int) ∧ v4 = .int .i64 i) (fun _ v4 => 32 - (intOf v4).toNat)
  case atStart => exact ⟨n, 1, by omega, by omega, by show _ = _; rw [show (n - n).toNat = 0 by omega], by omega, rfl, rfl⟩
  case round =>
    obtain ⟨i, s, hi0, hi1, HSv, hs, rfl, rfl⟩ := hrel
    by_cases hlt : i < 32
    · have HS2 : Hid (2 * s = 2 ^ (i + 1 - n).toNat) := by
        show _ = _
        rw [HSv.out, show (i + 1 - n).toNat = (i - n).toNat + 1 by omega, Nat.pow_succ, Nat.mul_comm]
      have hs2 : 2 * s ≤ 4294967296 := by
        rw [HS2.out]
        have h32 : (2 : Nat) ^ 32 = 4294967296 := rfl
        rw [← h32]
        exact Nat.pow_le_pow_right (by omega) (by omega)
      go_wp2
      go_round
      case rel => exact ⟨i + 1, 2 * s, by omega, by omega, HS2, hs2, by go_num, by go_num⟩
      case measure => simp [intOf] <;> omega
    · have HE : Hid (s = 2 ^ k) := by
        show _ = _
        rw [HSv.out, show (i - n).toNat = k by have := HK.out; omega]
      go_wp2
      go_ret
      exact ⟨by rw [HE.out]; rfl, rfl⟩
end Go.Proofs.YtbfflcpmagjlnaaDoor.adr
