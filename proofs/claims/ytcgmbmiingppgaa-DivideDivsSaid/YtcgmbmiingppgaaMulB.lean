/- Package mul: cut, byCuts, Short, Mul, Square. Condition: slices read as limbs. -/
import Derived.Test.YtcgmbmiingppgaaMulA
import Derived.Test.YtcgmbmiingppgaaNatE
import Derived.Deep.RegionLaw
import Derived.Laws.CopyOwn
namespace Go.Proofs.Ytcgmbmiingppgaa.mem
open Go.RowKit
set_option linter.unusedVariables false
open Go.Proofs.Ytcgmbmiingppgaa.num in
theorem Rd.isTrim {w : World} {A : Option Addr} {k : IntKind} {l : List Nat} {c : Nat} (h : Rd w A k l) (hc : l.length ≤ c) (hm : c ≤ maxLen) : IsS w k (.slice A (trim l).length c) (trim l) := by
  have := h.isTake (trim_len_le l) hc hm
  rwa [← trim_prefix] at this
end Go.Proofs.Ytcgmbmiingppgaa.mem
namespace Go.Proofs.Ytcgmbmiingppgaa.nat
open Go.RowKit Go.Proofs.Ytcgmbmiingppgaa.num Go.Proofs.Ytcgmbmiingppgaa.mem Go.Proofs.Ytcgmbmiingppgaa.limb
set_option linter.unusedVariables false

/-- mul.cut ends with the lower part and the upper one, both in the memory of what was cut; it only read. -/
def RetLH (x n : Nat) (w : World) (e : Ending) (w' : World) : Prop := ∃ v u k, e = .returned (.tuple #[v, u]) ∧ IsS w .u64 v (digs 4294967296 (x % 4294967296 ^ n)) ∧ IsS w .u64 u (digs 4294967296 (x / 4294967296 ^ n)) ∧ w' = w.drewN k
theorem take_mod {x n m : Nat} (hm : m = min n (digs 4294967296 x).length) : val 4294967296 ((digs 4294967296 x).take m) = x % 4294967296 ^ n := by
  have hlt := digs_lt (B := 4294967296) (by omega) x
  rw [val_take_mod hlt (by omega), val_digs (by omega)]
  by_cases h : n ≤ (digs 4294967296 x).length
  · rw [hm, Nat.min_eq_left h]
  · rw [hm, Nat.min_eq_right (by omega)]
    have h1 := digs_lt_pow (B := 4294967296) (by omega) x
    have h2 := Nat.pow_le_pow_right (n := 4294967296) (by omega) (show (digs 4294967296 x).length ≤ n by omega)
    rw [Nat.mod_eq_of_lt h1, Nat.mod_eq_of_lt (by omega)]
theorem drop_div {x n m : Nat} (hm : m = min n (digs 4294967296 x).length) : (digs 4294967296 x).drop m = digs 4294967296 (x / 4294967296 ^ n) := by
  have hlt := digs_lt (B := 4294967296) (by omega) x
  have h0 : val 4294967296 ((digs 4294967296 x).drop m) = x / 4294967296 ^ n := by
    rw [val_drop_div' hlt (by omega), val_digs (by omega)]
    by_cases h : n ≤ (digs 4294967296 x).length
    · rw [hm, Nat.min_eq_left h]
    · rw [hm, Nat.min_eq_right (by omega)]
      have h1 := digs_lt_pow (B := 4294967296) (by omega) x
      have h2 := Nat.pow_le_pow_right (n := 4294967296) (by omega) (show (digs 4294967296 x).length ≤ n by omega)
      rw [Nat.div_eq_of_lt h1, Nat.div_eq_of_lt (by omega)]
  rw [← h0, ← trim_digs (by omega) (hlt.drop m)]
  generalize hd : (digs 4294967296 x).drop m = l
  rcases List.eq_nil_or_concat l with rfl | ⟨l', d, rfl⟩
  · rfl
  · rw [List.concat_eq_append] at hd ⊢
    refine (trim_snoc l' ?_).symm
    have hl : ((digs 4294967296 x).drop m).length = l'.length + 1 := by rw [hd]; simp
    rw [List.length_drop] at hl
    refine digs_last (B := 4294967296) (by omega) x (n := m + l'.length) (d := d) (by omega) ?_
    rw [← List.getElem?_drop, hd]; simp

set_option maxHeartbeats 800000 in
theorem cut_any (v : Value) (x : Nat) (nI : Int) (n : Nat) (w : World) (hn : nI = (n : Int)) (h : IsS w .u64 v (digs 4294967296 x)) (hl : (digs 4294967296 x).length ≤ 1000000) (hn2 : n ≤ 1000000) :
    Calls Try.prog 55 #[v, .int .i64 nI] w (RetLH x n w) := by
  subst hn
  have hlt := digs_lt (B := 4294967296) (by omega) x
  obtain ⟨m, hm⟩ : ∃ m, m = min n (digs 4294967296 x).length := ⟨_, rfl⟩
  have HT : Hid (trim ((digs 4294967296 x).take m) = digs 4294967296 (x % 4294967296 ^ n)) := by
    show _ = _; rw [trim_digs (by omega) (hlt.take m), take_mod hm]
  have HD := Lib.hid (drop_div hm)
  have hml : m ≤ (digs 4294967296 x).length := by omega
  generalize digs 4294967296 x = xl at h hl hlt HT HD hml hm
  obtain ⟨A, c, rfl, hc, hmx, hr⟩ := h
  have hmx2 := hmx
  unfold maxLen at hmx
  rcases (show (n ≤ xl.length ∧ m = n) ∨ (xl.length < n ∧ m = xl.length) by omega) with ⟨hc1, rfl⟩ | ⟨hc1, rfl⟩
  · have hmn : ¬ ((xl.length : Int) < (m : Int)) := by omega
    clear hm
    go_enter Try.func55, Try.ntmps55
    have htk : (xl.take m).length = m := by simp; omega
    have HK := Lib.hid htk
    clear htk
    go_wp2
    go_quiet ((go_at_call 43; exact Calls.quiet_of_same (mtrimmed_any A _ c (xl.take m) _ HK.out.symm (by rw [HK.out]; omega) hmx2 (hr.take m))))
    go_wp2
    all_goals
      go_ret2
      refine ⟨_, _, _, rfl, ?_, ?_, rfl⟩
      · rw [← HT.out]; exact (hr.take m).isTrim (by rw [HK.out]; omega) (by omega)
      · rw [← HD.out]; first | exact hr.isDrop hc hmx2 hml | exact isEmpty_ (by omega) (by omega) (by omega)
  · have hmn : (xl.length : Int) < (n : Int) := by omega
    clear hm
    have htk : xl.take xl.length = xl := List.take_length
    rw [htk] at HT
    clear htk
    go_enter Try.func55, Try.ntmps55
    go_wp2
    go_quiet ((go_at_call 43; exact Calls.quiet_of_same (mtrimmed_any A _ c xl _ rfl hc hmx2 hr)))
    go_wp2
    all_goals
      go_ret2
      refine ⟨_, _, _, rfl, ?_, ?_, rfl⟩
      · rw [← HT.out]; exact hr.isTrim (by omega) (by omega)
      · rw [← HD.out]; first | exact isEmpty_ (by omega) (by omega) (by omega)
end Go.Proofs.Ytcgmbmiingppgaa.nat
