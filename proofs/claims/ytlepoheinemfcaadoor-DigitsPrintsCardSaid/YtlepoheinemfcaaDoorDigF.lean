/- digits.In, Print, Count. Condition: the slice reads as a number of some limbs. -/
import Derived.Test.YtlepoheinemfcaaDoorDigE
namespace Go.Proofs.YtlepoheinemfcaaDoor.str
open Go.RowKit Go.Proofs.YtlepoheinemfcaaDoor.num Go.Proofs.YtlepoheinemfcaaDoor.mem Go.Proofs.YtlepoheinemfcaaDoor.txt Go.Proofs.YtlepoheinemfcaaDoor.nat
set_option linter.unusedVariables false

/-- The call ends with a string of these bytes, and an error; what was there is as it was. -/
def RetStrE (l : List UInt8) (x : Int) (w : World) (e : Ending) (w' : World) : Prop := ∃ R, e = .returned (.tuple #[.string R, .int .i64 x]) ∧ StrIs R l ∧ Below w.heap.size w w'
theorem strNil : StrIs ⟨#[]⟩ [] := rfl
set_option maxHeartbeats 400000 in
theorem din_no (v : Value) (b : Int) (w : World) (h : b < 2 ∨ 36 < b) :
    Calls Tryd.prog 7 #[v, .int .i64 b] w (RetStrE [] 2 w) := by
  go_enter Tryd.func7, Tryd.ntmps7
  go_wp2_with fail
  refine (isBase_no b _ h).mono ?_
  rintro e w' ⟨rfl, rfl⟩
  go_wp2
  go_ret2
  exact ⟨_, rfl, strNil, Below.refl _ _⟩

set_option maxHeartbeats 3200000 in
set_option maxRecDepth 100000 in
theorem din_ok (v : Value) (a : Nat) (bI : Int) (b : Nat) (w : World) (h : IsS w .u64 v (digs 4294967296 a)) (hl : (digs 4294967296 a).length ≤ 150) (hbI : bI = (b : Int)) (h2 : 2 ≤ b) (h36 : b ≤ 36) :
    Calls Tryd.prog 7 #[v, .int .i64 bI] w (RetStrE (txt b a) 0 w) := by
  obtain ⟨A, c, rfl, _⟩ := id h
  have HB := Lib.hid hbI
  have i2 : 2 ≤ bI := by omega
  have i36 : bI ≤ 36 := by omega
  clear hbI
  go_enter Tryd.func7, Tryd.ntmps7
  go_wp2_with fail
  refine (isBase_yes bI _ i2 i36).mono ?_
  rintro e w' ⟨rfl, rfl⟩
  go_wp2_with fail
  refine (stretch_any bI b _ HB.out h2 h36).mono ?_
  rintro e w' ⟨k, p, rfl, hS, rfl⟩
  obtain ⟨hk1, hk32, hp, hp32⟩ := hS
  have hp2 : 2 ≤ p := by
    rw [hp]
    have : b ^ 1 ≤ b ^ k := Nat.pow_le_pow_right (by omega) hk1
    rw [Nat.pow_one] at this; omega
  have HP := Lib.hid hp
  have H32 := Lib.hid hp32
  have hpu : (p : Int) ≤ 18446744073709551615 := by omega
  have lp1 := len1_of_lt hp32
  clear hp hp32
  go_wp2_with fail
  refine (of_any _ p _ rfl hpu).mono ?_
  rintro e w1 ⟨v1, rfl, k1, f1, b1⟩
  go_wp2_with fail
  refine (split_all (a + 1) a p _ v1 _ (by omega) hp2 (by omega) (by omega) (h.below b1) k1).mono ?_
  rintro e w2 ⟨V, vs, xs, rfl, hV, hN, hP, b2⟩
  have B2 := b1.trans (b2.mono b1.size)
  have hvl : vs.length ≤ 10000 := by have h1 := parts_len hp2 hP hl; have h3 := hN.1; omega
  have hx32 : Lt 4294967296 xs := hP.1.more (by have := H32.out; omega)
  have HPP := Lib.hid hP
  clear hP
  go_wp2_with fail
  refine (written_any V vs xs (k : Int) bI k b _ hV hN hvl rfl HB.out hk32 h2 h36 hx32).mono ?_
  rintro e w3 ⟨R, rfl, hR, b3⟩
  have B3 := B2.trans (b3.mono B2.size)
  go_wp2_with fail
  refine (trimLeft_any R _ _ hR).mono ?_
  rintro e w' ⟨R2, rfl, hR2, rfl⟩
  have hval : val b (pads b k xs) = a := by
    have h1 := HPP.out.1
    have h3 := HPP.out.2.1
    rw [HP.out] at h1 h3
    rw [pads_val h1, h3]
  rw [strip h2 h36 (pads_lt (by omega) k xs), hval] at hR2
  clear hval hR hV hN hx32
  by_cases h0 : a = 0
  · have e0 : (digs b a).reverse.map ch = [] := by rw [h0, digs_zero]; rfl
    rw [e0] at hR2
    have hcmp : R2.toList = [] := by rw [Lib.toList_data]; exact hR2
    have HT : Hid (txt b a = [48]) := by show _ = _; rw [h0, txt_zero]
    clear e0 h0
    go_wp2
    go_ret2
    exact ⟨_, rfl, by rw [HT.out]; rfl, B3⟩
  · have HT : Hid (txt b a = (digs b a).reverse.map ch) := txt_pos h0
    rw [← HT.out] at hR2
    have hne : R2.toList ≠ [] := by rw [Lib.toList_data, hR2]; exact txt_ne h2 a
    have hcmp : (R2.toList == []) = false := by rw [beq_eq_false_iff_ne]; exact hne
    clear h0
    go_wp2
    go_ret2
    exact ⟨_, rfl, hR2, B3⟩

set_option maxHeartbeats 400000 in
theorem print_any (v : Value) (a : Nat) (w : World) (h : IsS w .u64 v (digs 4294967296 a)) (hl : (digs 4294967296 a).length ≤ 150) :
    Calls Tryd.prog 9 #[v] w (RetStrB (txt 10 a) w) := by
  go_enter Tryd.func9, Tryd.ntmps9
  go_wp2_with fail
  refine (din_ok v a 10 10 _ h hl rfl (by omega) (by omega)).mono ?_
  rintro e w' ⟨R, rfl, hR, b⟩
  go_wp2
  go_ret
  exact ⟨R, rfl, hR, b⟩
set_option maxHeartbeats 400000 in
theorem count_any (v : Value) (a : Nat) (n : Int) (w : World) (h : IsS w .u64 v (digs 4294967296 a)) (hl : (digs 4294967296 a).length ≤ 150) (hn : n = ((txt 10 a).length : Int)) :
    Calls Tryd.prog 10 #[v] w (RetV (.int .i64 n) w) := by
  have HN := Lib.hid hn
  clear hn
  go_enter Tryd.func10, Tryd.ntmps10
  go_wp2_with fail
  refine (print_any v a _ h hl).mono ?_
  rintro e w' ⟨R, rfl, hR, b⟩
  have HS : Hid ((R.size : Int) = n) := by show _ = _; rw [HN.out, hR.size]
  go_wp2
  go_ret
  exact ⟨by rw [← HS.out]; rfl, b⟩
end Go.Proofs.YtlepoheinemfcaaDoor.str
