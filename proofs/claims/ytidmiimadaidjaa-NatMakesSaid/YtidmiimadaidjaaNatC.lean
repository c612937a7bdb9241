/- Package nat: Bits, Zeros, Small, Make. Condition: slices read as limbs. -/
import Derived.Test.YtidmiimadaidjaaNatB
namespace Go.Proofs.Ytidmiimadaidjaa.nat
open Go.RowKit Go.Proofs.Ytidmiimadaidjaa.num Go.Proofs.Ytidmiimadaidjaa.mem Go.Proofs.Ytidmiimadaidjaa.limb
set_option linter.unusedVariables false

theorem two_cast (n : Nat) : ((2 ^ n : Nat) : Int) = (2 : Int) ^ n := by simp
theorem pow32 (n : Nat) : (4294967296 : Nat) ^ n = 2 ^ (32 * n) := by rw [Nat.pow_mul]
theorem BitsSpec.nat {d n : Nat} (hd : d < 4294967296) (h : BitsSpec ((d : Int) % 4294967296) n) : d < 2 ^ n ∧ (n = 0 ∨ 2 ^ (n - 1) ≤ d) := by
  unfold BitsSpec at h
  rw [show (d : Int) % 4294967296 = (d : Int) from by omega, ← two_cast, ← two_cast] at h
  omega
/-- The bits of a number: those of its last limb, and 32 for each one ahead of it. -/
theorem nbits_top {x n d b : Nat} (hn : (digs 4294967296 x).length = n + 1) (hd : (digs 4294967296 x)[n]? = some d) (h : BitsSpec ((d : Int) % 4294967296) b) : nbits x = n * 32 + b := by
  have hd0 := digs_last (by omega) x hn hd
  have hd1 := (digs_lt (by omega) x).at hd
  obtain ⟨h1, h2⟩ := BitsSpec.nat hd1 h
  have hb : b ≠ 0 := by rintro rfl; simp at h1; omega
  obtain ⟨c, rfl⟩ : ∃ c, b = c + 1 := ⟨b - 1, by omega⟩
  have h3 : 2 ^ c ≤ d := by simpa using h2
  have e := val_take_step (B := 4294967296) hd
  have hlow := val_lt ((digs_lt (B := 4294967296) (by omega) x).take n)
  rw [show ((digs 4294967296 x).take n).length = n from by simp; omega] at hlow
  rw [← hn, List.take_length, val_digs (by omega)] at e
  rw [pow32] at e hlow
  have e1 := Nat.mul_le_mul_left (2 ^ (32 * n)) h3
  have e2 := Nat.mul_le_mul_left (2 ^ (32 * n)) h1
  rw [← Nat.pow_add] at e1 e2
  rw [Nat.mul_succ] at e2
  rw [show n * 32 + (c + 1) = (32 * n + c) + 1 from by omega]
  refine nbits_of ?_ ?_
  · rw [show 32 * n + c + 1 = 32 * n + (c + 1) from by omega]; omega
  · omega

set_option maxHeartbeats 400000 in
theorem bits_any (v : Value) (x b : Nat) (w : World) (h : IsS w .u64 v (digs 4294967296 x)) (hl : (digs 4294967296 x).length ≤ 1000000) (hb : b = nbits x) :
    Calls Try.prog 29 #[v] w fun e w' => e = .returned (.int .i64 (b : Int)) ∧ w = w' := by
  have hlt := digs_lt (B := 4294967296) (by omega) x
  have HB := Lib.hid hb
  clear hb
  obtain ⟨A, c, rfl, hc, hm, hr⟩ := h
  by_cases hl0 : 0 < (digs 4294967296 x).length
  · have hne : ¬ digs 4294967296 x = [] := by intro e; rw [e] at hl0; simp at hl0
    have hlb : (((digs 4294967296 x).length : Int) == 0) = false := by rw [beq_eq_false_iff_ne]; omega
    obtain ⟨ad, d, rfl, hd, hcell⟩ := hr.at_ (i := (digs 4294967296 x).length - 1) (by omega)
    have hd1 := hlt.at hd
    have HT : Hid (∀ k, BitsSpec ((d : Int) % 4294967296) k → nbits x = ((digs 4294967296 x).length - 1) * 32 + k) := fun k hk => nbits_top (by omega) hd hk
    clear hd
    go_enter Try.func29, Try.ntmps29
    go_wp2_with fail
    refine (limb.bits_any _ (by omega) (by omega) _).mono ?_
    rintro e w' ⟨n, rfl, hn, hs, rfl⟩
    have HS := Lib.hid hs
    clear hs
    go_wp2
    go_ret
    refine ⟨?_, rfl⟩
    have e1 := HT.out n HS.out
    have e2 := HB.out
    show Ending.returned (.int .i64 _) = .returned (.int .i64 _)
    rw [show (((digs 4294967296 x).length : Int) - 1) * 32 + (n : Int) = (b : Int) from by omega]
  · have hz : (digs 4294967296 x).length = 0 := by omega
    have hx : x = 0 := (digs_len0 (by omega)).1 hz
    have HZ : Hid (b = 0) := by have := HB.out; rw [hx, nbits_zero] at this; exact this
    rw [hx, digs_zero] at hr ⊢
    clear hl0 hz hx hl hlt hc
    go_enter Try.func29, Try.ntmps29
    go_wp2
    go_ret
    exact ⟨by rw [HZ.out]; rfl, rfl⟩

theorem tz_shift (k : Nat) {y : Nat} (hy : 0 < y) : tz (2 ^ k * y) = k + tz y := by
  induction k with
  | zero => simp
  | succ k ih =>
    have e : 2 ^ (k + 1) * y = 2 * (2 ^ k * y) := by rw [Nat.pow_succ, Nat.mul_comm (2 ^ k) 2, Nat.mul_assoc]
    have hp : 0 < 2 ^ k * y := Nat.mul_pos (Nat.pow_pos (by omega)) hy
    rw [e, tz_even (by omega) (by omega), Nat.mul_div_cancel_left _ (by omega), ih]; omega
theorem ZerosSpec.nat {d z : Nat} (hd : d < 4294967296) (hd0 : d ≠ 0) (h : ZerosSpec ((d : Int) % 4294967296) z) : z < 32 ∧ d % 2 ^ z = 0 ∧ d / 2 ^ z % 2 = 1 := by
  unfold ZerosSpec at h
  rw [show (d : Int) % 4294967296 = (d : Int) from by omega, ← two_cast] at h
  obtain ⟨h1, h2, h3⟩ := h
  have h2' : d % 2 ^ z = 0 := by exact_mod_cast h2
  have hz : z ≠ 32 := by
    rintro rfl
    rw [show (2 : Nat) ^ 32 = 4294967296 from by decide] at h2'
    omega
  refine ⟨by omega, h2', ?_⟩
  rcases h3 with h3 | h3
  · exact absurd h3 hz
  · have h4 : ((d / 2 ^ z % 2 : Nat) : Int) = 1 := by rw [Int.natCast_emod, Int.natCast_ediv]; exact h3
    omega
/-- The lowest bits of a number: those of its first limb that is not 0, and 32 for each one ahead of it. -/
theorem tz_first {x k d z : Nat} (h0 : val 4294967296 ((digs 4294967296 x).take k) = 0) (hd : (digs 4294967296 x)[k]? = some d) (hd0 : d ≠ 0) (h : ZerosSpec ((d : Int) % 4294967296) z) : tz x = k * 32 + z := by
  have hd1 := (digs_lt (by omega) x).at hd
  obtain ⟨h1, h2, h3⟩ := ZerosSpec.nat hd1 hd0 h
  have hk : k < (digs 4294967296 x).length := (List.getElem?_eq_some_iff.1 hd).1
  obtain ⟨r, hr⟩ : ∃ r, r = val 4294967296 ((digs 4294967296 x).drop (k + 1)) := ⟨_, rfl⟩
  have e : x = 2 ^ (32 * k) * (d + 4294967296 * r) := by
    have e1 := val_digs (B := 4294967296) (by omega) x
    rw [← List.take_append_drop k (digs 4294967296 x), val_append, h0, val_drop_step hd, ← hr, show ((digs 4294967296 x).take k).length = k from by simp; omega, pow32] at e1
    omega
  obtain ⟨j, hj⟩ : ∃ j, 32 = z + (j + 1) := ⟨31 - z, by omega⟩
  have e32 : (4294967296 : Nat) = 2 ^ z * 2 ^ (j + 1) := by rw [← Nat.pow_add, ← hj]
  have et : tz (d + 4294967296 * r) = z := by
    rw [e32, Nat.mul_assoc]
    refine tz_of ?_ ?_
    · rw [Nat.add_mul_mod_self_left]; exact h2
    · rw [Nat.add_mul_div_left _ _ (Nat.pow_pos (by omega)), Nat.pow_succ, Nat.mul_comm (2 ^ j) 2, Nat.mul_assoc]; omega
  rw [e, tz_shift _ (by omega), et]; omega

set_option maxHeartbeats 400000 in
theorem zeros_any (v : Value) (x b : Nat) (w : World) (h : IsS w .u64 v (digs 4294967296 x)) (hl : (digs 4294967296 x).length ≤ 1000000) (hb : b = tz x) :
    Calls Try.prog 31 #[v] w fun e w' => e = .returned (.int .i64 (b : Int)) ∧ w = w' := by
  have hlt := digs_lt (B := 4294967296) (by omega) x
  have HB := Lib.hid hb
  clear hb
  obtain ⟨A, c, rfl, hc, hm, hr⟩ := h
  go_enter Try.func31, Try.ntmps31
  go_wp2
  go_loop [7] (fun vn => ∃ n : Nat, n ≤ (digs 4294967296 x).length ∧ Hid (val 4294967296 ((digs 4294967296 x).take n) = 0) ∧ vn = .int .i64 (n : Int)) (fun vn => (digs 4294967296 x).length - (intOf vn).toNat)
  case atStart => exact ⟨0, Nat.zero_le _, by show _ = _; simp [val], rfl⟩
  case round =>
    obtain ⟨k, hk, hV, rfl⟩ := hrel
    by_cases hp : k < (digs 4294967296 x).length
    · obtain ⟨ad, d, rfl, hd, hcell⟩ := hr.at_ hp
      have hd1 := hlt.at hd
      by_cases hd0 : d = 0
      · subst hd0
        have HN : Hid (val 4294967296 ((digs 4294967296 x).take (k + 1)) = 0) := by show _ = _; rw [val_take_step hd, hV.out]; rfl
        clear hd
        go_wp2
        go_round
        case rel => exact ⟨k + 1, by omega, HN, by go_num⟩
        case measure => simp [intOf]; omega
      · have hz : ((d : Int) == 0) = false := by rw [beq_eq_false_iff_ne]; omega
        have hz2 : ((d : Int) != 0) = true := by rw [bne_iff_ne]; omega
        have HT : Hid (∀ z, ZerosSpec ((d : Int) % 4294967296) z → tz x = k * 32 + z) := fun z hz => tz_first hV.out hd hd0 hz
        clear hd hd0
        go_wp2_with fail
        refine (limb.zeros_any _ (by omega) (by omega) _).mono ?_
        rintro e w' ⟨n, rfl, hn, hs, rfl⟩
        have HS := Lib.hid hs
        clear hs
        go_wp2
        go_ret
        refine ⟨?_, rfl⟩
        have e1 := HT.out n HS.out
        have e2 := HB.out
        show Ending.returned (.int .i64 _) = .returned (.int .i64 _)
        rw [show (k : Int) * 32 + (n : Int) = (b : Int) from by omega]
    · have HZ : Hid (b = 0) := by
        have h1 := hV.out
        rw [List.take_of_length_le (by omega), val_digs (by omega)] at h1
        have := HB.out; rw [h1, tz_zero] at this; exact this
      go_wp2
      go_ret
      exact ⟨by rw [HZ.out]; rfl, rfl⟩

theorem nbits_big {x : Nat} : 63 < nbits x ↔ 9223372036854775808 ≤ x := by
  constructor
  · intro h
    have h1 := nbits_le (x := x) (by
      rcases Nat.eq_zero_or_pos x with h0 | h0
      · rw [h0, nbits_zero] at h; omega
      · exact h0)
    have h2 : (2 : Nat) ^ 63 ≤ 2 ^ (nbits x - 1) := Nat.pow_le_pow_right (by omega) (by omega)
    have h3 : (2 : Nat) ^ 63 = 9223372036854775808 := by decide
    omega
  · intro h
    rcases Nat.lt_or_ge 63 (nbits x) with h1 | h1
    · exact h1
    · have h2 := nbits_lt (x := x)
      have h3 : (2 : Nat) ^ nbits x ≤ 2 ^ 63 := Nat.pow_le_pow_right (by omega) h1
      have h4 : (2 : Nat) ^ 63 = 9223372036854775808 := by decide
      omega
theorem at_digs0 (x : Nat) : AtD (digs 4294967296 x) 0 (x % 4294967296) := by
  rcases Nat.eq_zero_or_pos x with h | h
  · subst h; exact .inr ⟨by rw [digs_zero]; simp, rfl⟩
  · left; rw [digs_pos (by omega) h]; rfl
theorem at_digs1 (x : Nat) : AtD (digs 4294967296 x) 1 (x / 4294967296 % 4294967296) := by
  rcases Nat.eq_zero_or_pos x with h | h
  · subst h; exact .inr ⟨by rw [digs_zero]; simp, rfl⟩
  · rcases at_digs0 (x / 4294967296) with h1 | ⟨h1, h2⟩
    · left; rw [digs_pos (by omega) h]; exact h1
    · right; exact ⟨by rw [digs_pos (by omega) h]; simpa using h1, h2⟩

set_option maxHeartbeats 400000 in
theorem small_no (v : Value) (x : Nat) (w : World) (h : IsS w .u64 v (digs 4294967296 x)) (hl : (digs 4294967296 x).length ≤ 1000000) (hx : 63 < nbits x) :
    Calls Try.prog 11 #[v] w fun e w' => e = .returned (.tuple #[.int .u64 0, .bool false]) ∧ w = w' := by
  go_enter Try.func11, Try.ntmps11
  go_wp2_with fail
  refine (bits_any _ x _ _ h hl rfl).mono ?_
  rintro e w' ⟨rfl, rfl⟩
  go_wp2
  go_ret2
  exact ⟨rfl, rfl⟩
set_option maxHeartbeats 400000 in
theorem small_yes (v : Value) (x : Nat) (w : World) (h : IsS w .u64 v (digs 4294967296 x)) (hl : (digs 4294967296 x).length ≤ 1000000) (hx : nbits x ≤ 63) :
    Calls Try.prog 11 #[v] w fun e w' => e = .returned (.tuple #[.int .u64 (x : Int), .bool true]) ∧ w = w' := by
  have hx2 : x < 9223372036854775808 := by have := (nbits_big (x := x)).2; omega
  have HX := Lib.hid hx2
  obtain ⟨d0, hd0⟩ : ∃ d, d = x % 4294967296 := ⟨_, rfl⟩
  obtain ⟨d1, hd1⟩ : ∃ d, d = x / 4294967296 % 4294967296 := ⟨_, rfl⟩
  have ha0 := at_digs0 x
  have ha1 := at_digs1 x
  rw [← hd0] at ha0
  rw [← hd1] at ha1
  have b0 : (d0 : Int) ≤ 4294967295 := by omega
  have b1 : (d1 : Int) ≤ 2147483647 := by omega
  have he : (d0 : Int) + (d1 : Int) * 4294967296 = (x : Int) := by omega
  have HE := Lib.hid he
  clear hd0 hd1 he hx2
  go_enter Try.func11, Try.ntmps11
  go_wp2_with fail
  refine (bits_any _ x _ _ h hl rfl).mono ?_
  rintro e w' ⟨rfl, rfl⟩
  go_wp2_with fail
  refine (at_any _ _ _ 0 d0 _ rfl h ha0).mono ?_
  rintro e w' ⟨rfl, rfl⟩
  go_wp2_with fail
  refine (at_any _ _ _ 1 d1 _ rfl h ha1).mono ?_
  rintro e w' ⟨rfl, rfl⟩
  go_wp2
  go_ret2
  rw [← HE.out]
  exact ⟨rfl, rfl⟩

set_option maxHeartbeats 400000 in
theorem make_ok (v : Value) (l : List Nat) (w : World) (h : IsS w .u64 v l) (hl : l.length ≤ 1000000) (hlt : Lt 4294967296 l) :
    Calls Try.prog 9 #[v] w (RetSI .u64 (digs 4294967296 (val 4294967296 l)) 0 w) := by
  obtain ⟨A, c, rfl, hc, hm, hr⟩ := h
  unfold maxLen at hm
  go_enter Try.func9, Try.ntmps9
  go_wp2_with (at_make; refine wpList_make_rd rfl _ _ rfl sl24 l.length rfl rfl rfl rfl (by omega) (Nat.le_refl _) ?_; intro w1 hown1 hb1 hz1)
  go_loopw [12] (fun vi wr => ∃ (k : Nat) (o : List Nat), k ≤ l.length ∧ o.length ≤ l.length ∧ l.length ≤ o.length ∧ Hid (o.take k = l.take k) ∧ Own wr w.heap.size 23 .u64 (.slice (some ⟨w.heap.size, 0, none⟩) l.length l.length) o ∧ Below w.heap.size w wr ∧ vi = .int .i64 (k : Int)) (fun vi _ => l.length - (intOf vi).toNat)
  case atStart => exact ⟨0, List.replicate l.length 0, by omega, by simp, by simp, by show _ = _; simp, hown1, hb1, rfl⟩
  case round =>
    clear hown1 hb1
    obtain ⟨k, o, hk, ho1, ho2, HO, hown, hb, rfl⟩ := hrel
    by_cases hp : k < l.length
    · obtain ⟨ad, d, rfl, hd, hcell⟩ := (hr.below hb).at_ hp
      have hd1 : ¬ (4294967296 : Int) ≤ (d : Int) := by have := hlt.at hd; omega
      have hd2 : (d : Int) ≤ 18446744073709551615 := by omega
      obtain ⟨a', ha'⟩ : ∃ a', o[k]? = some a' := ⟨_, List.getElem?_eq_getElem (by omega)⟩
      have hc' := hown.cellAt ha'
      have hf' := hown.frozenAt k
      have HN : Hid ((o.set k d).take (k + 1) = l.take (k + 1)) := by
        show _ = _
        rw [take_step hd, ← HO.out, take_step (l := o.set k d) (d := d) (List.getElem?_set_self (by omega)), List.take_set_of_le (Nat.le_refl _)]
      clear hd ha'
      go_wp2
      go_roundw
      case rel => exact ⟨k + 1, o.set k d, by omega, by simpa using ho1, by simpa using ho2, HN, hown.stored k d, hb.setCell (Nat.le_refl _) _, by go_num⟩
      case measure => simp [intOf]; omega
    · have HE : Hid (o = l) := by
        have := HO.out
        rw [List.take_of_length_le (by omega), List.take_of_length_le (by omega)] at this; exact this
      have hv := hown.isS
      rw [HE.out] at hv
      go_wp2_with fail
      refine (trimmed_digs _ l _ _ hv hlt rfl).mono ?_
      rintro e w' ⟨v', rfl, hv', hf, rfl⟩
      go_wp2
      go_ret2
      exact ⟨_, rfl, hv', hf _ (fresh_at (Nat.le_refl _)), hb⟩

set_option maxHeartbeats 400000 in
theorem make_bad (v : Value) (l : List Nat) (w : World) (h : IsS w .u64 v l) (hl : l.length ≤ 1000000) (hu : Lt 18446744073709551616 l) (hlt : ¬ Lt 4294967296 l) :
    Calls Try.prog 9 #[v] w (RetSI .u64 [] 2 w) := by
  obtain ⟨A, c, rfl, hc, hm, hr⟩ := h
  unfold maxLen at hm
  have HL := Lib.hid hlt
  clear hlt
  go_enter Try.func9, Try.ntmps9
  go_wp2_with (at_make; refine wpList_make_rd rfl _ _ rfl sl24 l.length rfl rfl rfl rfl (by omega) (Nat.le_refl _) ?_; intro w1 hown1 hb1 hz1)
  go_loopw [12] (fun vi wr => ∃ (k : Nat) (o : List Nat), k ≤ l.length ∧ l.length ≤ o.length ∧ Lt 4294967296 (l.take k) ∧ Own wr w.heap.size 23 .u64 (.slice (some ⟨w.heap.size, 0, none⟩) l.length l.length) o ∧ Below w.heap.size w wr ∧ vi = .int .i64 (k : Int)) (fun vi _ => l.length - (intOf vi).toNat)
  case atStart => exact ⟨0, _, by omega, by simp, Lt.nil _, hown1, hb1, rfl⟩
  case round =>
    clear hown1 hb1
    obtain ⟨k, o, hk, ho2, hO, hown, hb, rfl⟩ := hrel
    by_cases hp : k < l.length
    · obtain ⟨ad, d, rfl, hd, hcell⟩ := (hr.below hb).at_ hp
      have hd2 : (d : Int) ≤ 18446744073709551615 := by have := hu.at hd; omega
      by_cases hbig : (4294967296 : Int) ≤ (d : Int)
      · clear hd
        go_wp2
        go_ret2
        exact ⟨_, rfl, isNil _ _, fun ad n c e => by injection e with e _ _; injection e, hb⟩
      · obtain ⟨a', ha'⟩ : ∃ a', o[k]? = some a' := ⟨_, List.getElem?_eq_getElem (by omega)⟩
        have hc' := hown.cellAt ha'
        have hf' := hown.frozenAt k
        have HN : Lt 4294967296 (l.take (k + 1)) := by rw [take_step hd]; exact hO.snoc (by omega)
        clear hd ha'
        go_wp2
        go_roundw
        case rel => exact ⟨k + 1, o.set k d, by omega, by simpa using ho2, HN, hown.stored k d, hb.setCell (Nat.le_refl _) _, by go_num⟩
        case measure => simp [intOf]; omega
    · exfalso
      rw [List.take_of_length_le (by omega)] at hO
      exact HL.out hO
end Go.Proofs.Ytidmiimadaidjaa.nat
