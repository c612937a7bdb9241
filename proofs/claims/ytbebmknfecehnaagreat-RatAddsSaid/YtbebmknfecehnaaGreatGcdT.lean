/- Mathematics of the greatest common divisor, by what is left and by halving. No program stands here.
The document's greatest common divisor; the program's by what is left of divisions. Condition: slices read as numbers.
The program's greatest common divisor by halving and taking off. Condition: slices read as numbers.
The program's greatest common divisor by halving and taking off: the loop. Condition: slices read as numbers.
The program's greatest common divisor of many numbers, and whether two are coprime; the chapter's example. Condition: slices read as numbers.
The chapter's example of the greatest common divisor. -/
import Derived.Test.YtbebmknfecehnaaGreatDivT
import Derived.Deep.LoopGhost
import Derived.Test.YtbebmknfecehnaaGreatList
namespace Go.Proofs.YtbebmknfecehnaaGreat.num
set_option linter.unusedVariables false

theorem gcd_mod (x y : Nat) : Nat.gcd y (x % y) = Nat.gcd x y := by
  rw [Nat.gcd_comm x y, Nat.gcd_rec y x, Nat.gcd_comm]
/-- The odd part. -/
def odp (x : Nat) : Nat := x / 2 ^ tz x
theorem tz_split {x : Nat} (h : 0 < x) : x = 2 ^ tz x * odp x ∧ odp x % 2 = 1 := by
  induction x using Nat.strongRecOn with
  | ind x ih =>
    by_cases h1 : x % 2 = 1
    · unfold odp; rw [tz_odd h1]; simp [h1]
    · have h2 : x % 2 = 0 := by omega
      obtain ⟨e, o⟩ := ih (x / 2) (by omega) (by omega)
      have e2 : odp x = odp (x / 2) := by
        unfold odp
        rw [tz_even (by omega) h2, Nat.pow_succ, Nat.mul_comm, ← Nat.div_div_eq_div_mul]
      refine ⟨?_, by rw [e2]; exact o⟩
      rw [e2, tz_even (by omega) h2, Nat.pow_succ, Nat.mul_right_comm, ← e]
      omega
theorem odp_pos {x : Nat} (h : 0 < x) : 0 < odp x := by have := (tz_split h).2; omega
theorem odp_le (x : Nat) : odp x ≤ x := Nat.div_le_self _ _
theorem odp_half {x : Nat} (h : 0 < x) (h2 : x % 2 = 0) : 2 * odp x ≤ x := by
  obtain ⟨e, o⟩ := tz_split h
  have ht : tz x = (tz x - 1) + 1 := by rw [tz_even (by omega) h2]; omega
  rw [ht, Nat.pow_succ] at e
  have := Nat.pow_pos (n := tz x - 1) (show 0 < 2 by omega)
  have h3 : 1 * (2 * odp x) ≤ 2 ^ (tz x - 1) * (2 * odp x) := Nat.mul_le_mul_right _ this
  rw [← Nat.mul_assoc] at h3
  rw [← Nat.mul_assoc, Nat.one_mul] at h3
  omega
theorem cop2 {o : Nat} (h : o % 2 = 1) (k : Nat) : Nat.Coprime (2 ^ k) o := by
  refine Nat.Coprime.pow_left k ?_
  show Nat.gcd 2 o = 1
  rw [Nat.gcd_rec, h]; rfl
/-- Of an odd number, twos in the other one count for nothing. -/
theorem gcd_odp {x y : Nat} (hx : 0 < x) (hy : y % 2 = 1) : Nat.gcd (odp x) y = Nat.gcd x y := by
  have e := (tz_split hx).1
  have h := Nat.Coprime.gcd_mul_left_cancel (odp x) (cop2 hy (tz x))
  rw [← e] at h
  exact h.symm
theorem gcd_two (i j p q : Nat) (hp : p % 2 = 1) (hij : i ≤ j) : Nat.gcd (2 ^ i * p) (2 ^ j * q) = 2 ^ i * Nat.gcd p q := by
  have e : 2 ^ j * q = 2 ^ i * (2 ^ (j - i) * q) := by rw [← Nat.mul_assoc, ← Nat.pow_add]; congr 2; omega
  rw [e, Nat.gcd_mul_left, Nat.gcd_comm p, Nat.Coprime.gcd_mul_left_cancel q (cop2 hp (j - i)), Nat.gcd_comm]
theorem gcd_parts {x y : Nat} (hx : 0 < x) (hy : 0 < y) : Nat.gcd x y = Nat.gcd (odp x) (odp y) * 2 ^ min (tz x) (tz y) := by
  obtain ⟨e1, o1⟩ := tz_split hx
  obtain ⟨e2, o2⟩ := tz_split hy
  rw [Nat.mul_comm]
  rcases Nat.le_total (tz x) (tz y) with h | h
  · rw [Nat.min_eq_left h]
    conv => lhs; rw [e1, e2]
    exact gcd_two _ _ _ _ o1 h
  · rw [Nat.min_eq_right h, Nat.gcd_comm x y, Nat.gcd_comm (odp x)]
    conv => lhs; rw [e1, e2]
    exact gcd_two _ _ _ _ o2 h
/-- What the loop of halving and taking off keeps. -/
def BG (g x y : Nat) : Prop := x % 2 = 1 ∧ y % 2 = 1 ∧ Nat.gcd x y = g
theorem BG.swap {g x y : Nat} (h : BG g x y) : BG g y x := ⟨h.2.1, h.1, by rw [Nat.gcd_comm]; exact h.2.2⟩
theorem BG.step {g x y : Nat} (h : BG g x y) (hlt : y < x) : BG g (odp (x - y)) y ∧ 0 < x - y ∧ odp (x - y) + y < x + y := by
  obtain ⟨h1, h2, h3⟩ := h
  have h0 : 0 < x - y := by omega
  refine ⟨⟨(tz_split h0).2, h2, ?_⟩, h0, ?_⟩
  · rw [gcd_odp h0 h2, Nat.gcd_sub_self_left (by omega), h3]
  · have := odp_half h0 (by omega)
    omega
theorem BG.done {g x : Nat} (h : BG g x x) : g = x := by rw [← h.2.2, Nat.gcd_self]
theorem BG.start {x y : Nat} (hx : 0 < x) (hy : 0 < y) : BG (Nat.gcd (odp x) (odp y)) (odp x) (odp y) := ⟨(tz_split hx).2, (tz_split hy).2, rfl⟩
/-- The greatest common divisor of many. -/
def gcds (l : List Nat) : Nat := l.foldl Nat.gcd 0
theorem gcds_snoc (l : List Nat) (x : Nat) : gcds (l ++ [x]) = Nat.gcd (gcds l) x := by simp [gcds]
theorem gcds_nil : gcds [] = 0 := rfl
theorem tz_pow_le {x : Nat} (h : 0 < x) : 2 ^ tz x ≤ x := by
  have e := (tz_split h).1
  have h2 := odp_pos h
  have h3 : 2 ^ tz x * 1 ≤ 2 ^ tz x * odp x := Nat.mul_le_mul_left _ h2
  omega
theorem odp_limbs (x : Nat) : x / 4294967296 ^ (tz x / 32) / 2 ^ (tz x % 32) = odp x := by
  have e : (4294967296 : Nat) = 2 ^ 32 := by decide
  unfold odp
  rw [Nat.div_div_eq_div_mul, e, ← Nat.pow_mul, ← Nat.pow_add]
  congr 2; omega
theorem tz_limb {x : Nat} (h : 0 < x) : tz x / 32 < (digs 4294967296 x).length := by
  have h1 := tz_pow_le h
  have h2 := digs_lt_pow (B := 4294967296) (by omega) x
  have e : (4294967296 : Nat) = 2 ^ 32 := by decide
  rw [e, ← Nat.pow_mul] at h2
  have h3 : 2 ^ tz x < 2 ^ (32 * (digs 4294967296 x).length) := by rw [← e] at h2; exact Nat.lt_of_le_of_lt h1 h2
  have h4 := (Nat.pow_lt_pow_iff_right (show 1 < 2 by omega)).1 h3
  omega
end Go.Proofs.YtbebmknfecehnaaGreat.num
namespace Go.Proofs.YtbebmknfecehnaaGreat.nat
open Go.RowKit Go.Proofs.YtbebmknfecehnaaGreat.num Go.Proofs.YtbebmknfecehnaaGreat.mem Go.Proofs.YtbebmknfecehnaaGreat.limb
set_option linter.unusedVariables false

/-- The call ends with a slice that reads as the list; what was there is as it was. -/
def RetSs (k : IntKind) (l : List Nat) (w : World) (e : Ending) (w' : World) : Prop := ∃ v, e = .returned v ∧ IsS w' k v l ∧ Below w.heap.size w w'
theorem dlen0 {B x : Nat} (hB : 2 ≤ B) (h : x = 0) : (digs B x).length ≤ 0 := by rw [h, digs_zero]; simp
theorem dlenp {B x : Nat} (hB : 2 ≤ B) (h : 0 < x) : 0 < (digs B x).length := by
  rcases Nat.eq_zero_or_pos (digs B x).length with h0 | h0
  · have := (digs_len0 hB).1 h0; omega
  · exact h0

set_option maxHeartbeats 800000 in
theorem refGcd_any (v u : Value) (x y : Nat) (w : World) (h : IsS w .i64 v (digs 10000 x)) (h' : IsS w .i64 u (digs 10000 y)) (hl : (digs 10000 x).length ≤ 100000) (hl' : (digs 10000 y).length ≤ 100000) :
    Calls Tryz.prog 64 #[v, u] w (RetSs .i64 (digs 10000 (Nat.gcd x y)) w) := by
  go_enter Tryz.func64, Tryz.ntmps64
  go_wp2
  go_loopg [0, 1] y (fun gk va vb wr => ∃ (p q : Nat), q ≤ gk ∧ IsS wr .i64 va (digs 10000 p) ∧ IsS wr .i64 vb (digs 10000 q) ∧ (digs 10000 p).length ≤ 100000 ∧ (digs 10000 q).length ≤ 100000 ∧ Hid (Nat.gcd p q = Nat.gcd x y) ∧ Below w.heap.size w wr)
  case atStart => exact ⟨x, y, Nat.le_refl _, h, h', hl, hl', rfl, Below.refl _ _⟩
  case round =>
    obtain ⟨p, q, hq, hp, hqs, lp, lq, HG, hb⟩ := hrel
    obtain ⟨A2, c2, rfl, _⟩ := id hqs
    by_cases hq0 : q = 0
    · have hz := dlen0 (B := 10000) (by omega) hq0
      have HE : Hid (Nat.gcd x y = p) := by have h1 := HG.out; rw [hq0, Nat.gcd_zero_right] at h1; exact h1.symm
      clear hq0
      go_wp2
      go_ret
      exact ⟨_, rfl, by rw [HE.out]; exact hp, hb⟩
    · have hz := dlenp (B := 10000) (x := q) (by omega) (by omega)
      have hml := dec_mod p q
      have hlt : p % q < q := Nat.mod_lt _ (by omega)
      have HG2 : Hid (Nat.gcd q (p % q) = Nat.gcd x y) := by show _ = _; rw [gcd_mod]; exact HG.out
      go_wp2_with fail
      refine (refDiv_any _ _ p q _ hp hqs lp lq (by omega)).mono ?_
      rintro e w' ⟨v3, v4, rfl, k3, k4, f3, f4, b4⟩
      have hb2 := hb.trans (b4.mono hb.size)
      go_wp2
      go_roundg (p % q)
      case rel => exact ⟨q, p % q, Nat.le_refl _, hqs.below b4, k4, lq, by omega, HG2, hb2⟩
      case measure => omega

set_option maxHeartbeats 400000 in
theorem gown_any (v : Value) (x : Nat) (w : World) (h : IsS w .u64 v (digs 4294967296 x)) (hl : (digs 4294967296 x).length ≤ 90000) :
    Calls Tryz.prog 89 #[v] w (RetS .u64 (digs 4294967296 x) w) := by
  go_enter Tryz.func89, Tryz.ntmps89
  go_wp2_with fail
  refine (small_any _ x _ _ 1 0 _ h (by omega) rfl rfl (by omega) (by omega) x (by omega)).mono ?_
  rintro e w1 ⟨v1, rfl, k1, f1, b1⟩
  go_wp2
  go_ret
  exact ⟨_, rfl, k1, f1, b1⟩

end Go.Proofs.YtbebmknfecehnaaGreat.nat
namespace Go.Proofs.YtbebmknfecehnaaGreat.nat
open Go.RowKit Go.Proofs.YtbebmknfecehnaaGreat.num Go.Proofs.YtbebmknfecehnaaGreat.mem Go.Proofs.YtbebmknfecehnaaGreat.limb
set_option linter.unusedVariables false

/-- Noughts below a number. -/
theorem digs_up {B : Nat} (hB : 2 ≤ B) (q : Nat) {y : Nat} (hy : 0 < y) : digs B (B ^ q * y) = List.replicate q 0 ++ digs B y := by
  induction q with
  | zero => simp
  | succ q ih =>
    have hp : 0 < B ^ q * y := Nat.mul_pos (Nat.pow_pos (by omega)) hy
    have e : B ^ (q + 1) * y = B * (B ^ q * y) := by rw [Nat.pow_succ, Nat.mul_comm (B ^ q) B, Nat.mul_assoc]
    rw [e, digs_pos hB (Nat.mul_pos (by omega) hp), Nat.mul_mod_right, Nat.mul_div_cancel_left _ (by omega), ih, List.replicate_succ, List.cons_append]

set_option maxHeartbeats 800000 in
theorem godd_any (v : Value) (x : Nat) (w : World) (h : IsS w .u64 v (digs 4294967296 x)) (hl : (digs 4294967296 x).length ≤ 90000) (hx : 0 < x) (y : Nat) (hy : y = odp x) :
    Calls Tryz.prog 91 #[v] w (RetS .u64 (digs 4294967296 y) w) := by
  obtain ⟨t, ht⟩ : ∃ t, t = tz x := ⟨_, rfl⟩
  have hgl : t / 32 < (digs 4294967296 x).length := by rw [ht]; exact tz_limb hx
  have HT := Lib.hid ht
  have HY : Hid (y = x / 4294967296 ^ (t / 32) / 2 ^ (t % 32)) := by show _ = _; rw [hy, ht, odp_limbs]
  have HD : Hid ((digs 4294967296 x).drop (t / 32) = digs 4294967296 (x / 4294967296 ^ (t / 32))) := drop_div (n := t / 32) (by omega)
  have hdl := digs_len_mono (B := 4294967296) (by omega) (Nat.div_le_self x (4294967296 ^ (t / 32)))
  clear ht hy
  obtain ⟨A, c, rfl, hc, hm, hr⟩ := id h
  have hm2 := hm
  unfold maxLen at hm2
  have hs : IsS w .u64 (.slice (A.map fun x => x.add (t / 32)) ((digs 4294967296 x).length - t / 32) (c - t / 32)) (digs 4294967296 (x / 4294967296 ^ (t / 32))) := by rw [← HD.out]; exact hr.isDrop hc hm (by omega)
  have hcap : t / 32 < c := by omega
  go_enter Tryz.func91, Tryz.ntmps91
  go_wp2_with fail
  refine (zeros_any _ x t _ h (by omega) HT.out).mono ?_
  rintro e w1 ⟨rfl, rfl⟩
  go_wp2_with fail
  all_goals
    refine (shr_ok _ (x / 4294967296 ^ (t / 32)) _ (t % 32) _ (by omega) (by first | exact hs | skip) (by omega) (by omega) y HY.out).mono ?_
    rintro e w1 ⟨v1, rfl, k1, f1, b1⟩
    go_wp2
    go_ret
    exact ⟨_, rfl, k1, f1, b1⟩

set_option maxHeartbeats 800000 in
theorem gdoubled_any (v : Value) (x : Nat) (nI : Int) (n : Nat) (w : World) (hnI : nI = (n : Int)) (h : IsS w .u64 v (digs 4294967296 x)) (hl : (digs 4294967296 x).length ≤ 90000) (hx : 0 < x) (hn : n ≤ 3000000) (y : Nat) (hy : y = x * 2 ^ n) :
    Calls Tryz.prog 93 #[v, .int .i64 nI] w (RetS .u64 (digs 4294967296 y) w) := by
  subst hnI
  have hz : 0 < x * 2 ^ (n % 32) := Nat.mul_pos hx (Nat.pow_pos (by omega))
  have hzl := up_len (x := x) (u := n % 32) (by omega)
  have HE : Hid (digs 4294967296 y = List.replicate (n / 32) 0 ++ digs 4294967296 (x * 2 ^ (n % 32))) := by
    show _ = _
    rw [← digs_up (by omega) _ hz, hy, pow32, Nat.mul_left_comm, ← Nat.pow_add]
    congr 3; omega
  clear hy
  go_enter Tryz.func93, Tryz.ntmps93
  go_wp2_with fail
  refine (shl_ok _ x _ (n % 32) _ (by omega) h (by omega) (by omega) _ rfl).mono ?_
  rintro e w1 ⟨v1, rfl, k1, f1, b1⟩
  obtain ⟨A1, c1, rfl, hc1, hm1, hr1⟩ := k1
  go_wp2_with (first
    | (at_make; refine wpList_make_rd rfl _ _ rfl sl24 (n / 32) rfl rfl (by omega) (by omega) (by omega) (Nat.le_refl _) ?_; intro w2 hown2 hb2 hz2)
    | (at_builtin; refine wpList_append_rd rfl (.tmp 16) (.tmp 17) rfl sl24 rfl hown2 rfl (news := digs 4294967296 (x * 2 ^ (n % 32))) rfl (hr1.below hb2) (by simp; omega) hb2.size ?_; intro v' w3 hown3 hb3 hg3))
  go_ret
  exact ⟨_, rfl, by rw [HE.out]; exact hown3.isS, hown3.fresh.mono b1.size, (b1.trans (hb2.mono b1.size)).trans (hb3.mono b1.size)⟩
end Go.Proofs.YtbebmknfecehnaaGreat.nat
namespace Go.Proofs.YtbebmknfecehnaaGreat.nat
open Go.RowKit Go.Proofs.YtbebmknfecehnaaGreat.num Go.Proofs.YtbebmknfecehnaaGreat.mem Go.Proofs.YtbebmknfecehnaaGreat.limb
set_option linter.unusedVariables false

theorem limb_bits {x n : Nat} (h : (digs 4294967296 x).length ≤ n) : x < 2 ^ (32 * n) := by
  have h2 := digs_lt_pow (B := 4294967296) (by omega) x
  rw [pow32] at h2
  exact Nat.lt_of_lt_of_le h2 (Nat.pow_le_pow_right (by omega) (by omega))
theorem tz_le {x n : Nat} (hx : 0 < x) (h : (digs 4294967296 x).length ≤ n) : tz x ≤ 32 * n := by
  have h1 := Nat.lt_of_le_of_lt (tz_pow_le hx) (limb_bits h)
  have := (Nat.pow_lt_pow_iff_right (show 1 < 2 by omega)).1 h1
  omega
theorem odp_len (x : Nat) : (digs 4294967296 (odp x)).length ≤ (digs 4294967296 x).length := digs_len_mono (by omega) (odp_le x)
theorem sub_len (x y : Nat) : (digs 4294967296 (x - y)).length ≤ (digs 4294967296 x).length := digs_len_mono (by omega) (Nat.sub_le _ _)

theorem zerosq_any (v : Value) (x b : Nat) (w : World) (h : IsS w .u64 v (digs 4294967296 x)) (hl : (digs 4294967296 x).length ≤ 1000000) (hb : b = tz x) :
    Calls Tryz.prog 90 #[v] w fun e w' => e = .returned (.int .i64 (b : Int)) ∧ w' = w :=
  (zeros_any v x b w h hl hb).mono fun _ _ hh => ⟨hh.1, hh.2.symm⟩

set_option maxHeartbeats 1600000 in
theorem binary_any (v u : Value) (x y : Nat) (w : World) (h : IsS w .u64 v (digs 4294967296 x)) (h' : IsS w .u64 u (digs 4294967296 y)) (hl : (digs 4294967296 x).length ≤ 90000) (hl' : (digs 4294967296 y).length ≤ 90000) (z : Nat) (hz : z = Nat.gcd x y) :
    Calls Tryz.prog 70 #[v, u] w (RetS .u64 (digs 4294967296 z) w) := by
  have HZ := Lib.hid hz
  clear hz
  by_cases hx0 : x = 0
  · have hzl := dlen0 (B := 4294967296) (by omega) hx0
    have HE : Hid (z = y) := by show _ = _; rw [HZ.out, hx0, Nat.gcd_zero_left]
    clear hx0
    go_enter Tryz.func70, Tryz.ntmps70
    go_wp2_with fail
    refine (gown_any _ x _ h hl).mono ?_
    rintro e w1 ⟨v1, rfl, k1, f1, b1⟩
    go_wp2_with fail
    refine (gown_any _ y _ (h'.below b1) hl').mono ?_
    rintro e w2 ⟨v2, rfl, k2, f2, b2⟩
    obtain ⟨A1, c1, rfl, _⟩ := id k1
    go_wp2
    go_ret
    exact ⟨_, rfl, by rw [HE.out]; exact k2, f2.mono b1.size, b1.trans (b2.mono b1.size)⟩
  · have hxp : 0 < x := by omega
    have hxl := dlenp (B := 4294967296) (by omega) hxp
    have hxl2 : (((digs 4294967296 x).length : Int) == 0) = false := by rw [beq_eq_false_iff_ne]; omega
    clear hx0
    by_cases hy0 : y = 0
    · have hzl := dlen0 (B := 4294967296) (by omega) hy0
      have HE : Hid (z = x) := by show _ = _; rw [HZ.out, hy0, Nat.gcd_zero_right]
      clear hy0
      go_enter Tryz.func70, Tryz.ntmps70
      go_wp2_with fail
      refine (gown_any _ x _ h hl).mono ?_
      rintro e w1 ⟨v1, rfl, k1, f1, b1⟩
      go_wp2_with fail
      refine (gown_any _ y _ (h'.below b1) hl').mono ?_
      rintro e w2 ⟨v2, rfl, k2, f2, b2⟩
      obtain ⟨A1, c1, rfl, _⟩ := id k1
      obtain ⟨A2, c2, rfl, _⟩ := id k2
      go_wp2
      go_ret
      exact ⟨_, rfl, by rw [HE.out]; exact k1.below b2, f1, b1.trans (b2.mono b1.size)⟩
    · have hyp : 0 < y := by omega
      have hyl := dlenp (B := 4294967296) (by omega) hyp
      have hyl2 : (((digs 4294967296 y).length : Int) == 0) = false := by rw [beq_eq_false_iff_ne]; omega
      clear hy0
      obtain ⟨t, ht⟩ : ∃ t, t = tz x := ⟨_, rfl⟩
      obtain ⟨s, hs⟩ : ∃ s, s = tz y := ⟨_, rfl⟩
      have htl := tz_le hxp hl
      have hsl := tz_le hyp hl'
      rw [← ht] at htl
      rw [← hs] at hsl
      obtain ⟨g, hg⟩ : ∃ g, g = Nat.gcd (odp x) (odp y) := ⟨_, rfl⟩
      have HG : Hid (z = g * 2 ^ min t s) := by show _ = _; rw [HZ.out, gcd_parts hxp hyp, hg, ht, hs]
      obtain ⟨p0, hp0⟩ : ∃ p, p = odp x := ⟨_, rfl⟩
      obtain ⟨q0, hq0⟩ : ∃ q, q = odp y := ⟨_, rfl⟩
      have hpl := odp_len x
      have hql := odp_len y
      have HB : Hid (BG g p0 q0) := by show BG _ _ _; rw [hg, hp0, hq0]; exact BG.start hxp hyp
      rw [← hp0] at hpl
      rw [← hq0] at hql
      have HT := Lib.hid ht
      have HS := Lib.hid hs
      have HP := Lib.hid hp0
      have HQ := Lib.hid hq0
      rcases (show (s < t ∧ min t s = s) ∨ (¬ s < t ∧ min t s = t) from by omega) with ⟨hst, hm⟩ | ⟨hst, hm⟩
      all_goals
        rw [hm] at HG
        clear ht hs hg hp0 hq0 HZ hm
        go_enter Tryz.func70, Tryz.ntmps70
        go_wp2_with fail
        refine (gown_any _ x _ h hl).mono ?_
        rintro e w1 ⟨v1, rfl, k1, f1, b1⟩
        go_wp2_with fail
        refine (gown_any _ y _ (h'.below b1) hl').mono ?_
        rintro e w2 ⟨v2, rfl, k2, f2, b2⟩
        replace k1 := k1.below b2
        have b3 := b1.trans (b2.mono b1.size)
        obtain ⟨A1, c1, rfl, _⟩ := id k1
        obtain ⟨A2, c2, rfl, _⟩ := id k2
        clear h h' b1 b2 f1 f2
        go_wp2_with fail
        refine (zeros_any _ x t _ k1 (by omega) HT.out).mono ?_
        rintro e w3 ⟨rfl, rfl⟩
        go_wp2_with fail
        refine (zeros_any _ y s _ k2 (by omega) HS.out).mono ?_
        rintro e w3 ⟨rfl, rfl⟩
        go_wp2_with fail
        refine (godd_any _ x _ k1 hl hxp p0 HP.out).mono ?_
        rintro e w3 ⟨v3, rfl, k3, f3, b4⟩
        have b5 := b3.trans (b4.mono b3.size)
        go_wp2_with fail
        refine (godd_any _ y _ (k2.below b4) hl' hyp q0 HQ.out).mono ?_
        rintro e w4 ⟨v4, rfl, k4, f4, b6⟩
        have b7 := b5.trans (b6.mono b5.size)
        replace k3 := k3.below b6
        clear k1 k2 b3 b4 b5 b6 f3 f4
        go_wp2_with fail
        refine (cmp_any _ _ p0 q0 (ord p0 q0) _ k3 k4 rfl).mono ?_
        rintro e w5 ⟨rfl, b8⟩
        have b9 := b7.trans (b8.mono b7.size)
        replace k3 := k3.below b8
        replace k4 := k4.below b8
        clear b7 b8
        go_wp2
        go_loopg [0, 1, 6] (p0 + q0) (fun gk va vb vo wr => ∃ (p q : Nat) (o : Int), p + q ≤ gk ∧ IsS wr .u64 va (digs 4294967296 p) ∧ IsS wr .u64 vb (digs 4294967296 q) ∧ (digs 4294967296 p).length ≤ 90000 ∧ (digs 4294967296 q).length ≤ 90000 ∧ Hid (BG g p q) ∧ Hid (o = ord p q) ∧ vo = .int .i64 o ∧ Below w.heap.size w wr)
        case atStart => exact ⟨p0, q0, _, Nat.le_refl _, k3, k4, by omega, by omega, HB, rfl, rfl, b9⟩
        case round =>
          clear k3 k4 b9
          obtain ⟨p, q, o, hpq, kp, kq, lp, lq, HBG, HO, rfl, hb⟩ := hrel
          rcases Nat.lt_trichotomy p q with hlt | heq | hlt
          · obtain rfl : o = -1 := by rw [HO.out]; exact ord_lt hlt
            clear HO
            obtain ⟨hs1, hs2, hs3⟩ := HBG.out.swap.step hlt
            have HS1 := Lib.hid hs1
            have hs4 := sub_len q p
            have hs5 := odp_len (q - p)
            clear hs1
            go_wp2_with fail
            refine (sub_ok _ _ q p _ kq kp (by omega) (by omega) (q - p) rfl).mono ?_
            rintro e w5 ⟨v5, rfl, k5, f5, b5⟩
            go_wp2_with fail
            refine (godd_any _ (q - p) _ k5 (by omega) hs2 (odp (q - p)) rfl).mono ?_
            rintro e w6 ⟨v6, rfl, k6, f6, b6⟩
            have kp2 := (kp.below b5).below b6
            have b7 := (hb.trans (b5.mono hb.size))
            have b8 := b7.trans (b6.mono b7.size)
            go_wp2_with fail
            refine (cmp_any _ _ (odp (q - p)) p (ord (odp (q - p)) p) _ k6 kp2 rfl).mono ?_
            rintro e w7 ⟨rfl, b9⟩
            have b10 := b8.trans (b9.mono b8.size)
            go_wp2
            go_roundg (odp (q - p) + p)
            case rel => exact ⟨odp (q - p), p, _, Nat.le_refl _, k6.below b9, kp2.below b9, by omega, by omega, HS1, rfl, rfl, b10⟩
            case measure => omega
          · obtain rfl : o = 0 := by rw [HO.out, heq]; exact ord_eq q
            subst heq
            have HZ := (fun m (hh : Hid (z = g * 2 ^ m)) => (show Hid (z = p * 2 ^ m) from by show _ = _; rw [hh.out, HBG.out.done])) _ HG
            have hpos : 0 < p := by have := HBG.out.1; omega
            clear HO
            go_wp2_with fail
            refine (gdoubled_any _ p _ _ _ rfl kp (by omega) hpos (by omega) z HZ.out).mono ?_
            rintro e w5 ⟨v5, rfl, k5, f5, b5⟩
            go_wp2
            go_ret
            exact ⟨_, rfl, k5, f5.mono hb.size, hb.trans (b5.mono hb.size)⟩
          · obtain rfl : o = 1 := by rw [HO.out]; exact ord_gt hlt
            clear HO
            obtain ⟨hs1, hs2, hs3⟩ := HBG.out.step hlt
            have HS1 := Lib.hid hs1
            have hs4 := sub_len p q
            have hs5 := odp_len (p - q)
            clear hs1
            go_wp2_with fail
            refine (sub_ok _ _ p q _ kp kq (by omega) (by omega) (p - q) rfl).mono ?_
            rintro e w5 ⟨v5, rfl, k5, f5, b5⟩
            go_wp2_with fail
            refine (godd_any _ (p - q) _ k5 (by omega) hs2 (odp (p - q)) rfl).mono ?_
            rintro e w6 ⟨v6, rfl, k6, f6, b6⟩
            have kq2 := (kq.below b5).below b6
            have b7 := (hb.trans (b5.mono hb.size))
            have b8 := b7.trans (b6.mono b7.size)
            go_wp2_with fail
            refine (cmp_any _ _ (odp (p - q)) q (ord (odp (p - q)) q) _ k6 kq2 rfl).mono ?_
            rintro e w7 ⟨rfl, b9⟩
            have b10 := b8.trans (b9.mono b8.size)
            go_wp2
            go_roundg (odp (p - q) + q)
            case rel => exact ⟨odp (p - q), q, _, Nat.le_refl _, k6.below b9, kq2.below b9, by omega, by omega, HS1, rfl, rfl, b10⟩
            case measure => omega
end Go.Proofs.YtbebmknfecehnaaGreat.nat
namespace Go.Proofs.YtbebmknfecehnaaGreat.nat
open Go.RowKit Go.Proofs.YtbebmknfecehnaaGreat.num Go.Proofs.YtbebmknfecehnaaGreat.mem Go.Proofs.YtbebmknfecehnaaGreat.limb
set_option linter.unusedVariables false

theorem gcd_len {x y n : Nat} (hx : (digs 4294967296 x).length ≤ n) (hy : (digs 4294967296 y).length ≤ n) : (digs 4294967296 (Nat.gcd x y)).length ≤ n := by
  rcases Nat.eq_zero_or_pos x with h | h
  · rw [h, Nat.gcd_zero_left]; exact hy
  · exact Nat.le_trans (digs_len_mono (by omega) (Nat.gcd_le_left y h)) hx
/-- Each of them has so many limbs at most. -/
def Lens (n : Nat) (xs : List Nat) : Prop := ∀ x ∈ xs, (digs 4294967296 x).length ≤ n
theorem Lens.at {n : Nat} {xs : List Nat} (h : Lens n xs) {k x : Nat} (hk : xs[k]? = some x) : (digs 4294967296 x).length ≤ n := h x (List.mem_of_getElem? hk)
theorem Lens.snoc {n : Nat} {xs : List Nat} (h : Lens n xs) {x : Nat} (hx : (digs 4294967296 x).length ≤ n) : Lens n (xs ++ [x]) := by
  intro y hy
  rcases List.mem_append.1 hy with hy | hy
  · exact h y hy
  · rw [List.mem_singleton.1 hy]; exact hx
theorem gcds_step {xs : List Nat} {k x : Nat} (h : xs[k]? = some x) : gcds (xs.take (k + 1)) = Nat.gcd (gcds (xs.take k)) x := by rw [take_step h, gcds_snoc]

set_option maxHeartbeats 1600000 in
theorem ggcd_any (V : Value) (vs : List Value) (xs : List Nat) (w : World) (hV : IsV w V vs) (hN : Nums w vs xs) (hl : vs.length ≤ 1000000) (hS : Lens 90000 xs) :
    Calls Tryz.prog 37 #[V] w (RetS .u64 (digs 4294967296 (gcds xs)) w) := by
  obtain ⟨A, c, rfl, hc, hcells⟩ := hV
  have HC := Lib.hid hcells
  have HN := Lib.hid hN
  have HX : Hid (vs.length = xs.length) := hN.1
  have HS := Lib.hid hS
  clear hcells hN hS
  go_enter Tryz.func37, Tryz.ntmps37
  go_wp2
  go_loopw [3, 9] (fun vg vi wr => ∃ (k G : Nat), k ≤ vs.length ∧ Hid (G = gcds (xs.take k)) ∧ (digs 4294967296 G).length ≤ 90000 ∧ IsS wr .u64 vg (digs 4294967296 G) ∧ Fresh w.heap.size vg ∧ Below w.heap.size w wr ∧ vi = .int .i64 (k : Int)) (fun _ vi _ => vs.length - (intOf vi).toNat)
  case atStart => exact ⟨0, 0, by omega, rfl, by rw [digs_zero]; simp, by rw [digs_zero]; exact (own_lit0 w w.heap.size _ .u64 (Nat.le_refl _)).isS, fresh_at (Nat.le_refl _), below_alloc (Nat.le_refl _) _, rfl⟩
  case round =>
    obtain ⟨k, G, hk, HG, lG, kG, fG, hb, rfl⟩ := hrel
    by_cases hp : k < vs.length
    · obtain ⟨u, x, hu, hx, hv⟩ := HN.out.at_ hp
      obtain ⟨ad, rfl, hcell⟩ := HC.out k u hu
      have hcell2 := (hb.cell (World.block_lt_of_cell? w _ hcell)).trans hcell
      have lx := HS.out.at hx
      have hv2 := hv.below hb
      have hlz : (digs 4294967296 (Nat.gcd G x)).length ≤ 90000 := gcd_len lG lx
      obtain ⟨z, hz⟩ : ∃ z, z = Nat.gcd G x := ⟨_, rfl⟩
      rw [← hz] at hlz
      have HT : Hid (z = gcds (xs.take (k + 1))) := by show _ = _; rw [gcds_step hx, ← HG.out]; exact hz
      obtain ⟨t, ht⟩ : ∃ t, t = ord x G := ⟨_, rfl⟩
      have HO := Lib.hid ht
      have HZ := Lib.hid hz
      obtain ⟨A1, c1, rfl, _⟩ := id hv2
      obtain ⟨A2, c2, rfl, _⟩ := id kG
      clear hu hx hv hcell hz
      by_cases hlt : x < G
      · have ht0 : t < 0 := by rw [ht]; exact ord_lt0.2 hlt
        clear ht
        rcases Nat.eq_zero_or_pos x with hx0 | hx0
        · have hzl := dlen0 (B := 4294967296) (by omega) hx0
          clear hx0
          go_wp2_with fail
          refine (cmp_any _ _ x G t _ hv2 kG HO.out).mono ?_
          rintro e w1 ⟨rfl, b1⟩
          go_wp2_with fail
          refine (binary_any _ _ G x _ (kG.below b1) (hv2.below b1) lG lx z HZ.out).mono ?_
          rintro e w2 ⟨v2, rfl, k2, f2, b2⟩
          have b3 := hb.trans (b1.mono hb.size)
          have b4 := b3.trans (b2.mono b3.size)
          go_wp2
          go_roundw
          case rel => exact ⟨k + 1, z, by omega, HT, hlz, k2, f2.mono b3.size, b4, by go_num⟩
          case measure => simp [intOf]; omega
        · have hzl := dlenp (B := 4294967296) (by omega) hx0
          have hml := mod_len' (x := G) (y := x) hx0
          have HZ2 : Hid (z = Nat.gcd (G % x) x) := by show _ = _; rw [HZ.out, Nat.gcd_comm G x, Nat.gcd_rec]
          go_wp2_with fail
          refine (cmp_any _ _ x G t _ hv2 kG HO.out).mono ?_
          rintro e w1 ⟨rfl, b1⟩
          have b3 := hb.trans (b1.mono hb.size)
          replace hv2 := hv2.below b1
          replace kG := kG.below b1
          go_wp2_with fail
          refine (dmod_ok _ _ G x _ kG hv2 lG lx hx0 (G % x) rfl).mono ?_
          rintro e w2 ⟨v2, rfl, k2, f2, b2⟩
          have b4 := b3.trans (b2.mono b3.size)
          go_wp2_with fail
          refine (binary_any _ _ (G % x) x _ k2 (hv2.below b2) (by omega) lx z HZ2.out).mono ?_
          rintro e w3 ⟨v3, rfl, k3, f3, b5⟩
          have b6 := b4.trans (b5.mono b4.size)
          go_wp2
          go_roundw
          case rel => exact ⟨k + 1, z, by omega, HT, hlz, k3, f3.mono b4.size, b6, by go_num⟩
          case measure => simp [intOf]; omega
      · have ht0 : ¬ t < 0 := by rw [ht, ord_lt0]; exact hlt
        clear ht
        rcases Nat.eq_zero_or_pos G with hx0 | hx0
        · have hzl := dlen0 (B := 4294967296) (by omega) hx0
          have HZ2 : Hid (z = Nat.gcd x G) := by show _ = _; rw [HZ.out, Nat.gcd_comm]
          clear hx0
          go_wp2_with fail
          refine (cmp_any _ _ x G t _ hv2 kG HO.out).mono ?_
          rintro e w1 ⟨rfl, b1⟩
          go_wp2_with fail
          refine (binary_any _ _ x G _ (hv2.below b1) (kG.below b1) lx lG z HZ2.out).mono ?_
          rintro e w2 ⟨v2, rfl, k2, f2, b2⟩
          have b3 := hb.trans (b1.mono hb.size)
          have b4 := b3.trans (b2.mono b3.size)
          go_wp2
          go_roundw
          case rel => exact ⟨k + 1, z, by omega, HT, hlz, k2, f2.mono b3.size, b4, by go_num⟩
          case measure => simp [intOf]; omega
        · have hzl := dlenp (B := 4294967296) (by omega) hx0
          have hml := mod_len' (x := x) (y := G) hx0
          have HZ2 : Hid (z = Nat.gcd (x % G) G) := by show _ = _; rw [HZ.out, Nat.gcd_rec]
          go_wp2_with fail
          refine (cmp_any _ _ x G t _ hv2 kG HO.out).mono ?_
          rintro e w1 ⟨rfl, b1⟩
          have b3 := hb.trans (b1.mono hb.size)
          replace hv2 := hv2.below b1
          replace kG := kG.below b1
          go_wp2_with fail
          refine (dmod_ok _ _ x G _ hv2 kG lx lG hx0 (x % G) rfl).mono ?_
          rintro e w2 ⟨v2, rfl, k2, f2, b2⟩
          have b4 := b3.trans (b2.mono b3.size)
          go_wp2_with fail
          refine (binary_any _ _ (x % G) G _ k2 (kG.below b2) (by omega) lG z HZ2.out).mono ?_
          rintro e w3 ⟨v3, rfl, k3, f3, b5⟩
          have b6 := b4.trans (b5.mono b4.size)
          go_wp2
          go_roundw
          case rel => exact ⟨k + 1, z, by omega, HT, hlz, k3, f3.mono b4.size, b6, by go_num⟩
          case measure => simp [intOf]; omega
    · have HE : Hid (G = gcds xs) := by have h1 := HG.out; rw [List.take_of_length_le (by have := HX.out; omega)] at h1; exact h1
      go_wp2
      go_ret
      exact ⟨_, rfl, by rw [← HE.out]; exact kG, fG, hb⟩

set_option maxHeartbeats 400000 in
theorem coprime_any (v u : Value) (x y : Nat) (t : Int) (b : Bool) (w : World) (h : IsS w .u64 v (digs 4294967296 x)) (h' : IsS w .u64 u (digs 4294967296 y)) (hl : (digs 4294967296 x).length ≤ 90000) (hl' : (digs 4294967296 y).length ≤ 90000) (ht : t = ord (Nat.gcd x y) 1) (hb : (t == 0) = b) :
    Calls Tryz.prog 63 #[v, u] w (RetV (.bool b) w) := by
  have HT := Lib.hid ht
  have HB := Lib.hid hb
  have HE : Hid (gcds [x, y] = Nat.gcd x y) := by show _ = _; simp [gcds]
  clear ht hb
  obtain ⟨A1, c1, rfl, _⟩ := id h
  obtain ⟨A2, c2, rfl, _⟩ := id h'
  go_enter Tryz.func63, Tryz.ntmps63
  go_wp2_with fail
  have hb := below_alloc (Nat.le_refl w.heap.size) (.cells #[.slice A1 (digs 4294967296 x).length c1, .slice A2 (digs 4294967296 y).length c2] 23)
  refine (ggcd_any _ [_, _] [x, y] _ (isV_lit w 23 [_, _]) (nums2 (h.below hb) (h'.below hb)) (by simp) (by intro q hq; simp at hq; rcases hq with rfl | rfl; exact hl; exact hl')).mono ?_
  rintro e w1 ⟨v1, rfl, k1, f1, b1⟩
  have b2 := hb.trans (b1.mono hb.size)
  go_wp2_with fail
  refine (of_any _ 1 _ rfl (by omega)).mono ?_
  rintro e w2 ⟨v2, rfl, k2, f2, b3⟩
  have b4 := b2.trans (b3.mono b2.size)
  rw [HE.out] at k1
  go_wp2_with fail
  refine (cmp_any _ _ (Nat.gcd x y) 1 t _ (k1.below b3) k2 HT.out).mono ?_
  rintro e w3 ⟨rfl, b5⟩
  go_wp2
  go_ret
  exact ⟨by rw [← HB.out]; rfl, b4.trans (b5.mono b4.size)⟩
end Go.Proofs.YtbebmknfecehnaaGreat.nat
namespace Go.Proofs.YtbebmknfecehnaaGreat.nat
open Go.RowKit Go.Proofs.YtbebmknfecehnaaGreat.num Go.Proofs.YtbebmknfecehnaaGreat.mem Go.Proofs.YtbebmknfecehnaaGreat.limb
set_option linter.unusedVariables false

theorem lit1_old (w : World) (e : TypeId) {x : Int} {d : Nat} (hd : x = (d : Int)) (o : Obj) : IsS ((w.alloc (.cells #[.int .u64 x] e)).alloc o) .u64 (.slice (some ⟨w.heap.size, 0, none⟩) 1 1) [d] := ((own_lit1 w 0 e .u64 hd (Nat.zero_le _)).alloc o).isS
end Go.Proofs.YtbebmknfecehnaaGreat.nat
