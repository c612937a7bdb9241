/- The document's digits: digit, From, In. Condition: some limbs, some bytes. -/
import Derived.Test.YtlepoheinemfcaaDoorDigG
namespace Go.Proofs.YtlepoheinemfcaaDoor.str
open Go.RowKit Go.Proofs.YtlepoheinemfcaaDoor.num Go.Proofs.YtlepoheinemfcaaDoor.mem Go.Proofs.YtlepoheinemfcaaDoor.txt Go.Proofs.YtlepoheinemfcaaDoor.nat
set_option linter.unusedVariables false

set_option maxHeartbeats 1600000 in
theorem rdigit_any (cI bI tI : Int) (c : UInt8) (b : Nat) (w : World) (hc : cI = (c.toNat : Int)) (hb : bI = (b : Int)) (h2 : 2 ≤ b) (h36 : b ≤ 36) (ht : tI = if dv c < b then (dv c : Int) else -1) :
    Calls Tryd.prog 26 #[.int .u8 cI, .int .i64 bI] w fun e w' => e = .returned (.int .i64 tI) ∧ w = w' := by
  have hlt := c.toNat_lt
  have c0 : 0 ≤ cI := by omega
  have c1 : cI ≤ 255 := by omega
  have b0 : 2 ≤ bI := by omega
  have b1 : bI ≤ 36 := by omega
  by_cases h1 : 48 ≤ cI
  · by_cases h3 : cI ≤ 57
    · have h97 : ¬ 97 ≤ cI := by omega
      have hd : dv c = c.toNat - 48 := by unfold dv; rw [if_pos (by omega)]
      by_cases hge : bI ≤ cI - 48
      · have HT : Hid ((-1 : Int) = tI) := by show _ = _; rw [ht, if_neg (by omega)]
        clear ht hd hc hb hlt
        go_enter Tryd.func26, Tryd.ntmps26
        go_wp2
        go_ret
        exact ⟨by rw [← HT.out]; rfl, rfl⟩
      · have HT : Hid (cI - 48 = tI) := by show _ = _; rw [ht, if_pos (by omega)]; omega
        clear ht hd hc hb hlt
        go_enter Tryd.func26, Tryd.ntmps26
        go_wp2
        go_ret
        exact ⟨by rw [← HT.out]; rfl, rfl⟩
    · by_cases h4 : 97 ≤ cI
      · by_cases h5 : cI ≤ 122
        · have hd : dv c = c.toNat - 87 := by unfold dv; rw [if_neg (by omega), if_pos (by omega)]
          by_cases hge : bI ≤ cI - 97 + 10
          · have HT : Hid ((-1 : Int) = tI) := by show _ = _; rw [ht, if_neg (by omega)]
            clear ht hd hc hb hlt
            go_enter Tryd.func26, Tryd.ntmps26
            go_wp2
            go_ret
            exact ⟨by rw [← HT.out]; rfl, rfl⟩
          · have HT : Hid (cI - 97 + 10 = tI) := by show _ = _; rw [ht, if_pos (by omega)]; omega
            clear ht hd hc hb hlt
            go_enter Tryd.func26, Tryd.ntmps26
            go_wp2
            go_ret
            exact ⟨by rw [← HT.out]; rfl, rfl⟩
        · have hd : dv c = 99 := by unfold dv; rw [if_neg (by omega), if_neg (by omega)]
          have HT : Hid ((-1 : Int) = tI) := by show _ = _; rw [ht, if_neg (by omega)]
          clear ht hd hc hb hlt
          go_enter Tryd.func26, Tryd.ntmps26
          go_wp2
          go_ret
          exact ⟨by rw [← HT.out]; rfl, rfl⟩
      · have hd : dv c = 99 := by unfold dv; rw [if_neg (by omega), if_neg (by omega)]
        have HT : Hid ((-1 : Int) = tI) := by show _ = _; rw [ht, if_neg (by omega)]
        clear ht hd hc hb hlt
        go_enter Tryd.func26, Tryd.ntmps26
        go_wp2
        go_ret
        exact ⟨by rw [← HT.out]; rfl, rfl⟩
  · have hd : dv c = 99 := by unfold dv; rw [if_neg (by omega), if_neg (by omega)]
    have h97 : ¬ 97 ≤ cI := by omega
    have HT : Hid ((-1 : Int) = tI) := by show _ = _; rw [ht, if_neg (by omega)]
    clear ht hd hc hb hlt
    go_enter Tryd.func26, Tryd.ntmps26
    go_wp2
    go_ret
    exact ⟨by rw [← HT.out]; rfl, rfl⟩

set_option maxHeartbeats 400000 in
theorem rfrom_no (S : ByteArray) (b : Int) (w : World) (h : b < 2 ∨ 36 < b) :
    Calls Tryd.prog 13 #[.string S, .int .i64 b] w (RetNE [] 2 w) := by
  by_cases h2 : b < 2
  · clear h
    go_enter Tryd.func13, Tryd.ntmps13
    go_wp2
    go_ret2
    exact ⟨_, rfl, isNil _ _, Below.refl _ _⟩
  · have h36 : 36 < b := by omega
    clear h
    go_enter Tryd.func13, Tryd.ntmps13
    go_wp2
    go_ret2
    exact ⟨_, rfl, isNil _ _, Below.refl _ _⟩

theorem numS_step {b : Nat} {l : List UInt8} {i : Nat} {c : UInt8} (h : l[i]? = some c) : numS b (l.take (i + 1)) = numS b (l.take i) * b + dv c := by
  rw [List.take_add_one, h]; exact numS_snoc b _ c
theorem bound_step {x b d i : Nat} (h : x < 10000 ^ i) (hd : d < b) (hb : b ≤ 36) : x * b + d < 10000 ^ (i + 1) := by
  have h1 : (x + 1) * b ≤ 10000 ^ i * b := Nat.mul_le_mul_right _ h
  have h2 : 10000 ^ i * b ≤ 10000 ^ i * 10000 := Nat.mul_le_mul_left _ (by omega)
  rw [Nat.pow_succ]
  rw [Nat.add_mul] at h1
  omega

set_option maxHeartbeats 3200000 in
set_option maxRecDepth 100000 in
theorem rfrom_any (S : ByteArray) (l : List UInt8) (bI : Int) (b : Nat) (w : World) (hS : StrIs S l) (hl : l.length ≤ 1000) (hbI : bI = (b : Int)) (h2 : 2 ≤ b) (h36 : b ≤ 36) :
    Calls Tryd.prog 13 #[.string S, .int .i64 bI] w (RetFr b l w) := by
  have HB := Lib.hid hbI
  have i2 : 2 ≤ bI := by omega
  have i36 : bI ≤ 36 := by omega
  have HSZ := Lib.hid hS.size
  have hs1 : S.size ≤ 1000 := by have := hS.size; omega
  clear hbI
  by_cases h0 : S.size = 0
  · have hl0 : l = [] := List.length_eq_zero_iff.1 (by have := HSZ.out; omega)
    have h0I : ((S.size : Int) == 0) = true := by rw [beq_iff_eq]; omega
    clear h0
    go_enter Tryd.func13, Tryd.ntmps13
    go_wp2
    go_ret2
    exact ⟨0, 5, .inr ⟨fun h1 => h1.1 hl0, rfl, rfl⟩, _, rfl, nil_digs _, Below.refl _ _⟩
  · have h0I : ((S.size : Int) == 0) = false := by rw [beq_eq_false_iff_ne]; omega
    go_enter Tryd.func13, Tryd.ntmps13
    go_wp2
    go_loopw [6, 7] (fun vo vi wr => ∃ i x : Nat, i ≤ S.size ∧ Hid (x = numS b (l.take i)) ∧ Hid (x < 10000 ^ i) ∧ Hid (∀ c ∈ l.take i, dv c < b) ∧ IsS wr .i64 vo (digs 10000 x) ∧ Below w.heap.size w wr ∧ vi = .int .i64 (i : Int)) (fun _ vi _ => S.size - (intOf vi).toNat)
    case atStart => exact ⟨0, 0, by omega, rfl, by show 0 < 10000 ^ 0; decide, by intro c hc; simp at hc, by rw [digs_zero]; exact (own_lit0 w w.heap.size _ .i64 (Nat.le_refl _)).isS, below_alloc (Nat.le_refl _) _, rfl⟩
    case round =>
      obtain ⟨i, x, hi, HX, HXb, HA, kx, hb, rfl⟩ := hrel
      have lx : (digs 10000 x).length ≤ i := digs_len_le (by omega) HXb.out
      by_cases hp : i < S.size
      · have hat := hS.at_ hp
        obtain ⟨A, cp, rfl, _⟩ := id kx
        by_cases hd : dv (S[i]'hp) < b
        · obtain ⟨tI, htI⟩ : ∃ tI : Int, tI = ((dv (S[i]'hp) : Nat) : Int) := ⟨_, rfl⟩
          have HT : Hid (tI = if dv (S[i]'hp) < b then (dv (S[i]'hp) : Int) else -1) := by show _ = _; rw [if_pos hd]; exact htI
          have t0 : ¬ tI < 0 := by omega
          have HX2 : Hid (x * b + dv (S[i]'hp) = numS b (l.take (i + 1))) := by show _ = _; rw [numS_step hat, HX.out]
          have HXb2 : Hid (x * b + dv (S[i]'hp) < 10000 ^ (i + 1)) := bound_step HXb.out hd h36
          have HA2 : Hid (∀ c ∈ l.take (i + 1), dv c < b) := by
            intro c hc
            rw [List.take_add_one, hat] at hc
            rcases List.mem_append.1 hc with hc | hc
            · exact HA.out c hc
            · simp at hc; rw [hc]; exact hd
          obtain ⟨y, hy⟩ : ∃ y, y = x * b + dv (S[i]'hp) := ⟨_, rfl⟩
          have HY := Lib.hid hy
          have HTI := Lib.hid htI
          have hdb : dv (S[i]'hp) ≤ 4294967296 := by omega
          rw [← hy] at HX2 HXb2
          clear hat hd htI hy
          go_wp2_with fail
          refine (rdigit_any _ bI tI (S[i]'hp) b _ rfl HB.out h2 h36 HT.out).mono ?_
          rintro e w' ⟨rfl, rfl⟩
          go_wp2_with fail
          refine (mulAdd_any _ x bI tI b (dv (S[i]'hp)) _ HB.out HTI.out kx (by omega) (by omega) hdb y HY.out).mono ?_
          rintro e w3 ⟨v3, rfl, k3, f3, b3⟩
          have hb3 := hb.trans (b3.mono hb.size)
          go_wp2
          go_roundw
          case rel => exact ⟨i + 1, y, by omega, HX2, HXb2, HA2, k3, hb3, by go_num⟩
          case measure => simp [intOf]; omega
        · have HT : Hid ((-1 : Int) = if dv (S[i]'hp) < b then (dv (S[i]'hp) : Int) else -1) := by show _ = _; rw [if_neg hd]
          have hno := not_ok hat hd
          clear hat hd
          go_wp2_with fail
          refine (rdigit_any _ bI (-1) (S[i]'hp) b _ rfl HB.out h2 h36 HT.out).mono ?_
          rintro e w' ⟨rfl, rfl⟩
          go_wp2
          go_ret2
          exact ⟨0, 5, .inr ⟨hno, rfl, rfl⟩, _, rfl, nil_digs _, hb⟩
      · have hil : l.take i = l := List.take_of_length_le (by have := HSZ.out; omega)
        have hx := HX.out
        have hA := HA.out
        rw [hil] at hx hA
        have hok : okS b l := ⟨fun e => by have h1 := HSZ.out; rw [e, List.length_nil] at h1; omega, hA⟩
        have l32 : (digs 4294967296 x).length ≤ 100000 := by
          have h1 : (digs 4294967296 x).length ≤ i := digs_len_le (by omega) (Nat.lt_of_lt_of_le HXb.out (Nat.pow_le_pow_left (by omega) _))
          omega
        have HXX := Lib.hid hx
        clear hil hx hA
        go_wp2_with fail
        refine (refBack_any _ x _ kx (by omega) l32).mono ?_
        rintro e w3 ⟨v3, rfl, k3, f3, b3⟩
        go_wp2
        go_ret2
        exact ⟨x, 0, .inl ⟨hok, HXX.out, rfl⟩, _, rfl, k3, hb.trans (b3.mono hb.size)⟩
end Go.Proofs.YtlepoheinemfcaaDoor.str
