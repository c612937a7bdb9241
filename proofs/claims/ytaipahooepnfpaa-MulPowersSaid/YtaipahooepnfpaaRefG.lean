/- The document's own Mul of layer 2. Condition: slices read as digits. -/
import Derived.Test.YtaipahooepnfpaaRefF
import Derived.IntWalk
namespace Go.Proofs.Ytaipahooepnfpaa.nat
open Go.RowKit Go.Proofs.Ytaipahooepnfpaa.num Go.Proofs.Ytaipahooepnfpaa.mem
set_option linter.unusedVariables false

/-- What Mul's outer loop keeps: behind i digits of the first number. -/
def MO (l m : List Nat) (i : Nat) (o : List Nat) : Prop := Lt 10000 o ∧ o.length = l.length + m.length + 1 ∧ val 10000 o = val 10000 (l.take i) * val 10000 m
/-- What its inner loop keeps: behind j digits of the second one. -/
def MI (l m : List Nat) (i a j c : Nat) (o : List Nat) : Prop := Lt 10000 o ∧ o.length = l.length + m.length + 1 ∧ val 10000 o + 10000 ^ (i + j) * c = val 10000 (l.take i) * val 10000 m + 10000 ^ i * (a * val 10000 (m.take j))
/-- What the loop behind keeps, which carries on at place k. -/
def MC (l m : List Nat) (i k c : Nat) (o : List Nat) : Prop := Lt 10000 o ∧ o.length = l.length + m.length + 1 ∧ val 10000 o + 10000 ^ k * c = val 10000 (l.take (i + 1)) * val 10000 m
theorem MO.start (l m : List Nat) : MO l m 0 (List.replicate (l.length + m.length + 1) 0) := by
  unfold MO; exact ⟨Lt.rep (by omega) _, by simp, by rw [val_rep]; simp [val]⟩
theorem MO.inner {l m o : List Nat} {i a : Nat} (h : MO l m i o) : MI l m i a 0 0 o := by
  unfold MO at h; unfold MI
  exact ⟨h.1, h.2.1, by simp [h.2.2, val]⟩
theorem MI.step {l m o : List Nat} {i a j c d b : Nat} (h : MI l m i a j c o) (hd : o[i + j]? = some d) (hb : m[j]? = some b) : MI l m i a (j + 1) ((c + d + a * b) / 10000) (o.set (i + j) ((c + d + a * b) % 10000)) := by
  unfold MI at h ⊢
  obtain ⟨h1, h2, h3⟩ := h
  refine ⟨h1.set (by omega) _, by simpa using h2, ?_⟩
  have hs := val_set (B := 10000) hd ((c + d + a * b) % 10000)
  rw [val_take_step hb, Nat.mul_add, Nat.mul_add, ← Nat.add_assoc (val 10000 (l.take i) * val 10000 m), ← h3, ← Nat.add_assoc i j 1, Nat.pow_succ, Nat.mul_assoc (10000 ^ (i + j))]
  have e1 : 10000 ^ (i + j) * ((c + d + a * b) % 10000) + 10000 ^ (i + j) * (10000 * ((c + d + a * b) / 10000)) = 10000 ^ (i + j) * c + 10000 ^ (i + j) * d + 10000 ^ (i + j) * (a * b) := by
    rw [← Nat.mul_add, ← Nat.mul_add, ← Nat.mul_add]; congr 1; omega
  have e2 : 10000 ^ i * (a * (10000 ^ j * b)) = 10000 ^ (i + j) * (a * b) := by rw [Nat.pow_add, Nat.mul_assoc, Nat.mul_left_comm a]
  rw [e2]; omega
theorem MI.carry {l m o : List Nat} {i a c : Nat} (h : MI l m i a m.length c o) (ha : l[i]? = some a) : MC l m i (i + m.length) c o := by
  unfold MI at h; unfold MC
  obtain ⟨h1, h2, h3⟩ := h
  refine ⟨h1, h2, ?_⟩
  rw [List.take_length] at h3
  rw [h3, val_take_step ha, Nat.add_mul, Nat.mul_assoc]
theorem MC.place {l m o : List Nat} {i k c : Nat} (h : MC l m i k c o) (lt1 : Lt 10000 l) (lt2 : Lt 10000 m) (hi : i < l.length) (hc : 0 < c) : k < i + 1 + m.length := by
  unfold MC at h
  obtain ⟨h1, h2, h3⟩ := h
  have h4 := val_lt (lt1.take (i + 1))
  have h5 := val_lt lt2
  rw [show (l.take (i + 1)).length = i + 1 from by simp; omega] at h4
  have h6 : val 10000 (l.take (i + 1)) * val 10000 m < 10000 ^ (i + 1) * 10000 ^ m.length := Nat.mul_lt_mul'' h4 h5
  rw [← Nat.pow_add] at h6
  have h7 := Nat.mul_le_mul_left (10000 ^ k) hc
  rcases Nat.lt_or_ge k (i + 1 + m.length) with h8 | h8
  · exact h8
  · have := Nat.pow_le_pow_right (n := 10000) (by omega) h8
    omega
theorem MC.step {l m o : List Nat} {i k c d : Nat} (h : MC l m i k c o) (hd : o[k]? = some d) : MC l m i (k + 1) ((c + d) / 10000) (o.set k ((c + d) % 10000)) := by
  unfold MC at h ⊢
  obtain ⟨h1, h2, h3⟩ := h
  refine ⟨h1.set (by omega) _, by simpa using h2, ?_⟩
  have hs := val_set (B := 10000) hd ((c + d) % 10000)
  rw [← h3, Nat.pow_succ, Nat.mul_assoc (10000 ^ k)]
  have e1 : 10000 ^ k * ((c + d) % 10000) + 10000 ^ k * (10000 * ((c + d) / 10000)) = 10000 ^ k * c + 10000 ^ k * d := by
    rw [← Nat.mul_add, ← Nat.mul_add]; congr 1; omega
  omega
theorem MC.done {l m o : List Nat} {i k : Nat} (h : MC l m i k 0 o) : MO l m (i + 1) o := by
  unfold MC at h; unfold MO
  exact ⟨h.1, h.2.1, by simpa using h.2.2⟩
theorem MO.done {l m o : List Nat} (h : MO l m l.length o) : Lt 10000 o ∧ val 10000 o = val 10000 l * val 10000 m := by
  unfold MO at h
  rw [List.take_length] at h
  exact ⟨h.1, h.2.2⟩

set_option maxHeartbeats 1600000 in
theorem refMul_list (v u : Value) (l m : List Nat) (w : World) (h : IsS w .i64 v l) (h' : IsS w .i64 u m) (lt1 : Lt 10000 l) (lt2 : Lt 10000 m) (hl : l.length ≤ 1000000) (hl' : m.length ≤ 1000000) :
    Calls Try.prog 23 #[v, u] w (RetS .i64 (digs 10000 (val 10000 l * val 10000 m)) w) := by
  obtain ⟨A, cA, rfl, hc, hm, hr⟩ := h
  obtain ⟨A', cA', rfl, hc', hmm, hr'⟩ := h'
  go_enter Try.func23, Try.ntmps23
  go_wp2_with (at_make; refine wpList_make_rd rfl _ _ rfl sl33 (l.length + m.length + 1) rfl rfl (by omega) (by omega) (by omega) (Nat.le_refl _) ?_; intro w1 hown1 hb1 hz1)
  go_loopw [6] (fun vi wr => ∃ (i : Nat) (o : List Nat), i ≤ l.length ∧ MO l m i o ∧ Own wr w.heap.size 3 .i64 (.slice (some ⟨w.heap.size, 0, none⟩) (l.length + m.length + 1) (l.length + m.length + 1)) o ∧ Below w.heap.size w wr ∧ vi = .int .i64 (i : Int)) (fun vi _ => l.length - (intOf vi).toNat)
  case atStart => exact ⟨0, _, by omega, MO.start l m, hown1, hb1, rfl⟩
  case round =>
    clear hown1 hb1 hz1
    obtain ⟨i, o, hi, hM, hown, hb, rfl⟩ := hrel
    obtain ⟨wo, rfl⟩ : ∃ wo : World, wo = wr := ⟨_, rfl⟩
    by_cases hlt : i < l.length
    · obtain ⟨ad, a, rfl, ha, hcell⟩ := hr.at_ hlt
      have ha1 := lt1.at ha
      have HA := Lib.hid ha
      have HI := hM.inner (a := a)
      clear hM ha
      go_wp2
      go_loopw [7, 8] (fun vc vj wr => ∃ (j c : Nat) (o : List Nat), j ≤ m.length ∧ c ≤ 9999 ∧ MI l m i a j c o ∧ Own wr w.heap.size 3 .i64 (.slice (some ⟨w.heap.size, 0, none⟩) (l.length + m.length + 1) (l.length + m.length + 1)) o ∧ Below w.heap.size w wr ∧ vc = .int .i64 (c : Int) ∧ vj = .int .i64 (j : Int)) (fun _ vj _ => m.length - (intOf vj).toNat)
      case atStart => exact ⟨0, 0, o, by omega, by omega, HI, hown, hb, rfl, rfl⟩
      case round =>
        clear HI hown hb
        obtain ⟨j, c, o2, hj, hc9, hI, hown, hb, rfl, rfl⟩ := hrel
        have hcl := (hr.below hb).at_ hlt
        by_cases hlt2 : j < m.length
        · obtain ⟨ad', b, rfl, hbj, hcell'⟩ := (hr'.below hb).at_ hlt2
          have hb1 := lt2.at hbj
          obtain ⟨d, hd⟩ : ∃ d, o2[i + j]? = some d := ⟨_, List.getElem?_eq_getElem (by have := hI.2.1; omega)⟩
          have hd1 := hI.1.at hd
          have hc0 := hown.cellAt hd
          have hf0 := hown.frozenAt (i + j)
          have hcell0 := (hb.cell (World.block_lt_of_cell? w _ hcell)).trans hcell
          have HS := Lib.hid (hI.step hd hbj)
          have hpr : a * b ≤ 9999 * 9999 := Nat.mul_le_mul (by omega) (by omega)
          clear hd hbj hI hcl
          have w1 : IntKind.i64.wrap ((i : Int) + (j : Int)) = (i : Int) + (j : Int) := IntWalk.i64_in _ (by omega)
          have w2 : IntKind.i64.wrap ((c : Int) + (d : Int)) = (c : Int) + (d : Int) := IntWalk.i64_in _ (by omega)
          have w3 : IntKind.i64.wrap ((a : Int) * (b : Int)) = (a : Int) * (b : Int) := IntWalk.i64_in _ (by omega)
          have w4 : IntKind.i64.wrap ((c : Int) + (d : Int) + (a : Int) * (b : Int)) = (c : Int) + (d : Int) + (a : Int) * (b : Int) := IntWalk.i64_in _ (by omega)
          go_wp2
          go_quiet (fail)
          clear w1 w2 w3 w4
          go_wp2
          go_roundw
          case rel => exact ⟨j + 1, (c + d + a * b) / 10000, _, by omega, by omega, HS.out, (hown.drewN _).stored' (i + j) ((c + d + a * b) % 10000) (by omega), (below_drewN hb _).setCell (Nat.le_refl _) _, int_eq (by omega), by go_num⟩
          case measure => simp [intOf]; omega
        · obtain rfl : j = m.length := by omega
          have HC := hI.carry HA.out
          clear hI hcl
          go_wp2
          go_loopw [7, 9] (fun vc vk wr => ∃ (k c : Nat) (o : List Nat), k ≤ l.length + m.length ∧ c ≤ 9999 ∧ MC l m i k c o ∧ Own wr w.heap.size 3 .i64 (.slice (some ⟨w.heap.size, 0, none⟩) (l.length + m.length + 1) (l.length + m.length + 1)) o ∧ Below w.heap.size w wr ∧ vc = .int .i64 (c : Int) ∧ vk = .int .i64 (k : Int)) (fun _ vk _ => l.length + m.length + 1 - (intOf vk).toNat)
          case atStart => exact ⟨i + m.length, c, o2, by omega, hc9, HC, hown, hb, rfl, int_eq (by omega)⟩
          case round =>
            clear HC hown hb
            obtain ⟨k, c2, o3, hk, hc9, hC, hown, hb, rfl, rfl⟩ := hrel
            by_cases hp : 0 < c2
            · have hpl := hC.place lt1 lt2 hlt hp
              obtain ⟨d, hd⟩ : ∃ d, o3[k]? = some d := ⟨_, List.getElem?_eq_getElem (by have := hC.2.1; omega)⟩
              have hd1 := hC.1.at hd
              have hc0 := hown.cellAt hd
              have hf0 := hown.frozenAt k
              have HS := Lib.hid (hC.step hd)
              clear hd hC
              go_wp2
              go_roundw
              case rel => exact ⟨k + 1, (c2 + d) / 10000, _, by omega, by omega, HS.out, hown.stored' k ((c2 + d) % 10000) (by omega), hb.setCell (Nat.le_refl _) _, int_eq (by omega), by go_num⟩
              case measure => simp [intOf]; omega
            · obtain rfl : c2 = 0 := by omega
              have HO := hC.done
              clear hC
              go_wp2
              go_roundw
              case rel => exact ⟨i + 1, o3, by omega, HO, hown, hb, by go_num⟩
              case measure => simp [intOf]; omega
    · obtain rfl : i = l.length := by omega
      obtain ⟨g1, g2⟩ := hM.done
      have HV := Lib.hid g2
      have hol : o.length ≤ 1000000000000 := by have := hM.2.1; omega
      have hsz := hb.size
      clear g2 hM
      go_wp2_with fail
      refine (refTrim_any _ _ _ hown.isS g1 hol).mono ?_
      rintro e w' ⟨v2, rfl, hv, hf, hb2⟩
      go_wp2
      go_ret
      exact ⟨_, rfl, by rw [HV.out] at hv; exact hv, hf.mono hsz, hb.trans (hb2.mono hsz)⟩
theorem refMul_any (v u : Value) (x y : Nat) (w : World) (h : IsS w .i64 v (digs 10000 x)) (h' : IsS w .i64 u (digs 10000 y)) (hl : (digs 10000 x).length ≤ 1000000) (hl' : (digs 10000 y).length ≤ 1000000) :
    Calls Try.prog 23 #[v, u] w (RetS .i64 (digs 10000 (x * y)) w) := by
  have := refMul_list v u _ _ w h h' (digs_lt (by omega) x) (digs_lt (by omega) y) hl hl'
  rwa [val_digs (by omega), val_digs (by omega)] at this
end Go.Proofs.Ytaipahooepnfpaa.nat
