/- Package nat: Sub. Condition: slices read as limbs. -/
import Derived.Test.YtcgmbmiingppgaaNatC
namespace Go.Proofs.Ytcgmbmiingppgaa.nat
open Go.RowKit Go.Proofs.Ytcgmbmiingppgaa.num Go.Proofs.Ytcgmbmiingppgaa.mem Go.Proofs.Ytcgmbmiingppgaa.limb
set_option linter.unusedVariables false

theorem fresh_nil (B : Nat) : Fresh B (.slice none 0 0) := fun ad n c e => by injection e with e _ _; injection e
theorem take_set_step {o : List Nat} {k s : Nat} (hk : k < o.length) : (o.set k s).take (k + 1) = o.take k ++ [s] := by
  rw [take_step (l := o.set k s) (d := s) (List.getElem?_set_self hk), List.take_set_of_le (Nat.le_refl _)]

set_option maxHeartbeats 400000 in
theorem sub_less (v u : Value) (x y : Nat) (w : World) (h : IsS w .u64 v (digs 4294967296 x)) (h' : IsS w .u64 u (digs 4294967296 y)) (hxy : x < y) :
    Calls Try.prog 33 #[v, u] w (RetSI .u64 [] 6 w) := by
  have HO := Lib.hid (ord_lt hxy).symm
  clear hxy
  go_enter Try.func33, Try.ntmps33
  go_wp2_with fail
  refine (cmp_any _ _ _ _ (-1) _ h h' HO.out).mono ?_
  rintro e w' ⟨rfl, hb⟩
  go_wp2
  go_ret2
  exact ⟨_, rfl, isNil _ _, fresh_nil _, hb⟩

set_option maxHeartbeats 800000 in
theorem sub_ok (v u : Value) (x y : Nat) (w : World) (h : IsS w .u64 v (digs 4294967296 x)) (h' : IsS w .u64 u (digs 4294967296 y)) (hl : (digs 4294967296 x).length ≤ 1000000) (hxy : y ≤ x) (z : Nat) (hz : z = x - y) :
    Calls Try.prog 33 #[v, u] w (RetSI .u64 (digs 4294967296 z) 0 w) := by
  obtain ⟨t, ht⟩ : ∃ t, t = ord x y := ⟨_, rfl⟩
  have ht0 : ¬ t < 0 := by rw [ht, ord_lt0]; omega
  have HO := Lib.hid ht
  have HZ := Lib.hid hz
  have HXY := Lib.hid hxy
  clear ht hz hxy
  have lt1 := digs_lt (B := 4294967296) (by omega) x
  have lt2 := digs_lt (B := 4294967296) (by omega) y
  have hv := h
  obtain ⟨A, c, rfl, hc, hm, hr⟩ := h
  go_enter Try.func33, Try.ntmps33
  go_wp2_with fail
  refine (cmp_any _ _ _ _ t _ hv h' HO.out).mono ?_
  rintro e w1 ⟨rfl, hb1⟩
  have hsz1 := hb1.size
  go_wp2_with (at_make; refine wpList_make_rd rfl _ _ rfl sl24 (digs 4294967296 x).length rfl rfl rfl rfl (by omega) (Nat.le_refl _) ?_; intro w2 hown2 hb2 hz2)
  go_loopw [7, 19] (fun vc vi wr => ∃ (k cy : Nat) (o : List Nat), k ≤ (digs 4294967296 x).length ∧ cy ≤ 1 ∧ o.length ≤ (digs 4294967296 x).length ∧ (digs 4294967296 x).length ≤ o.length ∧ SB 4294967296 (digs 4294967296 x) (digs 4294967296 y) k cy (o.take k) ∧ Own wr w1.heap.size 30 .u64 (.slice (some ⟨w1.heap.size, 0, none⟩) (digs 4294967296 x).length (digs 4294967296 x).length) o ∧ Below w1.heap.size w1 wr ∧ vc = .int .u64 (cy : Int) ∧ vi = .int .i64 (k : Int)) (fun _ vi _ => (digs 4294967296 x).length - (intOf vi).toNat)
  case atStart => exact ⟨0, 0, List.replicate (digs 4294967296 x).length 0, by omega, by omega, by simp, by simp, SB.start _ _ _, hown2, hb2, rfl, rfl⟩
  case round =>
    clear hown2 hb2 hz2
    obtain ⟨k, cy, o, hk, hcy, ho1, ho2, hS, hown, hb, rfl, rfl⟩ := hrel
    have hsz := hb.size
    by_cases hp : k < (digs 4294967296 x).length
    · obtain ⟨ad, d, rfl, hd, hcell⟩ := ((hr.below hb1).below hb).at_ hp
      have hd1 := lt1.at hd
      obtain ⟨e, he⟩ := AtD.of (digs 4294967296 y) k
      have he1 := he.lt lt2 (by omega)
      obtain ⟨a', ha'⟩ : ∃ a', o[k]? = some a' := ⟨_, List.getElem?_eq_getElem (by omega)⟩
      have hc' := hown.cellAt ha'
      have hf' := hown.frozenAt k
      have HS : Hid (∀ s c', s < 4294967296 → s + e + cy = d + 4294967296 * c' → SB 4294967296 (digs 4294967296 x) (digs 4294967296 y) (k + 1) c' ((o.set k s).take (k + 1))) := by
        intro s c' hs heq
        rw [take_set_step (by omega)]
        exact hS.step hd he hs heq
      have HE := Lib.hid he
      clear hd ha' he hS
      go_wp2_with fail
      refine (at_any _ _ _ k e _ rfl ((h'.below hb1).below hb) HE.out).mono ?_
      rintro e' w3 ⟨rfl, rfl⟩
      go_wp2_with fail
      refine (limb.sub_any _ _ _ (by omega) (by omega) (by omega) (by omega) (by omega) (by omega) _).mono ?_
      rintro e' w4 ⟨s, c2, rfl, H, rfl⟩
      unfold SubSpec at H
      obtain ⟨s0, s1, c0, c1, heq⟩ := H
      obtain ⟨s, rfl⟩ := Int.eq_ofNat_of_zero_le s0
      obtain ⟨c2, rfl⟩ := Int.eq_ofNat_of_zero_le c0
      have HQ : Hid (s + e + cy = d + 4294967296 * c2) := by show _ = _; omega
      have c3 : c2 ≤ 1 := by omega
      clear heq
      go_wp2
      go_roundw
      case rel => exact ⟨k + 1, c2, o.set k s, by omega, c3, by simpa using ho1, by simpa using ho2, HS.out s c2 (by omega) HQ.out, hown.stored k s, hb.setCell (Nat.le_refl _) _, rfl, by go_num⟩
      case measure => simp [intOf]; omega
    · obtain rfl : k = (digs 4294967296 x).length := by omega
      have hml := digs_len_mono (B := 4294967296) (by omega) HXY.out
      rw [List.take_of_length_le ho1] at hS
      obtain ⟨g1, g2⟩ := hS.done hml (by rw [val_digs (by omega), val_digs (by omega)]; exact HXY.out)
      rw [val_digs (by omega), val_digs (by omega)] at g2
      have HV : Hid (z = val 4294967296 o) := by show _ = _; rw [g2]; exact HZ.out
      clear g2 hS
      go_wp2_with fail
      refine (trimmed_digs _ o z _ hown.isS g1 HV.out).mono ?_
      rintro e w' ⟨v', rfl, hv', hf, rfl⟩
      go_wp2
      go_ret2
      exact ⟨_, rfl, hv', (hf _ (fresh_at (Nat.le_refl _))).mono hsz1, hb1.trans (hb.mono hsz1)⟩

/-- What raised keeps behind k rounds. -/
def RA (l : List Nat) (n k up : Nat) (o : List Nat) : Prop := Lt 4294967296 o ∧ o.length = k ∧ val 4294967296 o + 4294967296 ^ k * up = val 4294967296 (l.take k) * 2 ^ n
theorem RA.start (l : List Nat) (n : Nat) : RA l n 0 0 [] := by unfold RA; exact ⟨Lt.nil _, rfl, by simp [val]⟩
theorem RA.step {l o : List Nat} {n k up d s c : Nat} (h : RA l n k up o) (hd : l[k]? = some d) (hs : s < 4294967296) (he : s + 4294967296 * c = d * 2 ^ n + up) : RA l n (k + 1) c (o ++ [s]) := by
  unfold RA at h ⊢
  obtain ⟨h1, h2, h3⟩ := h
  refine ⟨h1.snoc hs, by simp [h2], ?_⟩
  rw [val_snoc, h2, val_take_step hd, Nat.add_mul, ← h3, Nat.pow_succ, Nat.mul_assoc, Nat.mul_assoc, Nat.add_assoc, ← Nat.mul_add, he, Nat.mul_add]; omega
theorem RA.done {l o : List Nat} {n up : Nat} (h : RA l n l.length up o) (hu : up < 4294967296) : Lt 4294967296 (o ++ [up]) ∧ (o ++ [up]).length = l.length + 1 ∧ val 4294967296 (o ++ [up]) = val 4294967296 l * 2 ^ n := by
  unfold RA at h
  obtain ⟨h1, h2, h3⟩ := h
  rw [List.take_length] at h3
  exact ⟨h1.snoc hu, by simp [h2], by rw [val_snoc, h2]; exact h3⟩
/-- raised ends with a new slice of one limb more, times 2 to the n. -/
def RetRa (x n len : Nat) (w : World) (e : Ending) (w' : World) : Prop := ∃ v r, e = .returned v ∧ IsS w' .u64 v r ∧ Lt 4294967296 r ∧ r.length = len + 1 ∧ val 4294967296 r = x * 2 ^ n ∧ Fresh w.heap.size v ∧ Below w.heap.size w w'

set_option maxHeartbeats 800000 in
theorem raised_any (v : Value) (x : Nat) (nI : Int) (n : Nat) (w : World) (hn : nI = (n : Int)) (h : IsS w .u64 v (digs 4294967296 x)) (hl : (digs 4294967296 x).length ≤ 1000000) (hn31 : n ≤ 31) :
    Calls Try.prog 47 #[v, .int .i64 nI] w (RetRa x n (digs 4294967296 x).length w) := by
  subst hn
  have lt1 := digs_lt (B := 4294967296) (by omega) x
  obtain ⟨p, hp⟩ : ∃ p, p = 2 ^ n := ⟨_, rfl⟩
  have hpb : p ≤ 2147483648 := by rw [hp]; exact Nat.pow_le_pow_right (j := 31) (by omega) hn31
  have HP := Lib.hid hp
  have hw : IntKind.u64.wrap ((2 : Int) ^ n) = (p : Int) := by
    rw [← two_cast, ← hp, IntKind.wrap_u64]; omega
  clear hp
  obtain ⟨A, c, rfl, hc, hm, hr⟩ := h
  go_enter Try.func47, Try.ntmps47
  go_wp2_with (at_make; refine wpList_make_rd rfl _ _ rfl sl24 ((digs 4294967296 x).length + 1) rfl rfl (by omega) (by omega) (by omega) (Nat.le_refl _) ?_; intro w2 hown2 hb2 hz2)
  go_loopw [6, 15] (fun vc vi wr => ∃ (k cy : Nat) (o : List Nat), k ≤ (digs 4294967296 x).length ∧ cy < 4294967296 ∧ o.length ≤ (digs 4294967296 x).length + 1 ∧ (digs 4294967296 x).length + 1 ≤ o.length ∧ RA (digs 4294967296 x) n k cy (o.take k) ∧ Own wr w.heap.size 30 .u64 (.slice (some ⟨w.heap.size, 0, none⟩) ((digs 4294967296 x).length + 1) ((digs 4294967296 x).length + 1)) o ∧ Below w.heap.size w wr ∧ vc = .int .u64 (cy : Int) ∧ vi = .int .i64 (k : Int)) (fun _ vi _ => (digs 4294967296 x).length - (intOf vi).toNat)
  case atStart => exact ⟨0, 0, List.replicate ((digs 4294967296 x).length + 1) 0, by omega, by omega, by simp, by simp, RA.start _ _, hown2, hb2, rfl, rfl⟩
  case round =>
    clear hown2 hb2 hz2
    obtain ⟨k, cy, o, hk, hcy, ho1, ho2, hS, hown, hb, rfl, rfl⟩ := hrel
    have hsz := hb.size
    by_cases hp : k < (digs 4294967296 x).length
    · obtain ⟨ad, d, rfl, hd, hcell⟩ := (hr.below hb).at_ hp
      have hd1 := lt1.at hd
      obtain ⟨a', ha'⟩ : ∃ a', o[k]? = some a' := ⟨_, List.getElem?_eq_getElem (by omega)⟩
      have hc' := hown.cellAt ha'
      have hf' := hown.frozenAt k
      have HS : Hid (∀ s c', s < 4294967296 → s + 4294967296 * c' = d * 2 ^ n + cy → RA (digs 4294967296 x) n (k + 1) c' ((o.set k s).take (k + 1))) := by
        intro s c' hs heq
        rw [take_set_step (by omega)]
        exact hS.step hd hs heq
      have hpo : d * p ≤ 4294967295 * 2147483648 := Nat.mul_le_mul (by omega) hpb
      clear hd ha' hS
      go_wp2_with fail
      refine (limb.mul_any _ _ _ _ (by omega) (by omega) (by omega) (by omega) (by omega) (by omega) (by omega) (by omega) _).mono ?_
      rintro e' w4 ⟨s, c2, rfl, H, rfl⟩
      unfold MulSpec at H
      rw [show (d : Int) % 4294967296 = (d : Int) from by omega, show (p : Int) % 4294967296 = (p : Int) from by omega] at H
      obtain ⟨s0, s1, c0, c1, heq⟩ := H
      obtain ⟨s, rfl⟩ := Int.eq_ofNat_of_zero_le s0
      obtain ⟨c2, rfl⟩ := Int.eq_ofNat_of_zero_le c0
      have HQ : Hid (s + 4294967296 * c2 = d * 2 ^ n + cy) := by
        show _ = _
        rw [← HP.out]
        have e1 : ((d * p : Nat) : Int) = (d : Int) * (p : Int) := by simp
        rw [← e1] at heq
        omega
      clear heq hpo
      go_wp2
      go_roundw
      case rel => exact ⟨k + 1, c2, o.set k s, by omega, by omega, by simpa using ho1, by simpa using ho2, HS.out s c2 (by omega) HQ.out, hown.stored k s, hb.setCell (Nat.le_refl _) _, rfl, by go_num⟩
      case measure => simp [intOf]; omega
    · obtain rfl : k = (digs 4294967296 x).length := by omega
      obtain ⟨a', ha'⟩ : ∃ a', o[(digs 4294967296 x).length]? = some a' := ⟨_, List.getElem?_eq_getElem (by omega)⟩
      have hc' := hown.cellAt ha'
      have hf' := hown.frozenAt (digs 4294967296 x).length
      obtain ⟨g1, g2, g3⟩ := hS.done hcy
      rw [← take_set_step (by omega), List.take_of_length_le (by rw [List.length_set]; exact ho1)] at g1 g2 g3
      rw [val_digs (by omega)] at g3
      have hown' := hown.stored (digs 4294967296 x).length cy
      have hb' : Below w.heap.size w (wr.setCell ⟨w.heap.size, (digs 4294967296 x).length, none⟩ (.int .u64 (cy : Int))) := hb.setCell (Nat.le_refl _) _
      have G2 := Lib.hid g2
      have G3 := Lib.hid g3
      clear g2 g3 hS ha'
      go_wp2
      go_ret
      exact ⟨_, _, rfl, hown'.isS, g1, G2.out, G3.out, hown'.fresh, hb'⟩
end Go.Proofs.Ytcgmbmiingppgaa.nat
