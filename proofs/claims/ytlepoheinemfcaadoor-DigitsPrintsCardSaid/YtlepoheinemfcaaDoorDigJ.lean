/- Layer 6's example; what the laws ask of texts. -/
import Derived.Test.YtlepoheinemfcaaDoorDigI
namespace Go.Proofs.YtlepoheinemfcaaDoor.str
open Go.RowKit Go.Proofs.YtlepoheinemfcaaDoor.num Go.Proofs.YtlepoheinemfcaaDoor.mem Go.Proofs.YtlepoheinemfcaaDoor.txt Go.Proofs.YtlepoheinemfcaaDoor.nat
set_option linter.unusedVariables false

/-- The call ends with a number that the relation tells, and an error; what was there is as it was. -/
def RetGG (G : Nat → Int → Prop) (w : World) (e : Ending) (w' : World) : Prop := ∃ x en, G x en ∧ RetNE (digs 4294967296 x) en w e w'
theorem numS_len {b : Nat} (h36 : b ≤ 36) {l : List UInt8} (h : okS b l) : (digs 4294967296 (numS b l)).length ≤ l.length := by
  have h1 := val_lt h.lt
  rw [List.length_map, List.length_reverse] at h1
  exact digs_len_le (by omega) (Nat.lt_of_lt_of_le h1 (Nat.pow_le_pow_left (by omega) _))
theorem txt_len {b x : Nat} (h2 : 2 ≤ b) (h : (digs 4294967296 x).length ≤ 30) : (txt b x).length ≤ 1000 := by
  unfold txt
  split
  · simp
  · rw [List.length_map, List.length_reverse]
    have h1 : x < 4294967296 ^ (digs 4294967296 x).length := digs_lt_pow (by omega) x
    rw [pow32] at h1
    have h3 : 2 ^ (32 * (digs 4294967296 x).length) ≤ b ^ (32 * (digs 4294967296 x).length) := Nat.pow_le_pow_left h2 _
    exact Nat.le_trans (digs_len_le h2 (Nat.lt_of_lt_of_le h1 h3)) (by omega)
/-- The example's text. -/
def ex : List UInt8 := [52, 50, 57, 52, 57, 54, 55, 50, 57, 54]
theorem ex_ok : okS 10 ex := ⟨by simp [ex], by decide⟩
theorem ex_num : numS 10 ex = 4294967296 := by decide
theorem ex_txt : txt 10 4294967296 = ex := by
  have h := txt_num (b := 10) (by omega) (by omega) (c := 52) (s := [50, 57, 52, 57, 54, 55, 50, 57, 54]) ex_ok (by decide)
  rw [show numS 10 [52, 50, 57, 52, 57, 54, 55, 50, 57, 54] = 4294967296 from ex_num] at h
  exact h
theorem ex_digs : digs 4294967296 4294967296 = [0, 1] := by
  rw [digs_pos (by omega) (by omega), digs_pos (by omega) (by omega), show 4294967296 / 4294967296 / 4294967296 = 0 from by decide, digs_zero]
theorem lit_two (w : World) : IsS (w.alloc (.cells #[.int .u64 0, .int .u64 1] 38)) .u64 (.slice (some ⟨w.heap.size, 0, none⟩) 2 2) (digs 4294967296 4294967296) := by
  rw [ex_digs]
  exact (own_lit2 w 0 38 .u64 (d := 0) (f := 1) rfl rfl (Nat.zero_le _)).isS
set_option maxHeartbeats 3200000 in
set_option maxRecDepth 100000 in
theorem works6_any (w : World) : Calls Tryd.prog 11 #[] w (RetV (.bool true) w) := by
  have HL : Hid ((digs 4294967296 4294967296).length ≤ 150) := by show _ ≤ _; rw [ex_digs]; simp
  go_enter Tryd.func11, Tryd.ntmps11
  go_wp2_with fail
  refine (parse_any ⟨ex.toArray⟩ ex _ (StrIs.mk ex) (by simp [ex])).mono ?_
  rintro e w1 ⟨x, en, hF, v, rfl, hv, b1⟩
  obtain ⟨rfl, rfl⟩ : x = 4294967296 ∧ en = 0 := FromR.one (.inl ⟨ex_ok, ex_num.symm, rfl⟩) hF
  obtain ⟨A, c, rfl, _⟩ := id hv
  go_wp2_with fail
  have b2 : Below w1.heap.size w1 (w1.alloc (.cells #[.int .u64 0, .int .u64 1] 38)) := below_alloc (Nat.le_refl _) _
  refine (print_any _ 4294967296 _ (lit_two w1) HL.out).mono ?_
  rintro e w2 ⟨R, rfl, hR, b3⟩
  have B2 := b1.trans (b2.mono b1.size)
  have B3 := B2.trans (b3.mono B2.size)
  have hv2 := hv.below (b2.trans (b3.mono b2.size))
  rw [ex_txt] at hR
  have hcmp : R.toList = [52, 50, 57, 52, 57, 54, 55, 50, 57, 54] := by rw [Lib.toList_data]; exact hR
  have hcmp2 : (R.toList == [52, 50, 57, 52, 57, 54, 55, 50, 57, 54]) = true := by rw [hcmp]; rfl
  go_wp2_with fail
  have b4 : Below w2.heap.size w2 (w2.alloc (.cells #[.int .u64 0, .int .u64 1] 38)) := below_alloc (Nat.le_refl _) _
  refine (same_one _ _ 4294967296 _ (hv2.below b4) (lit_two w2)).mono ?_
  rintro e w3 ⟨rfl, b5⟩
  have B4 := B3.trans (b4.mono B3.size)
  have B5 := B4.trans (b5.mono B4.size)
  go_wp2_with fail
  refine (print_any _ 0 _ (nil_digs w3) (by rw [digs_zero]; simp)).mono ?_
  rintro e w4 ⟨R2, rfl, hR2, b6⟩
  rw [txt_zero] at hR2
  have hcmp3 : R2.toList = [48] := by rw [Lib.toList_data]; exact hR2
  have hcmp4 : (R2.toList == [48]) = true := by rw [hcmp3]; rfl
  go_wp2
  go_ret
  exact ⟨rfl, B5.trans (b6.mono B5.size)⟩
end Go.Proofs.YtlepoheinemfcaaDoor.str
