/- Where a rune stands among the digits' letters. Condition: a base from 2 to 36. -/
import Derived.Test.YtlepoheinemfcaaDoorStrC
namespace Go.Proofs.YtlepoheinemfcaaDoor.str
open Go.RowKit Go.Proofs.YtlepoheinemfcaaDoor.num Go.Proofs.YtlepoheinemfcaaDoor.mem Go.Proofs.YtlepoheinemfcaaDoor.txt
set_option linter.unusedVariables false

set_option maxHeartbeats 1600000 in
set_option maxRecDepth 100000 in
theorem idxRune_low (S : ByteArray) (l : List UInt8) (r : Int) (w : World) (hS : StrIs S l) (h0 : 0 ≤ r) (h1 : r < 128) :
    Calls Tryd.prog 24 #[.string S, .int .i32 r] w (RetV (.int .i64 (Lib.indexByte l r.toNat.toUInt8)) w) := by
  go_enter Tryd.func24, Tryd.ntmps24
  go_wp2_with fail
  refine (indexByte_any S l _ _ hS).mono ?_
  rintro e w' ⟨rfl, rfl⟩
  go_wp2
  go_ret
  exact ⟨rfl, Below.refl _ _⟩
theorem indexByte_take (l : List UInt8) (b : Nat) (c : UInt8) : Lib.indexByte (l.take b) c = if Lib.indexByte l c < b then Lib.indexByte l c else -1 := by
  induction l generalizing b with
  | nil => rw [List.take_nil]; unfold Lib.indexByte; split <;> rfl
  | cons d l ih =>
    have hg := Lib.indexByte_ge l c
    cases b with
    | zero =>
      rw [List.take_zero]
      have := Lib.indexByte_ge (d :: l) c
      split
      · unfold Lib.indexByte at *; omega
      · rfl
    | succ b =>
      rw [List.take_succ_cons]
      rw [Lib.indexByte, Lib.indexByte, ih b]
      by_cases h : (d == c) = true
      · rw [if_pos h, if_pos h, if_pos (by omega)]
      · rw [if_neg h, if_neg h]
        generalize Lib.indexByte l c = i at hg ⊢
        simp only [beq_iff_eq]
        by_cases h3 : i < (b : Int)
        · simp only [if_pos h3]
          (repeat' split) <;> omega
        · rw [if_neg h3, if_pos rfl]
          (repeat' split) <;> omega
theorem figs_at (b : Nat) (hb : b ≤ 36) (c : UInt8) : Lib.indexByte (figs.take b) c = if dv c < b then (dv c : Int) else -1 := by
  have h : ∀ j : Fin 256, Lib.indexByte figs (UInt8.ofNat j.1) = if dv (UInt8.ofNat j.1) < 36 then (dv (UInt8.ofNat j.1) : Int) else -1 := by decide +kernel
  have h1 := h ⟨c.toNat, c.toNat_lt⟩
  simp only [UInt8.ofNat_toNat] at h1
  rw [indexByte_take, h1]
  by_cases h2 : dv c < 36
  · rw [if_pos h2]
    by_cases h3 : dv c < b
    · rw [if_pos h3, if_pos (by omega)]
    · rw [if_neg h3, if_neg (by omega)]
  · rw [if_neg h2, if_neg (by omega : ¬ dv c < b)]
    split <;> rfl
theorem figs_asc (b : Nat) : Asc (figs.take b) := by
  intro c hc
  have h : ∀ c ∈ figs, c.toNat < 128 := by decide
  exact h c (List.mem_of_mem_take hc)
/-- What a rune counts among the digits of base b; -1: it is none. -/
def dvi (b : Nat) (r : Int) : Int := if r < 128 ∧ dv r.toNat.toUInt8 < b then (dv r.toNat.toUInt8 : Int) else -1
theorem idxFig_any (S : ByteArray) (b : Nat) (r t : Int) (w : World) (hS : StrIs S (figs.take b)) (hb : b ≤ 36) (h0 : 0 ≤ r) (h1 : r ≤ 2147483647) (ht : t = dvi b r) :
    Calls Tryd.prog 24 #[.string S, .int .i32 r] w (RetV (.int .i64 t) w) := by
  subst ht
  unfold dvi
  by_cases hr : r < 128
  · have := idxRune_low S _ r w hS h0 hr
    rw [figs_at b hb] at this
    by_cases hd : dv r.toNat.toUInt8 < b
    · rw [if_pos ⟨hr, hd⟩]; rw [if_pos hd] at this; exact this
    · rw [if_neg (fun h => hd h.2)]; rw [if_neg hd] at this; exact this
  · rw [if_neg (fun h => hr h.1)]
    by_cases he : r = 65533
    · subst he
      exact idxRune_err S _ w hS (figs_asc b)
    · exact idxRune_high S _ r w hS (figs_asc b) (by have := List.length_take_le b figs; have e : figs.length = 36 := rfl; simp; omega) (by omega) h1 he
end Go.Proofs.YtlepoheinemfcaaDoor.str
