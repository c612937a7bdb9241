/- The document's In. Condition: the slice reads as a number of some limbs. -/
import Derived.Test.YtlepoheinemfcaaDoorDigH
namespace Go.Proofs.YtlepoheinemfcaaDoor.str
open Go.RowKit Go.Proofs.YtlepoheinemfcaaDoor.num Go.Proofs.YtlepoheinemfcaaDoor.mem Go.Proofs.YtlepoheinemfcaaDoor.txt Go.Proofs.YtlepoheinemfcaaDoor.nat
set_option linter.unusedVariables false

set_option maxHeartbeats 400000 in
theorem rin_no (v : Value) (b : Int) (w : World) (h : b < 2 ∨ 36 < b) :
    Calls Tryd.prog 8 #[v, .int .i64 b] w (RetStrE [] 2 w) := by
  by_cases h2 : b < 2
  · clear h
    go_enter Tryd.func8, Tryd.ntmps8
    go_wp2
    go_ret2
    exact ⟨_, rfl, strNil, Below.refl _ _⟩
  · have h36 : 36 < b := by omega
    clear h
    go_enter Tryd.func8, Tryd.ntmps8
    go_wp2
    go_ret2
    exact ⟨_, rfl, strNil, Below.refl _ _⟩
theorem rlen0 {x : Nat} (h : x = 0) : (digs 10000 x).length = 0 := by rw [h, digs_zero]; rfl
theorem rlenp {x : Nat} (h : 0 < x) : 0 < (digs 10000 x).length := by
  rcases Nat.eq_zero_or_pos (digs 10000 x).length with h0 | h0
  · have := (digs_len0 (B := 10000) (by omega)).1 h0; omega
  · exact h0
/-- The digits found so far, and those that are still to come. -/
def DG (b a y : Nat) (D : List Nat) : Prop := D ++ digs b y = digs b a
theorem DG.step {b a y : Nat} {D : List Nat} (hb : 2 ≤ b) (h : DG b a y D) (hy : 0 < y) : DG b a (y / b) (D ++ [y % b]) := by
  unfold DG at h ⊢
  rw [← h, digs_pos hb hy, List.append_assoc]; rfl
theorem u8s_one (c : UInt8) : u8s [c] = [c.toNat] := rfl

set_option maxHeartbeats 3200000 in
set_option maxRecDepth 100000 in
theorem rin_ok (v : Value) (a : Nat) (bI : Int) (b : Nat) (w : World) (h : IsS w .u64 v (digs 4294967296 a)) (hl : (digs 4294967296 a).length ≤ 150) (hbI : bI = (b : Int)) (h2 : 2 ≤ b) (h36 : b ≤ 36) :
    Calls Tryd.prog 8 #[v, .int .i64 bI] w (RetStrE (txt b a) 0 w) := by
  have HB := Lib.hid hbI
  have i2 : 2 ≤ bI := by omega
  have i36 : bI ≤ 36 := by omega
  have hl3 : (digs 10000 a).length ≤ 1000 := by
    have := dec_le a
    omega
  have hdl : (digs b a).length ≤ 10000 := by
    refine Nat.le_trans (digs_len_le (k := 14 * (digs 10000 a).length) h2 ?_) (by have := dec_le a; omega)
    have h1 : a < 10000 ^ (digs 10000 a).length := digs_lt_pow (by omega) a
    have h3 : (10000 : Nat) ^ (digs 10000 a).length ≤ (2 ^ 14) ^ (digs 10000 a).length := Nat.pow_le_pow_left (by decide) _
    rw [← Nat.pow_mul] at h3
    have h4 : 2 ^ (14 * (digs 10000 a).length) ≤ b ^ (14 * (digs 10000 a).length) := Nat.pow_le_pow_left h2 _
    exact Nat.lt_of_lt_of_le h1 (Nat.le_trans h3 h4)
  have HDL := Lib.hid hdl
  clear hbI hdl
  by_cases h0 : a = 0
  · have hlz := rlen0 h0
    have HT : Hid (txt b a = [48]) := by show _ = _; rw [h0, txt_zero]
    have HZ : Hid (digs 10000 a = []) := by show _ = _; rw [h0, digs_zero]
    clear hlz h0
    go_enter Tryd.func8, Tryd.ntmps8
    go_wp2_with fail
    refine (refOf_any v a _ h (by omega)).mono ?_
    rintro e w1 ⟨v1, rfl, k1, f1, b1⟩
    rw [HZ.out] at k1
    obtain ⟨A, c, rfl, _⟩ := id k1
    go_wp2
    go_ret2
    exact ⟨_, rfl, by rw [HT.out]; rfl, b1⟩
  · have hap : 0 < a := by omega
    have hlz := rlenp hap
    have hlI : (((digs 10000 a).length : Int) == 0) = false := by rw [beq_eq_false_iff_ne]; omega
    have hlN : ((digs 10000 a).length == 0) = false := by rw [beq_eq_false_iff_ne]; omega
    have hne3 : ¬ digs 10000 a = [] := fun e => by rw [e] at hlz; simp at hlz
    have HT : Hid (txt b a = (digs b a).reverse.map ch) := txt_pos h0
    have HA0 := Lib.hid h0
    clear h0
    go_enter Tryd.func8, Tryd.ntmps8
    go_wp2_with fail
    refine (refOf_any v a _ h (by omega)).mono ?_
    rintro e w1 ⟨v1, rfl, k1, f1, b1⟩
    obtain ⟨A, c, rfl, _⟩ := id k1
    go_wp2
    have hown0 : Own (w1.alloc (.cells #[] 5)) w.heap.size 5 .u8 (.slice (some ⟨w1.heap.size, 0, none⟩) 0 0) (u8s (([] : List Nat).reverse.map ch)) := own_lit0 w1 _ _ _ b1.size
    have hb0 : Below w.heap.size w (w1.alloc (.cells #[] 5)) := b1.alloc b1.size _
    have k10 := k1.below (below_alloc (Nat.le_refl _) (.cells #[] 5))
    generalize w1.alloc (.cells #[] 5) = W0 at hown0 hb0 k10 ⊢
    go_loopw [6, 8] (fun vx vo wr => ∃ (y : Nat) (D : List Nat), y ≤ a ∧ Hid (DG b a y D) ∧ IsS wr .i64 vx (digs 10000 y) ∧ Own wr w.heap.size 5 .u8 vo (u8s (D.reverse.map ch)) ∧ Below w.heap.size w wr) (fun _ vo _ => (digs b a).length - lenOf vo)
    case atStart => exact ⟨a, [], Nat.le_refl _, rfl, k10, hown0, hb0⟩
    case round =>
      clear hown0 hb0 k10 k1
      obtain ⟨y, D, hy, HD, ky, hown, hb⟩ := hrel
      have ly : (digs 10000 y).length ≤ 1000 := Nat.le_trans (digs_len_mono (by omega) hy) hl3
      obtain ⟨A2, c2, rfl, _⟩ := id ky
      obtain ⟨A3, c3, hvo, hc3, hm3, hr3⟩ := id hown.isS
      obtain ⟨T, hT⟩ : ∃ T, T = D.reverse.map ch := ⟨_, rfl⟩
      rw [← hT] at hvo hown hc3 hr3
      have HTE := Lib.hid hT
      have HUL : Hid ((u8s T).length = D.length) := by show _ = _; rw [u8s_len, hT]; simp
      clear hT hc3 hm3
      subst hvo
      by_cases h0 : 0 < y
      · have hlz2 := rlenp h0
        have HD2 := Lib.hid (HD.out.step h2 h0)
        have hlt : D.length < (digs b a).length := by
          have h1 := congrArg List.length HD.out
          rw [List.length_append, digs_pos h2 h0, List.length_cons] at h1
          omega
        have hq : y / b ≤ a := Nat.le_trans (Nat.div_le_self _ _) hy
        have hr : y % b < b := Nat.mod_lt _ (by omega)
        have HQ : Hid (y / b = y / b) := rfl
        obtain ⟨q, hqe⟩ : ∃ q, q = y / b := ⟨_, rfl⟩
        obtain ⟨r, hre⟩ : ∃ r, r = y % b := ⟨_, rfl⟩
        rw [← hqe, ← hre] at HD2
        rw [← hqe] at hq
        rw [← hre] at hr
        have HQE := Lib.hid hqe
        have HRE := Lib.hid hre
        have HLT := Lib.hid hlt
        have hr0 : (r : Int) < 36 := by omega
        have hfig := fig_at ⟨figs.toArray⟩ rfl r (Nat.lt_of_lt_of_le hr h36)
        have HF := Lib.hid hfig
        clear hqe hre hlt hfig
        go_wp2_with fail
        refine (divSmall_any _ y bI b q r _ HB.out ky (by omega) (by omega) (by omega) HQE.out HRE.out).mono ?_
        rintro e w2 ⟨v2, rfl, k2, f2, b2⟩
        have hb2 := hb.trans (b2.mono hb.size)
        have hown2 := hown.below b2
        have hr4 := hr3.below b2
        have hsz2 := hb2.size
        clear hown hb hr3
        go_wp2_with (at_builtin; refine wpList_append_b rfl (.tmp 35) (.tmp 36) rfl slb rfl (own_lit1 w2 w.heap.size 5 .u8 (d := (ch r).toNat) (congrArg Nat.cast HF.out) hb2.size) rfl rfl (hr4.below (below_alloc (Nat.le_refl _) _)) (by have h1 := HUL.out; have h3 := HLT.out; have h5 := HDL.out; simp only [List.length_cons, List.length_nil]; omega) (Nat.le_trans hsz2 (by simp)) ?_; intro v3 w4 hown4 hb4 hg4)
        have hown5 : Hid (Own w4 w.heap.size 5 .u8 v3 (u8s ((D ++ [r]).reverse.map ch))) := by
          show Own _ _ _ _ _ _
          have e : u8s ((D ++ [r]).reverse.map ch) = [(ch r).toNat] ++ u8s T := by rw [HTE.out]; simp [u8s]
          rw [e]; exact hown4
        have hl5 : Hid (lenOf v3 = D.length + 1) := by
          obtain ⟨A5, c5, e, _⟩ := hown4.isS
          show lenOf v3 = _
          rw [e]
          have := HUL.out
          simp only [lenOf, List.length_append, List.length_cons, List.length_nil]; omega
        have hb5 := (hb2.alloc hb2.size _).trans hb4
        have bb : Below w2.heap.size w2 w4 := by
          refine Below.grown (below_alloc (Nat.le_refl w2.heap.size) _) hg4 (by simp) (fun g hg => ?_)
          have h9 : some w2.heap.size = some g := hg
          injection h9 with h9
          omega
        have k5 := k2.below bb
        go_roundw
        case rel => exact ⟨q, _, hq, HD2, k5, hown5.out, hb5⟩
        case measure => have h1 := hl5.out; have h3 := HUL.out; have h4 := HLT.out; rw [h1]; simp only [lenOf]; omega
      · obtain rfl : y = 0 := by omega
        have hlz2 : (digs 10000 0).length = 0 := rlen0 rfl
        have hD := HD.out
        unfold DG at hD
        rw [digs_zero, List.append_nil] at hD
        have hTt : T = txt b a := by rw [HTE.out, HT.out, hD]
        have hA3 : A3 ≠ none := by
          intro hA
          have hlen : 0 < (u8s T).length := by rw [hTt, u8s_len]; exact List.length_pos_iff.2 (txt_ne h2 a)
          obtain ⟨g, cap, e1, _⟩ := hown.place hlen
          injection e1 with e1 _ _
          rw [hA] at e1
          cases e1
        obtain ⟨R, hR, hconv⟩ := own_string hown hA3
        rw [hTt] at hR
        clear hD hTt
        go_wp2
        go_ret2
        exact ⟨R, rfl, hR, hb⟩
end Go.Proofs.YtlepoheinemfcaaDoor.str
