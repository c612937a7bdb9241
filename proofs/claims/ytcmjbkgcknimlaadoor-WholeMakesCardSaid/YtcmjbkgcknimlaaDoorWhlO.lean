/- Texts with a sign ahead: the document's texts. Condition: as each says. -/
import Derived.Test.YtcmjbkgcknimlaaDoorWhlN
namespace Go.Proofs.YtcmjbkgcknimlaaDoor.whl
open Go.RowKit Go.Proofs.YtcmjbkgcknimlaaDoor.num Go.Proofs.YtcmjbkgcknimlaaDoor.mem Go.Proofs.YtcmjbkgcknimlaaDoor.nat Go.Proofs.YtcmjbkgcknimlaaDoor.txt Go.Proofs.YtcmjbkgcknimlaaDoor.str Go.Proofs.YtcmjbkgcknimlaaDoor.flow
set_option linter.unusedVariables false

theorem u8_fig {r : Nat} (h : r < 10) : 48 + (r : Int) = (((ch r).toNat : Nat) : Int) := by
  rw [ch_toNat (by omega), if_pos h]; omega
set_option maxHeartbeats 3200000 in
set_option maxRecDepth 100000 in
theorem rtext_any (v : Value) (a : Nat) (w : World) (h : IsS w .i64 v (digs 10000 a)) (hl3 : (digs 10000 a).length ≤ 1000) :
    Calls Tryd.prog 65 #[v] w (RetStrB (txt 10 a) w) := by
  have hdl : (digs 10 a).length ≤ 10000 := by
    refine Nat.le_trans (digs_len_le (k := 4 * (digs 10000 a).length) (by omega) ?_) (by omega)
    have h1 : a < 10000 ^ (digs 10000 a).length := digs_lt_pow (by omega) a
    rw [Nat.pow_mul]
    exact h1
  have HDL := Lib.hid hdl
  clear hdl
  obtain ⟨A, c, rfl, _⟩ := id h
  by_cases h0 : a = 0
  · have hlz := rlen0 h0
    have HT : Hid (txt 10 a = [48]) := by show _ = _; rw [h0, txt_zero]
    have hlI : (((digs 10000 a).length : Int) == 0) = true := by rw [beq_iff_eq]; omega
    clear hlz h0
    go_enter Tryd.func65, Tryd.ntmps65
    go_wp2
    go_ret
    exact ⟨_, rfl, by rw [HT.out]; rfl, Below.refl _ _⟩
  · have hap : 0 < a := by omega
    have hlz := rlenp hap
    have hlI : (((digs 10000 a).length : Int) == 0) = false := by rw [beq_eq_false_iff_ne]; omega
    have hlN : ((digs 10000 a).length == 0) = false := by rw [beq_eq_false_iff_ne]; omega
    have hne3 : ¬ digs 10000 a = [] := fun e => by rw [e] at hlz; simp at hlz
    have HT : Hid (txt 10 a = (digs 10 a).reverse.map ch) := txt_pos h0
    have HA0 := Lib.hid h0
    clear h0
    go_enter Tryd.func65, Tryd.ntmps65
    go_wp2
    have hown0 : Own (w.alloc (.cells #[] 5)) w.heap.size 5 .u8 (.slice (some ⟨w.heap.size, 0, none⟩) 0 0) (u8s (([] : List Nat).reverse.map ch)) := own_lit0 w _ _ _ (Nat.le_refl _)
    have hb0 : Below w.heap.size w (w.alloc (.cells #[] 5)) := below_alloc (Nat.le_refl _) _
    have k10 := h.below (below_alloc (Nat.le_refl _) (.cells #[] 5))
    generalize w.alloc (.cells #[] 5) = W0 at hown0 hb0 k10 ⊢
    go_loopw [0, 3] (fun vx vo wr => ∃ (y : Nat) (D : List Nat), y ≤ a ∧ Hid (DG 10 a y D) ∧ IsS wr .i64 vx (digs 10000 y) ∧ Own wr w.heap.size 5 .u8 vo (u8s (D.reverse.map ch)) ∧ Below w.heap.size w wr) (fun _ vo _ => (digs 10 a).length - lenOf vo)
    case atStart => exact ⟨a, [], Nat.le_refl _, rfl, k10, hown0, hb0⟩
    case round =>
      clear hown0 hb0 k10 h
      obtain ⟨y, D, hy, HD, ky, hown, hb⟩ := hrel
      have ly : (digs 10000 y).length ≤ 1000 := Nat.le_trans (digs_len_mono (by omega) hy) hl3
      obtain ⟨A2, c2, rfl, _⟩ := id ky
      obtain ⟨A3, c3, hvo, hc3, hm3, hr3⟩ := id hown.isS
      obtain ⟨T, hT⟩ : ∃ T, T = D.reverse.map ch := ⟨_, rfl⟩
      rw [← hT] at hvo hown hc3 hr3
      have HTE := Lib.hid hT
      have HUL : Hid ((u8s T).length = D.length) := by show _ = _; rw [u8s_len, hT]; simp
      clear hT hc3 hm3
      subst hvo
      by_cases h0 : 0 < y
      · have hlz2 := rlenp h0
        have HD2 := Lib.hid (HD.out.step (by omega) h0)
        have hlt : D.length < (digs 10 a).length := by
          have h1 := congrArg List.length HD.out
          rw [List.length_append, digs_pos (by omega) h0, List.length_cons] at h1
          omega
        have hq : y / 10 ≤ a := Nat.le_trans (Nat.div_le_self _ _) hy
        have hr : y % 10 < 10 := Nat.mod_lt _ (by omega)
        have HQ : Hid (y / 10 = y / 10) := rfl
        obtain ⟨q, hqe⟩ : ∃ q, q = y / 10 := ⟨_, rfl⟩
        obtain ⟨r, hre⟩ : ∃ r, r = y % 10 := ⟨_, rfl⟩
        rw [← hqe, ← hre] at HD2
        rw [← hqe] at hq
        rw [← hre] at hr
        have HQE := Lib.hid hqe
        have HRE := Lib.hid hre
        have HLT := Lib.hid hlt
        have HF := Lib.hid (u8_fig hr)
        have hr0 : (r : Int) < 10 := by omega
        clear hqe hre hlt
        go_wp2_with fail
        refine (divSmall_any _ y _ 10 q r _ rfl ky (by omega) (by omega) (by omega) HQE.out HRE.out).mono ?_
        rintro e w2 ⟨v2, rfl, k2, f2, b2⟩
        have hb2 := hb.trans (b2.mono hb.size)
        have hown2 := hown.below b2
        have hr4 := hr3.below b2
        have hsz2 := hb2.size
        clear hown hb hr3
        go_wp2_with (at_builtin; refine wpList_append_b rfl (.tmp 21) (.tmp 22) rfl slb rfl (own_lit1 w2 w.heap.size 5 .u8 (d := (ch r).toNat) HF.out hb2.size) rfl rfl (hr4.below (below_alloc (Nat.le_refl _) _)) (by have h1 := HUL.out; have h3 := HLT.out; have h5 := HDL.out; simp only [List.length_cons, List.length_nil]; omega) (Nat.le_trans hsz2 (by simp)) ?_; intro v3 w4 hown4 hb4 hg4)
        have hown5 : Hid (Own w4 w.heap.size 5 .u8 v3 (u8s ((D ++ [r]).reverse.map ch))) := by
          show Own _ _ _ _ _ _
          have e : u8s ((D ++ [r]).reverse.map ch) = [(ch r).toNat] ++ u8s T := by rw [HTE.out]; simp [u8s]
          rw [e]; exact hown4
        have hl5 : Hid (lenOf v3 = D.length + 1) := by
          obtain ⟨A5, c5, e, _⟩ := hown4.isS
          show lenOf v3 = _
          rw [e]
          have := HUL.out
          simp only [lenOf, List.length_append, List.length_cons, List.length_nil]; omega
        have hb5 := (hb2.alloc hb2.size _).trans hb4
        have bb : Below w2.heap.size w2 w4 := by
          refine Below.grown (below_alloc (Nat.le_refl w2.heap.size) _) hg4 (by simp) (fun g hg => ?_)
          have h9 : some w2.heap.size = some g := hg
          injection h9 with h9
          omega
        have k5 := k2.below bb
        go_roundw
        case rel => exact ⟨q, _, hq, HD2, k5, hown5.out, hb5⟩
        case measure => have h1 := hl5.out; have h3 := HUL.out; have h4 := HLT.out; rw [h1]; simp only [lenOf]; omega
      · obtain rfl : y = 0 := by omega
        have hlz2 : (digs 10000 0).length = 0 := rlen0 rfl
        have hD := HD.out
        unfold DG at hD
        rw [digs_zero, List.append_nil] at hD
        have hTt : T = txt 10 a := by rw [HTE.out, HT.out, hD]
        have hA3 : A3 ≠ none := by
          intro hA
          have hlen : 0 < (u8s T).length := by rw [hTt, u8s_len]; exact List.length_pos_iff.2 (txt_ne (by omega) a)
          obtain ⟨g, cap, e1, _⟩ := hown.place hlen
          injection e1 with e1 _ _
          rw [hA] at e1
          cases e1
        obtain ⟨R, hR, hconv⟩ := own_string hown hA3
        rw [hTt] at hR
        clear hD hTt
        go_wp2
        go_ret
        exact ⟨R, rfl, hR, hb⟩
theorem txt4_len (x : Nat) : (txt 10 x).length ≤ 4 * (digs 10000 x).length + 1 := by
  unfold txt
  split
  · simp
  · rw [List.length_map, List.length_reverse]
    refine Nat.le_succ_of_le (digs_len_le (by omega) ?_)
    have h1 : x < 10000 ^ (digs 10000 x).length := digs_lt_pow (by omega) x
    rw [Nat.pow_mul]
    exact h1
set_option maxHeartbeats 800000 in
theorem rprint_any (v : Value) (z : Int) (w : World) (h : IsR w v z) (hl : (digs 10000 z.natAbs).length ≤ 1000) :
    Calls Tryd.prog 39 #[v] w (RetStrB (txtz z) w) := by
  obtain ⟨u, rfl, s0⟩ := id h
  obtain ⟨A, c, rfl, _⟩ := id s0
  by_cases hz : z < 0
  · have hn : ngB z = true := by unfold ngB; exact decide_eq_true hz
    have HT : Hid (txtz z = 45 :: txt 10 z.natAbs) := by show _ = _; unfold txtz; rw [if_pos hz]
    rw [hn]
    clear hz h hn
    go_enter Tryd.func39, Tryd.ntmps39
    have B0 := Blk.new w 30 #[.bool true, .slice A (digs 10000 z.natAbs).length c]
    go_wp2_with fail
    refine (rtext_any _ _ _ (s0.below (below_alloc (Nat.le_refl _) _)) hl).mono ?_
    rintro e w1 ⟨R, rfl, hR, b1⟩
    have bb := (below_alloc (Nat.le_refl w.heap.size) (.cells #[.bool true, .slice A (digs 10000 z.natAbs).length c] 30)).trans (b1.mono (by simp))
    have hsz : ¬ 9223372036854775807 < 1 + R.size := by
      have h1 := hR.size
      have h2 := txt4_len z.natAbs
      omega
    go_wp2
    go_ret
    rw [HT.out]
    exact ⟨_, rfl, concat_minus R _ hR, bb⟩
  · have hn : ngB z = false := by unfold ngB; exact decide_eq_false hz
    have HT : Hid (txtz z = txt 10 z.natAbs) := by show _ = _; unfold txtz; rw [if_neg hz]
    rw [hn]
    clear hz h hn
    go_enter Tryd.func39, Tryd.ntmps39
    have B0 := Blk.new w 30 #[.bool false, .slice A (digs 10000 z.natAbs).length c]
    go_wp2_with fail
    refine (rtext_any _ _ _ (s0.below (below_alloc (Nat.le_refl _) _)) hl).mono ?_
    rintro e w1 ⟨R, rfl, hR, b1⟩
    have bb := (below_alloc (Nat.le_refl w.heap.size) (.cells #[.bool false, .slice A (digs 10000 z.natAbs).length c] 30)).trans (b1.mono (by simp))
    go_wp2
    go_ret
    rw [HT.out]
    exact ⟨_, rfl, hR, bb⟩
end Go.Proofs.YtcmjbkgcknimlaaDoor.whl
