/- The law LimbBack returns true for any three uint64 numbers: what limb.Add added limb.Sub takes off again, and what limb.Mul multiplied limb.Div divides again. No condition. -/
import Derived.Test.YtcneilkokgmbnaaRows
import Derived.WalkKit
import Derived.ProofKit
import Derived.OpenShut
import Derived.Test.YtcneilkokgmbnaaLimbB
namespace Go.Proofs.Ytcneilkokgmbnaa.limbBack
open Go.ChangeShapes Go.WideShapes Go.ChangeAt Go.RowKit
set_option linter.unusedVariables false      -- a walk need not use every 'w<i>' (that an integer argument fits its kind)

theorem own : ownKnob Try.prog.godebug = none := by kernel_rfl

open Go.Proofs.Ytcneilkokgmbnaa.limb
theorem add_sub {a b s o d u : Int} (h : AddSpec (a % 4294967296) (b % 4294967296) 0 s o) (k : SubSpec s (b % 4294967296) 0 d u) : d = a % 4294967296 ∧ u = o := by
  unfold AddSpec at h; unfold SubSpec at k; omega
theorem mul_div {a b c lo hi q r x : Int} (hb : 0 < b % 4294967296) (hc : c % 4294967296 < b % 4294967296) (h : MulSpec (a % 4294967296) (b % 4294967296) (c % 4294967296) 0 lo hi) (k : DivSpec hi lo (b % 4294967296) q r x) :
    q = a % 4294967296 ∧ r = c % 4294967296 ∧ x = 0 := by
  have e (n : Int) : n % 4294967296 % 4294967296 = n % 4294967296 := by omega
  unfold MulSpec at h; unfold DivSpec at k
  simp only [e] at h k
  obtain ⟨l0, l1, h0, h1, he⟩ := h
  have el : lo % 4294967296 = lo := by omega
  have eh : hi % 4294967296 = hi := by omega
  rw [el, eh] at k
  have hm : a % 4294967296 * (b % 4294967296) ≤ 4294967295 * (b % 4294967296) := Int.mul_le_mul_of_nonneg_right (by omega) (by omega)
  rcases k with k | k | ⟨k1, k2, k3, k4, k5, k6, k7⟩
  · omega
  · omega
  · have := divmod_one (D := b % 4294967296) (q := a % 4294967296) (r := c % 4294967296) (q' := q) (r' := r) (by omega) hc k4 k5 (by omega)
    omega

/-! ### STEP 1: THE WALK: the Go text returns true. 'Grown w w'': the world has at most new blocks (Derived/RowKit3.lean). Part the cases AHEAD of 'go_enter' where a test parts the walk; take each callee by a contract of your own. -/
theorem walk (a0 : Int) (a1 : Int) (a2 : Int) (w0 : (Lit.int .u64 a0).wf = true) (w1 : (Lit.int .u64 a1).wf = true) (w2 : (Lit.int .u64 a2).wf = true) (w : World) :
    Calls Try.prog 7 #[.int .u64 a0, .int .u64 a1, .int .u64 a2] w fun e w' => e = .returned (.bool true) ∧ Grown w w' := by
  have b0 := bounds_u64 w0; have b1 := bounds_u64 w1; have b2 := bounds_u64 w2
  clear w0 w1 w2
  go_enter Try.func7, Try.ntmps7
  go_wp2_with fail
  refine (works_any _).mono ?_; rintro e w' ⟨rfl, n, rfl⟩
  go_wp2_with fail
  refine (add_any _ _ _ (by omega) (by omega) (by omega) (by omega) (by omega) (by omega) _).mono ?_; rintro e w' ⟨s, o, rfl, H, rfl⟩
  obtain ⟨s0, s1, _⟩ := id H
  go_wp2_with fail
  refine (sub_any _ _ _ (by omega) (by omega) (by omega) (by omega) (by omega) (by omega) _).mono ?_; rintro e w' ⟨d, u, rfl, K, rfl⟩
  obtain ⟨rfl, rfl⟩ := add_sub H K
  clear H K
  by_cases hb : a1 % 4294967296 = 0
  · go_wp2_with fail
    go_ret
    exact ⟨rfl, Grown.refl w⟩
  · have hb' : (a1 % 4294967296 == 0) = false := by simpa using hb
    by_cases hc : a1 % 4294967296 ≤ a2 % 4294967296
    · go_wp2_with fail
      go_ret
      exact ⟨rfl, Grown.refl w⟩
    · go_wp2_with fail
      refine (mul_any _ _ _ _ (by omega) (by omega) (by omega) (by omega) (by omega) (by omega) (by omega) (by omega) _).mono ?_; rintro e w' ⟨lo, hi, rfl, H, rfl⟩
      obtain ⟨l0, l1, h0, h1, _⟩ := id H
      go_wp2_with fail
      refine (div_any _ _ _ (by omega) (by omega) (by omega) (by omega) (by omega) (by omega) _).mono ?_; rintro e w' ⟨q, r, x, rfl, K, n, rfl⟩
      obtain ⟨rfl, rfl, rfl⟩ := mul_div (by omega) (by omega) H K
      clear H K
      go_wp2
      go_ret
      exact ⟨rfl, Grown.refl w⟩

/-! ### THE ROW's STEP: WRITTEN OUT: LEAVE IT -/
set_option maxRecDepth 100000 in
theorem lifted (os : Os) (started : os.Started) (H : Type) (enc : TypeId × Value → H) :
    ReturnsInHanded {} Try.checked os 7 .any (Rows.limbBackSpec.pre6 enc Try.prog Try.f7 Rows.limbBackRow.domain false) (Rows.limbBackSpec.post enc Try.prog Try.f7 false true false false) := by
  refine returnsInHanded_of_change (C := Try.checked) own started (by kernel_rfl) Try.func7
    (ChangeSpec.witness6 (enc := enc) (C := Try.checked) false ⟨#[], #[.int .u64 0, .int .u64 0, .int .u64 0], []⟩ 8 (by kernel_rfl) (by kernel_rfl) (by kernel_rfl) (by kernel_rfl)) ?_
  intro W base args ds gs before hval0 hW hcnd _
  have hval : ∀ (j : Nat) t v, Try.f7.params[j]? = some t → args[j]? = some v → Value.okWide Try.prog W .any base t v := hval0
  have hW' := hW
  obtain ⟨p, q, hA0, hV, rfl, hfz, hnd⟩ := hW
  have hA : DataW.TrodAll enc Try.prog W 0 (fun _ => true) true Try.f7.params.toList args.toList ds p := hA0
  rw [Try.params7] at hA hval
  obtain ⟨v0, vs0, d0, ds0, p0, q0, hargs, rfl, rfl, h0, r0⟩ := trodAll_cons hA
  obtain ⟨v1, vs1, d1, ds1, p1, q1, rfl, rfl, rfl, h1, r1⟩ := trodAll_cons r0
  obtain ⟨v2, vs2, d2, ds2, p2, q2, rfl, rfl, rfl, h2, r2⟩ := trodAll_cons r1
  obtain ⟨rfl, rfl, rfl⟩ := trodAll_nil r2
  obtain rfl : args = #[v0, v1, v2] := by cases args; simp_all
  obtain ⟨rfl, rfl⟩ := trodVars_none hV
  obtain ⟨a0, rfl, rfl, rfl, w0⟩ := open_int Try.underlying22 (hval 0 22 v0 rfl rfl) h0
  obtain ⟨a1, rfl, rfl, rfl, w1⟩ := open_int Try.underlying22 (hval 1 22 v1 rfl rfl) h1
  obtain ⟨a2, rfl, rfl, rfl, w2⟩ := open_int Try.underlying22 (hval 2 22 v2 rfl rfl) h2
  clear hA0 hval0
  simp only [List.append_nil] at hW'
  refine (walk a0 a1 a2 w0 w1 w2 W).mono fun e W' ⟨he, hg⟩ => ?_
  subst he
  exact ⟨_, rfl, post_of_same (pa := []) (pv := []) hW' (fun _ _ _ => (trodAll_cons_mk (shut_bool Try.underlying4 _) trodAll_mk0)) (fun sp _ => (trodAll_cons_mk (shut_int Try.underlying22 w0) (trodAll_cons_mk (shut_int Try.underlying22 w1) (trodAll_cons_mk (shut_int Try.underlying22 w2) trodAll_mk0)))) (fun _ _ => rfl) rfl
    (hg.frame _) hg.2.1 (ok_one (by kernel_rfl) rfl (okWide_bool_mk Try.underlying4 _))⟩

theorem over : Rows.limbBackRow.holds Try.pinned (OpenSpec.ofChange Rows.limbBackSpec) :=
  OpenClaim.holds_of_wide 7 Try.f7 rfl rfl rfl rfl rfl rfl rfl ⟨rfl, rfl, rfl, rfl, rfl⟩ rfl rfl rfl rfl rfl (by kernel_rfl) Try.func7 (by kernel_rfl)
    (of_decide_eq_true (by kernel_rfl)) (by unfold Func.isWrapper; first | (rw [if_pos (by decide +kernel)]; kernel_rfl) | (rw [if_neg (by decide +kernel)]; exact ⟨rfl, rfl⟩))
    (fun os started H enc _ => lifted os started H enc)

/-- ████ THE STATEMENT ████ -/
theorem proved : Rows.LimbBackSaid :=
  over
end Go.Proofs.Ytcneilkokgmbnaa.limbBack
