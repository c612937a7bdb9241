/- NameTwice: which of any texts comes twice, and the keywords. Condition: the arguments can be read as data. -/
import Derived.Test.YtagaabooccnamaaNamC
import Derived.Deep.Cut
import Derived.Test.YtagaabooccnamaaNamE
import Derived.Test.YtagaabooccnamaaRows
import Derived.OpenShut
import Derived.LaidMore
import Derived.Lay
import Derived.Stop.Joined
namespace Go.Proofs.Ytagaabooccnamaa.nameTwice
open Go.ChangeShapes Go.WideShapes Go.ChangeAt Go.RowKit Go.Proofs.Ytagaabooccnamaa.num Go.Proofs.Ytagaabooccnamaa.mem Go.Proofs.Ytagaabooccnamaa.txt Go.Proofs.Ytagaabooccnamaa.str
set_option linter.unusedVariables false
set_option linter.unusedSimpArgs false

theorem own : ownKnob Try.prog.godebug = none := by kernel_rfl
theorem laidOut : laidOutB Try.prog = true := by kernel_rfl


set_option maxHeartbeats 6400000 in
set_option maxRecDepth 100000 in
/-- The walk: the Go text returns true; what was there is as it was. -/
theorem walk (v0 : Value) (w : World) (h0 : ArgS w v0) :
    Calls Try.prog 4 #[v0] w (RetV (.bool true) w) := by
  obtain ⟨ss, hT0, hl0⟩ := h0
  obtain ⟨A0, c0, rfl, hc0, -⟩ := id hT0
  obtain ⟨n, hn⟩ : ∃ n, n = ss.length := ⟨_, rfl⟩
  rw [← hn] at hT0 hc0 ⊢
  have HN := Lib.hid hn
  have HL0 := Lib.hid hl0
  clear hl0 hn
  obtain ⟨wa, hwa, ba, -, -⟩ : ∃ wa, w.alloc (.cells #[] 9) = wa ∧ Below w.heap.size w wa ∧ True ∧ True := ⟨_, rfl, below_alloc (Nat.le_refl _) _, trivial, trivial⟩
  by_cases hlt : n ≤ 20
  · have HL : Hid (∀ s ∈ ss, s.length ≤ maxLen) := HL0.out
    have hsT : IsT wa (.slice A0 n c0) (ss) := hT0.below ba
    have hlT : ss.length ≤ 1000 := by rw [← HN.out]; omega
    obtain ⟨T, hT⟩ : ∃ T, T = ss := ⟨_, rfl⟩
    rw [← hT] at HL hsT hlT
    clear hT hT0
    go_enter Try.func4, Try.ntmps4
    go_upto_region 2 with (at_builtin; refine wpList_append_T rfl (.tmp 7) (.tmp 12) rfl Try.underlying24 info_text w hwa.symm rfl rfl hsT hlT ?_; intro v1 w1 T1 b1; obtain ⟨A1, c1, rfl, hc1, -⟩ := id T1)
    clear hwa hsT ba
    obtain ⟨wb, hwb, bb, -, -⟩ : ∃ wb, w1.alloc (.cells #[] 9) = wb ∧ Below w1.heap.size w1 wb ∧ True ∧ True := ⟨_, rfl, below_alloc (Nat.le_refl _) _, trivial, trivial⟩
    have T1b := T1.below bb
    go_wp2_with (at_builtin; refine wpList_append_T rfl (.tmp 15) (.tmp 16) rfl Try.underlying24 info_text w1 hwb.symm rfl rfl T1b hlT ?_; intro v2 w2 T2 b2; obtain ⟨A2, c2, rfl, hc2, -⟩ := id T2)
    clear hwb T1b bb
    have B2 : Hid (Below w.heap.size w w2) := b1.trans (b2.mono b1.size)
    have T12 := T1.below b2
    clear b1 b2 T1
    go_wp2_with fail
    refine (twice_any _ T _ T2 hlT HL.out).mono ?_
    rintro e w3 ⟨s, b, hs, rfl, b3⟩
    have B3 : Hid (Below w.heap.size w w3) := B2.out.trans (b3.mono B2.out.size)
    have T13 := T12.below b3
    clear T12 b3 B2 T2
    go_wp2_with fail
    refine (rtwice_any _ T _ T13 hlT).mono ?_
    rintro e w4 ⟨s', b', hs', rfl, b4⟩
    obtain ⟨rfl, rfl⟩ := hs.one hs'
    have B4 : Hid (Below w.heap.size w w4) := B3.out.trans (b4.mono B3.out.size)
    clear T13 b4 B3 hs hs'
    go_wp2_with fail
    refine (keywords_any _).mono ?_
    rintro e w5 ⟨v5, rfl, k5, b5⟩
    have B5 : Hid (Below w.heap.size w w5) := B4.out.trans (b5.mono B4.out.size)
    obtain ⟨A5, c5, rfl, -, -⟩ := id k5
    clear b5 B4
    go_wp2_with fail
    refine (rkeywords_any _).mono ?_
    rintro e w6 ⟨v6, rfl, k6, b6⟩
    have B6 : Hid (Below w.heap.size w w6) := B5.out.trans (b6.mono B5.out.size)
    obtain ⟨A6, c6, rfl, -, -⟩ := id k6
    have k56 := k5.below b6
    clear b6 B5 k5
    go_wp2_with fail
    refine (sametexts_self _ _ keyws _ k56 k6 (by decide)).mono ?_
    rintro e w7 ⟨rfl, b7⟩
    have B7 : Hid (Below w.heap.size w w7) := B6.out.trans (b7.mono B6.out.size)
    clear b7 B6 k56 k6
    go_wp2_with fail
    refine (works17_any _).mono ?_
    rintro e w8 ⟨rfl, b8⟩
    go_wp2
    go_ret
    exact ⟨rfl, B7.out.trans (b8.mono B7.out.size)⟩
  · have HL : Hid (∀ s ∈ ss.take 20, s.length ≤ maxLen) := fun s hs => HL0.out s (List.mem_of_mem_take hs)
    have hsT : IsT wa (.slice A0 20 c0) (ss.take 20) := (hT0.below ba).take (by rw [← HN.out]; omega)
    have hlT : (ss.take 20).length ≤ 1000 := by rw [List.length_take]; omega
    obtain ⟨T, hT⟩ : ∃ T, T = ss.take 20 := ⟨_, rfl⟩
    rw [← hT] at HL hsT hlT
    clear hT hT0
    go_enter Try.func4, Try.ntmps4
    go_upto_region 2 with (at_builtin; refine wpList_append_T rfl (.tmp 7) (.tmp 12) rfl Try.underlying24 info_text w hwa.symm rfl rfl hsT hlT ?_; intro v1 w1 T1 b1; obtain ⟨A1, c1, rfl, hc1, -⟩ := id T1)
    clear hwa hsT ba
    obtain ⟨wb, hwb, bb, -, -⟩ : ∃ wb, w1.alloc (.cells #[] 9) = wb ∧ Below w1.heap.size w1 wb ∧ True ∧ True := ⟨_, rfl, below_alloc (Nat.le_refl _) _, trivial, trivial⟩
    have T1b := T1.below bb
    go_wp2_with (at_builtin; refine wpList_append_T rfl (.tmp 15) (.tmp 16) rfl Try.underlying24 info_text w1 hwb.symm rfl rfl T1b hlT ?_; intro v2 w2 T2 b2; obtain ⟨A2, c2, rfl, hc2, -⟩ := id T2)
    clear hwb T1b bb
    have B2 : Hid (Below w.heap.size w w2) := b1.trans (b2.mono b1.size)
    have T12 := T1.below b2
    clear b1 b2 T1
    go_wp2_with fail
    refine (twice_any _ T _ T2 hlT HL.out).mono ?_
    rintro e w3 ⟨s, b, hs, rfl, b3⟩
    have B3 : Hid (Below w.heap.size w w3) := B2.out.trans (b3.mono B2.out.size)
    have T13 := T12.below b3
    clear T12 b3 B2 T2
    go_wp2_with fail
    refine (rtwice_any _ T _ T13 hlT).mono ?_
    rintro e w4 ⟨s', b', hs', rfl, b4⟩
    obtain ⟨rfl, rfl⟩ := hs.one hs'
    have B4 : Hid (Below w.heap.size w w4) := B3.out.trans (b4.mono B3.out.size)
    clear T13 b4 B3 hs hs'
    go_wp2_with fail
    refine (keywords_any _).mono ?_
    rintro e w5 ⟨v5, rfl, k5, b5⟩
    have B5 : Hid (Below w.heap.size w w5) := B4.out.trans (b5.mono B4.out.size)
    obtain ⟨A5, c5, rfl, -, -⟩ := id k5
    clear b5 B4
    go_wp2_with fail
    refine (rkeywords_any _).mono ?_
    rintro e w6 ⟨v6, rfl, k6, b6⟩
    have B6 : Hid (Below w.heap.size w w6) := B5.out.trans (b6.mono B5.out.size)
    obtain ⟨A6, c6, rfl, -, -⟩ := id k6
    have k56 := k5.below b6
    clear b6 B5 k5
    go_wp2_with fail
    refine (sametexts_self _ _ keyws _ k56 k6 (by decide)).mono ?_
    rintro e w7 ⟨rfl, b7⟩
    have B7 : Hid (Below w.heap.size w w7) := B6.out.trans (b7.mono B6.out.size)
    clear b7 B6 k56 k6
    go_wp2_with fail
    refine (works17_any _).mono ?_
    rintro e w8 ⟨rfl, b8⟩
    go_wp2
    go_ret
    exact ⟨rfl, B7.out.trans (b8.mono B7.out.size)⟩

set_option maxRecDepth 100000 in
theorem lifted (os : Os) (started : os.Started) (H : Type) (enc : TypeId × Value → H) :
    ReturnsInHanded {} Try.checked os 4 .any (Rows.nameTwiceSpec.pre6 enc Try.prog Try.f4 Rows.nameTwiceRow.domain false) (Rows.nameTwiceSpec.post enc Try.prog Try.f4 false true false false) := by
  refine returnsInHanded_of_change (C := Try.checked) own started (by kernel_rfl) Try.func4
    (ChangeSpec.witness6 (enc := enc) (C := Try.checked) false ⟨#[], #[.slice none 0 0], []⟩ 8 (by kernel_rfl) (by kernel_rfl) (by kernel_rfl) (by kernel_rfl)) ?_
  intro W base args ds gs before hval0 hW hcnd _
  have hval : ∀ (j : Nat) t v, Try.f4.params[j]? = some t → args[j]? = some v → Value.okWide Try.prog W .any base t v := hval0
  have hW' := hW
  obtain ⟨p, q, hA0, hV, rfl, hfz, hnd⟩ := hW
  have hA : DataW.TrodAll enc Try.prog W 0 (fun _ => true) true Try.f4.params.toList args.toList ds p := hA0
  rw [Try.params4] at hA hval
  obtain ⟨v0, vs0, d0, ds0, p0, q0, hargs, rfl, rfl, t0, r0⟩ := trodAll_cons hA
  obtain ⟨rfl, rfl, rfl⟩ := trodAll_nil r0
  obtain rfl : args = #[v0] := by cases args; simp_all
  obtain ⟨rfl, rfl⟩ := trodVars_none hV
  have hs0 := arg_ss Try.underlying24 Try.underlying9 (by kernel_rfl) (hval 0 24 v0 rfl rfl) t0
  clear hA0 hval0
  simp only [List.append_nil] at hW'
  have hlt0 : ∀ x ∈ p0, x.block < W.heap.size := fun x hx => hW'.lt x (hx)
  refine (walk v0 W hs0).mono fun e W' ⟨he, hb⟩ => ?_
  subst he
  have s0 := Below.trod laidOut (by kernel_rfl) (of_decide_eq_true (by kernel_rfl)) t0 hb hlt0
  exact ⟨_, rfl, _, _, _, [] ++ [], _, [], hW', trodAll_cons_mk (shut_bool Try.underlying4 _) trodAll_mk0, trodAll_cons_mk s0 (trodAll_mk0), rfl, hb.frame _, fun h => by cases h⟩

theorem over : Rows.nameTwiceRow.holds Try.pinned (OpenSpec.ofChange Rows.nameTwiceSpec) :=
  OpenClaim.holds_of_wide 4 Try.f4 rfl rfl rfl rfl rfl rfl rfl ⟨rfl, rfl, rfl, rfl, rfl⟩ rfl rfl rfl rfl rfl (by kernel_rfl) Try.func4 (by kernel_rfl)
    (of_decide_eq_true (by kernel_rfl)) (by unfold Func.isWrapper; first | (rw [if_pos (by decide +kernel)]; kernel_rfl) | (rw [if_neg (by decide +kernel)]; exact ⟨rfl, rfl⟩))
    (fun os started H enc _ => lifted os started H enc)

/-- The statement. -/
theorem proved : Rows.NameTwiceSaid := over
end Go.Proofs.Ytagaabooccnamaa.nameTwice
