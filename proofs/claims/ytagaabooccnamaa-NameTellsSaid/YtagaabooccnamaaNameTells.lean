/- NameTells: whether any text is a word, a keyword, a name, and too long. Condition: the arguments can be read as data. -/
import Derived.Test.YtagaabooccnamaaNamC
import Derived.Deep.Cut
import Derived.Test.YtagaabooccnamaaRows
import Derived.OpenShut
import Derived.LaidMore
import Derived.Lay
import Derived.Stop.Joined
namespace Go.Proofs.Ytagaabooccnamaa.nameTells
open Go.ChangeShapes Go.WideShapes Go.ChangeAt Go.RowKit Go.Proofs.Ytagaabooccnamaa.num Go.Proofs.Ytagaabooccnamaa.mem Go.Proofs.Ytagaabooccnamaa.txt Go.Proofs.Ytagaabooccnamaa.str
set_option linter.unusedVariables false
set_option linter.unusedSimpArgs false

theorem own : ownKnob Try.prog.godebug = none := by kernel_rfl
theorem laidOut : laidOutB Try.prog = true := by kernel_rfl


set_option maxHeartbeats 6400000 in
set_option maxRecDepth 100000 in
/-- The walk: the Go text returns true; what was there is as it was. -/
theorem walk (S0 : ByteArray) (w : World) (z0 : S0.size ≤ maxLen) :
    Calls Try.prog 3 #[.string S0] w (RetV (.bool true) w) := by
  unfold maxLen at z0
  obtain ⟨m, hm⟩ : ∃ m, m = S0.data.toList.take 200 := ⟨_, rfl⟩
  have hml : m.length ≤ 1000000 := by rw [hm, List.length_take]; omega
  have HM := Lib.hid hm
  obtain ⟨bw, hbw⟩ := bool_of (wordS m)
  obtain ⟨bk, hbk⟩ := bool_of (m ∈ keyws)
  obtain ⟨bn, hbn⟩ := bool_of (nameS m)
  have HA := Lib.hid (And.intro hbw (And.intro hbk hbn))
  clear hm hbw hbk hbn
  by_cases hlt : S0.size ≤ 200
  · have HS : Hid (StrIs S0 m) := by
      show _ = _
      rw [HM.out, List.take_of_length_le (by rw [← Lib.size_eq]; omega)]
    obtain ⟨T, hT⟩ : ∃ T, T = (if S0.size ≤ 200 then S0 else S0.extract 0 200) := ⟨_, rfl⟩
    have hTe : StrIs T m := by
      rw [hT]
      first
        | (rw [if_pos hlt]; exact HS.out)
        | (rw [if_neg hlt]; exact HS.out)
    first
      | rw [if_pos hlt] at hT
      | rw [if_neg hlt] at hT
    have HTE := Lib.hid hTe
    have hTs : T.size = m.length := hTe.size
    have HTS := Lib.hid hTs
    obtain ⟨n, hn⟩ : ∃ n, n = T.size := ⟨_, rfl⟩
    have hn1 : n ≤ 1000000 := by omega
    have HN := Lib.hid hn.symm
    clear hTe hTs hn
    go_enter Try.func3, Try.ntmps3
    go_wp2_with fail
    rw [← hT]
    clear hT
    refine (word_any T m bw _ HTE.out hml HA.out.1).mono ?_
    rintro e w1 ⟨rfl, b1⟩
    go_wp2_with fail
    refine (rword_any T m bw _ HTE.out hml HA.out.1).mono ?_
    rintro e w2 ⟨rfl, b2⟩
    have B2 := b1.trans (b2.mono b1.size)
    go_wp2_with fail
    refine (keyword_any T m bk _ HTE.out HA.out.2.1).mono ?_
    rintro e w3 ⟨rfl, b3⟩
    have B3 := B2.trans (b3.mono B2.size)
    go_wp2_with fail
    refine (rkeyword_any T m bk _ HTE.out HA.out.2.1).mono ?_
    rintro e w4 ⟨rfl, b4⟩
    have B4 := B3.trans (b4.mono B3.size)
    go_wp2_with fail
    refine (name_any T m bn _ HTE.out hml HA.out.2.2).mono ?_
    rintro e w5 ⟨rfl, b5⟩
    have B5 := B4.trans (b5.mono B4.size)
    go_wp2_with fail
    refine (rname_any T m bn _ HTE.out hml HA.out.2.2).mono ?_
    rintro e w6 ⟨rfl, b6⟩
    have B6 := B5.trans (b6.mono B5.size)
    have hTn := HN.out
    go_wp2_with fail
    refine (long_any T n (decide ((12 : Int) < n)) _ HN.out hn1 rfl).mono ?_
    rintro e w7 ⟨rfl, b7⟩
    have B7 := B6.trans (b7.mono B6.size)
    go_wp2_with fail
    refine (works17_any _).mono ?_
    rintro e w8 ⟨rfl, b8⟩
    go_wp2
    go_ret
    exact ⟨rfl, B7.trans (b8.mono B7.size)⟩
  · have HS : Hid (StrIs (S0.extract 0 200) m) := by
      show StrIs _ _
      rw [HM.out]
      exact (show StrIs S0 S0.data.toList from rfl).to_ 200
    obtain ⟨T, hT⟩ : ∃ T, T = (if S0.size ≤ 200 then S0 else S0.extract 0 200) := ⟨_, rfl⟩
    have hTe : StrIs T m := by
      rw [hT]
      first
        | (rw [if_pos hlt]; exact HS.out)
        | (rw [if_neg hlt]; exact HS.out)
    first
      | rw [if_pos hlt] at hT
      | rw [if_neg hlt] at hT
    have HTE := Lib.hid hTe
    have hTs : T.size = m.length := hTe.size
    have HTS := Lib.hid hTs
    obtain ⟨n, hn⟩ : ∃ n, n = T.size := ⟨_, rfl⟩
    have hn1 : n ≤ 1000000 := by omega
    have HN := Lib.hid hn.symm
    clear hTe hTs hn
    go_enter Try.func3, Try.ntmps3
    go_wp2_with fail
    rw [← hT]
    clear hT
    refine (word_any T m bw _ HTE.out hml HA.out.1).mono ?_
    rintro e w1 ⟨rfl, b1⟩
    go_wp2_with fail
    refine (rword_any T m bw _ HTE.out hml HA.out.1).mono ?_
    rintro e w2 ⟨rfl, b2⟩
    have B2 := b1.trans (b2.mono b1.size)
    go_wp2_with fail
    refine (keyword_any T m bk _ HTE.out HA.out.2.1).mono ?_
    rintro e w3 ⟨rfl, b3⟩
    have B3 := B2.trans (b3.mono B2.size)
    go_wp2_with fail
    refine (rkeyword_any T m bk _ HTE.out HA.out.2.1).mono ?_
    rintro e w4 ⟨rfl, b4⟩
    have B4 := B3.trans (b4.mono B3.size)
    go_wp2_with fail
    refine (name_any T m bn _ HTE.out hml HA.out.2.2).mono ?_
    rintro e w5 ⟨rfl, b5⟩
    have B5 := B4.trans (b5.mono B4.size)
    go_wp2_with fail
    refine (rname_any T m bn _ HTE.out hml HA.out.2.2).mono ?_
    rintro e w6 ⟨rfl, b6⟩
    have B6 := B5.trans (b6.mono B5.size)
    have hTn := HN.out
    go_wp2_with fail
    refine (long_any T n (decide ((12 : Int) < n)) _ HN.out hn1 rfl).mono ?_
    rintro e w7 ⟨rfl, b7⟩
    have B7 := B6.trans (b7.mono B6.size)
    go_wp2_with fail
    refine (works17_any _).mono ?_
    rintro e w8 ⟨rfl, b8⟩
    go_wp2
    go_ret
    exact ⟨rfl, B7.trans (b8.mono B7.size)⟩

set_option maxRecDepth 100000 in
theorem lifted (os : Os) (started : os.Started) (H : Type) (enc : TypeId × Value → H) :
    ReturnsInHanded {} Try.checked os 3 .any (Rows.nameTellsSpec.pre6 enc Try.prog Try.f3 Rows.nameTellsRow.domain false) (Rows.nameTellsSpec.post enc Try.prog Try.f3 false true false false) := by
  refine returnsInHanded_of_change (C := Try.checked) own started (by kernel_rfl) Try.func3
    (ChangeSpec.witness6 (enc := enc) (C := Try.checked) false ⟨#[], #[.string ⟨#[]⟩], []⟩ 8 (by kernel_rfl) (by kernel_rfl) (by kernel_rfl) (by kernel_rfl)) ?_
  intro W base args ds gs before hval0 hW hcnd _
  have hval : ∀ (j : Nat) t v, Try.f3.params[j]? = some t → args[j]? = some v → Value.okWide Try.prog W .any base t v := hval0
  have hW' := hW
  obtain ⟨p, q, hA0, hV, rfl, hfz, hnd⟩ := hW
  have hA : DataW.TrodAll enc Try.prog W 0 (fun _ => true) true Try.f3.params.toList args.toList ds p := hA0
  rw [Try.params3] at hA hval
  obtain ⟨v0, vs0, d0, ds0, p0, q0, hargs, rfl, rfl, t0, r0⟩ := trodAll_cons hA
  obtain ⟨rfl, rfl, rfl⟩ := trodAll_nil r0
  obtain rfl : args = #[v0] := by cases args; simp_all
  obtain ⟨rfl, rfl⟩ := trodVars_none hV
  obtain ⟨S0, rfl, hd0, hp0, hs0⟩ := Go.ChangeMaps.open_string Try.underlying9 (hval 0 9 v0 rfl rfl) t0
  clear hA0 hval0
  simp only [List.append_nil] at hW'
  have hlt0 : ∀ x ∈ p0, x.block < W.heap.size := fun x hx => hW'.lt x (hx)
  refine (walk S0 W hs0).mono fun e W' ⟨he, hb⟩ => ?_
  subst he
  have s0 := Below.trod laidOut (by kernel_rfl) (of_decide_eq_true (by kernel_rfl)) t0 hb hlt0
  exact ⟨_, rfl, _, _, _, [] ++ [], _, [], hW', trodAll_cons_mk (shut_bool Try.underlying4 _) trodAll_mk0, trodAll_cons_mk s0 (trodAll_mk0), rfl, hb.frame _, fun h => by cases h⟩

theorem over : Rows.nameTellsRow.holds Try.pinned (OpenSpec.ofChange Rows.nameTellsSpec) :=
  OpenClaim.holds_of_wide 3 Try.f3 rfl rfl rfl rfl rfl rfl rfl ⟨rfl, rfl, rfl, rfl, rfl⟩ rfl rfl rfl rfl rfl (by kernel_rfl) Try.func3 (by kernel_rfl)
    (of_decide_eq_true (by kernel_rfl)) (by unfold Func.isWrapper; first | (rw [if_pos (by decide +kernel)]; kernel_rfl) | (rw [if_neg (by decide +kernel)]; exact ⟨rfl, rfl⟩))
    (fun os started H enc _ => lifted os started H enc)

/-- The statement. -/
theorem proved : Rows.NameTellsSaid := over
end Go.Proofs.Ytagaabooccnamaa.nameTells
