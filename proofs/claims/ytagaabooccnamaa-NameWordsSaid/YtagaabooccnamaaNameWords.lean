/- NameWords: keywords are words, and no names; a name, and a letter behind it, is a word. Condition: the arguments can be read as data. -/
import Derived.Test.YtagaabooccnamaaNamC
import Derived.Deep.Cut
import Derived.Test.YtagaabooccnamaaRows
import Derived.OpenShut
import Derived.LaidMore
import Derived.Lay
import Derived.Stop.Joined
namespace Go.Proofs.Ytagaabooccnamaa.nameWords
open Go.ChangeShapes Go.WideShapes Go.ChangeAt Go.RowKit Go.Proofs.Ytagaabooccnamaa.num Go.Proofs.Ytagaabooccnamaa.mem Go.Proofs.Ytagaabooccnamaa.txt Go.Proofs.Ytagaabooccnamaa.str
set_option linter.unusedVariables false
set_option linter.unusedSimpArgs false

theorem own : ownKnob Try.prog.godebug = none := by kernel_rfl
theorem laidOut : laidOutB Try.prog = true := by kernel_rfl


set_option maxHeartbeats 6400000 in
set_option maxRecDepth 100000 in
/-- The walk: the Go text returns true; what was there is as it was. -/
theorem walk (S0 : ByteArray) (a1 : Int) (w : World) (z0 : S0.size ≤ maxLen) (wf1 : (Lit.int .u8 a1).wf = true) :
    Calls Try.prog 5 #[.string S0, .int .u8 a1] w (RetV (.bool true) w) := by
  unfold maxLen at z0
  obtain ⟨m, hm⟩ : ∃ m, m = S0.data.toList.take 200 := ⟨_, rfl⟩
  have hml : m.length ≤ 200 := by rw [hm, List.length_take]; omega
  have HM := Lib.hid hm
  have ha1 : 0 ≤ a1 ∧ a1 < 256 := by
    have h := bounds_u8 wf1
    omega
  clear hm
  by_cases hlt : S0.size ≤ 200
  · have HS : Hid (StrIs S0 m) := by
      show _ = _
      rw [HM.out, List.take_of_length_le (by rw [← Lib.size_eq]; omega)]
    obtain ⟨T, hT⟩ : ∃ T, T = (if S0.size ≤ 200 then S0 else S0.extract 0 200) := ⟨_, rfl⟩
    have hTe : StrIs T m := by
      rw [hT]
      first
        | (rw [if_pos hlt]; exact HS.out)
        | (rw [if_neg hlt]; exact HS.out)
    first
      | rw [if_pos hlt] at hT
      | rw [if_neg hlt] at hT
    have HTE := Lib.hid hTe
    have hTs : T.size = m.length := hTe.size
    clear hTe
    go_enter Try.func5, Try.ntmps5
    go_wp2_with fail
    refine (works17_any _).mono ?_
    rintro e w1 ⟨rfl, b1⟩
    go_wp2_with fail
    rw [← hT]
    clear hT
    refine (keywords_any _).mono ?_
    rintro e w2 ⟨v2, rfl, hv2, b2⟩
    have B2 : Hid (Below w.heap.size w w2) := b1.trans (b2.mono b1.size)
    obtain ⟨A0, c0, rfl, hc0, hv0⟩ := hv2
    have HV := Lib.hid hv0
    obtain ⟨n, hn⟩ : ∃ n, n = keyws.length := ⟨_, rfl⟩
    have hn13 : n = 13 := hn
    have HN := Lib.hid hn
    rw [← hn] at hc0 ⊢
    clear hv0 hn b1 b2
    go_wp2
    go_loopw [6] (fun v6 wr => ∃ k : Nat, k ≤ n ∧ Hid (Below w2.heap.size w2 wr) ∧ v6 = .int .i64 (k : Int)) (fun v6 _ => n - (intOf v6).toNat)
    case atStart => exact ⟨0, by omega, Below.refl _ _, rfl⟩
    case round =>
      obtain ⟨k, hk, HB, rfl⟩ := hrel
      by_cases hlt : k < n
      · obtain ⟨s, hs⟩ : ∃ s, keyws[k]? = some s := ⟨_, List.getElem?_eq_getElem (by rw [← HN.out]; exact hlt)⟩
        obtain ⟨ad, rfl, ec0⟩ := HV.out k s hs
        have ec := (HB.out.cell (World.block_lt_of_cell? w2 _ ec0)).trans ec0
        have HKW := Lib.hid (keyws_word s (List.mem_of_getElem? hs))
        have CW := fun w => word_any ⟨s.toArray⟩ s true w (StrIs.mk s) (by have := HKW.out.2; omega) ⟨fun _ => HKW.out.1, fun _ => rfl⟩
        have HM2 := Lib.hid (List.mem_of_getElem? hs)
        have CN := fun w => name_any ⟨s.toArray⟩ s false w (StrIs.mk s) (by have := HKW.out.2; omega) ⟨fun h => Bool.noConfusion h, fun h => absurd HM2.out h.2⟩
        clear hs
        go_wp2_with fail
        refine (CW _).mono ?_
        rintro e w3 ⟨rfl, b3⟩
        have ec3 := (b3.cell (World.block_lt_of_cell? wr _ ec)).trans ec
        have B3 : Hid (Below w2.heap.size w2 w3) := HB.out.trans (b3.mono HB.out.size)
        clear HB b3 ec ec0
        go_wp2_with fail
        refine (CN _).mono ?_
        rintro e w4 ⟨rfl, b4⟩
        have B4 : Hid (Below w2.heap.size w2 w4) := B3.out.trans (b4.mono B3.out.size)
        clear B3 b4 ec3
        go_wp2
        go_roundw
        case rel => exact ⟨k + 1, by omega, B4, by go_num⟩
        case measure => simp [intOf]; omega
      · have BB : Hid (Below w.heap.size w wr) := B2.out.trans (HB.out.mono B2.out.size)
        obtain ⟨d, hd⟩ : ∃ d : Nat, a1 = (d : Int) := ⟨a1.toNat, by omega⟩
        subst hd
        obtain ⟨bn, hbn⟩ := bool_of (nameS m)
        obtain ⟨bt, hbt⟩ := bool_of (wordS (m ++ [UInt8.ofNat (97 + d % 26)]))
        have HA := Lib.hid (And.intro hbn hbt)
        have HIM : Hid (bn = true → bt = true) := fun h => hbt.2 (word_more (hbn.1 h).1 (show d % 26 < 26 by omega))
        clear hbn hbt HB B2
        have hci : ∀ W : World, (convert 31 9 (.slice (some ⟨W.heap.size, 0, none⟩) 1 1)).run Try.prog (W.alloc (.cells #[.int .u8 (97 + (d : Int) % 26)] 5)) = .ok (.string ⟨#[UInt8.ofNat (97 + d % 26)]⟩) (W.alloc (.cells #[.int .u8 (97 + (d : Int) % 26)] 5)) := conv_one d
        go_wp2_with fail
        have b4 := below_alloc (w := wr) (Nat.le_refl _) (.cells #[.int .u8 (97 + (d : Int) % 26)] 5)
        have B4 := BB.out.trans (b4.mono BB.out.size)
        have HS2 : Hid (StrIs (T ++ ⟨#[97 + UInt8.ofNat (d % 26)]⟩) (m ++ [UInt8.ofNat (97 + d % 26)])) := str_more HTE.out d
        obtain ⟨w4, hw4⟩ : ∃ w4, w4 = wr.alloc (.cells #[.int .u8 (97 + (d : Int) % 26)] 5) := ⟨_, rfl⟩
        rw [← hw4] at B4 ⊢
        clear hw4 b4
        refine (name_any T m bn _ HTE.out (by omega) HA.out.1).mono ?_
        rintro e w5 ⟨rfl, b5⟩
        have B5 := B4.trans (b5.mono B4.size)
        rcases bn with _ | _
        · go_wp2
          go_ret
          exact ⟨rfl, B5⟩
        · obtain rfl : bt = true := HIM.out rfl
          go_wp2_with fail
          refine (word_any _ _ true _ HS2.out (by rw [List.length_append, List.length_singleton]; omega) ⟨fun _ => HA.out.2.1 trivial, fun _ => rfl⟩).mono ?_
          rintro e w6 ⟨rfl, b6⟩
          go_wp2
          go_ret
          exact ⟨rfl, B5.trans (b6.mono B5.size)⟩
  · have HS : Hid (StrIs (S0.extract 0 200) m) := by
      show StrIs _ _
      rw [HM.out]
      exact (show StrIs S0 S0.data.toList from rfl).to_ 200
    obtain ⟨T, hT⟩ : ∃ T, T = (if S0.size ≤ 200 then S0 else S0.extract 0 200) := ⟨_, rfl⟩
    have hTe : StrIs T m := by
      rw [hT]
      first
        | (rw [if_pos hlt]; exact HS.out)
        | (rw [if_neg hlt]; exact HS.out)
    first
      | rw [if_pos hlt] at hT
      | rw [if_neg hlt] at hT
    have HTE := Lib.hid hTe
    have hTs : T.size = m.length := hTe.size
    clear hTe
    go_enter Try.func5, Try.ntmps5
    go_wp2_with fail
    refine (works17_any _).mono ?_
    rintro e w1 ⟨rfl, b1⟩
    go_wp2_with fail
    rw [← hT]
    clear hT
    refine (keywords_any _).mono ?_
    rintro e w2 ⟨v2, rfl, hv2, b2⟩
    have B2 : Hid (Below w.heap.size w w2) := b1.trans (b2.mono b1.size)
    obtain ⟨A0, c0, rfl, hc0, hv0⟩ := hv2
    have HV := Lib.hid hv0
    obtain ⟨n, hn⟩ : ∃ n, n = keyws.length := ⟨_, rfl⟩
    have hn13 : n = 13 := hn
    have HN := Lib.hid hn
    rw [← hn] at hc0 ⊢
    clear hv0 hn b1 b2
    go_wp2
    go_loopw [6] (fun v6 wr => ∃ k : Nat, k ≤ n ∧ Hid (Below w2.heap.size w2 wr) ∧ v6 = .int .i64 (k : Int)) (fun v6 _ => n - (intOf v6).toNat)
    case atStart => exact ⟨0, by omega, Below.refl _ _, rfl⟩
    case round =>
      obtain ⟨k, hk, HB, rfl⟩ := hrel
      by_cases hlt : k < n
      · obtain ⟨s, hs⟩ : ∃ s, keyws[k]? = some s := ⟨_, List.getElem?_eq_getElem (by rw [← HN.out]; exact hlt)⟩
        obtain ⟨ad, rfl, ec0⟩ := HV.out k s hs
        have ec := (HB.out.cell (World.block_lt_of_cell? w2 _ ec0)).trans ec0
        have HKW := Lib.hid (keyws_word s (List.mem_of_getElem? hs))
        have CW := fun w => word_any ⟨s.toArray⟩ s true w (StrIs.mk s) (by have := HKW.out.2; omega) ⟨fun _ => HKW.out.1, fun _ => rfl⟩
        have HM2 := Lib.hid (List.mem_of_getElem? hs)
        have CN := fun w => name_any ⟨s.toArray⟩ s false w (StrIs.mk s) (by have := HKW.out.2; omega) ⟨fun h => Bool.noConfusion h, fun h => absurd HM2.out h.2⟩
        clear hs
        go_wp2_with fail
        refine (CW _).mono ?_
        rintro e w3 ⟨rfl, b3⟩
        have ec3 := (b3.cell (World.block_lt_of_cell? wr _ ec)).trans ec
        have B3 : Hid (Below w2.heap.size w2 w3) := HB.out.trans (b3.mono HB.out.size)
        clear HB b3 ec ec0
        go_wp2_with fail
        refine (CN _).mono ?_
        rintro e w4 ⟨rfl, b4⟩
        have B4 : Hid (Below w2.heap.size w2 w4) := B3.out.trans (b4.mono B3.out.size)
        clear B3 b4 ec3
        go_wp2
        go_roundw
        case rel => exact ⟨k + 1, by omega, B4, by go_num⟩
        case measure => simp [intOf]; omega
      · have BB : Hid (Below w.heap.size w wr) := B2.out.trans (HB.out.mono B2.out.size)
        obtain ⟨d, hd⟩ : ∃ d : Nat, a1 = (d : Int) := ⟨a1.toNat, by omega⟩
        subst hd
        obtain ⟨bn, hbn⟩ := bool_of (nameS m)
        obtain ⟨bt, hbt⟩ := bool_of (wordS (m ++ [UInt8.ofNat (97 + d % 26)]))
        have HA := Lib.hid (And.intro hbn hbt)
        have HIM : Hid (bn = true → bt = true) := fun h => hbt.2 (word_more (hbn.1 h).1 (show d % 26 < 26 by omega))
        clear hbn hbt HB B2
        have hci : ∀ W : World, (convert 31 9 (.slice (some ⟨W.heap.size, 0, none⟩) 1 1)).run Try.prog (W.alloc (.cells #[.int .u8 (97 + (d : Int) % 26)] 5)) = .ok (.string ⟨#[UInt8.ofNat (97 + d % 26)]⟩) (W.alloc (.cells #[.int .u8 (97 + (d : Int) % 26)] 5)) := conv_one d
        go_wp2_with fail
        have b4 := below_alloc (w := wr) (Nat.le_refl _) (.cells #[.int .u8 (97 + (d : Int) % 26)] 5)
        have B4 := BB.out.trans (b4.mono BB.out.size)
        have HS2 : Hid (StrIs (T ++ ⟨#[97 + UInt8.ofNat (d % 26)]⟩) (m ++ [UInt8.ofNat (97 + d % 26)])) := str_more HTE.out d
        obtain ⟨w4, hw4⟩ : ∃ w4, w4 = wr.alloc (.cells #[.int .u8 (97 + (d : Int) % 26)] 5) := ⟨_, rfl⟩
        rw [← hw4] at B4 ⊢
        clear hw4 b4
        refine (name_any T m bn _ HTE.out (by omega) HA.out.1).mono ?_
        rintro e w5 ⟨rfl, b5⟩
        have B5 := B4.trans (b5.mono B4.size)
        rcases bn with _ | _
        · go_wp2
          go_ret
          exact ⟨rfl, B5⟩
        · obtain rfl : bt = true := HIM.out rfl
          go_wp2_with fail
          refine (word_any _ _ true _ HS2.out (by rw [List.length_append, List.length_singleton]; omega) ⟨fun _ => HA.out.2.1 trivial, fun _ => rfl⟩).mono ?_
          rintro e w6 ⟨rfl, b6⟩
          go_wp2
          go_ret
          exact ⟨rfl, B5.trans (b6.mono B5.size)⟩

set_option maxRecDepth 100000 in
theorem lifted (os : Os) (started : os.Started) (H : Type) (enc : TypeId × Value → H) :
    ReturnsInHanded {} Try.checked os 5 .any (Rows.nameWordsSpec.pre6 enc Try.prog Try.f5 Rows.nameWordsRow.domain false) (Rows.nameWordsSpec.post enc Try.prog Try.f5 false true false false) := by
  refine returnsInHanded_of_change (C := Try.checked) own started (by kernel_rfl) Try.func5
    (ChangeSpec.witness6 (enc := enc) (C := Try.checked) false ⟨#[], #[.string ⟨#[]⟩, .int .u8 0], []⟩ 8 (by kernel_rfl) (by kernel_rfl) (by kernel_rfl) (by kernel_rfl)) ?_
  intro W base args ds gs before hval0 hW hcnd _
  have hval : ∀ (j : Nat) t v, Try.f5.params[j]? = some t → args[j]? = some v → Value.okWide Try.prog W .any base t v := hval0
  have hW' := hW
  obtain ⟨p, q, hA0, hV, rfl, hfz, hnd⟩ := hW
  have hA : DataW.TrodAll enc Try.prog W 0 (fun _ => true) true Try.f5.params.toList args.toList ds p := hA0
  rw [Try.params5] at hA hval
  obtain ⟨v0, vs0, d0, ds0, p0, q0, hargs, rfl, rfl, t0, r0⟩ := trodAll_cons hA
  obtain ⟨v1, vs1, d1, ds1, p1, q1, rfl, rfl, rfl, t1, r1⟩ := trodAll_cons r0
  obtain ⟨rfl, rfl, rfl⟩ := trodAll_nil r1
  obtain rfl : args = #[v0, v1] := by cases args; simp_all
  obtain ⟨rfl, rfl⟩ := trodVars_none hV
  obtain ⟨S0, rfl, hd0, hp0, hs0⟩ := Go.ChangeMaps.open_string Try.underlying9 (hval 0 9 v0 rfl rfl) t0
  obtain ⟨a1, rfl, hd1, hp1, wf1⟩ := open_int Try.underlying5 (hval 1 5 v1 rfl rfl) t1
  clear hA0 hval0
  simp only [List.append_nil] at hW'
  have hlt0 : ∀ x ∈ p0, x.block < W.heap.size := fun x hx => hW'.lt x (List.mem_append_left _ hx)
  have hlt1 : ∀ x ∈ p1, x.block < W.heap.size := fun x hx => hW'.lt x (List.mem_append_right _ (hx))
  refine (walk S0 a1 W hs0 wf1).mono fun e W' ⟨he, hb⟩ => ?_
  subst he
  have s0 := Below.trod laidOut (by kernel_rfl) (of_decide_eq_true (by kernel_rfl)) t0 hb hlt0
  have s1 := Below.trod laidOut (by kernel_rfl) (of_decide_eq_true (by kernel_rfl)) t1 hb hlt1
  exact ⟨_, rfl, _, _, _, [] ++ [], _, [], hW', trodAll_cons_mk (shut_bool Try.underlying4 _) trodAll_mk0, trodAll_cons_mk s0 (trodAll_cons_mk s1 (trodAll_mk0)), rfl, hb.frame _, fun h => by cases h⟩

theorem over : Rows.nameWordsRow.holds Try.pinned (OpenSpec.ofChange Rows.nameWordsSpec) :=
  OpenClaim.holds_of_wide 5 Try.f5 rfl rfl rfl rfl rfl rfl rfl ⟨rfl, rfl, rfl, rfl, rfl⟩ rfl rfl rfl rfl rfl (by kernel_rfl) Try.func5 (by kernel_rfl)
    (of_decide_eq_true (by kernel_rfl)) (by unfold Func.isWrapper; first | (rw [if_pos (by decide +kernel)]; kernel_rfl) | (rw [if_neg (by decide +kernel)]; exact ⟨rfl, rfl⟩))
    (fun os started H enc _ => lifted os started H enc)

/-- The statement. -/
theorem proved : Rows.NameWordsSaid := over
end Go.Proofs.Ytagaabooccnamaa.nameWords
