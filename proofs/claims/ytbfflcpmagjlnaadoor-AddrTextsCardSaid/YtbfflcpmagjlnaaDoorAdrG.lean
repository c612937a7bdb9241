/- The document's Parse. Condition: the text is of at most 1000000 bytes. -/
import Derived.Test.YtbfflcpmagjlnaaDoorAdrF
namespace Go.Proofs.YtbfflcpmagjlnaaDoor.adr
open Go.RowKit Go.Proofs.YtbfflcpmagjlnaaDoor.num Go.Proofs.YtbfflcpmagjlnaaDoor.mem Go.Proofs.YtbfflcpmagjlnaaDoor.txt Go.Proofs.YtbfflcpmagjlnaaDoor.str
set_option linter.unusedVariables false
set_option maxHeartbeats 3200000 in
set_option maxRecDepth 100000 in
theorem rparse_any (S : ByteArray) (l : List UInt8) (a : Nat) (x : Int) (w : World) (hS : StrIs S l) (hl : l.length ≤ 1000000) (hx : adrE l 5 22 = (x, a)) : Calls Tryd.prog 8 #[.string S] w (RetAE a x w) := by
  have hans : ¬ ((splitC 46 l).length = 4 ∧ allOk (splitC 46 l)) → x = 5 ∧ a = 0 := fun h => by
    rw [adrE_text h] at hx
    injection hx with h1 h2
    exact ⟨h1.symm, h2.symm⟩
  have HX := Lib.hid hx
  have HL := Lib.hid hl
  clear hx
  have CS := split_any S l 46 46 w hS hl rfl
  go_enter Tryd.func8, Tryd.ntmps8
  go_wp2_with fail
  refine CS.mono ?_
  rintro e w1 ⟨v, rfl, hv, b1⟩
  obtain ⟨A0, c0, rfl, hc0, hv0⟩ := hv
  obtain ⟨N, hN⟩ : ∃ N, N = (splitC 46 l).length := ⟨_, rfl⟩
  have HNN := Lib.hid hN
  have HV := Lib.hid hv0
  have hN6 : N ≤ 1000001 := by rw [hN]; exact splitC_len_le 46 l hl
  rw [← hN] at hc0 ⊢
  clear hv0 hN
  by_cases h4 : N = 4
  · subst h4
    clear hN6
    go_wp2
    go_loopw [5, 6, 7] (fun v5 v6 v7 wr => ∃ (k : Nat) (fits : Bool) (A x6 : Int), k ≤ 4 ∧ Hid (x6 = (if fits then 0 else 22)) ∧ v5 = .int .u32 A ∧ v6 = .int .i64 x6 ∧ v7 = .int .i64 (k : Int) ∧ Sofar l k fits A ∧ Hid (Below w1.heap.size w1 wr)) (fun _ _ v7 _ => 4 - (intOf v7).toNat)
    case atStart => exact ⟨0, true, 0, 0, by omega, rfl, rfl, rfl, rfl, Sofar.start l, Below.refl _ _⟩
    case round =>
      obtain ⟨k, fits, A, x6, hk, HX6, rfl, rfl, rfl, hsf, HB⟩ := hrel
      obtain ⟨wi, hwi⟩ : ∃ wi, wi = wr := ⟨_, rfl⟩
      subst hwi
      have hA0 := hsf.ge
      have hA1 := hsf.le
      have HSF := Lib.hid hsf
      clear hsf
      by_cases hlt : k < 4
      · obtain ⟨p, hp⟩ : ∃ p, (splitC 46 l)[k]? = some p := ⟨_, List.getElem?_eq_getElem (by rw [← HNN.out]; exact hlt)⟩
        obtain ⟨ad, rfl, ec0⟩ := HV.out k p hp
        have ec := (HB.out.cell (World.block_lt_of_cell? w1 _ ec0)).trans ec0
        have hpl : p.length ≤ 1000000 := splitC_part_le hp hl
        have HP := Lib.hid hp
        clear hp ec0
        by_cases hok : numOk p
        · have HOK := Lib.hid hok
          obtain ⟨n, hn⟩ : ∃ n, n = numV p := ⟨_, rfl⟩
          have hn9 : n ≤ 999 := by rw [hn]; exact numV_le hok
          have HN := Lib.hid hn
          have CN := fun R1 hR1 w => rnumber_any R1 p true n w hR1 hpl ⟨fun _ => HOK.out, fun _ => rfl⟩ (by rw [if_pos rfl]; exact HN.out)
          clear hok hn
          go_wp2_with fail
          refine (CN _ (StrIs.mk p) _).mono ?_
          rintro e w2 ⟨rfl, rfl⟩
          cases fits with
          | true =>
            have hAs := HSF.out.small (by omega)
            by_cases hn : n ≤ 255
            · have hn' : (n : Int) ≤ 255 := by omega
              have HNA : Hid (IntKind.u32.wrap (256 * A + (n : Int)) = 256 * A + (n : Int)) := by show _ = _; rw [IntKind.wrap_u32]; omega
              have SF2 : Hid (Sofar l (k + 1) true (256 * A + (n : Int))) := HSF.out.next HP.out HOK.out (by rw [← HN.out, decide_eq_true hn]; rfl) (by omega) (by omega) (fun _ => by rw [HN.out])
              have hmod : (n : Int).tmod 256 = (n : Int) := by rw [Int.tmod_eq_emod_of_nonneg (by omega)]; omega
              clear hn
              go_wp2
              go_roundw
              case rel => exact ⟨k + 1, true, _, _, by omega, HX6, rfl, rfl, by go_num, SF2.out, HB⟩
              case measure => simp [intOf] <;> omega
            · have hn' : ¬ (n : Int) ≤ 255 := by omega
              obtain ⟨t, ht⟩ : ∃ t : Int, t = (n : Int).tmod 256 := ⟨_, rfl⟩
              have ht1 : 0 ≤ t ∧ t ≤ 255 := by rw [ht, Int.tmod_eq_emod_of_nonneg (by omega)]; omega
              obtain ⟨ht1, ht2⟩ := ht1
              have hmod := ht.symm
              have SF2 : ∀ B : Int, 0 ≤ B → B ≤ 4294967295 → Hid (Sofar l (k + 1) false B) := fun B b0 b1 => HSF.out.next HP.out HOK.out (by rw [← HN.out, decide_eq_false hn]; rfl) b0 b1 (fun x => Bool.noConfusion x)
              clear hn ht
              go_wp2
              go_roundw
              case rel => exact ⟨k + 1, false, _, _, by omega, rfl, rfl, rfl, by go_num, (SF2 _ (by first | omega | exact (wrap_within .u32 _).1) (by first | omega | exact (wrap_within .u32 _).2)).out, HB⟩
              case measure => simp [intOf] <;> omega
          | false =>
            obtain ⟨t, ht⟩ : ∃ t : Int, t = (n : Int).tmod 256 := ⟨_, rfl⟩
            have ht1 : 0 ≤ t ∧ t ≤ 255 := by rw [ht, Int.tmod_eq_emod_of_nonneg (by omega)]; omega
            obtain ⟨ht1, ht2⟩ := ht1
            have hmod := ht.symm
            have SF2 : ∀ B : Int, 0 ≤ B → B ≤ 4294967295 → Hid (Sofar l (k + 1) false B) := fun B b0 b1 => HSF.out.next HP.out HOK.out (by simp) b0 b1 (fun x => Bool.noConfusion x)
            clear ht
            by_cases hn' : (n : Int) ≤ 255
            · go_wp2
              go_roundw
              case rel => exact ⟨k + 1, false, _, _, by omega, HX6, rfl, rfl, by go_num, (SF2 _ (by first | omega | exact (wrap_within .u32 _).1) (by first | omega | exact (wrap_within .u32 _).2)).out, HB⟩
              case measure => simp [intOf] <;> omega
            · go_wp2
              go_roundw
              case rel => exact ⟨k + 1, false, _, _, by omega, rfl, rfl, rfl, by go_num, (SF2 _ (by first | omega | exact (wrap_within .u32 _).1) (by first | omega | exact (wrap_within .u32 _).2)).out, HB⟩
              case measure => simp [intOf] <;> omega
        · obtain ⟨rfl, rfl⟩ := hans (not_ok HP.out hok)
          have CN := fun R1 hR1 w => rnumber_any R1 p false 0 w hR1 hpl ⟨fun h => Bool.noConfusion h, fun h => absurd h hok⟩ rfl
          clear hok hans
          go_wp2_with fail
          refine (CN _ (StrIs.mk p) _).mono ?_
          rintro e w2 ⟨rfl, rfl⟩
          go_wp2
          go_ret2
          exact ⟨rfl, b1.trans (HB.out.mono b1.size)⟩
      · obtain rfl : k = 4 := by omega
        have hla := HSF.out.last HNN.out.symm
        have HLA := Lib.hid hla
        clear hla hans
        cases fits with
        | true =>
          obtain rfl : x6 = 0 := HX6.out
          have hans2 := (adrE_ok HNN.out.symm HLA.out.1 (HLA.out.2.1.1 rfl)).symm.trans HX.out
          injection hans2 with e1 e2
          have HA : Hid (A = (a : Int)) := by show _ = _; rw [HLA.out.2.2 rfl, e2]
          subst e1
          clear e2
          go_wp2
          go_ret2
          exact ⟨by rw [HA.out]; rfl, b1.trans (HB.out.mono b1.size)⟩
        | false =>
          obtain rfl : x6 = 22 := HX6.out
          have hans2 := (adrE_form HNN.out.symm HLA.out.1 (fun h => Bool.noConfusion (HLA.out.2.1.2 h))).symm.trans HX.out
          injection hans2 with e1 e2
          subst e1
          subst e2
          go_wp2
          go_ret2
          exact ⟨rfl, b1.trans (HB.out.mono b1.size)⟩
  · obtain ⟨rfl, rfl⟩ := hans fun h => h4 (by rw [HNN.out]; exact h.1)
    have h4' : ((N : Int) != 4) = true := by rw [bne_iff_ne]; omega
    have h4'' : ((N : Int) == 4) = false := by rw [beq_eq_false_iff_ne]; omega
    clear h4 hans
    go_wp2
    go_ret2
    exact ⟨rfl, b1⟩
end Go.Proofs.YtbfflcpmagjlnaaDoor.adr
