/- What a text is read as, as a prefix: the document's Prefix. Condition: the text is of at most 1000000 bytes. -/
import Derived.Test.YtbfflcpmagjlnaaDoorAdrQ
namespace Go.Proofs.YtbfflcpmagjlnaaDoor.adr
open Go.RowKit Go.Proofs.YtbfflcpmagjlnaaDoor.num Go.Proofs.YtbfflcpmagjlnaaDoor.mem Go.Proofs.YtbfflcpmagjlnaaDoor.txt Go.Proofs.YtbfflcpmagjlnaaDoor.str
set_option linter.unusedVariables false
set_option linter.unusedSimpArgs false
set_option maxHeartbeats 3200000 in
set_option maxRecDepth 100000 in
theorem rprefix_any18 (S : ByteArray) (l : List UInt8) (A n : Nat) (x : Int) (w : World) (hS : StrIs S l) (hl : l.length ≤ 1000000) (hx : pfxE l = (x, A, n)) : Calls Tryd.prog 10 #[.string S] w (RetPX A n x w) := by
  obtain ⟨ps, hps⟩ : ∃ ps, ps = splitC 47 l := ⟨_, rfl⟩
  unfold pfxE at hx
  rw [← hps] at hx
  have CS := fun w => split_any S l 47 47 w hS hl rfl
  rw [← hps] at CS
  by_cases h2 : ps.length = 2
  · obtain ⟨p, q, rfl⟩ : ∃ p q, ps = [p, q] := by
      rcases ps with _ | ⟨p, _ | ⟨q, _ | ⟨r, t⟩⟩⟩
      · simp at h2
      · simp at h2
      · exact ⟨p, q, rfl⟩
      · simp at h2
    have hpl : p.length ≤ 1000000 := splitC_part_le (k := 0) (by rw [← hps]; rfl) hl
    have hql : q.length ≤ 1000000 := splitC_part_le (k := 1) (by rw [← hps]; rfl) hl
    have HSP0 : Hid ([p, q][0]? = some p) := rfl
    have HSP1 : Hid ([p, q][1]? = some q) := rfl
    have HSPL : Hid ([p, q].length = 2) := rfl
    clear hps h2
    have hx : pfx2 p q = (x, A, n) := hx
    obtain ⟨e1, he1⟩ : ∃ e1, e1 = (adrE p 5 22).1 := ⟨_, rfl⟩
    obtain ⟨a1, ha1⟩ : ∃ a1, a1 = (adrE p 5 22).2 := ⟨_, rfl⟩
    have hal : a1 < 4294967296 := by rw [ha1]; exact adrE_lt p 5 22
    have hadr : adrE p 5 22 = (e1, a1) := by rw [he1, ha1]
    have hx2 : (if e1 = 5 ∨ ¬ numOk q then ((5 : Int), 0, 0) else if e1 ≠ 0 ∨ ¬ mayP a1 ((numV q : Nat) : Int) then (22, 0, 0) else (0, a1, numV q)) = (x, A, n) := by
      rw [← hx]; unfold pfx2; rw [← he1, ← ha1]
    have hcase : e1 = 5 ∨ e1 = 22 ∨ e1 = 0 := by rw [he1]; exact adrE_cases p
    have CP := fun R w hR => rparse_any R p a1 e1 w hR hpl hadr
    clear hx he1 ha1 hadr
    by_cases hok : numOk q
    · obtain ⟨m1, hm1⟩ : ∃ m1, m1 = numV q := ⟨_, rfl⟩
      have hm9 : m1 ≤ 999 := by rw [hm1]; exact numV_le hok
      have HOK := Lib.hid hok
      have HM1 := Lib.hid hm1
      rw [← hm1] at hx2
      clear hm1 hok
      rcases hcase with rfl | rfl | rfl
      · rw [if_pos (.inl rfl)] at hx2
        injection hx2 with e1 e2
        injection e2 with e2 e3
        subst e1
        subst e2
        subst e3
        go_enter Tryd.func10, Tryd.ntmps10
        go_upto_region 1 with (fail)
        obtain ⟨w1, hw1, r0, r1, b1, ltb, hB⟩ := pairboxB w 24 (.int .u32 0) (.int .i64 0)
        rw [hw1]
        clear hw1 r0 r1
        go_wp2_with fail
        refine (CS _).mono ?_
        rintro e w2 ⟨v, rfl, hv, b2⟩
        obtain ⟨A0, c0, rfl, hc0, hv0⟩ := hv
        obtain ⟨ad, e0, ec0⟩ := hv0 0 _ HSP0.out
        subst e0
        obtain ⟨ad2, e1, ec1⟩ := hv0 1 _ HSP1.out
        injection e1 with e1
        subst e1
        have ea : ad.add 0 = ad := by simp [Addr.add]
        have ea1 : ad.add 1 = ⟨ad.block, ad.off + 1, none⟩ := by simp [Addr.add]
        rw [ea] at ec0
        rw [ea1] at ec1
        rw [HSPL.out] at hc0 ⊢
        clear hv0
        go_wp2_with fail
        refine (CP _ _ (StrIs.mk _)).mono ?_
        rintro e w3 ⟨rfl, b3⟩
        have bb3 : Below w1.heap.size w1 w3 := b2.trans (b3.mono b2.size)
        have ec1b := (b3.cell (World.block_lt_of_cell? w2 _ ec1)).trans ec1
        clear ec0 ec1
        go_wp2_with fail
        refine (rnumber_any _ _ true m1 _ (StrIs.mk _) hql ⟨fun _ => HOK.out, fun _ => rfl⟩ (by rw [if_pos rfl]; exact HM1.out)).mono ?_
        rintro e w4 ⟨rfl, rfl⟩
        have hBk : w4.heap[w.heap.size]? = some (.cells #[.int .u32 0, .int .i64 0] 24 (0, 0)) := ((bb3).block _ ltb).trans hB
        obtain ⟨k0, k1, k2, k3⟩ := two18 hBk
        clear hBk
        have bt := b1.trans (bb3.mono (Nat.le_of_lt ltb))
        go_wp2
        obtain ⟨wz, hwz⟩ : ∃ wz, wz = (w4.setCell ⟨w.heap.size, 0, none⟩ (.int .u32 0)).setCell ⟨w.heap.size, 1, none⟩ (.int .i64 0) := ⟨_, rfl⟩
        have c0 : wz.cell? ⟨w.heap.size, 0, none⟩ = some (.int .u32 0) := by rw [hwz]; exact (set2_18 k0 k1 _ _).1
        have c1 : wz.cell? ⟨w.heap.size, 1, none⟩ = some (.int .i64 0) := by rw [hwz]; exact (set2_18 k0 k1 _ _).2
        have bz : Below w.heap.size w wz := by rw [hwz]; exact ((bt).setCell (Nat.le_refl _) _).setCell (Nat.le_refl _) _
        rw [← hwz]
        clear hwz
        exact bodyPost_ret (v := .tuple #[.agg #[.int .u32 (((0 : Nat) : Int)), .int .i64 (((0 : Nat) : Int))], .int .i64 5]) (by simp [results, Tryd.results10, go_sem, c0, c1]) rfl ⟨rfl, bz⟩
      · rw [if_neg (by rintro (h | h); exact absurd h (by decide); exact h HOK.out), if_pos (.inl (by decide))] at hx2
        injection hx2 with e1 e2
        injection e2 with e2 e3
        subst e1
        subst e2
        subst e3
        go_enter Tryd.func10, Tryd.ntmps10
        go_upto_region 1 with (fail)
        obtain ⟨w1, hw1, r0, r1, b1, ltb, hB⟩ := pairboxB w 24 (.int .u32 0) (.int .i64 0)
        rw [hw1]
        clear hw1 r0 r1
        go_wp2_with fail
        refine (CS _).mono ?_
        rintro e w2 ⟨v, rfl, hv, b2⟩
        obtain ⟨A0, c0, rfl, hc0, hv0⟩ := hv
        obtain ⟨ad, e0, ec0⟩ := hv0 0 _ HSP0.out
        subst e0
        obtain ⟨ad2, e1, ec1⟩ := hv0 1 _ HSP1.out
        injection e1 with e1
        subst e1
        have ea : ad.add 0 = ad := by simp [Addr.add]
        have ea1 : ad.add 1 = ⟨ad.block, ad.off + 1, none⟩ := by simp [Addr.add]
        rw [ea] at ec0
        rw [ea1] at ec1
        rw [HSPL.out] at hc0 ⊢
        clear hv0
        go_wp2_with fail
        refine (CP _ _ (StrIs.mk _)).mono ?_
        rintro e w3 ⟨rfl, b3⟩
        have bb3 : Below w1.heap.size w1 w3 := b2.trans (b3.mono b2.size)
        have ec1b := (b3.cell (World.block_lt_of_cell? w2 _ ec1)).trans ec1
        clear ec0 ec1
        go_wp2_with fail
        refine (rnumber_any _ _ true m1 _ (StrIs.mk _) hql ⟨fun _ => HOK.out, fun _ => rfl⟩ (by rw [if_pos rfl]; exact HM1.out)).mono ?_
        rintro e w4 ⟨rfl, rfl⟩
        have hBk : w4.heap[w.heap.size]? = some (.cells #[.int .u32 0, .int .i64 0] 24 (0, 0)) := ((bb3).block _ ltb).trans hB
        obtain ⟨k0, k1, k2, k3⟩ := two18 hBk
        clear hBk
        have bt := b1.trans (bb3.mono (Nat.le_of_lt ltb))
        have hBs : w.heap.size ≤ w4.heap.size := bt.size
        go_upto_region 9 with (fail)
        obtain ⟨wp, hwp, x0, x1, bp, ltp⟩ := pairbox w4 24 (.int .u32 (a1 : Int)) (.int .i64 (m1 : Int))
        rw [hwp]
        clear hwp k0 k1 k2 k3
        have btp : Below w.heap.size w wp := bt.trans (bp.mono hBs)
        have bbp : Below w1.heap.size w1 wp := bb3.trans (bp.mono bb3.size)
        have hBk : wp.heap[w.heap.size]? = some (.cells #[.int .u32 0, .int .i64 0] 24 (0, 0)) := ((bbp).block _ ltb).trans hB
        obtain ⟨k0, k1, k2, k3⟩ := two18 hBk
        clear hBk
        go_wp2
        obtain ⟨wz, hwz⟩ : ∃ wz, wz = (wp.setCell ⟨w.heap.size, 0, none⟩ (.int .u32 0)).setCell ⟨w.heap.size, 1, none⟩ (.int .i64 0) := ⟨_, rfl⟩
        have c0 : wz.cell? ⟨w.heap.size, 0, none⟩ = some (.int .u32 0) := by rw [hwz]; exact (set2_18 k0 k1 _ _).1
        have c1 : wz.cell? ⟨w.heap.size, 1, none⟩ = some (.int .i64 0) := by rw [hwz]; exact (set2_18 k0 k1 _ _).2
        have bz : Below w.heap.size w wz := by rw [hwz]; exact ((btp).setCell (Nat.le_refl _) _).setCell (Nat.le_refl _) _
        rw [← hwz]
        clear hwz
        exact bodyPost_ret (v := .tuple #[.agg #[.int .u32 (((0 : Nat) : Int)), .int .i64 (((0 : Nat) : Int))], .int .i64 22]) (by simp [results, Tryd.results10, go_sem, c0, c1]) rfl ⟨rfl, bz⟩
      · rw [if_neg (by rintro (h | h); exact absurd h (by decide); exact h HOK.out)] at hx2
        by_cases hm : mayP a1 ((m1 : Nat) : Int)
        · rw [if_neg (by rintro (h | h); exact h rfl; exact h hm)] at hx2
          injection hx2 with e1 e2
          injection e2 with e2 e3
          subst e1
          subst e2
          subst e3
          have CY := fun w => rmay_any18 a1 ((m1 : Nat) : Int) true w hal (by omega) (by omega) ⟨fun _ => hm, fun _ => rfl⟩
          clear hm
          go_enter Tryd.func10, Tryd.ntmps10
          go_upto_region 1 with (fail)
          obtain ⟨w1, hw1, r0, r1, b1, ltb, hB⟩ := pairboxB w 24 (.int .u32 0) (.int .i64 0)
          rw [hw1]
          clear hw1 r0 r1
          go_wp2_with fail
          refine (CS _).mono ?_
          rintro e w2 ⟨v, rfl, hv, b2⟩
          obtain ⟨A0, c0, rfl, hc0, hv0⟩ := hv
          obtain ⟨ad, e0, ec0⟩ := hv0 0 _ HSP0.out
          subst e0
          obtain ⟨ad2, e1, ec1⟩ := hv0 1 _ HSP1.out
          injection e1 with e1
          subst e1
          have ea : ad.add 0 = ad := by simp [Addr.add]
          have ea1 : ad.add 1 = ⟨ad.block, ad.off + 1, none⟩ := by simp [Addr.add]
          rw [ea] at ec0
          rw [ea1] at ec1
          rw [HSPL.out] at hc0 ⊢
          clear hv0
          go_wp2_with fail
          refine (CP _ _ (StrIs.mk _)).mono ?_
          rintro e w3 ⟨rfl, b3⟩
          have bb3 : Below w1.heap.size w1 w3 := b2.trans (b3.mono b2.size)
          have ec1b := (b3.cell (World.block_lt_of_cell? w2 _ ec1)).trans ec1
          clear ec0 ec1
          go_wp2_with fail
          refine (rnumber_any _ _ true m1 _ (StrIs.mk _) hql ⟨fun _ => HOK.out, fun _ => rfl⟩ (by rw [if_pos rfl]; exact HM1.out)).mono ?_
          rintro e w4 ⟨rfl, rfl⟩
          have bt := b1.trans (bb3.mono (Nat.le_of_lt ltb))
          have hBs : w.heap.size ≤ w4.heap.size := bt.size
          go_upto_region 9 with (fail)
          obtain ⟨wp, hwp, x0, x1, bp, ltp⟩ := pairbox w4 24 (.int .u32 (a1 : Int)) (.int .i64 (m1 : Int))
          rw [hwp]
          clear hwp
          go_wp2_with fail
          refine (CY _).mono ?_
          rintro e w5 ⟨rfl, b5⟩
          have y0 := (b5.cell ltp).trans x0
          have y1 := (b5.cell ltp).trans x1
          have bp5 : Below w4.heap.size w4 w5 := bp.trans (b5.mono bp.size)
          have bt5 : Below w.heap.size w w5 := bt.trans (bp5.mono hBs)
          have bb5 : Below w1.heap.size w1 w5 := bb3.trans (bp5.mono bb3.size)
          clear x0 x1 bp b5 ltp
          have hBk : w5.heap[w.heap.size]? = some (.cells #[.int .u32 0, .int .i64 0] 24 (0, 0)) := ((bb5).block _ ltb).trans hB
          obtain ⟨k0, k1, k2, k3⟩ := two18 hBk
          clear hBk
          go_wp2
          obtain ⟨wz, hwz⟩ : ∃ wz, wz = (w5.setCell ⟨w.heap.size, 0, none⟩ (.int .u32 (a1 : Int))).setCell ⟨w.heap.size, 1, none⟩ (.int .i64 (m1 : Int)) := ⟨_, rfl⟩
          have c0 : wz.cell? ⟨w.heap.size, 0, none⟩ = some (.int .u32 (a1 : Int)) := by rw [hwz]; exact (set2_18 k0 k1 _ _).1
          have c1 : wz.cell? ⟨w.heap.size, 1, none⟩ = some (.int .i64 (m1 : Int)) := by rw [hwz]; exact (set2_18 k0 k1 _ _).2
          have bz : Below w.heap.size w wz := by rw [hwz]; exact ((bt5).setCell (Nat.le_refl _) _).setCell (Nat.le_refl _) _
          rw [← hwz]
          clear hwz
          exact bodyPost_ret (v := .tuple #[.agg #[.int .u32 ((a1 : Int)), .int .i64 ((m1 : Int))], .int .i64 0]) (by simp [results, Tryd.results10, go_sem, c0, c1]) rfl ⟨rfl, bz⟩
        · rw [if_pos (.inr hm)] at hx2
          injection hx2 with e1 e2
          injection e2 with e2 e3
          subst e1
          subst e2
          subst e3
          have CY := fun w => rmay_any18 a1 ((m1 : Nat) : Int) false w hal (by omega) (by omega) ⟨fun h => Bool.noConfusion h, fun h => absurd h hm⟩
          clear hm
          go_enter Tryd.func10, Tryd.ntmps10
          go_upto_region 1 with (fail)
          obtain ⟨w1, hw1, r0, r1, b1, ltb, hB⟩ := pairboxB w 24 (.int .u32 0) (.int .i64 0)
          rw [hw1]
          clear hw1 r0 r1
          go_wp2_with fail
          refine (CS _).mono ?_
          rintro e w2 ⟨v, rfl, hv, b2⟩
          obtain ⟨A0, c0, rfl, hc0, hv0⟩ := hv
          obtain ⟨ad, e0, ec0⟩ := hv0 0 _ HSP0.out
          subst e0
          obtain ⟨ad2, e1, ec1⟩ := hv0 1 _ HSP1.out
          injection e1 with e1
          subst e1
          have ea : ad.add 0 = ad := by simp [Addr.add]
          have ea1 : ad.add 1 = ⟨ad.block, ad.off + 1, none⟩ := by simp [Addr.add]
          rw [ea] at ec0
          rw [ea1] at ec1
          rw [HSPL.out] at hc0 ⊢
          clear hv0
          go_wp2_with fail
          refine (CP _ _ (StrIs.mk _)).mono ?_
          rintro e w3 ⟨rfl, b3⟩
          have bb3 : Below w1.heap.size w1 w3 := b2.trans (b3.mono b2.size)
          have ec1b := (b3.cell (World.block_lt_of_cell? w2 _ ec1)).trans ec1
          clear ec0 ec1
          go_wp2_with fail
          refine (rnumber_any _ _ true m1 _ (StrIs.mk _) hql ⟨fun _ => HOK.out, fun _ => rfl⟩ (by rw [if_pos rfl]; exact HM1.out)).mono ?_
          rintro e w4 ⟨rfl, rfl⟩
          have bt := b1.trans (bb3.mono (Nat.le_of_lt ltb))
          have hBs : w.heap.size ≤ w4.heap.size := bt.size
          go_upto_region 9 with (fail)
          obtain ⟨wp, hwp, x0, x1, bp, ltp⟩ := pairbox w4 24 (.int .u32 (a1 : Int)) (.int .i64 (m1 : Int))
          rw [hwp]
          clear hwp
          go_wp2_with fail
          refine (CY _).mono ?_
          rintro e w5 ⟨rfl, b5⟩
          have y0 := (b5.cell ltp).trans x0
          have y1 := (b5.cell ltp).trans x1
          have bp5 : Below w4.heap.size w4 w5 := bp.trans (b5.mono bp.size)
          have bt5 : Below w.heap.size w w5 := bt.trans (bp5.mono hBs)
          have bb5 : Below w1.heap.size w1 w5 := bb3.trans (bp5.mono bb3.size)
          clear x0 x1 bp b5 ltp
          have hBk : w5.heap[w.heap.size]? = some (.cells #[.int .u32 0, .int .i64 0] 24 (0, 0)) := ((bb5).block _ ltb).trans hB
          obtain ⟨k0, k1, k2, k3⟩ := two18 hBk
          clear hBk
          go_wp2
          obtain ⟨wz, hwz⟩ : ∃ wz, wz = (w5.setCell ⟨w.heap.size, 0, none⟩ (.int .u32 0)).setCell ⟨w.heap.size, 1, none⟩ (.int .i64 0) := ⟨_, rfl⟩
          have c0 : wz.cell? ⟨w.heap.size, 0, none⟩ = some (.int .u32 0) := by rw [hwz]; exact (set2_18 k0 k1 _ _).1
          have c1 : wz.cell? ⟨w.heap.size, 1, none⟩ = some (.int .i64 0) := by rw [hwz]; exact (set2_18 k0 k1 _ _).2
          have bz : Below w.heap.size w wz := by rw [hwz]; exact ((bt5).setCell (Nat.le_refl _) _).setCell (Nat.le_refl _) _
          rw [← hwz]
          clear hwz
          exact bodyPost_ret (v := .tuple #[.agg #[.int .u32 (((0 : Nat) : Int)), .int .i64 (((0 : Nat) : Int))], .int .i64 22]) (by simp [results, Tryd.results10, go_sem, c0, c1]) rfl ⟨rfl, bz⟩
    · rw [if_pos (.inr hok)] at hx2
      injection hx2 with e1' e2
      injection e2 with e2 e3
      subst e1'
      subst e2
      subst e3
      have HNO := Lib.hid hok
      clear hok
      rcases hcase with rfl | rfl | rfl
      all_goals
        go_enter Tryd.func10, Tryd.ntmps10
        go_upto_region 1 with (fail)
        obtain ⟨w1, hw1, r0, r1, b1, ltb, hB⟩ := pairboxB w 24 (.int .u32 0) (.int .i64 0)
        rw [hw1]
        clear hw1 r0 r1
        go_wp2_with fail
        refine (CS _).mono ?_
        rintro e w2 ⟨v, rfl, hv, b2⟩
        obtain ⟨A0, c0, rfl, hc0, hv0⟩ := hv
        obtain ⟨ad, e0, ec0⟩ := hv0 0 _ HSP0.out
        subst e0
        obtain ⟨ad2, e1, ec1⟩ := hv0 1 _ HSP1.out
        injection e1 with e1
        subst e1
        have ea : ad.add 0 = ad := by simp [Addr.add]
        have ea1 : ad.add 1 = ⟨ad.block, ad.off + 1, none⟩ := by simp [Addr.add]
        rw [ea] at ec0
        rw [ea1] at ec1
        rw [HSPL.out] at hc0 ⊢
        clear hv0
        go_wp2_with fail
        refine (CP _ _ (StrIs.mk _)).mono ?_
        rintro e w3 ⟨rfl, b3⟩
        have bb3 : Below w1.heap.size w1 w3 := b2.trans (b3.mono b2.size)
        have ec1b := (b3.cell (World.block_lt_of_cell? w2 _ ec1)).trans ec1
        clear ec0 ec1
        go_wp2_with fail
        refine (rnumber_any _ _ false 0 _ (StrIs.mk _) hql ⟨fun h => Bool.noConfusion h, fun h => absurd h HNO.out⟩ rfl).mono ?_
        rintro e w4 ⟨rfl, rfl⟩
        have hBk : w4.heap[w.heap.size]? = some (.cells #[.int .u32 0, .int .i64 0] 24 (0, 0)) := ((bb3).block _ ltb).trans hB
        obtain ⟨k0, k1, k2, k3⟩ := two18 hBk
        clear hBk
        have bt := b1.trans (bb3.mono (Nat.le_of_lt ltb))
        go_wp2
        obtain ⟨wz, hwz⟩ : ∃ wz, wz = (w4.setCell ⟨w.heap.size, 0, none⟩ (.int .u32 0)).setCell ⟨w.heap.size, 1, none⟩ (.int .i64 0) := ⟨_, rfl⟩
        have c0 : wz.cell? ⟨w.heap.size, 0, none⟩ = some (.int .u32 0) := by rw [hwz]; exact (set2_18 k0 k1 _ _).1
        have c1 : wz.cell? ⟨w.heap.size, 1, none⟩ = some (.int .i64 0) := by rw [hwz]; exact (set2_18 k0 k1 _ _).2
        have bz : Below w.heap.size w wz := by rw [hwz]; exact ((bt).setCell (Nat.le_refl _) _).setCell (Nat.le_refl _) _
        rw [← hwz]
        clear hwz
        exact bodyPost_ret (v := .tuple #[.agg #[.int .u32 (((0 : Nat) : Int)), .int .i64 (((0 : Nat) : Int))], .int .i64 5]) (by simp [results, Tryd.results10, go_sem, c0, c1]) rfl ⟨rfl, bz⟩
  · have hx2 : ((5 : Int), 0, 0) = (x, A, n) := by
      rw [← hx]
      rcases ps with _ | ⟨p, _ | ⟨q, _ | ⟨r, t⟩⟩⟩
      · rfl
      · rfl
      · simp at h2
      · rfl
    injection hx2 with e1 e2
    injection e2 with e2 e3
    subst e1
    subst e2
    subst e3
    obtain ⟨N, hN⟩ : ∃ N, N = ps.length := ⟨_, rfl⟩
    have HN := Lib.hid hN.symm
    have hN2 : ((N : Int) != 2) = true := by rw [bne_iff_ne]; omega
    have hN3 : ((N : Int) == 2) = false := by rw [beq_eq_false_iff_ne]; omega
    clear hN h2 hx
    go_enter Tryd.func10, Tryd.ntmps10
    go_upto_region 1 with (fail)
    obtain ⟨w1, hw1, r0, r1, b1, ltb, hB⟩ := pairboxB w 24 (.int .u32 0) (.int .i64 0)
    rw [hw1]
    clear hw1 r0 r1
    go_wp2_with fail
    refine (CS _).mono ?_
    rintro e w4 ⟨v, rfl, hv, bb3⟩
    obtain ⟨A0, c0, rfl, hc0, hv0⟩ := hv
    rw [HN.out] at hc0 ⊢
    clear hv0
    have hBk : w4.heap[w.heap.size]? = some (.cells #[.int .u32 0, .int .i64 0] 24 (0, 0)) := ((bb3).block _ ltb).trans hB
    obtain ⟨k0, k1, k2, k3⟩ := two18 hBk
    clear hBk
    have bt := b1.trans (bb3.mono (Nat.le_of_lt ltb))
    go_wp2
    obtain ⟨wz, hwz⟩ : ∃ wz, wz = (w4.setCell ⟨w.heap.size, 0, none⟩ (.int .u32 0)).setCell ⟨w.heap.size, 1, none⟩ (.int .i64 0) := ⟨_, rfl⟩
    have c0 : wz.cell? ⟨w.heap.size, 0, none⟩ = some (.int .u32 0) := by rw [hwz]; exact (set2_18 k0 k1 _ _).1
    have c1 : wz.cell? ⟨w.heap.size, 1, none⟩ = some (.int .i64 0) := by rw [hwz]; exact (set2_18 k0 k1 _ _).2
    have bz : Below w.heap.size w wz := by rw [hwz]; exact ((bt).setCell (Nat.le_refl _) _).setCell (Nat.le_refl _) _
    rw [← hwz]
    clear hwz
    exact bodyPost_ret (v := .tuple #[.agg #[.int .u32 (((0 : Nat) : Int)), .int .i64 (((0 : Nat) : Int))], .int .i64 5]) (by simp [results, Tryd.results10, go_sem, c0, c1]) rfl ⟨rfl, bz⟩
end Go.Proofs.YtbfflcpmagjlnaaDoor.adr
