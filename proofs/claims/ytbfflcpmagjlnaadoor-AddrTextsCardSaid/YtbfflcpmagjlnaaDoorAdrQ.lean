/- What a text is read as, as a prefix: addr.Prefix. Condition: the text is of at most 1000000 bytes. -/
import Derived.Test.YtbfflcpmagjlnaaDoorAdrP
namespace Go.Proofs.YtbfflcpmagjlnaaDoor.adr
open Go.RowKit Go.Proofs.YtbfflcpmagjlnaaDoor.num Go.Proofs.YtbfflcpmagjlnaaDoor.mem Go.Proofs.YtbfflcpmagjlnaaDoor.txt Go.Proofs.YtbfflcpmagjlnaaDoor.str
set_option linter.unusedVariables false
set_option linter.unusedSimpArgs false
/-- An address's text and a length's: an error's number, an address, a length. -/
def pfx2 (p q : List UInt8) : Int × Nat × Nat :=
  if (adrE p 5 22).1 = 5 ∨ ¬ numOk q then (5, 0, 0) else if (adrE p 5 22).1 ≠ 0 ∨ ¬ mayP (adrE p 5 22).2 ((numV q : Nat) : Int) then (22, 0, 0) else (0, (adrE p 5 22).2, numV q)
/-- What a text is read as: an error's number, and a prefix. -/
def pfxE (l : List UInt8) : Int × Nat × Nat :=
  match splitC 47 l with
  | [p, q] => pfx2 p q
  | _ => (5, 0, 0)
def RetPX (A n : Nat) (x : Int) (w : World) (e : Ending) (w' : World) : Prop := e = .returned (.tuple #[.agg #[.int .u32 (A : Int), .int .i64 (n : Int)], .int .i64 x]) ∧ Below w.heap.size w w'
theorem adrE_cases (l : List UInt8) : (adrE l 5 22).1 = 5 ∨ (adrE l 5 22).1 = 22 ∨ (adrE l 5 22).1 = 0 := by
  unfold adrE
  split
  · split
    · exact .inr (.inr rfl)
    · exact .inr (.inl rfl)
  · exact .inl rfl
theorem pfx2_lt (p q : List UInt8) : (pfx2 p q).2.1 < 4294967296 ∧ (pfx2 p q).2.2 ≤ 999 := by
  have h := adrE_lt p 5 22
  unfold pfx2
  split
  · exact ⟨by decide, by decide⟩
  · split
    · exact ⟨by decide, by decide⟩
    · rename_i h1 _
      exact ⟨h, numV_le (Decidable.not_not.1 fun x => h1 (.inr x))⟩
theorem not_num_slash {m : List UInt8} (h : (47 : UInt8) ∈ m) : ¬ numOk m := fun x => by
  have := x.2 47 h
  exact absurd this (by decide)
theorem splitC_mem {c : UInt8} {m p q : List UInt8} {r : List (List UInt8)} (h : splitC c m = p :: q :: r) : c ∈ m := by
  obtain ⟨n, rfl, _, _⟩ := splitC_more h
  simp
set_option maxHeartbeats 3200000 in
set_option maxRecDepth 100000 in
theorem prefix_any18 (S : ByteArray) (l : List UInt8) (A n : Nat) (x : Int) (w : World) (hS : StrIs S l) (hl : l.length ≤ 1000000) (hx : pfxE l = (x, A, n)) : Calls Tryd.prog 9 #[.string S] w (RetPX A n x w) := by
  obtain ⟨ps, hps⟩ : ∃ ps, ps = splitC 47 l := ⟨_, rfl⟩
  unfold pfxE at hx
  rw [← hps] at hx
  have HS := Lib.hid hS
  rcases ps with _ | ⟨p, _ | ⟨q, _ | ⟨r, t⟩⟩⟩
  · exact absurd hps.symm (splitC_ne 47 l)
  · obtain ⟨rfl, hno⟩ := splitC_one hps.symm
    injection hx with e1 e2
    injection e2 with e2 e3
    subst e1
    subst e2
    subst e3
    obtain ⟨e1, a1, hadr⟩ : ∃ e1 a1, adrE l 5 22 = (e1, a1) := ⟨_, _, rfl⟩
    have hcase : e1 = 5 ∨ e1 = 22 ∨ e1 = 0 := by have := adrE_cases l; rw [hadr] at this; exact this
    have CP := fun R w hR => parse_any R l a1 e1 w hR hl hadr
    have hql : ([] : List UInt8).length ≤ 1000000 := by simp
    have HNO : Hid (¬ numOk []) := fun h => by have := h.1.1; simp at this
    clear hadr hps
    rcases hcase with rfl | rfl | rfl
    all_goals
      go_enter Tryd.func9, Tryd.ntmps9
      go_upto_region 1 with (fail)
      obtain ⟨w1, hw1, r0, r1, b1, ltb, hB⟩ := pairboxB w 24 (.int .u32 0) (.int .i64 0)
      rw [hw1]
      clear hw1 r0 r1
      go_wp2_with fail
      refine (cut_slash_no18 S l _ HS.out hno).mono ?_
      rintro e w2 ⟨R1, T1, rfl, hR1, hT, b2⟩
      go_wp2_with fail
      refine (CP _ _ hR1).mono ?_
      rintro e w3 ⟨rfl, b3⟩
      have bb3 : Below w1.heap.size w1 w3 := b2.trans (b3.mono b2.size)
      go_wp2_with fail
      refine (number_any T1 _ false 0 _ hT hql ⟨fun h => Bool.noConfusion h, fun h => absurd h HNO.out⟩ rfl).mono ?_
      rintro e w4 ⟨rfl, rfl⟩
      have hBk : w4.heap[w.heap.size]? = some (.cells #[.int .u32 0, .int .i64 0] 24 (0, 0)) := ((bb3).block _ ltb).trans hB
      obtain ⟨k0, k1, k2, k3⟩ := two18 hBk
      clear hBk
      have bt := b1.trans (bb3.mono (Nat.le_of_lt ltb))
      go_wp2
      obtain ⟨wz, hwz⟩ : ∃ wz, wz = (w4.setCell ⟨w.heap.size, 0, none⟩ (.int .u32 0)).setCell ⟨w.heap.size, 1, none⟩ (.int .i64 0) := ⟨_, rfl⟩
      have c0 : wz.cell? ⟨w.heap.size, 0, none⟩ = some (.int .u32 0) := by rw [hwz]; exact (set2_18 k0 k1 _ _).1
      have c1 : wz.cell? ⟨w.heap.size, 1, none⟩ = some (.int .i64 0) := by rw [hwz]; exact (set2_18 k0 k1 _ _).2
      have bz : Below w.heap.size w wz := by rw [hwz]; exact ((bt).setCell (Nat.le_refl _) _).setCell (Nat.le_refl _) _
      rw [← hwz]
      clear hwz
      exact bodyPost_ret (v := .tuple #[.agg #[.int .u32 (((0 : Nat) : Int)), .int .i64 (((0 : Nat) : Int))], .int .i64 5]) (by simp [results, Tryd.results9, go_sem, c0, c1]) rfl ⟨rfl, bz⟩
  · obtain ⟨m, hm, hno, hms⟩ := splitC_more hps.symm
    obtain ⟨rfl, hqn⟩ := splitC_one hms
    have hpl : p.length ≤ 1000000 := by rw [hm, List.length_append] at hl; omega
    have hql : m.length ≤ 1000000 := by rw [hm, List.length_append, List.length_cons] at hl; omega
    subst hm
    have hml := hl
    clear hps hms
    have hx : pfx2 p m = (x, A, n) := hx
    obtain ⟨e1, he1⟩ : ∃ e1, e1 = (adrE p 5 22).1 := ⟨_, rfl⟩
    obtain ⟨a1, ha1⟩ : ∃ a1, a1 = (adrE p 5 22).2 := ⟨_, rfl⟩
    have hal : a1 < 4294967296 := by rw [ha1]; exact adrE_lt p 5 22
    have hadr : adrE p 5 22 = (e1, a1) := by rw [he1, ha1]
    have hx2 : (if e1 = 5 ∨ ¬ numOk m then ((5 : Int), 0, 0) else if e1 ≠ 0 ∨ ¬ mayP a1 ((numV m : Nat) : Int) then (22, 0, 0) else (0, a1, numV m)) = (x, A, n) := by
      rw [← hx]; unfold pfx2; rw [← he1, ← ha1]
    have hcase : e1 = 5 ∨ e1 = 22 ∨ e1 = 0 := by rw [he1]; exact adrE_cases p
    have CP := fun R w hR => parse_any R p a1 e1 w hR hpl hadr
    clear hx he1 ha1 hadr
    by_cases hok : numOk m
    · obtain ⟨m1, hm1⟩ : ∃ m1, m1 = numV m := ⟨_, rfl⟩
      have hm9 : m1 ≤ 999 := by rw [hm1]; exact numV_le hok
      have HOK := Lib.hid hok
      have HM1 := Lib.hid hm1
      rw [← hm1] at hx2
      clear hm1 hok
      rcases hcase with rfl | rfl | rfl
      · rw [if_pos (.inl rfl)] at hx2
        injection hx2 with e1 e2
        injection e2 with e2 e3
        subst e1
        subst e2
        subst e3
        go_enter Tryd.func9, Tryd.ntmps9
        go_upto_region 1 with (fail)
        obtain ⟨w1, hw1, r0, r1, b1, ltb, hB⟩ := pairboxB w 24 (.int .u32 0) (.int .i64 0)
        rw [hw1]
        clear hw1 r0 r1
        go_wp2_with fail
        refine (cut_slash_yes18 S p m _ HS.out hml hno).mono ?_
        rintro e w2 ⟨R1, T1, rfl, hR1, hT, b2⟩
        go_wp2_with fail
        refine (CP _ _ hR1).mono ?_
        rintro e w3 ⟨rfl, b3⟩
        have bb3 : Below w1.heap.size w1 w3 := b2.trans (b3.mono b2.size)
        go_wp2_with fail
        refine (number_any T1 _ true m1 _ hT hql ⟨fun _ => HOK.out, fun _ => rfl⟩ (by rw [if_pos rfl]; exact HM1.out)).mono ?_
        rintro e w4 ⟨rfl, rfl⟩
        have hBk : w4.heap[w.heap.size]? = some (.cells #[.int .u32 0, .int .i64 0] 24 (0, 0)) := ((bb3).block _ ltb).trans hB
        obtain ⟨k0, k1, k2, k3⟩ := two18 hBk
        clear hBk
        have bt := b1.trans (bb3.mono (Nat.le_of_lt ltb))
        go_wp2
        obtain ⟨wz, hwz⟩ : ∃ wz, wz = (w4.setCell ⟨w.heap.size, 0, none⟩ (.int .u32 0)).setCell ⟨w.heap.size, 1, none⟩ (.int .i64 0) := ⟨_, rfl⟩
        have c0 : wz.cell? ⟨w.heap.size, 0, none⟩ = some (.int .u32 0) := by rw [hwz]; exact (set2_18 k0 k1 _ _).1
        have c1 : wz.cell? ⟨w.heap.size, 1, none⟩ = some (.int .i64 0) := by rw [hwz]; exact (set2_18 k0 k1 _ _).2
        have bz : Below w.heap.size w wz := by rw [hwz]; exact ((bt).setCell (Nat.le_refl _) _).setCell (Nat.le_refl _) _
        rw [← hwz]
        clear hwz
        exact bodyPost_ret (v := .tuple #[.agg #[.int .u32 (((0 : Nat) : Int)), .int .i64 (((0 : Nat) : Int))], .int .i64 5]) (by simp [results, Tryd.results9, go_sem, c0, c1]) rfl ⟨rfl, bz⟩
      · rw [if_neg (by rintro (h | h); exact absurd h (by decide); exact h HOK.out), if_pos (.inl (by decide))] at hx2
        injection hx2 with e1 e2
        injection e2 with e2 e3
        subst e1
        subst e2
        subst e3
        go_enter Tryd.func9, Tryd.ntmps9
        go_upto_region 1 with (fail)
        obtain ⟨w1, hw1, r0, r1, b1, ltb, hB⟩ := pairboxB w 24 (.int .u32 0) (.int .i64 0)
        rw [hw1]
        clear hw1 r0 r1
        go_wp2_with fail
        refine (cut_slash_yes18 S p m _ HS.out hml hno).mono ?_
        rintro e w2 ⟨R1, T1, rfl, hR1, hT, b2⟩
        go_wp2_with fail
        refine (CP _ _ hR1).mono ?_
        rintro e w3 ⟨rfl, b3⟩
        have bb3 : Below w1.heap.size w1 w3 := b2.trans (b3.mono b2.size)
        go_wp2_with fail
        refine (number_any T1 _ true m1 _ hT hql ⟨fun _ => HOK.out, fun _ => rfl⟩ (by rw [if_pos rfl]; exact HM1.out)).mono ?_
        rintro e w4 ⟨rfl, rfl⟩
        have hBk : w4.heap[w.heap.size]? = some (.cells #[.int .u32 0, .int .i64 0] 24 (0, 0)) := ((bb3).block _ ltb).trans hB
        obtain ⟨k0, k1, k2, k3⟩ := two18 hBk
        clear hBk
        have bt := b1.trans (bb3.mono (Nat.le_of_lt ltb))
        have hBs : w.heap.size ≤ w4.heap.size := bt.size
        go_upto_region 7 with (fail)
        obtain ⟨wp, hwp, x0, x1, bp, ltp⟩ := pairbox w4 24 (.int .u32 (a1 : Int)) (.int .i64 (m1 : Int))
        rw [hwp]
        clear hwp k0 k1 k2 k3
        have btp : Below w.heap.size w wp := bt.trans (bp.mono hBs)
        have bbp : Below w1.heap.size w1 wp := bb3.trans (bp.mono bb3.size)
        have hBk : wp.heap[w.heap.size]? = some (.cells #[.int .u32 0, .int .i64 0] 24 (0, 0)) := ((bbp).block _ ltb).trans hB
        obtain ⟨k0, k1, k2, k3⟩ := two18 hBk
        clear hBk
        go_wp2
        obtain ⟨wz, hwz⟩ : ∃ wz, wz = (wp.setCell ⟨w.heap.size, 0, none⟩ (.int .u32 0)).setCell ⟨w.heap.size, 1, none⟩ (.int .i64 0) := ⟨_, rfl⟩
        have c0 : wz.cell? ⟨w.heap.size, 0, none⟩ = some (.int .u32 0) := by rw [hwz]; exact (set2_18 k0 k1 _ _).1
        have c1 : wz.cell? ⟨w.heap.size, 1, none⟩ = some (.int .i64 0) := by rw [hwz]; exact (set2_18 k0 k1 _ _).2
        have bz : Below w.heap.size w wz := by rw [hwz]; exact ((btp).setCell (Nat.le_refl _) _).setCell (Nat.le_refl _) _
        rw [← hwz]
        clear hwz
        exact bodyPost_ret (v := .tuple #[.agg #[.int .u32 (((0 : Nat) : Int)), .int .i64 (((0 : Nat) : Int))], .int .i64 22]) (by simp [results, Tryd.results9, go_sem, c0, c1]) rfl ⟨rfl, bz⟩
      · rw [if_neg (by rintro (h | h); exact absurd h (by decide); exact h HOK.out)] at hx2
        by_cases hm : mayP a1 ((m1 : Nat) : Int)
        · rw [if_neg (by rintro (h | h); exact h rfl; exact h hm)] at hx2
          injection hx2 with e1 e2
          injection e2 with e2 e3
          subst e1
          subst e2
          subst e3
          have CY := fun w => may_any18 a1 ((m1 : Nat) : Int) true w hal (by omega) (by omega) ⟨fun _ => hm, fun _ => rfl⟩
          clear hm
          go_enter Tryd.func9, Tryd.ntmps9
          go_upto_region 1 with (fail)
          obtain ⟨w1, hw1, r0, r1, b1, ltb, hB⟩ := pairboxB w 24 (.int .u32 0) (.int .i64 0)
          rw [hw1]
          clear hw1 r0 r1
          go_wp2_with fail
          refine (cut_slash_yes18 S p m _ HS.out hml hno).mono ?_
          rintro e w2 ⟨R1, T1, rfl, hR1, hT, b2⟩
          go_wp2_with fail
          refine (CP _ _ hR1).mono ?_
          rintro e w3 ⟨rfl, b3⟩
          have bb3 : Below w1.heap.size w1 w3 := b2.trans (b3.mono b2.size)
          go_wp2_with fail
          refine (number_any T1 _ true m1 _ hT hql ⟨fun _ => HOK.out, fun _ => rfl⟩ (by rw [if_pos rfl]; exact HM1.out)).mono ?_
          rintro e w4 ⟨rfl, rfl⟩
          have bt := b1.trans (bb3.mono (Nat.le_of_lt ltb))
          have hBs : w.heap.size ≤ w4.heap.size := bt.size
          go_upto_region 7 with (fail)
          obtain ⟨wp, hwp, x0, x1, bp, ltp⟩ := pairbox w4 24 (.int .u32 (a1 : Int)) (.int .i64 (m1 : Int))
          rw [hwp]
          clear hwp
          go_wp2_with fail
          refine (CY _).mono ?_
          rintro e w5 ⟨rfl, b5⟩
          have y0 := (b5.cell ltp).trans x0
          have y1 := (b5.cell ltp).trans x1
          have bp5 : Below w4.heap.size w4 w5 := bp.trans (b5.mono bp.size)
          have bt5 : Below w.heap.size w w5 := bt.trans (bp5.mono hBs)
          have bb5 : Below w1.heap.size w1 w5 := bb3.trans (bp5.mono bb3.size)
          clear x0 x1 bp b5 ltp
          have hBk : w5.heap[w.heap.size]? = some (.cells #[.int .u32 0, .int .i64 0] 24 (0, 0)) := ((bb5).block _ ltb).trans hB
          obtain ⟨k0, k1, k2, k3⟩ := two18 hBk
          clear hBk
          go_wp2
          obtain ⟨wz, hwz⟩ : ∃ wz, wz = (w5.setCell ⟨w.heap.size, 0, none⟩ (.int .u32 (a1 : Int))).setCell ⟨w.heap.size, 1, none⟩ (.int .i64 (m1 : Int)) := ⟨_, rfl⟩
          have c0 : wz.cell? ⟨w.heap.size, 0, none⟩ = some (.int .u32 (a1 : Int)) := by rw [hwz]; exact (set2_18 k0 k1 _ _).1
          have c1 : wz.cell? ⟨w.heap.size, 1, none⟩ = some (.int .i64 (m1 : Int)) := by rw [hwz]; exact (set2_18 k0 k1 _ _).2
          have bz : Below w.heap.size w wz := by rw [hwz]; exact ((bt5).setCell (Nat.le_refl _) _).setCell (Nat.le_refl _) _
          rw [← hwz]
          clear hwz
          exact bodyPost_ret (v := .tuple #[.agg #[.int .u32 ((a1 : Int)), .int .i64 ((m1 : Int))], .int .i64 0]) (by simp [results, Tryd.results9, go_sem, c0, c1]) rfl ⟨rfl, bz⟩
        · rw [if_pos (.inr hm)] at hx2
          injection hx2 with e1 e2
          injection e2 with e2 e3
          subst e1
          subst e2
          subst e3
          have CY := fun w => may_any18 a1 ((m1 : Nat) : Int) false w hal (by omega) (by omega) ⟨fun h => Bool.noConfusion h, fun h => absurd h hm⟩
          clear hm
          go_enter Tryd.func9, Tryd.ntmps9
          go_upto_region 1 with (fail)
          obtain ⟨w1, hw1, r0, r1, b1, ltb, hB⟩ := pairboxB w 24 (.int .u32 0) (.int .i64 0)
          rw [hw1]
          clear hw1 r0 r1
          go_wp2_with fail
          refine (cut_slash_yes18 S p m _ HS.out hml hno).mono ?_
          rintro e w2 ⟨R1, T1, rfl, hR1, hT, b2⟩
          go_wp2_with fail
          refine (CP _ _ hR1).mono ?_
          rintro e w3 ⟨rfl, b3⟩
          have bb3 : Below w1.heap.size w1 w3 := b2.trans (b3.mono b2.size)
          go_wp2_with fail
          refine (number_any T1 _ true m1 _ hT hql ⟨fun _ => HOK.out, fun _ => rfl⟩ (by rw [if_pos rfl]; exact HM1.out)).mono ?_
          rintro e w4 ⟨rfl, rfl⟩
          have bt := b1.trans (bb3.mono (Nat.le_of_lt ltb))
          have hBs : w.heap.size ≤ w4.heap.size := bt.size
          go_upto_region 7 with (fail)
          obtain ⟨wp, hwp, x0, x1, bp, ltp⟩ := pairbox w4 24 (.int .u32 (a1 : Int)) (.int .i64 (m1 : Int))
          rw [hwp]
          clear hwp
          go_wp2_with fail
          refine (CY _).mono ?_
          rintro e w5 ⟨rfl, b5⟩
          have y0 := (b5.cell ltp).trans x0
          have y1 := (b5.cell ltp).trans x1
          have bp5 : Below w4.heap.size w4 w5 := bp.trans (b5.mono bp.size)
          have bt5 : Below w.heap.size w w5 := bt.trans (bp5.mono hBs)
          have bb5 : Below w1.heap.size w1 w5 := bb3.trans (bp5.mono bb3.size)
          clear x0 x1 bp b5 ltp
          have hBk : w5.heap[w.heap.size]? = some (.cells #[.int .u32 0, .int .i64 0] 24 (0, 0)) := ((bb5).block _ ltb).trans hB
          obtain ⟨k0, k1, k2, k3⟩ := two18 hBk
          clear hBk
          go_wp2
          obtain ⟨wz, hwz⟩ : ∃ wz, wz = (w5.setCell ⟨w.heap.size, 0, none⟩ (.int .u32 0)).setCell ⟨w.heap.size, 1, none⟩ (.int .i64 0) := ⟨_, rfl⟩
          have c0 : wz.cell? ⟨w.heap.size, 0, none⟩ = some (.int .u32 0) := by rw [hwz]; exact (set2_18 k0 k1 _ _).1
          have c1 : wz.cell? ⟨w.heap.size, 1, none⟩ = some (.int .i64 0) := by rw [hwz]; exact (set2_18 k0 k1 _ _).2
          have bz : Below w.heap.size w wz := by rw [hwz]; exact ((bt5).setCell (Nat.le_refl _) _).setCell (Nat.le_refl _) _
          rw [← hwz]
          clear hwz
          exact bodyPost_ret (v := .tuple #[.agg #[.int .u32 (((0 : Nat) : Int)), .int .i64 (((0 : Nat) : Int))], .int .i64 22]) (by simp [results, Tryd.results9, go_sem, c0, c1]) rfl ⟨rfl, bz⟩
    · rw [if_pos (.inr hok)] at hx2
      injection hx2 with e1' e2
      injection e2 with e2 e3
      subst e1'
      subst e2
      subst e3
      have HNO := Lib.hid hok
      clear hok
      rcases hcase with rfl | rfl | rfl
      all_goals
        go_enter Tryd.func9, Tryd.ntmps9
        go_upto_region 1 with (fail)
        obtain ⟨w1, hw1, r0, r1, b1, ltb, hB⟩ := pairboxB w 24 (.int .u32 0) (.int .i64 0)
        rw [hw1]
        clear hw1 r0 r1
        go_wp2_with fail
        refine (cut_slash_yes18 S p m _ HS.out hml hno).mono ?_
        rintro e w2 ⟨R1, T1, rfl, hR1, hT, b2⟩
        go_wp2_with fail
        refine (CP _ _ hR1).mono ?_
        rintro e w3 ⟨rfl, b3⟩
        have bb3 : Below w1.heap.size w1 w3 := b2.trans (b3.mono b2.size)
        go_wp2_with fail
        refine (number_any T1 _ false 0 _ hT hql ⟨fun h => Bool.noConfusion h, fun h => absurd h HNO.out⟩ rfl).mono ?_
        rintro e w4 ⟨rfl, rfl⟩
        have hBk : w4.heap[w.heap.size]? = some (.cells #[.int .u32 0, .int .i64 0] 24 (0, 0)) := ((bb3).block _ ltb).trans hB
        obtain ⟨k0, k1, k2, k3⟩ := two18 hBk
        clear hBk
        have bt := b1.trans (bb3.mono (Nat.le_of_lt ltb))
        go_wp2
        obtain ⟨wz, hwz⟩ : ∃ wz, wz = (w4.setCell ⟨w.heap.size, 0, none⟩ (.int .u32 0)).setCell ⟨w.heap.size, 1, none⟩ (.int .i64 0) := ⟨_, rfl⟩
        have c0 : wz.cell? ⟨w.heap.size, 0, none⟩ = some (.int .u32 0) := by rw [hwz]; exact (set2_18 k0 k1 _ _).1
        have c1 : wz.cell? ⟨w.heap.size, 1, none⟩ = some (.int .i64 0) := by rw [hwz]; exact (set2_18 k0 k1 _ _).2
        have bz : Below w.heap.size w wz := by rw [hwz]; exact ((bt).setCell (Nat.le_refl _) _).setCell (Nat.le_refl _) _
        rw [← hwz]
        clear hwz
        exact bodyPost_ret (v := .tuple #[.agg #[.int .u32 (((0 : Nat) : Int)), .int .i64 (((0 : Nat) : Int))], .int .i64 5]) (by simp [results, Tryd.results9, go_sem, c0, c1]) rfl ⟨rfl, bz⟩
  · obtain ⟨m, hm, hno, hms⟩ := splitC_more hps.symm
    have hpl : p.length ≤ 1000000 := by rw [hm, List.length_append] at hl; omega
    have hql : m.length ≤ 1000000 := by rw [hm, List.length_append, List.length_cons] at hl; omega
    have HNO : Hid (¬ numOk m) := not_num_slash (splitC_mem hms)
    injection hx with e1 e2
    injection e2 with e2 e3
    subst e1
    subst e2
    subst e3
    subst hm
    have hml := hl
    obtain ⟨e1, a1, hadr⟩ : ∃ e1 a1, adrE p 5 22 = (e1, a1) := ⟨_, _, rfl⟩
    have hcase : e1 = 5 ∨ e1 = 22 ∨ e1 = 0 := by have := adrE_cases p; rw [hadr] at this; exact this
    have CP := fun R w hR => parse_any R p a1 e1 w hR hpl hadr
    clear hadr hps hms
    rcases hcase with rfl | rfl | rfl
    all_goals
      go_enter Tryd.func9, Tryd.ntmps9
      go_upto_region 1 with (fail)
      obtain ⟨w1, hw1, r0, r1, b1, ltb, hB⟩ := pairboxB w 24 (.int .u32 0) (.int .i64 0)
      rw [hw1]
      clear hw1 r0 r1
      go_wp2_with fail
      refine (cut_slash_yes18 S p m _ HS.out hml hno).mono ?_
      rintro e w2 ⟨R1, T1, rfl, hR1, hT, b2⟩
      go_wp2_with fail
      refine (CP _ _ hR1).mono ?_
      rintro e w3 ⟨rfl, b3⟩
      have bb3 : Below w1.heap.size w1 w3 := b2.trans (b3.mono b2.size)
      go_wp2_with fail
      refine (number_any T1 _ false 0 _ hT hql ⟨fun h => Bool.noConfusion h, fun h => absurd h HNO.out⟩ rfl).mono ?_
      rintro e w4 ⟨rfl, rfl⟩
      have hBk : w4.heap[w.heap.size]? = some (.cells #[.int .u32 0, .int .i64 0] 24 (0, 0)) := ((bb3).block _ ltb).trans hB
      obtain ⟨k0, k1, k2, k3⟩ := two18 hBk
      clear hBk
      have bt := b1.trans (bb3.mono (Nat.le_of_lt ltb))
      go_wp2
      obtain ⟨wz, hwz⟩ : ∃ wz, wz = (w4.setCell ⟨w.heap.size, 0, none⟩ (.int .u32 0)).setCell ⟨w.heap.size, 1, none⟩ (.int .i64 0) := ⟨_, rfl⟩
      have c0 : wz.cell? ⟨w.heap.size, 0, none⟩ = some (.int .u32 0) := by rw [hwz]; exact (set2_18 k0 k1 _ _).1
      have c1 : wz.cell? ⟨w.heap.size, 1, none⟩ = some (.int .i64 0) := by rw [hwz]; exact (set2_18 k0 k1 _ _).2
      have bz : Below w.heap.size w wz := by rw [hwz]; exact ((bt).setCell (Nat.le_refl _) _).setCell (Nat.le_refl _) _
      rw [← hwz]
      clear hwz
      exact bodyPost_ret (v := .tuple #[.agg #[.int .u32 (((0 : Nat) : Int)), .int .i64 (((0 : Nat) : Int))], .int .i64 5]) (by simp [results, Tryd.results9, go_sem, c0, c1]) rfl ⟨rfl, bz⟩
end Go.Proofs.YtbfflcpmagjlnaaDoor.adr
