/- SparsePlays: what is put and added. Condition: the arguments can be read as data. -/
import Derived.Test.YtfnohdgnhdfpaaaGreatKG6
import Derived.Deep.CutRange
import Derived.OpenShut
import Derived.LaidMore
import Derived.Lay
import Derived.Stop.Joined
namespace Go.Proofs.YtfnohdgnhdfpaaaGreat.sparsePlays
open Go.ChangeShapes Go.WideShapes Go.ChangeAt Go.RowKit Go.Proofs.YtfnohdgnhdfpaaaGreat.num Go.Proofs.YtfnohdgnhdfpaaaGreat.mem Go.Proofs.YtfnohdgnhdfpaaaGreat.nat Go.Proofs.YtfnohdgnhdfpaaaGreat.txt Go.Proofs.YtfnohdgnhdfpaaaGreat.str Go.Proofs.YtfnohdgnhdfpaaaGreat.flow Go.Proofs.YtfnohdgnhdfpaaaGreat.whl Go.Proofs.YtfnohdgnhdfpaaaGreat.rat
set_option linter.unusedVariables false
set_option linter.unusedSimpArgs false
theorem own : ownKnob Tryz.prog.godebug = none := by kernel_rfl
theorem laidOut : laidOutB Tryz.prog = true := by kernel_rfl
theorem cells_u : Tryz.prog.cellsOf 116 = 1 := by kernel_rfl
set_option maxHeartbeats 6400000 in
set_option maxRecDepth 100000 in
/-- The walk: the Go text returns true; what was there is as it was. -/
theorem walk (a0 : Int) (a1 : Int) (v2 : Value) (w : World) (wf0 : (Lit.int .i64 a0).wf = true) (wf1 : (Lit.int .i64 a1).wf = true) (h2 : ArgAct w v2) :
    Calls Tryz.prog 7 #[.int .i64 a0, .int .i64 a1, v2] w (RetV (.bool true) w) := by
  have i0 := i64_wf wf0
  have i1 := i64_wf wf1
  obtain ⟨A2, n2, c2, rfl, hnc, hmc, hact⟩ := id h2
  obtain ⟨B0, hB0⟩ : ∃ B0 : Bool, B0 = decide ((7 < a0 ∧ a0 ≤ 200) ∨ (7 < a1 ∧ a1 ≤ 200)) := ⟨_, rfl⟩
  have HB0 := Lib.hid hB0
  clear hB0
  go_enter Tryz.func7, Tryz.ntmps7
  go_upto_region 1 with (fail)
  go_cut [27] from 14 to 27 (fun s27 wx => s27 = .bool B0 ∧ Below w.heap.size w wx)
  case first =>
    have BT : ((7 < a0 ∧ a0 ≤ 200) ∨ (7 < a1 ∧ a1 ≤ 200)) → B0 = true := fun h => by rw [HB0.out]; exact decide_eq_true h
    have BF : ¬ ((7 < a0 ∧ a0 ≤ 200) ∨ (7 < a1 ∧ a1 ≤ 200)) → B0 = false := fun h => by rw [HB0.out]; exact decide_eq_false h
    by_cases h1 : 7 < a0
    · by_cases h2' : a0 ≤ 200
      · have hb : B0 = true := BT (by omega)
        subst hb
        clear BT BF
        go_wp2
        go_meet
        exact ⟨rfl, Below.refl _ _⟩
      · by_cases h3 : 7 < a1
        · by_cases h4 : a1 ≤ 200
          · have hb : B0 = true := BT (by omega)
            subst hb
            clear BT BF
            go_wp2
            go_meet
            exact ⟨rfl, Below.refl _ _⟩
          · have hb : B0 = false := BF (by omega)
            subst hb
            clear BT BF
            go_wp2
            go_meet
            exact ⟨rfl, Below.refl _ _⟩
        · have hb : B0 = false := BF (by omega)
          subst hb
          clear BT BF
          go_wp2
          go_meet
          exact ⟨rfl, Below.refl _ _⟩
    · by_cases h3 : 7 < a1
      · by_cases h4 : a1 ≤ 200
        · have hb : B0 = true := BT (by omega)
          subst hb
          clear BT BF
          go_wp2
          go_meet
          exact ⟨rfl, Below.refl _ _⟩
        · have hb : B0 = false := BF (by omega)
          subst hb
          clear BT BF
          go_wp2
          go_meet
          exact ⟨rfl, Below.refl _ _⟩
      · have hb : B0 = false := BF (by omega)
        subst hb
        clear BT BF
        go_wp2
        go_meet
        exact ⟨rfl, Below.refl _ _⟩
  case rest =>
    obtain ⟨rfl, b0⟩ := hcut
    obtain ⟨w1, hw1⟩ : ∃ w1, w1 = wc := ⟨_, rfl⟩
    subst hw1
    go_upto_if 27 with (fail)
    go_cut [0, 1] from 28 to 31 (fun s0 s1 wx => ∃ x y : Int, s0 = .int .i64 x ∧ s1 = .int .i64 y ∧ Hid (¬ (0 ≤ x ∧ x ≤ 200 ∧ 0 ≤ y ∧ y ≤ 200) ∨ (0 ≤ x ∧ x ≤ 7 ∧ 0 ≤ y ∧ y ≤ 7)) ∧ Below w.heap.size w wx)
    case first =>
      by_cases hc : (7 < a0 ∧ a0 ≤ 200) ∨ (7 < a1 ∧ a1 ≤ 200)
      · have hb : B0 = true := by rw [HB0.out]; exact decide_eq_true hc
        subst hb
        clear hc
        go_wp2_with fail
        refine (among_any a0 8 8 _ rfl ⟨by omega, by omega⟩).mono ?_
        rintro e w2 ⟨k, rfl, hk, b2⟩
        go_wp2_with fail
        refine (among_any a1 8 8 _ rfl ⟨by omega, by omega⟩).mono ?_
        rintro e w3 ⟨l, rfl, hl, b3⟩
        have HE : Hid (¬ (0 ≤ (k : Int) ∧ (k : Int) ≤ 200 ∧ 0 ≤ (l : Int) ∧ (l : Int) ≤ 200) ∨ (0 ≤ (k : Int) ∧ (k : Int) ≤ 7 ∧ 0 ≤ (l : Int) ∧ (l : Int) ≤ 7)) := .inr ⟨by omega, by omega, by omega, by omega⟩
        go_wp2_with fail
        go_meet
        exact ⟨k, l, rfl, rfl, HE, b0.trans ((b2.trans (b3.mono b2.size)).mono b0.size)⟩
      · have hb : B0 = false := by rw [HB0.out]; exact decide_eq_false hc
        subst hb
        have HE : Hid (¬ (0 ≤ a0 ∧ a0 ≤ 200 ∧ 0 ≤ a1 ∧ a1 ≤ 200) ∨ (0 ≤ a0 ∧ a0 ≤ 7 ∧ 0 ≤ a1 ∧ a1 ≤ 7)) := by
          show _ ∨ _
          by_cases h : 0 ≤ a0 ∧ a0 ≤ 200 ∧ 0 ≤ a1 ∧ a1 ≤ 200
          · exact .inr ⟨by omega, by omega, by omega, by omega⟩
          · exact .inl h
        clear hc
        go_wp2_with fail
        go_meet
        exact ⟨a0, a1, rfl, rfl, HE, b0⟩
    case rest =>
      obtain ⟨x, y, rfl, rfl, HS, bb⟩ := hcut
      obtain ⟨w1, hw1⟩ : ∃ w1, w1 = wc := ⟨_, rfl⟩
      subst hw1
      clear HB0 b0
      by_cases hok : 0 ≤ x ∧ x ≤ 7 ∧ 0 ≤ y ∧ y ≤ 7
      · obtain ⟨R, rfl⟩ : ∃ R : Nat, x = R := ⟨x.toNat, by omega⟩
        obtain ⟨C, rfl⟩ : ∃ C : Nat, y = C := ⟨y.toNat, by omega⟩
        have hR7 : R ≤ 7 := by omega
        have hC7 : C ≤ 7 := by omega
        clear hok HS
        go_wp2_with fail
        refine (snew_ok R C _ (by omega) (by omega)).mono ?_
        rintro e w2 ⟨g, b, rfl, S2, hg, hb, b2⟩
        have bb2 := bb.trans (b2.mono bb.size)
        have hbw : w.heap.size ≤ b := Nat.le_trans bb.size hb
        have hBS : w.heap.size ≤ w2.heap.size := bb2.size
        go_wp2_with fail
        refine (rnew_ok R C _ (by omega) (by omega)).mono ?_
        rintro e w3 ⟨gq, V, us, pss, rfl, Q3, b3⟩
        have bb3 := bb2.trans (b3.mono bb2.size)
        have S3 := S2.below b3
        clear S2 b2 b3 bb hb hg
        go_wp2
        go_loopw [11] (fun v11 wr => ∃ (k : Nat) (T : List (List Rat)) (pss : List (List Elt)), k ≤ 20 ∧ k ≤ n2 ∧ Spt wr g b R C T ∧ Qst wr w2.heap.size gq R C V us pss T ∧ Hid (lenS T (1 + 2 * k)) ∧ Below w.heap.size w wr ∧ v11 = .int .i64 (k : Int)) (fun v11 _ => 20 - (intOf v11).toNat)
        case atStart => exact ⟨0, _, _, by omega, by omega, S3, Q3, lenS_zeros R C _ (by omega), bb3, rfl⟩
        case round =>
          clear S3 Q3 bb3
          obtain ⟨k, T, pss, hk, hkn, S, Q, HLS, bw, rfl⟩ := hrel
          by_cases hlt : k < n2 ∧ k < 20
          · obtain ⟨hk1, hk2⟩ := hlt
            obtain ⟨ad, d, x9, y9, bo, u, t, l, m, rfl, e0, e1, e2, e3, e4, e5, ⟨wd, wx9, wy9⟩, su, hu, st, ht⟩ := hact k hk1
            obtain ⟨Au, cu, rfl, _⟩ := id su
            obtain ⟨At, ct, rfl, _⟩ := id st
            have hx64 := i64_wf wx9
            have hy64 := i64_wf wy9
            have K : ∀ {p : Addr} {z : Value}, w.cell? p = some z → wr.cell? p = some z := fun {p z} h => (bw.cell (World.block_lt_of_cell? w _ h)).trans h
            have hix := index6_any (P := Tryz.prog) Tryz.underlying71 (by kernel_rfl) (c := c2) ad hk1 wr
            have F0 := K e0
            have F1 := cell_add (by decide) (K e1)
            have F2 := cell_add (by decide) (K e2)
            have F3 := cell_add (by decide) (K e3)
            have F4 := cell_add (by decide) (K e4)
            have F5 := cell_add (by decide) (K e5)
            have suR := su.below bw
            have stR := st.below bw
            have ba := below_alloc (w := wr) (Nat.le_refl _) (.cells #[.int .i64 d, .int .i64 x9, .int .i64 y9, .bool bo, .slice Au l.length cu, .slice At m.length ct] 80)
            have BA := Blk.new wr 80 #[.int .i64 d, .int .i64 x9, .int .i64 y9, .bool bo, .slice Au l.length cu, .slice At m.length ct]
            obtain ⟨q, hq⟩ : ∃ q, q = cleanQ bo l m 1 := ⟨_, rfl⟩
            have hlq : lenQ q 1 := by rw [hq]; exact cleanQ_len _ _ _ (by omega)
            have HC := qclean_any bo _ _ l m 1 1 _ rfl (suR.below ba) hu (stR.below ba) ht (by omega) (by omega)
            rw [← hq] at HC
            have HCC := Lib.hid HC
            have bwA := bw.trans (ba.mono bw.size)
            clear e0 e1 e2 e3 e4 e5 su st K wd wx9 wy9 HC hq
            have N3 : ((wr.alloc (.cells #[.int .i64 d, .int .i64 x9, .int .i64 y9, .bool bo, .slice Au l.length cu, .slice At m.length ct] 80)).cell? ⟨wr.heap.size, 3, none⟩) = some (.bool bo) := BA.cell 3
            have N4 : ((wr.alloc (.cells #[.int .i64 d, .int .i64 x9, .int .i64 y9, .bool bo, .slice Au l.length cu, .slice At m.length ct] 80)).cell? ⟨wr.heap.size, 4, none⟩) = some (.slice Au l.length cu) := BA.cell 4
            have N5 : ((wr.alloc (.cells #[.int .i64 d, .int .i64 x9, .int .i64 y9, .bool bo, .slice Au l.length cu, .slice At m.length ct] 80)).cell? ⟨wr.heap.size, 5, none⟩) = some (.slice At m.length ct) := BA.cell 5
            go_wp2_with fail
            refine HCC.out.mono ?_
            rintro e w4 ⟨v4, rfl, k4, f4, b4⟩
            obtain ⟨u4, t4, rfl, s4, d4⟩ := k4
            obtain ⟨A4, c4, rfl, _⟩ := id s4
            obtain ⟨D4, e4, rfl, _⟩ := id d4
            have bA4 := ba.trans (b4.mono ba.size)
            have S4 := S.below bA4
            have Q4 := Q.below bA4
            have BA4 := BA.below b4
            have bw4 := bw.trans (bA4.mono bw.size)
            clear BA ba b4 bA4 HCC S Q bwA
            have bv := below_alloc (w := w4) (Nat.le_refl _) (.cells #[.bool (ngB q.num), .slice A4 (digs 4294967296 q.num.natAbs).length c4, .slice D4 (digs 4294967296 q.den).length e4] 44)
            have BV := Blk.new w4 44 #[.bool (ngB q.num), .slice A4 (digs 4294967296 q.num.natAbs).length c4, .slice D4 (digs 4294967296 q.den).length e4]
            have hA0 : ((w4.alloc (.cells #[.bool (ngB q.num), .slice A4 (digs 4294967296 q.num.natAbs).length c4, .slice D4 (digs 4294967296 q.den).length e4] 44)).cell? ⟨wr.heap.size, 0, none⟩) = some (.int .i64 d) := (BA4.below bv).cell 0
            go_wp2_with fail
            refine (among_any d 4 4 _ rfl ⟨by omega, by omega⟩).mono ?_
            rintro e w5 ⟨rr, rfl, hr, b5⟩
            have bv5 := bv.trans (b5.mono bv.size)
            have S5 := S4.below bv5
            have Q5 := Q4.below bv5
            have BA5 := BA4.below bv5
            have BV5 := BV.below b5
            have s45 := s4.below bv5
            have d45 := d4.below bv5
            have bw5 := bw4.trans (bv5.mono bw4.size)
            clear S4 Q4 BA4 bv BV b5 bv5 s4 d4 bw4 hA0
            by_cases h3 : rr < 3
            · go_upto_if 78 with (fail)
              rw [decide_eq_true (show (rr : Int) < 3 by omega)]
              go_upto_region 13 with (fail)
              go_cut [94] from 79 to 94 (fun s94 wx => s94 = .bool false ∧ ∃ (T' : List (List Rat)) (pss' : List (List Elt)), Spt wx g b R C T' ∧ Qst wx w2.heap.size gq R C V us pss' T' ∧ Hid (lenS T' (1 + 2 * (k + 1))) ∧ Below w.heap.size w wx)
              case first =>
                clear h3
                have bd := (Below.refl w5.heap.size w5).drew
                have BAd := BA5.below bd
                have BVd := BV5.below bd
                have Sd := S5.below bd
                have Qd := Q5.below bd
                have s4d := s45.below bd
                have d4d := d45.below bd
                have kqd : IsQ w5.drew (.agg #[.bool (ngB q.num), .slice A4 (digs 4294967296 q.num.natAbs).length c4, .slice D4 (digs 4294967296 q.den).length e4]) q := ⟨_, _, rfl, s4d, d4d⟩
                have bwd := bw5.trans (bd.mono bw5.size)
                clear BA5 BV5 S5 Q5 s45 d45
                by_cases hp : 0 ≤ x9 ∧ x9 < (R : Int) ∧ 0 ≤ y9 ∧ y9 < (C : Int)
                · obtain ⟨i, rfl⟩ : ∃ i : Nat, x9 = i := ⟨x9.toNat, by omega⟩
                  obtain ⟨j, rfl⟩ : ∃ j : Nat, y9 = j := ⟨y9.toNat, by omega⟩
                  have hi : i < R := by omega
                  have hj : j < C := by omega
                  clear hp
                  refine wp_region_held_drew (S := fun w' : World => Blk w' wr.heap.size 80 #[.int .i64 d, .int .i64 (i : Int), .int .i64 (j : Int), .bool bo, .slice Au l.length cu, .slice At m.length ct] ∧ Blk w' w4.heap.size 44 #[.bool (ngB q.num), .slice A4 (digs 4294967296 q.num.natAbs).length c4, .slice D4 (digs 4294967296 q.den).length e4]) (by kernel_rfl) ⟨BAd, BVd⟩ (fun hHeld => ?_)
                  refine wpAnyH_take (i := 0) (v := .pointer (some ⟨g, 0, none⟩)) rfl (by kernel_rfl) (by kernel_rfl) (by kernel_rfl) (fun _ _ _ h => h) (Or.inl ⟨by kernel_rfl, fun w hSw => by (go_simp; first | done | with_reducible rfl)⟩) hHeld ?_
                  simp only [Act.put, List.getElem_toArray, List.getElem_cons_zero, List.getElem_cons_succ, List.setIfInBounds_toArray, List.set_cons_zero, List.set_cons_succ]
                  refine wpAnyH_take (i := 1) (v := .pointer (some ⟨wr.heap.size, 1, none⟩)) rfl (by kernel_rfl) (by kernel_rfl) (by kernel_rfl) (fun _ _ _ h => h) (Or.inl ⟨by kernel_rfl, fun w hSw => by (go_simp; first | done | with_reducible rfl)⟩) hHeld ?_
                  simp only [Act.put, List.getElem_toArray, List.getElem_cons_zero, List.getElem_cons_succ, List.setIfInBounds_toArray, List.set_cons_zero, List.set_cons_succ]
                  refine wpAnyH_take (i := 2) (v := .int .i64 (i : Int)) rfl (by kernel_rfl) (by kernel_rfl) (by kernel_rfl) (fun _ _ _ h => h) (Or.inl ⟨by kernel_rfl, fun w hSw => by (obtain ⟨hSA, hSV⟩ := hSw; have f1 : w.cell? ⟨wr.heap.size, 1, none⟩ = some (.int .i64 (i : Int)) := hSA.cell 1; have f2 : w.cell? ⟨wr.heap.size, 2, none⟩ = some (.int .i64 (j : Int)) := hSA.cell 2; obtain ⟨V0, V1, V2, _, _, _⟩ := three hSV; go_simp; first | done | with_reducible rfl)⟩) hHeld ?_
                  simp only [Act.put, List.getElem_toArray, List.getElem_cons_zero, List.getElem_cons_succ, List.setIfInBounds_toArray, List.set_cons_zero, List.set_cons_succ]
                  refine wpAnyH_take (i := 3) (v := .pointer (some ⟨wr.heap.size, 2, none⟩)) rfl (by kernel_rfl) (by kernel_rfl) (by kernel_rfl) (fun _ _ _ h => h) (Or.inl ⟨by kernel_rfl, fun w hSw => by (go_simp; first | done | with_reducible rfl)⟩) hHeld ?_
                  simp only [Act.put, List.getElem_toArray, List.getElem_cons_zero, List.getElem_cons_succ, List.setIfInBounds_toArray, List.set_cons_zero, List.set_cons_succ]
                  refine wpAnyH_take (i := 4) (v := .int .i64 (j : Int)) rfl (by kernel_rfl) (by kernel_rfl) (by kernel_rfl) (fun _ _ _ h => h) (Or.inl ⟨by kernel_rfl, fun w hSw => by (obtain ⟨hSA, hSV⟩ := hSw; have f1 : w.cell? ⟨wr.heap.size, 1, none⟩ = some (.int .i64 (i : Int)) := hSA.cell 1; have f2 : w.cell? ⟨wr.heap.size, 2, none⟩ = some (.int .i64 (j : Int)) := hSA.cell 2; obtain ⟨V0, V1, V2, _, _, _⟩ := three hSV; go_simp; first | done | with_reducible rfl)⟩) hHeld ?_
                  simp only [Act.put, List.getElem_toArray, List.getElem_cons_zero, List.getElem_cons_succ, List.setIfInBounds_toArray, List.set_cons_zero, List.set_cons_succ]
                  refine wpAnyH_take (i := 5) (v := .agg #[.bool (ngB q.num), .slice A4 (digs 4294967296 q.num.natAbs).length c4, .slice D4 (digs 4294967296 q.den).length e4]) rfl (by kernel_rfl) (by kernel_rfl) (by kernel_rfl) (fun _ _ _ h => h) (Or.inl ⟨by kernel_rfl, fun w hSw => by (obtain ⟨hSA, hSV⟩ := hSw; have f1 : w.cell? ⟨wr.heap.size, 1, none⟩ = some (.int .i64 (i : Int)) := hSA.cell 1; have f2 : w.cell? ⟨wr.heap.size, 2, none⟩ = some (.int .i64 (j : Int)) := hSA.cell 2; obtain ⟨V0, V1, V2, _, _, _⟩ := three hSV; go_simp; first | done | with_reducible rfl)⟩) hHeld ?_
                  simp only [Act.put, List.getElem_toArray, List.getElem_cons_zero, List.getElem_cons_succ, List.setIfInBounds_toArray, List.set_cons_zero, List.set_cons_succ]
                  refine wpAnyH_take (i := 7) (v := .pointer (some ⟨gq, 0, none⟩)) rfl (by kernel_rfl) (by kernel_rfl) (by kernel_rfl) (fun _ _ _ h => h) (Or.inl ⟨by kernel_rfl, fun w hSw => by (go_simp; first | done | with_reducible rfl)⟩) hHeld ?_
                  simp only [Act.put, List.getElem_toArray, List.getElem_cons_zero, List.getElem_cons_succ, List.setIfInBounds_toArray, List.set_cons_zero, List.set_cons_succ]
                  refine wpAnyH_take (i := 8) (v := .pointer (some ⟨wr.heap.size, 1, none⟩)) rfl (by kernel_rfl) (by kernel_rfl) (by kernel_rfl) (fun _ _ _ h => h) (Or.inl ⟨by kernel_rfl, fun w hSw => by (go_simp; first | done | with_reducible rfl)⟩) hHeld ?_
                  simp only [Act.put, List.getElem_toArray, List.getElem_cons_zero, List.getElem_cons_succ, List.setIfInBounds_toArray, List.set_cons_zero, List.set_cons_succ]
                  refine wpAnyH_take (i := 9) (v := .int .i64 (i : Int)) rfl (by kernel_rfl) (by kernel_rfl) (by kernel_rfl) (fun _ _ _ h => h) (Or.inl ⟨by kernel_rfl, fun w hSw => by (obtain ⟨hSA, hSV⟩ := hSw; have f1 : w.cell? ⟨wr.heap.size, 1, none⟩ = some (.int .i64 (i : Int)) := hSA.cell 1; have f2 : w.cell? ⟨wr.heap.size, 2, none⟩ = some (.int .i64 (j : Int)) := hSA.cell 2; obtain ⟨V0, V1, V2, _, _, _⟩ := three hSV; go_simp; first | done | with_reducible rfl)⟩) hHeld ?_
                  simp only [Act.put, List.getElem_toArray, List.getElem_cons_zero, List.getElem_cons_succ, List.setIfInBounds_toArray, List.set_cons_zero, List.set_cons_succ]
                  refine wpAnyH_take (i := 10) (v := .pointer (some ⟨wr.heap.size, 2, none⟩)) rfl (by kernel_rfl) (by kernel_rfl) (by kernel_rfl) (fun _ _ _ h => h) (Or.inl ⟨by kernel_rfl, fun w hSw => by (go_simp; first | done | with_reducible rfl)⟩) hHeld ?_
                  simp only [Act.put, List.getElem_toArray, List.getElem_cons_zero, List.getElem_cons_succ, List.setIfInBounds_toArray, List.set_cons_zero, List.set_cons_succ]
                  refine wpAnyH_take (i := 11) (v := .int .i64 (j : Int)) rfl (by kernel_rfl) (by kernel_rfl) (by kernel_rfl) (fun _ _ _ h => h) (Or.inl ⟨by kernel_rfl, fun w hSw => by (obtain ⟨hSA, hSV⟩ := hSw; have f1 : w.cell? ⟨wr.heap.size, 1, none⟩ = some (.int .i64 (i : Int)) := hSA.cell 1; have f2 : w.cell? ⟨wr.heap.size, 2, none⟩ = some (.int .i64 (j : Int)) := hSA.cell 2; obtain ⟨V0, V1, V2, _, _, _⟩ := three hSV; go_simp; first | done | with_reducible rfl)⟩) hHeld ?_
                  simp only [Act.put, List.getElem_toArray, List.getElem_cons_zero, List.getElem_cons_succ, List.setIfInBounds_toArray, List.set_cons_zero, List.set_cons_succ]
                  refine wpAnyH_take (i := 12) (v := .agg #[.bool (ngB q.num), .slice A4 (digs 4294967296 q.num.natAbs).length c4, .slice D4 (digs 4294967296 q.den).length e4]) rfl (by kernel_rfl) (by kernel_rfl) (by kernel_rfl) (fun _ _ _ h => h) (Or.inl ⟨by kernel_rfl, fun w hSw => by (obtain ⟨hSA, hSV⟩ := hSw; have f1 : w.cell? ⟨wr.heap.size, 1, none⟩ = some (.int .i64 (i : Int)) := hSA.cell 1; have f2 : w.cell? ⟨wr.heap.size, 2, none⟩ = some (.int .i64 (j : Int)) := hSA.cell 2; obtain ⟨V0, V1, V2, _, _, _⟩ := three hSV; go_simp; first | done | with_reducible rfl)⟩) hHeld ?_
                  simp only [Act.put, List.getElem_toArray, List.getElem_cons_zero, List.getElem_cons_succ, List.setIfInBounds_toArray, List.set_cons_zero, List.set_cons_succ]
                  refine wpAnyH_ready (rs := [6]) (by kernel_rfl) (by simp) ?_
                  refine AllReadyH.cons rfl (fun K hK => ?_) AllReadyH.nil
                  go_simp
                  go_at_call 40
                  refine (sput_ok g b R C i j T _ q _ Sd kqd hi hj (hlq.mono (by omega))).mono ?_
                  rintro e wP ⟨rfl, SP, gP⟩
                  have hmD := Sd.map.isM
                  have BAP := hmD.offBlk BAd gP
                  have BVP := hmD.offBlk BVd gP
                  have QP := hmD.notC.qst gP Qd
                  have kP : IsQ wP (.agg #[.bool (ngB q.num), .slice A4 (digs 4294967296 q.num.natAbs).length c4, .slice D4 (digs 4294967296 q.den).length e4]) q := ⟨_, _, rfl, hmD.off s4d gP, hmD.off d4d gP⟩
                  have bwP := bwd.grown gP bwd.size (fun k hk => by injection hk with hk; omega)
                  refine hK.out _ _ ⟨BAP, BVP⟩ (fun hHeld => ?_)
                  clear hK K
                  try simp only [Act.put, List.getElem_toArray, List.getElem_cons_zero, List.getElem_cons_succ, List.setIfInBounds_toArray, List.set_cons_zero, List.set_cons_succ]
                  refine wpAnyH_ready (rs := [13]) (by kernel_rfl) (by simp) ?_
                  refine AllReadyH.cons rfl (fun K hK => ?_) AllReadyH.nil
                  go_simp
                  go_at_call 42
                  refine (qoff_any _ q _ kP (hlq.mono (by omega))).mono ?_
                  rintro e wO ⟨vO, rfl, kO, fO, bO⟩
                  obtain ⟨uO, tO, rfl, sO, dO⟩ := kO
                  obtain ⟨AO, cO, rfl, _⟩ := id sO
                  obtain ⟨DO, eO, rfl, _⟩ := id dO
                  have kO : IsP wO (.agg #[.bool (ngB q.num), .slice AO (digs 10000 q.num.natAbs).length cO, .slice DO (digs 10000 q.den).length eO]) q := ⟨_, _, rfl, sO, dO⟩
                  have BAO := BAP.below bO
                  have BVO := BVP.below bO
                  have QO := QP.below bO
                  have SO := SP.below bO
                  have bwO := bwP.trans (bO.mono bwP.size)
                  obtain ⟨fU, fT⟩ := fO _ _ _ rfl
                  have FU := QP.tab.farNew fU
                  have FT := QP.tab.farNew fT
                  refine hK.out _ _ ⟨BAO, BVO⟩ (fun hHeld => ?_)
                  clear hK K
                  try simp only [Act.put, List.getElem_toArray, List.getElem_cons_zero, List.getElem_cons_succ, List.setIfInBounds_toArray, List.set_cons_zero, List.set_cons_succ]
                  refine wpAnyH_ready (rs := [14]) (by kernel_rfl) (by simp) ?_
                  refine AllReadyH.cons rfl (fun K hK => ?_) AllReadyH.nil
                  go_simp
                  go_at_call 41
                  refine (rput13_ok _ gq R C i j V us pss T _ q _ QO kO (fun n u t e => by injection e with e; injection e with e; injection e with _ e; injection e with e1 e; injection e with e2 _; subst e1; subst e2; exact ⟨fun v hv => ⟨FU.1 v hv, FT.1 v hv⟩, FU.2, FT.2⟩) hi hj).mono ?_
                  rintro e wF ⟨rfl, ⟨pssF, QF⟩, aF, csF, hbF, BF, gF, KF⟩
                  have BAF := BAO.grown gF (Blk.ne BAO BF (by decide))
                  have BVF := BVO.grown gF (Blk.ne BVO BF (by decide))
                  have SF := SO.keeps BF (by decide) gF KF
                  have bwF := bwO.grown gF bwO.size (fun k hk => by injection hk with hk; omega)
                  refine hK.out _ _ ⟨BAF, BVF⟩ (fun hHeld => ?_)
                  clear hK K
                  try simp only [Act.put, List.getElem_toArray, List.getElem_cons_zero, List.getElem_cons_succ, List.setIfInBounds_toArray, List.set_cons_zero, List.set_cons_succ]
                  refine wpAnyH_take (i := 15) (v := .bool false) rfl (by kernel_rfl) (by kernel_rfl) (by kernel_rfl) (fun _ _ _ h => h) (Or.inl ⟨by kernel_rfl, fun w hSw => by (go_simp; first | done | with_reducible rfl)⟩) hHeld ?_
                  simp only [Act.put, List.getElem_toArray, List.getElem_cons_zero, List.getElem_cons_succ, List.setIfInBounds_toArray, List.set_cons_zero, List.set_cons_succ]
                  refine wpAnyH_done (by kernel_rfl) ?_ _
                  go_wp2
                  go_meet
                  exact ⟨rfl, _, _, SF, QF, lenS_setq (HLS.out.mono (by omega)) Sd.shp hi hj (hlq.mono (by omega)), bwF⟩
                · have HP := Lib.hid hp
                  clear hp
                  refine wp_region_held_drew (S := fun w' : World => Blk w' wr.heap.size 80 #[.int .i64 d, .int .i64 x9, .int .i64 y9, .bool bo, .slice Au l.length cu, .slice At m.length ct] ∧ Blk w' w4.heap.size 44 #[.bool (ngB q.num), .slice A4 (digs 4294967296 q.num.natAbs).length c4, .slice D4 (digs 4294967296 q.den).length e4]) (by kernel_rfl) ⟨BAd, BVd⟩ (fun hHeld => ?_)
                  refine wpAnyH_take (i := 0) (v := .pointer (some ⟨g, 0, none⟩)) rfl (by kernel_rfl) (by kernel_rfl) (by kernel_rfl) (fun _ _ _ h => h) (Or.inl ⟨by kernel_rfl, fun w hSw => by (go_simp; first | done | with_reducible rfl)⟩) hHeld ?_
                  simp only [Act.put, List.getElem_toArray, List.getElem_cons_zero, List.getElem_cons_succ, List.setIfInBounds_toArray, List.set_cons_zero, List.set_cons_succ]
                  refine wpAnyH_take (i := 1) (v := .pointer (some ⟨wr.heap.size, 1, none⟩)) rfl (by kernel_rfl) (by kernel_rfl) (by kernel_rfl) (fun _ _ _ h => h) (Or.inl ⟨by kernel_rfl, fun w hSw => by (go_simp; first | done | with_reducible rfl)⟩) hHeld ?_
                  simp only [Act.put, List.getElem_toArray, List.getElem_cons_zero, List.getElem_cons_succ, List.setIfInBounds_toArray, List.set_cons_zero, List.set_cons_succ]
                  refine wpAnyH_take (i := 2) (v := .int .i64 x9) rfl (by kernel_rfl) (by kernel_rfl) (by kernel_rfl) (fun _ _ _ h => h) (Or.inl ⟨by kernel_rfl, fun w hSw => by (obtain ⟨hSA, hSV⟩ := hSw; have f1 : w.cell? ⟨wr.heap.size, 1, none⟩ = some (.int .i64 x9) := hSA.cell 1; have f2 : w.cell? ⟨wr.heap.size, 2, none⟩ = some (.int .i64 y9) := hSA.cell 2; obtain ⟨V0, V1, V2, _, _, _⟩ := three hSV; go_simp; first | done | with_reducible rfl)⟩) hHeld ?_
                  simp only [Act.put, List.getElem_toArray, List.getElem_cons_zero, List.getElem_cons_succ, List.setIfInBounds_toArray, List.set_cons_zero, List.set_cons_succ]
                  refine wpAnyH_take (i := 3) (v := .pointer (some ⟨wr.heap.size, 2, none⟩)) rfl (by kernel_rfl) (by kernel_rfl) (by kernel_rfl) (fun _ _ _ h => h) (Or.inl ⟨by kernel_rfl, fun w hSw => by (go_simp; first | done | with_reducible rfl)⟩) hHeld ?_
                  simp only [Act.put, List.getElem_toArray, List.getElem_cons_zero, List.getElem_cons_succ, List.setIfInBounds_toArray, List.set_cons_zero, List.set_cons_succ]
                  refine wpAnyH_take (i := 4) (v := .int .i64 y9) rfl (by kernel_rfl) (by kernel_rfl) (by kernel_rfl) (fun _ _ _ h => h) (Or.inl ⟨by kernel_rfl, fun w hSw => by (obtain ⟨hSA, hSV⟩ := hSw; have f1 : w.cell? ⟨wr.heap.size, 1, none⟩ = some (.int .i64 x9) := hSA.cell 1; have f2 : w.cell? ⟨wr.heap.size, 2, none⟩ = some (.int .i64 y9) := hSA.cell 2; obtain ⟨V0, V1, V2, _, _, _⟩ := three hSV; go_simp; first | done | with_reducible rfl)⟩) hHeld ?_
                  simp only [Act.put, List.getElem_toArray, List.getElem_cons_zero, List.getElem_cons_succ, List.setIfInBounds_toArray, List.set_cons_zero, List.set_cons_succ]
                  refine wpAnyH_take (i := 5) (v := .agg #[.bool (ngB q.num), .slice A4 (digs 4294967296 q.num.natAbs).length c4, .slice D4 (digs 4294967296 q.den).length e4]) rfl (by kernel_rfl) (by kernel_rfl) (by kernel_rfl) (fun _ _ _ h => h) (Or.inl ⟨by kernel_rfl, fun w hSw => by (obtain ⟨hSA, hSV⟩ := hSw; have f1 : w.cell? ⟨wr.heap.size, 1, none⟩ = some (.int .i64 x9) := hSA.cell 1; have f2 : w.cell? ⟨wr.heap.size, 2, none⟩ = some (.int .i64 y9) := hSA.cell 2; obtain ⟨V0, V1, V2, _, _, _⟩ := three hSV; go_simp; first | done | with_reducible rfl)⟩) hHeld ?_
                  simp only [Act.put, List.getElem_toArray, List.getElem_cons_zero, List.getElem_cons_succ, List.setIfInBounds_toArray, List.set_cons_zero, List.set_cons_succ]
                  refine wpAnyH_take (i := 7) (v := .pointer (some ⟨gq, 0, none⟩)) rfl (by kernel_rfl) (by kernel_rfl) (by kernel_rfl) (fun _ _ _ h => h) (Or.inl ⟨by kernel_rfl, fun w hSw => by (go_simp; first | done | with_reducible rfl)⟩) hHeld ?_
                  simp only [Act.put, List.getElem_toArray, List.getElem_cons_zero, List.getElem_cons_succ, List.setIfInBounds_toArray, List.set_cons_zero, List.set_cons_succ]
                  refine wpAnyH_take (i := 8) (v := .pointer (some ⟨wr.heap.size, 1, none⟩)) rfl (by kernel_rfl) (by kernel_rfl) (by kernel_rfl) (fun _ _ _ h => h) (Or.inl ⟨by kernel_rfl, fun w hSw => by (go_simp; first | done | with_reducible rfl)⟩) hHeld ?_
                  simp only [Act.put, List.getElem_toArray, List.getElem_cons_zero, List.getElem_cons_succ, List.setIfInBounds_toArray, List.set_cons_zero, List.set_cons_succ]
                  refine wpAnyH_take (i := 9) (v := .int .i64 x9) rfl (by kernel_rfl) (by kernel_rfl) (by kernel_rfl) (fun _ _ _ h => h) (Or.inl ⟨by kernel_rfl, fun w hSw => by (obtain ⟨hSA, hSV⟩ := hSw; have f1 : w.cell? ⟨wr.heap.size, 1, none⟩ = some (.int .i64 x9) := hSA.cell 1; have f2 : w.cell? ⟨wr.heap.size, 2, none⟩ = some (.int .i64 y9) := hSA.cell 2; obtain ⟨V0, V1, V2, _, _, _⟩ := three hSV; go_simp; first | done | with_reducible rfl)⟩) hHeld ?_
                  simp only [Act.put, List.getElem_toArray, List.getElem_cons_zero, List.getElem_cons_succ, List.setIfInBounds_toArray, List.set_cons_zero, List.set_cons_succ]
                  refine wpAnyH_take (i := 10) (v := .pointer (some ⟨wr.heap.size, 2, none⟩)) rfl (by kernel_rfl) (by kernel_rfl) (by kernel_rfl) (fun _ _ _ h => h) (Or.inl ⟨by kernel_rfl, fun w hSw => by (go_simp; first | done | with_reducible rfl)⟩) hHeld ?_
                  simp only [Act.put, List.getElem_toArray, List.getElem_cons_zero, List.getElem_cons_succ, List.setIfInBounds_toArray, List.set_cons_zero, List.set_cons_succ]
                  refine wpAnyH_take (i := 11) (v := .int .i64 y9) rfl (by kernel_rfl) (by kernel_rfl) (by kernel_rfl) (fun _ _ _ h => h) (Or.inl ⟨by kernel_rfl, fun w hSw => by (obtain ⟨hSA, hSV⟩ := hSw; have f1 : w.cell? ⟨wr.heap.size, 1, none⟩ = some (.int .i64 x9) := hSA.cell 1; have f2 : w.cell? ⟨wr.heap.size, 2, none⟩ = some (.int .i64 y9) := hSA.cell 2; obtain ⟨V0, V1, V2, _, _, _⟩ := three hSV; go_simp; first | done | with_reducible rfl)⟩) hHeld ?_
                  simp only [Act.put, List.getElem_toArray, List.getElem_cons_zero, List.getElem_cons_succ, List.setIfInBounds_toArray, List.set_cons_zero, List.set_cons_succ]
                  refine wpAnyH_take (i := 12) (v := .agg #[.bool (ngB q.num), .slice A4 (digs 4294967296 q.num.natAbs).length c4, .slice D4 (digs 4294967296 q.den).length e4]) rfl (by kernel_rfl) (by kernel_rfl) (by kernel_rfl) (fun _ _ _ h => h) (Or.inl ⟨by kernel_rfl, fun w hSw => by (obtain ⟨hSA, hSV⟩ := hSw; have f1 : w.cell? ⟨wr.heap.size, 1, none⟩ = some (.int .i64 x9) := hSA.cell 1; have f2 : w.cell? ⟨wr.heap.size, 2, none⟩ = some (.int .i64 y9) := hSA.cell 2; obtain ⟨V0, V1, V2, _, _, _⟩ := three hSV; go_simp; first | done | with_reducible rfl)⟩) hHeld ?_
                  simp only [Act.put, List.getElem_toArray, List.getElem_cons_zero, List.getElem_cons_succ, List.setIfInBounds_toArray, List.set_cons_zero, List.set_cons_succ]
                  refine wpAnyH_ready (rs := [6]) (by kernel_rfl) (by simp) ?_
                  refine AllReadyH.cons rfl (fun K hK => ?_) AllReadyH.nil
                  go_simp
                  go_at_call 40
                  refine (sput_no g b R C T x9 y9 _ q _ Sd kqd HP.out).mono ?_
                  rintro e wP ⟨rfl, bP⟩
                  have SP := Sd.below bP
                  have BAP := BAd.below bP
                  have BVP := BVd.below bP
                  have QP := Qd.below bP
                  have kP := kqd.below bP
                  have bwP := bwd.trans (bP.mono bwd.size)
                  refine hK.out _ _ ⟨BAP, BVP⟩ (fun hHeld => ?_)
                  clear hK K
                  try simp only [Act.put, List.getElem_toArray, List.getElem_cons_zero, List.getElem_cons_succ, List.setIfInBounds_toArray, List.set_cons_zero, List.set_cons_succ]
                  refine wpAnyH_ready (rs := [13]) (by kernel_rfl) (by simp) ?_
                  refine AllReadyH.cons rfl (fun K hK => ?_) AllReadyH.nil
                  go_simp
                  go_at_call 42
                  refine (qoff_any _ q _ kP (hlq.mono (by omega))).mono ?_
                  rintro e wO ⟨vO, rfl, kO, fO, bO⟩
                  obtain ⟨uO, tO, rfl, sO, dO⟩ := kO
                  obtain ⟨AO, cO, rfl, _⟩ := id sO
                  obtain ⟨DO, eO, rfl, _⟩ := id dO
                  have kO : IsP wO (.agg #[.bool (ngB q.num), .slice AO (digs 10000 q.num.natAbs).length cO, .slice DO (digs 10000 q.den).length eO]) q := ⟨_, _, rfl, sO, dO⟩
                  have BAO := BAP.below bO
                  have BVO := BVP.below bO
                  have QO := QP.below bO
                  have SO := SP.below bO
                  have bwO := bwP.trans (bO.mono bwP.size)
                  refine hK.out _ _ ⟨BAO, BVO⟩ (fun hHeld => ?_)
                  clear hK K
                  try simp only [Act.put, List.getElem_toArray, List.getElem_cons_zero, List.getElem_cons_succ, List.setIfInBounds_toArray, List.set_cons_zero, List.set_cons_succ]
                  refine wpAnyH_ready (rs := [14]) (by kernel_rfl) (by simp) ?_
                  refine AllReadyH.cons rfl (fun K hK => ?_) AllReadyH.nil
                  go_simp
                  go_at_call 41
                  refine (rput13_no _ gq R C V us pss T x9 y9 _ q _ QO kO HP.out).mono ?_
                  rintro e wF ⟨rfl, bF⟩
                  have BAF := BAO.below bF
                  have BVF := BVO.below bF
                  have SF := SO.below bF
                  have QF := QO.below bF
                  have bwF := bwO.trans (bF.mono bwO.size)
                  refine hK.out _ _ ⟨BAF, BVF⟩ (fun hHeld => ?_)
                  clear hK K
                  try simp only [Act.put, List.getElem_toArray, List.getElem_cons_zero, List.getElem_cons_succ, List.setIfInBounds_toArray, List.set_cons_zero, List.set_cons_succ]
                  refine wpAnyH_take (i := 15) (v := .bool false) rfl (by kernel_rfl) (by kernel_rfl) (by kernel_rfl) (fun _ _ _ h => h) (Or.inl ⟨by kernel_rfl, fun w hSw => by (go_simp; first | done | with_reducible rfl)⟩) hHeld ?_
                  simp only [Act.put, List.getElem_toArray, List.getElem_cons_zero, List.getElem_cons_succ, List.setIfInBounds_toArray, List.set_cons_zero, List.set_cons_succ]
                  refine wpAnyH_done (by kernel_rfl) ?_ _
                  go_wp2
                  go_meet
                  exact ⟨rfl, _, _, SF, QF, HLS.out.mono (by omega), bwF⟩
              case rest =>
                obtain ⟨rfl, T6, pss6, S6, Q6, L6, b6⟩ := hcut
                go_wp2
                go_roundw
                case rel => exact ⟨k + 1, T6, pss6, by omega, by omega, S6, Q6, L6, b6, by go_num⟩
                case measure => simp [intOf]; omega
            · go_upto_region 15 with (fail)
              go_cut [110] from 95 to 110 (fun s110 wx => s110 = .bool false ∧ ∃ (T' : List (List Rat)) (pss' : List (List Elt)), Spt wx g b R C T' ∧ Qst wx w2.heap.size gq R C V us pss' T' ∧ Hid (lenS T' (1 + 2 * (k + 1))) ∧ Below w.heap.size w wx)
              case first =>
                clear h3
                have bd := (Below.refl w5.heap.size w5).drew
                have BAd := BA5.below bd
                have BVd := BV5.below bd
                have Sd := S5.below bd
                have Qd := Q5.below bd
                have s4d := s45.below bd
                have d4d := d45.below bd
                have kqd : IsQ w5.drew (.agg #[.bool (ngB q.num), .slice A4 (digs 4294967296 q.num.natAbs).length c4, .slice D4 (digs 4294967296 q.den).length e4]) q := ⟨_, _, rfl, s4d, d4d⟩
                have bwd := bw5.trans (bd.mono bw5.size)
                clear BA5 BV5 S5 Q5 s45 d45
                by_cases hp : 0 ≤ x9 ∧ x9 < (R : Int) ∧ 0 ≤ y9 ∧ y9 < (C : Int)
                · obtain ⟨i, rfl⟩ : ∃ i : Nat, x9 = i := ⟨x9.toNat, by omega⟩
                  obtain ⟨j, rfl⟩ : ∃ j : Nat, y9 = j := ⟨y9.toNat, by omega⟩
                  have hi : i < R := by omega
                  have hj : j < C := by omega
                  clear hp
                  obtain ⟨px, hpx⟩ := cellq_ex Sd.shp hi hj
                  have lenQ_px : lenQ (px + q) (1 + 2 * (k + 1)) := (lenQ_add2 (HLS.out _ _ _ hpx) hlq).mono (by omega)
                  refine wp_region_held_drew (S := fun w' : World => Blk w' wr.heap.size 80 #[.int .i64 d, .int .i64 (i : Int), .int .i64 (j : Int), .bool bo, .slice Au l.length cu, .slice At m.length ct] ∧ Blk w' w4.heap.size 44 #[.bool (ngB q.num), .slice A4 (digs 4294967296 q.num.natAbs).length c4, .slice D4 (digs 4294967296 q.den).length e4]) (by kernel_rfl) ⟨BAd, BVd⟩ (fun hHeld => ?_)
                  refine wpAnyH_take (i := 0) (v := .pointer (some ⟨g, 0, none⟩)) rfl (by kernel_rfl) (by kernel_rfl) (by kernel_rfl) (fun _ _ _ h => h) (Or.inl ⟨by kernel_rfl, fun w hSw => by (go_simp; first | done | with_reducible rfl)⟩) hHeld ?_
                  simp only [Act.put, List.getElem_toArray, List.getElem_cons_zero, List.getElem_cons_succ, List.setIfInBounds_toArray, List.set_cons_zero, List.set_cons_succ]
                  refine wpAnyH_take (i := 1) (v := .pointer (some ⟨wr.heap.size, 1, none⟩)) rfl (by kernel_rfl) (by kernel_rfl) (by kernel_rfl) (fun _ _ _ h => h) (Or.inl ⟨by kernel_rfl, fun w hSw => by (go_simp; first | done | with_reducible rfl)⟩) hHeld ?_
                  simp only [Act.put, List.getElem_toArray, List.getElem_cons_zero, List.getElem_cons_succ, List.setIfInBounds_toArray, List.set_cons_zero, List.set_cons_succ]
                  refine wpAnyH_take (i := 2) (v := .int .i64 (i : Int)) rfl (by kernel_rfl) (by kernel_rfl) (by kernel_rfl) (fun _ _ _ h => h) (Or.inl ⟨by kernel_rfl, fun w hSw => by (obtain ⟨hSA, hSV⟩ := hSw; have f1 : w.cell? ⟨wr.heap.size, 1, none⟩ = some (.int .i64 (i : Int)) := hSA.cell 1; have f2 : w.cell? ⟨wr.heap.size, 2, none⟩ = some (.int .i64 (j : Int)) := hSA.cell 2; obtain ⟨V0, V1, V2, _, _, _⟩ := three hSV; go_simp; first | done | with_reducible rfl)⟩) hHeld ?_
                  simp only [Act.put, List.getElem_toArray, List.getElem_cons_zero, List.getElem_cons_succ, List.setIfInBounds_toArray, List.set_cons_zero, List.set_cons_succ]
                  refine wpAnyH_take (i := 3) (v := .pointer (some ⟨wr.heap.size, 2, none⟩)) rfl (by kernel_rfl) (by kernel_rfl) (by kernel_rfl) (fun _ _ _ h => h) (Or.inl ⟨by kernel_rfl, fun w hSw => by (go_simp; first | done | with_reducible rfl)⟩) hHeld ?_
                  simp only [Act.put, List.getElem_toArray, List.getElem_cons_zero, List.getElem_cons_succ, List.setIfInBounds_toArray, List.set_cons_zero, List.set_cons_succ]
                  refine wpAnyH_take (i := 4) (v := .int .i64 (j : Int)) rfl (by kernel_rfl) (by kernel_rfl) (by kernel_rfl) (fun _ _ _ h => h) (Or.inl ⟨by kernel_rfl, fun w hSw => by (obtain ⟨hSA, hSV⟩ := hSw; have f1 : w.cell? ⟨wr.heap.size, 1, none⟩ = some (.int .i64 (i : Int)) := hSA.cell 1; have f2 : w.cell? ⟨wr.heap.size, 2, none⟩ = some (.int .i64 (j : Int)) := hSA.cell 2; obtain ⟨V0, V1, V2, _, _, _⟩ := three hSV; go_simp; first | done | with_reducible rfl)⟩) hHeld ?_
                  simp only [Act.put, List.getElem_toArray, List.getElem_cons_zero, List.getElem_cons_succ, List.setIfInBounds_toArray, List.set_cons_zero, List.set_cons_succ]
                  refine wpAnyH_take (i := 5) (v := .agg #[.bool (ngB q.num), .slice A4 (digs 4294967296 q.num.natAbs).length c4, .slice D4 (digs 4294967296 q.den).length e4]) rfl (by kernel_rfl) (by kernel_rfl) (by kernel_rfl) (fun _ _ _ h => h) (Or.inl ⟨by kernel_rfl, fun w hSw => by (obtain ⟨hSA, hSV⟩ := hSw; have f1 : w.cell? ⟨wr.heap.size, 1, none⟩ = some (.int .i64 (i : Int)) := hSA.cell 1; have f2 : w.cell? ⟨wr.heap.size, 2, none⟩ = some (.int .i64 (j : Int)) := hSA.cell 2; obtain ⟨V0, V1, V2, _, _, _⟩ := three hSV; go_simp; first | done | with_reducible rfl)⟩) hHeld ?_
                  simp only [Act.put, List.getElem_toArray, List.getElem_cons_zero, List.getElem_cons_succ, List.setIfInBounds_toArray, List.set_cons_zero, List.set_cons_succ]
                  refine wpAnyH_take (i := 7) (v := .pointer (some ⟨gq, 0, none⟩)) rfl (by kernel_rfl) (by kernel_rfl) (by kernel_rfl) (fun _ _ _ h => h) (Or.inl ⟨by kernel_rfl, fun w hSw => by (go_simp; first | done | with_reducible rfl)⟩) hHeld ?_
                  simp only [Act.put, List.getElem_toArray, List.getElem_cons_zero, List.getElem_cons_succ, List.setIfInBounds_toArray, List.set_cons_zero, List.set_cons_succ]
                  refine wpAnyH_take (i := 8) (v := .pointer (some ⟨wr.heap.size, 1, none⟩)) rfl (by kernel_rfl) (by kernel_rfl) (by kernel_rfl) (fun _ _ _ h => h) (Or.inl ⟨by kernel_rfl, fun w hSw => by (go_simp; first | done | with_reducible rfl)⟩) hHeld ?_
                  simp only [Act.put, List.getElem_toArray, List.getElem_cons_zero, List.getElem_cons_succ, List.setIfInBounds_toArray, List.set_cons_zero, List.set_cons_succ]
                  refine wpAnyH_take (i := 9) (v := .int .i64 (i : Int)) rfl (by kernel_rfl) (by kernel_rfl) (by kernel_rfl) (fun _ _ _ h => h) (Or.inl ⟨by kernel_rfl, fun w hSw => by (obtain ⟨hSA, hSV⟩ := hSw; have f1 : w.cell? ⟨wr.heap.size, 1, none⟩ = some (.int .i64 (i : Int)) := hSA.cell 1; have f2 : w.cell? ⟨wr.heap.size, 2, none⟩ = some (.int .i64 (j : Int)) := hSA.cell 2; obtain ⟨V0, V1, V2, _, _, _⟩ := three hSV; go_simp; first | done | with_reducible rfl)⟩) hHeld ?_
                  simp only [Act.put, List.getElem_toArray, List.getElem_cons_zero, List.getElem_cons_succ, List.setIfInBounds_toArray, List.set_cons_zero, List.set_cons_succ]
                  refine wpAnyH_take (i := 10) (v := .pointer (some ⟨wr.heap.size, 2, none⟩)) rfl (by kernel_rfl) (by kernel_rfl) (by kernel_rfl) (fun _ _ _ h => h) (Or.inl ⟨by kernel_rfl, fun w hSw => by (go_simp; first | done | with_reducible rfl)⟩) hHeld ?_
                  simp only [Act.put, List.getElem_toArray, List.getElem_cons_zero, List.getElem_cons_succ, List.setIfInBounds_toArray, List.set_cons_zero, List.set_cons_succ]
                  refine wpAnyH_take (i := 11) (v := .int .i64 (j : Int)) rfl (by kernel_rfl) (by kernel_rfl) (by kernel_rfl) (fun _ _ _ h => h) (Or.inl ⟨by kernel_rfl, fun w hSw => by (obtain ⟨hSA, hSV⟩ := hSw; have f1 : w.cell? ⟨wr.heap.size, 1, none⟩ = some (.int .i64 (i : Int)) := hSA.cell 1; have f2 : w.cell? ⟨wr.heap.size, 2, none⟩ = some (.int .i64 (j : Int)) := hSA.cell 2; obtain ⟨V0, V1, V2, _, _, _⟩ := three hSV; go_simp; first | done | with_reducible rfl)⟩) hHeld ?_
                  simp only [Act.put, List.getElem_toArray, List.getElem_cons_zero, List.getElem_cons_succ, List.setIfInBounds_toArray, List.set_cons_zero, List.set_cons_succ]
                  refine wpAnyH_take (i := 12) (v := .agg #[.bool (ngB q.num), .slice A4 (digs 4294967296 q.num.natAbs).length c4, .slice D4 (digs 4294967296 q.den).length e4]) rfl (by kernel_rfl) (by kernel_rfl) (by kernel_rfl) (fun _ _ _ h => h) (Or.inl ⟨by kernel_rfl, fun w hSw => by (obtain ⟨hSA, hSV⟩ := hSw; have f1 : w.cell? ⟨wr.heap.size, 1, none⟩ = some (.int .i64 (i : Int)) := hSA.cell 1; have f2 : w.cell? ⟨wr.heap.size, 2, none⟩ = some (.int .i64 (j : Int)) := hSA.cell 2; obtain ⟨V0, V1, V2, _, _, _⟩ := three hSV; go_simp; first | done | with_reducible rfl)⟩) hHeld ?_
                  simp only [Act.put, List.getElem_toArray, List.getElem_cons_zero, List.getElem_cons_succ, List.setIfInBounds_toArray, List.set_cons_zero, List.set_cons_succ]
                  refine wpAnyH_ready (rs := [6]) (by kernel_rfl) (by simp) ?_
                  refine AllReadyH.cons rfl (fun K hK => ?_) AllReadyH.nil
                  go_simp
                  go_at_call 43
                  refine (smore_ok g b R C i j T _ px q _ Sd kqd hi hj hpx (hlq.mono (by omega)) (HLS.out.mono (by omega))).mono ?_
                  rintro e wP ⟨rfl, SP, gP⟩
                  have hmD := Sd.map.isM
                  have BAP := hmD.offBlk BAd gP
                  have BVP := hmD.offBlk BVd gP
                  have QP := hmD.notC.qst gP Qd
                  have kP : IsQ wP (.agg #[.bool (ngB q.num), .slice A4 (digs 4294967296 q.num.natAbs).length c4, .slice D4 (digs 4294967296 q.den).length e4]) q := ⟨_, _, rfl, hmD.off s4d gP, hmD.off d4d gP⟩
                  have bwP := bwd.grown gP bwd.size (fun k hk => by injection hk with hk; omega)
                  refine hK.out _ _ ⟨BAP, BVP⟩ (fun hHeld => ?_)
                  clear hK K
                  try simp only [Act.put, List.getElem_toArray, List.getElem_cons_zero, List.getElem_cons_succ, List.setIfInBounds_toArray, List.set_cons_zero, List.set_cons_succ]
                  refine wpAnyH_ready (rs := [13]) (by kernel_rfl) (by simp) ?_
                  refine AllReadyH.cons rfl (fun K hK => ?_) AllReadyH.nil
                  go_simp
                  go_at_call 42
                  refine (qoff_any _ q _ kP (hlq.mono (by omega))).mono ?_
                  rintro e wO ⟨vO, rfl, kO, fO, bO⟩
                  obtain ⟨uO, tO, rfl, sO, dO⟩ := kO
                  obtain ⟨AO, cO, rfl, _⟩ := id sO
                  obtain ⟨DO, eO, rfl, _⟩ := id dO
                  have kO : IsP wO (.agg #[.bool (ngB q.num), .slice AO (digs 10000 q.num.natAbs).length cO, .slice DO (digs 10000 q.den).length eO]) q := ⟨_, _, rfl, sO, dO⟩
                  have BAO := BAP.below bO
                  have BVO := BVP.below bO
                  have QO := QP.below bO
                  have SO := SP.below bO
                  have bwO := bwP.trans (bO.mono bwP.size)
                  refine hK.out _ _ ⟨BAO, BVO⟩ (fun hHeld => ?_)
                  clear hK K
                  try simp only [Act.put, List.getElem_toArray, List.getElem_cons_zero, List.getElem_cons_succ, List.setIfInBounds_toArray, List.set_cons_zero, List.set_cons_succ]
                  refine wpAnyH_ready (rs := [14]) (by kernel_rfl) (by simp) ?_
                  refine AllReadyH.cons rfl (fun K hK => ?_) AllReadyH.nil
                  go_simp
                  go_at_call 44
                  refine (rmore13_ok _ gq R C i j V us pss T _ q px _ QO kO hpx ⟨HLS.out.mono (by omega) _ _ _ hpx, hlq.mono (by omega)⟩ hi hj).mono ?_
                  rintro e wF ⟨rfl, ⟨pssF, QF⟩, aF, csF, hbF, BF, gF, KF⟩
                  have BAF := BAO.grown gF (Blk.ne BAO BF (by decide))
                  have BVF := BVO.grown gF (Blk.ne BVO BF (by decide))
                  have SF := SO.keeps BF (by decide) gF KF
                  have bwF := bwO.grown gF bwO.size (fun k hk => by injection hk with hk; omega)
                  refine hK.out _ _ ⟨BAF, BVF⟩ (fun hHeld => ?_)
                  clear hK K
                  try simp only [Act.put, List.getElem_toArray, List.getElem_cons_zero, List.getElem_cons_succ, List.setIfInBounds_toArray, List.set_cons_zero, List.set_cons_succ]
                  refine wpAnyH_take (i := 15) (v := .bool false) rfl (by kernel_rfl) (by kernel_rfl) (by kernel_rfl) (fun _ _ _ h => h) (Or.inl ⟨by kernel_rfl, fun w hSw => by (go_simp; first | done | with_reducible rfl)⟩) hHeld ?_
                  simp only [Act.put, List.getElem_toArray, List.getElem_cons_zero, List.getElem_cons_succ, List.setIfInBounds_toArray, List.set_cons_zero, List.set_cons_succ]
                  refine wpAnyH_done (by kernel_rfl) ?_ _
                  go_wp2
                  go_meet
                  exact ⟨rfl, _, _, SF, QF, lenS_setq (HLS.out.mono (by omega)) Sd.shp hi hj (lenQ_px), bwF⟩
                · have HP := Lib.hid hp
                  clear hp
                  refine wp_region_held_drew (S := fun w' : World => Blk w' wr.heap.size 80 #[.int .i64 d, .int .i64 x9, .int .i64 y9, .bool bo, .slice Au l.length cu, .slice At m.length ct] ∧ Blk w' w4.heap.size 44 #[.bool (ngB q.num), .slice A4 (digs 4294967296 q.num.natAbs).length c4, .slice D4 (digs 4294967296 q.den).length e4]) (by kernel_rfl) ⟨BAd, BVd⟩ (fun hHeld => ?_)
                  refine wpAnyH_take (i := 0) (v := .pointer (some ⟨g, 0, none⟩)) rfl (by kernel_rfl) (by kernel_rfl) (by kernel_rfl) (fun _ _ _ h => h) (Or.inl ⟨by kernel_rfl, fun w hSw => by (go_simp; first | done | with_reducible rfl)⟩) hHeld ?_
                  simp only [Act.put, List.getElem_toArray, List.getElem_cons_zero, List.getElem_cons_succ, List.setIfInBounds_toArray, List.set_cons_zero, List.set_cons_succ]
                  refine wpAnyH_take (i := 1) (v := .pointer (some ⟨wr.heap.size, 1, none⟩)) rfl (by kernel_rfl) (by kernel_rfl) (by kernel_rfl) (fun _ _ _ h => h) (Or.inl ⟨by kernel_rfl, fun w hSw => by (go_simp; first | done | with_reducible rfl)⟩) hHeld ?_
                  simp only [Act.put, List.getElem_toArray, List.getElem_cons_zero, List.getElem_cons_succ, List.setIfInBounds_toArray, List.set_cons_zero, List.set_cons_succ]
                  refine wpAnyH_take (i := 2) (v := .int .i64 x9) rfl (by kernel_rfl) (by kernel_rfl) (by kernel_rfl) (fun _ _ _ h => h) (Or.inl ⟨by kernel_rfl, fun w hSw => by (obtain ⟨hSA, hSV⟩ := hSw; have f1 : w.cell? ⟨wr.heap.size, 1, none⟩ = some (.int .i64 x9) := hSA.cell 1; have f2 : w.cell? ⟨wr.heap.size, 2, none⟩ = some (.int .i64 y9) := hSA.cell 2; obtain ⟨V0, V1, V2, _, _, _⟩ := three hSV; go_simp; first | done | with_reducible rfl)⟩) hHeld ?_
                  simp only [Act.put, List.getElem_toArray, List.getElem_cons_zero, List.getElem_cons_succ, List.setIfInBounds_toArray, List.set_cons_zero, List.set_cons_succ]
                  refine wpAnyH_take (i := 3) (v := .pointer (some ⟨wr.heap.size, 2, none⟩)) rfl (by kernel_rfl) (by kernel_rfl) (by kernel_rfl) (fun _ _ _ h => h) (Or.inl ⟨by kernel_rfl, fun w hSw => by (go_simp; first | done | with_reducible rfl)⟩) hHeld ?_
                  simp only [Act.put, List.getElem_toArray, List.getElem_cons_zero, List.getElem_cons_succ, List.setIfInBounds_toArray, List.set_cons_zero, List.set_cons_succ]
                  refine wpAnyH_take (i := 4) (v := .int .i64 y9) rfl (by kernel_rfl) (by kernel_rfl) (by kernel_rfl) (fun _ _ _ h => h) (Or.inl ⟨by kernel_rfl, fun w hSw => by (obtain ⟨hSA, hSV⟩ := hSw; have f1 : w.cell? ⟨wr.heap.size, 1, none⟩ = some (.int .i64 x9) := hSA.cell 1; have f2 : w.cell? ⟨wr.heap.size, 2, none⟩ = some (.int .i64 y9) := hSA.cell 2; obtain ⟨V0, V1, V2, _, _, _⟩ := three hSV; go_simp; first | done | with_reducible rfl)⟩) hHeld ?_
                  simp only [Act.put, List.getElem_toArray, List.getElem_cons_zero, List.getElem_cons_succ, List.setIfInBounds_toArray, List.set_cons_zero, List.set_cons_succ]
                  refine wpAnyH_take (i := 5) (v := .agg #[.bool (ngB q.num), .slice A4 (digs 4294967296 q.num.natAbs).length c4, .slice D4 (digs 4294967296 q.den).length e4]) rfl (by kernel_rfl) (by kernel_rfl) (by kernel_rfl) (fun _ _ _ h => h) (Or.inl ⟨by kernel_rfl, fun w hSw => by (obtain ⟨hSA, hSV⟩ := hSw; have f1 : w.cell? ⟨wr.heap.size, 1, none⟩ = some (.int .i64 x9) := hSA.cell 1; have f2 : w.cell? ⟨wr.heap.size, 2, none⟩ = some (.int .i64 y9) := hSA.cell 2; obtain ⟨V0, V1, V2, _, _, _⟩ := three hSV; go_simp; first | done | with_reducible rfl)⟩) hHeld ?_
                  simp only [Act.put, List.getElem_toArray, List.getElem_cons_zero, List.getElem_cons_succ, List.setIfInBounds_toArray, List.set_cons_zero, List.set_cons_succ]
                  refine wpAnyH_take (i := 7) (v := .pointer (some ⟨gq, 0, none⟩)) rfl (by kernel_rfl) (by kernel_rfl) (by kernel_rfl) (fun _ _ _ h => h) (Or.inl ⟨by kernel_rfl, fun w hSw => by (go_simp; first | done | with_reducible rfl)⟩) hHeld ?_
                  simp only [Act.put, List.getElem_toArray, List.getElem_cons_zero, List.getElem_cons_succ, List.setIfInBounds_toArray, List.set_cons_zero, List.set_cons_succ]
                  refine wpAnyH_take (i := 8) (v := .pointer (some ⟨wr.heap.size, 1, none⟩)) rfl (by kernel_rfl) (by kernel_rfl) (by kernel_rfl) (fun _ _ _ h => h) (Or.inl ⟨by kernel_rfl, fun w hSw => by (go_simp; first | done | with_reducible rfl)⟩) hHeld ?_
                  simp only [Act.put, List.getElem_toArray, List.getElem_cons_zero, List.getElem_cons_succ, List.setIfInBounds_toArray, List.set_cons_zero, List.set_cons_succ]
                  refine wpAnyH_take (i := 9) (v := .int .i64 x9) rfl (by kernel_rfl) (by kernel_rfl) (by kernel_rfl) (fun _ _ _ h => h) (Or.inl ⟨by kernel_rfl, fun w hSw => by (obtain ⟨hSA, hSV⟩ := hSw; have f1 : w.cell? ⟨wr.heap.size, 1, none⟩ = some (.int .i64 x9) := hSA.cell 1; have f2 : w.cell? ⟨wr.heap.size, 2, none⟩ = some (.int .i64 y9) := hSA.cell 2; obtain ⟨V0, V1, V2, _, _, _⟩ := three hSV; go_simp; first | done | with_reducible rfl)⟩) hHeld ?_
                  simp only [Act.put, List.getElem_toArray, List.getElem_cons_zero, List.getElem_cons_succ, List.setIfInBounds_toArray, List.set_cons_zero, List.set_cons_succ]
                  refine wpAnyH_take (i := 10) (v := .pointer (some ⟨wr.heap.size, 2, none⟩)) rfl (by kernel_rfl) (by kernel_rfl) (by kernel_rfl) (fun _ _ _ h => h) (Or.inl ⟨by kernel_rfl, fun w hSw => by (go_simp; first | done | with_reducible rfl)⟩) hHeld ?_
                  simp only [Act.put, List.getElem_toArray, List.getElem_cons_zero, List.getElem_cons_succ, List.setIfInBounds_toArray, List.set_cons_zero, List.set_cons_succ]
                  refine wpAnyH_take (i := 11) (v := .int .i64 y9) rfl (by kernel_rfl) (by kernel_rfl) (by kernel_rfl) (fun _ _ _ h => h) (Or.inl ⟨by kernel_rfl, fun w hSw => by (obtain ⟨hSA, hSV⟩ := hSw; have f1 : w.cell? ⟨wr.heap.size, 1, none⟩ = some (.int .i64 x9) := hSA.cell 1; have f2 : w.cell? ⟨wr.heap.size, 2, none⟩ = some (.int .i64 y9) := hSA.cell 2; obtain ⟨V0, V1, V2, _, _, _⟩ := three hSV; go_simp; first | done | with_reducible rfl)⟩) hHeld ?_
                  simp only [Act.put, List.getElem_toArray, List.getElem_cons_zero, List.getElem_cons_succ, List.setIfInBounds_toArray, List.set_cons_zero, List.set_cons_succ]
                  refine wpAnyH_take (i := 12) (v := .agg #[.bool (ngB q.num), .slice A4 (digs 4294967296 q.num.natAbs).length c4, .slice D4 (digs 4294967296 q.den).length e4]) rfl (by kernel_rfl) (by kernel_rfl) (by kernel_rfl) (fun _ _ _ h => h) (Or.inl ⟨by kernel_rfl, fun w hSw => by (obtain ⟨hSA, hSV⟩ := hSw; have f1 : w.cell? ⟨wr.heap.size, 1, none⟩ = some (.int .i64 x9) := hSA.cell 1; have f2 : w.cell? ⟨wr.heap.size, 2, none⟩ = some (.int .i64 y9) := hSA.cell 2; obtain ⟨V0, V1, V2, _, _, _⟩ := three hSV; go_simp; first | done | with_reducible rfl)⟩) hHeld ?_
                  simp only [Act.put, List.getElem_toArray, List.getElem_cons_zero, List.getElem_cons_succ, List.setIfInBounds_toArray, List.set_cons_zero, List.set_cons_succ]
                  refine wpAnyH_ready (rs := [6]) (by kernel_rfl) (by simp) ?_
                  refine AllReadyH.cons rfl (fun K hK => ?_) AllReadyH.nil
                  go_simp
                  go_at_call 43
                  refine (smore_no g b R C T x9 y9 _ q _ Sd hx64 hy64 kqd (hlq.mono (by omega)) (HLS.out.mono (by omega)) HP.out).mono ?_
                  rintro e wP ⟨rfl, bP⟩
                  have SP := Sd.below bP
                  have BAP := BAd.below bP
                  have BVP := BVd.below bP
                  have QP := Qd.below bP
                  have kP := kqd.below bP
                  have bwP := bwd.trans (bP.mono bwd.size)
                  refine hK.out _ _ ⟨BAP, BVP⟩ (fun hHeld => ?_)
                  clear hK K
                  try simp only [Act.put, List.getElem_toArray, List.getElem_cons_zero, List.getElem_cons_succ, List.setIfInBounds_toArray, List.set_cons_zero, List.set_cons_succ]
                  refine wpAnyH_ready (rs := [13]) (by kernel_rfl) (by simp) ?_
                  refine AllReadyH.cons rfl (fun K hK => ?_) AllReadyH.nil
                  go_simp
                  go_at_call 42
                  refine (qoff_any _ q _ kP (hlq.mono (by omega))).mono ?_
                  rintro e wO ⟨vO, rfl, kO, fO, bO⟩
                  obtain ⟨uO, tO, rfl, sO, dO⟩ := kO
                  obtain ⟨AO, cO, rfl, _⟩ := id sO
                  obtain ⟨DO, eO, rfl, _⟩ := id dO
                  have kO : IsP wO (.agg #[.bool (ngB q.num), .slice AO (digs 10000 q.num.natAbs).length cO, .slice DO (digs 10000 q.den).length eO]) q := ⟨_, _, rfl, sO, dO⟩
                  have BAO := BAP.below bO
                  have BVO := BVP.below bO
                  have QO := QP.below bO
                  have SO := SP.below bO
                  have bwO := bwP.trans (bO.mono bwP.size)
                  refine hK.out _ _ ⟨BAO, BVO⟩ (fun hHeld => ?_)
                  clear hK K
                  try simp only [Act.put, List.getElem_toArray, List.getElem_cons_zero, List.getElem_cons_succ, List.setIfInBounds_toArray, List.set_cons_zero, List.set_cons_succ]
                  refine wpAnyH_ready (rs := [14]) (by kernel_rfl) (by simp) ?_
                  refine AllReadyH.cons rfl (fun K hK => ?_) AllReadyH.nil
                  go_simp
                  go_at_call 44
                  refine (rmore13_no _ gq R C V us pss T x9 y9 _ q _ QO kO HP.out).mono ?_
                  rintro e wF ⟨rfl, bF⟩
                  have BAF := BAO.below bF
                  have BVF := BVO.below bF
                  have SF := SO.below bF
                  have QF := QO.below bF
                  have bwF := bwO.trans (bF.mono bwO.size)
                  refine hK.out _ _ ⟨BAF, BVF⟩ (fun hHeld => ?_)
                  clear hK K
                  try simp only [Act.put, List.getElem_toArray, List.getElem_cons_zero, List.getElem_cons_succ, List.setIfInBounds_toArray, List.set_cons_zero, List.set_cons_succ]
                  refine wpAnyH_take (i := 15) (v := .bool false) rfl (by kernel_rfl) (by kernel_rfl) (by kernel_rfl) (fun _ _ _ h => h) (Or.inl ⟨by kernel_rfl, fun w hSw => by (go_simp; first | done | with_reducible rfl)⟩) hHeld ?_
                  simp only [Act.put, List.getElem_toArray, List.getElem_cons_zero, List.getElem_cons_succ, List.setIfInBounds_toArray, List.set_cons_zero, List.set_cons_succ]
                  refine wpAnyH_done (by kernel_rfl) ?_ _
                  go_wp2
                  go_meet
                  exact ⟨rfl, _, _, SF, QF, HLS.out.mono (by omega), bwF⟩
              case rest =>
                obtain ⟨rfl, T6, pss6, S6, Q6, L6, b6⟩ := hcut
                go_wp2
                go_roundw
                case rel => exact ⟨k + 1, T6, pss6, by omega, by omega, S6, Q6, L6, b6, by go_num⟩
                case measure => simp [intOf]; omega
          · by_cases hk1 : k < n2
            · have hk2 : ¬ k < 20 := fun h => hlt ⟨hk1, h⟩
              clear hlt
              go_wp2_with fail
              refine (same13_any g b R C _ gq V us pss T _ S Q (HLS.out.mono (by omega))).mono ?_
              rintro e w4 ⟨rfl, b4⟩
              go_wp2_with fail
              refine (works13_any _).mono ?_
              rintro e w5 ⟨rfl, b5⟩
              have bw5 := bw.trans ((b4.trans (b5.mono b4.size)).mono bw.size)
              go_wp2
              go_ret
              exact ⟨rfl, bw5⟩
            · clear hlt
              go_wp2_with fail
              refine (same13_any g b R C _ gq V us pss T _ S Q (HLS.out.mono (by omega))).mono ?_
              rintro e w4 ⟨rfl, b4⟩
              go_wp2_with fail
              refine (works13_any _).mono ?_
              rintro e w5 ⟨rfl, b5⟩
              have bw5 := bw.trans ((b4.trans (b5.mono b4.size)).mono bw.size)
              go_wp2
              go_ret
              exact ⟨rfl, bw5⟩
      · have HN : Hid (¬ (0 ≤ x ∧ x < 201 ∧ 0 ≤ y ∧ y < 201) ∧ ¬ (0 ≤ x ∧ 0 ≤ y ∧ x ≤ 200 ∧ y ≤ 200)) := by
          show _ ∧ _
          have h := HS.out
          constructor <;> intro h5 <;> rcases h with h | h <;> first | exact h ⟨by omega, by omega, by omega, by omega⟩ | exact hok h
        clear hok HS
        go_wp2_with fail
        refine (snew_no x y _ HN.out.1).mono ?_
        rintro e w2 ⟨rfl, b2⟩
        go_wp2_with fail
        refine (rnew_no x y _ HN.out.2).mono ?_
        rintro e w3 ⟨rfl, b3⟩
        have bb3 := bb.trans ((b2.trans (b3.mono b2.size)).mono bb.size)
        go_wp2
        refine wp_loop_rounds 1 ?_
        rw [rounds_succ]
        by_cases hn0 : 0 < n2
        · go_wp2_with fail
          refine (works13_any _).mono ?_
          rintro e w5 ⟨rfl, b5⟩
          go_wp2
          go_ret
          exact ⟨rfl, bb3.trans (b5.mono bb3.size)⟩
        · go_wp2_with fail
          refine (works13_any _).mono ?_
          rintro e w5 ⟨rfl, b5⟩
          go_wp2
          go_ret
          exact ⟨rfl, bb3.trans (b5.mono bb3.size)⟩
set_option maxRecDepth 100000 in
theorem lifted (os : Os) (started : os.Started) (H : Type) (enc : TypeId × Value → H) :
    ReturnsInHanded {} Tryz.checked os 7 .any (Rows.sparsePlaysSpec.pre6 enc Tryz.prog Tryz.f7 Rows.sparsePlaysRow.domain false) (Rows.sparsePlaysSpec.post enc Tryz.prog Tryz.f7 false true false false) := by
  refine returnsInHanded_of_change (C := Tryz.checked) own started (by kernel_rfl) Tryz.func7
    (ChangeSpec.witness6 (enc := enc) (C := Tryz.checked) false ⟨#[], #[.int .i64 0, .int .i64 0, .slice none 0 0], []⟩ 8 (by kernel_rfl) (by kernel_rfl) (by kernel_rfl) (by kernel_rfl)) ?_
  intro W base args ds gs before hval0 hW hcnd _
  have hval : ∀ (j : Nat) t v, Tryz.f7.params[j]? = some t → args[j]? = some v → Value.okWide Tryz.prog W .any base t v := hval0
  have hW' := hW
  obtain ⟨p, q, hA0, hV, rfl, hfz, hnd⟩ := hW
  have hA : DataW.TrodAll enc Tryz.prog W 0 (fun _ => true) true Tryz.f7.params.toList args.toList ds p := hA0
  rw [Tryz.params7] at hA hval
  obtain ⟨v0, vs0, d0, ds0, p0, q0, hargs, rfl, rfl, t0, r0⟩ := trodAll_cons hA
  obtain ⟨v1, vs1, d1, ds1, p1, q1, rfl, rfl, rfl, t1, r1⟩ := trodAll_cons r0
  obtain ⟨v2, vs2, d2, ds2, p2, q2, rfl, rfl, rfl, t2, r2⟩ := trodAll_cons r1
  obtain ⟨rfl, rfl, rfl⟩ := trodAll_nil r2
  obtain rfl : args = #[v0, v1, v2] := by cases args; simp_all
  obtain ⟨rfl, rfl⟩ := trodVars_none hV
  obtain ⟨a0, rfl, hd0, hp0, wf0⟩ := open_int Tryz.underlying3 (hval 0 3 v0 rfl rfl) t0
  obtain ⟨a1, rfl, hd1, hp1, wf1⟩ := open_int Tryz.underlying3 (hval 1 3 v1 rfl rfl) t1
  have hs2 := arg_act Tryz.underlying71 Tryz.underlying80 (by kernel_rfl) (by kernel_rfl) Tryz.underlying3 Tryz.underlying3 Tryz.underlying3 Tryz.underlying44 (by kernel_rfl) Tryz.underlying42 (by kernel_rfl) Tryz.underlying4 Tryz.underlying40 Tryz.underlying40 Tryz.underlying116 cells_u (hval 2 71 v2 rfl rfl) t2
  clear hA0 hval0
  simp only [List.append_nil] at hW'
  have hlt0 : ∀ x ∈ p0, x.block < W.heap.size := fun x hx => hW'.lt x (List.mem_append_left _ hx)
  have hlt1 : ∀ x ∈ p1, x.block < W.heap.size := fun x hx => hW'.lt x (List.mem_append_right _ (List.mem_append_left _ hx))
  have hlt2 : ∀ x ∈ p2, x.block < W.heap.size := fun x hx => hW'.lt x (List.mem_append_right _ (List.mem_append_right _ (hx)))
  refine (walk a0 a1 v2 W wf0 wf1 hs2).mono fun e W' ⟨he, hb⟩ => ?_
  subst he
  have s0 := Below.trod laidOut (by kernel_rfl) (of_decide_eq_true (by kernel_rfl)) t0 hb hlt0
  have s1 := Below.trod laidOut (by kernel_rfl) (of_decide_eq_true (by kernel_rfl)) t1 hb hlt1
  have s2 := Below.trod laidOut (by kernel_rfl) (of_decide_eq_true (by kernel_rfl)) t2 hb hlt2
  exact ⟨_, rfl, _, _, _, [] ++ [], _, [], hW', trodAll_cons_mk (shut_bool Tryz.underlying4 _) trodAll_mk0, trodAll_cons_mk s0 (trodAll_cons_mk s1 (trodAll_cons_mk s2 (trodAll_mk0))), rfl, hb.frame _, fun h => by cases h⟩
theorem over : Rows.sparsePlaysRow.holds Tryz.pinned (OpenSpec.ofChange Rows.sparsePlaysSpec) :=
  OpenClaim.holds_of_wide 7 Tryz.f7 rfl rfl rfl rfl rfl rfl rfl ⟨rfl, rfl, rfl, rfl, rfl⟩ rfl rfl rfl rfl rfl (by kernel_rfl) Tryz.func7 (by kernel_rfl)
    (of_decide_eq_true (by kernel_rfl)) (by unfold Func.isWrapper; first | (rw [if_pos (by decide +kernel)]; kernel_rfl) | (rw [if_neg (by decide +kernel)]; exact ⟨rfl, rfl⟩))
    (fun os started H enc _ => lifted os started H enc)
/-- The statement. -/
theorem proved : Rows.SparsePlaysSaid := over
end Go.Proofs.YtfnohdgnhdfpaaaGreat.sparsePlays
