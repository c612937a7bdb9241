/- BareissSolved: a times the numbers is b times the determinant. Condition: the arguments can be read as data. -/
import Derived.Test.YteijlcfhenlanaaKB4
import Derived.Deep.CutRange
import Derived.OpenShut
import Derived.LaidMore
import Derived.Lay
import Derived.Stop.Joined
namespace Go.Proofs.Yteijlcfhenlanaa.bareissSolved
open Go.ChangeShapes Go.WideShapes Go.ChangeAt Go.RowKit Go.Proofs.Yteijlcfhenlanaa.num Go.Proofs.Yteijlcfhenlanaa.mem Go.Proofs.Yteijlcfhenlanaa.nat Go.Proofs.Yteijlcfhenlanaa.txt Go.Proofs.Yteijlcfhenlanaa.str Go.Proofs.Yteijlcfhenlanaa.flow Go.Proofs.Yteijlcfhenlanaa.whl Go.Proofs.Yteijlcfhenlanaa.rat
set_option linter.unusedVariables false
set_option linter.unusedSimpArgs false
theorem own : ownKnob Try.prog.godebug = none := by kernel_rfl
theorem laidOut : laidOutB Try.prog = true := by kernel_rfl
theorem cells_u : Try.prog.cellsOf 64 = 1 := by kernel_rfl
set_option maxHeartbeats 6400000 in
set_option maxRecDepth 100000 in
/-- The walk: the Go text returns true; what was there is as it was. -/
theorem walk (v0 : Value) (v1 : Value) (w : World) (h0 : ArgW w v0) (h1 : ArgW w v1) :
    Calls Try.prog 5 #[v0, v1] w (RetV (.bool true) w) := by
  obtain ⟨A0, n0, c0, rfl, -, -⟩ := h0.shape
  obtain ⟨A1, n1, c1, rfl, -, -⟩ := h1.shape
  have CF : ∀ (a : Value) (w : World), ArgW w a → Calls Try.prog 7 #[a, .int .i64 6] w (RetFewI 6 w) := fun a w h => few15_any a 6 w h (by omega)
  go_enter Try.func5, Try.ntmps5
  go_wp2_with fail
  refine (works15_any _).mono ?_
  rintro e w1 ⟨rfl, b1⟩
  have hA1 := h0.below b1
  have hB1 := h1.below b1
  clear h0 h1
  go_wp2_with fail
  refine (CF _ _ hA1).mono ?_
  rintro e w2 ⟨V, U, T, rfl, hV, hU, hT1, hT2, hT3, b2⟩
  obtain ⟨n, hn⟩ : ∃ n, n = T.length := ⟨_, rfl⟩
  obtain ⟨AV, cV, rfl, -, -⟩ := hV.shape
  obtain ⟨AU, cU, rfl, -, -⟩ := hU.shape
  rw [← hn] at hV hU ⊢
  have HT : Hid (n = T.length ∧ T.length ≤ 6 ∧ lenI T 2 ∧ ∀ r ∈ T, r.length ≤ 6) := ⟨hn, hT1, hT3, hT2⟩
  have bb2 := b1.trans (b2.mono b1.size)
  have hB2 := hB1.below b2
  clear hn hT1 hT2 hT3 b1 b2 hA1 hB1 hU
  go_wp2_with fail
  refine (CF _ _ hB2).mono ?_
  rintro e w3 ⟨W, U2, R, rfl, hW, hU2, hT1, hT2, hT3, b3⟩
  obtain ⟨m, hm⟩ : ∃ m, m = R.length := ⟨_, rfl⟩
  obtain ⟨AW, cW, rfl, -, -⟩ := hW.shape
  obtain ⟨AU2, cU2, rfl, -, -⟩ := hU2.shape
  rw [← hm] at hW hU2 ⊢
  have HR : Hid (m = R.length ∧ R.length ≤ 6 ∧ lenI R 2 ∧ ∀ r ∈ R, r.length ≤ 6) := ⟨hm, hT1, hT3, hT2⟩
  have bb3 := bb2.trans (b3.mono bb2.size)
  have hV3 := hV.below b3
  clear hm hT1 hT2 hT3 bb2 b3 hB2 hU2 hV CF
  have HC : Hid (lenI T 2 ∧ lenI R 2 ∧ (2 + 1) * 2 ^ T.length ≤ 5001) := ⟨HT.out.2.2.1, HR.out.2.2.1, pow_lens (n := 6) HT.out.2.1 (by omega)⟩
  go_wp2_with fail
  refine (bsolve_any _ _ T R 2 _ hV3 hW HC).mono ?_
  rintro e w4 ⟨b4, ⟨hok, X0, v4, d, X, rfl, hX, k4, hS⟩ | ⟨hok, h0, rfl⟩ | ⟨hok, rfl⟩⟩
  · obtain ⟨u4, rfl, s4⟩ := k4
    obtain ⟨Ad, cd, rfl, _⟩ := id s4
    obtain ⟨AX, cX, rfl, -, -⟩ := hX.shape
    have HSV : Hid (okS T R ∧ SolvedI T R X d) := ⟨hok, hS⟩
    have hXl : X.length = n := by rw [HT.out.1]; exact hS.sh.1
    obtain ⟨xl, hxl⟩ : ∃ xl, xl = X.length := ⟨_, rfl⟩
    rw [← hxl] at hX ⊢
    have HX : Hid (xl = X.length ∧ X.length = n ∧ m = n) := ⟨hxl, hXl, by rw [HR.out.1, HT.out.1]; exact hok.2.2.symm⟩
    clear hok hS hXl hxl
    have ba4 := below_alloc (w := w4) (Nat.le_refl _) (.cells #[.bool (ngB d), .slice Ad (digs 4294967296 d.natAbs).length cd] 29)
    have BD4 := Blk.new w4 29 #[.bool (ngB d), .slice Ad (digs 4294967296 d.natAbs).length cd]
    have sd4 := s4.below ba4
    have bx := bb3.trans (b4.mono bb3.size)
    have bb4 := bx.trans (ba4.mono bx.size)
    have hV4 := (hV3.below b4).below ba4
    have hW4 := (hW.below b4).below ba4
    have hX4 := hX.below ba4
    clear bx bb3 b4 ba4 hV3 hW hX s4
    have hw6 : wideI X ≤ 6 ∧ (∀ r ∈ X, r.length = wideI X) ∧ (0 < X.length → wideI X = wideI R) := by
      have hsh := HSV.out.2.sh
      have h0 : 0 < X.length → wideI X = wideI R := fun h => by
        unfold wideI
        rw [List.getD_eq_getElem?_getD, List.getElem?_eq_getElem h]
        exact hsh.2 _ (List.getElem_mem h)
      refine ⟨?_, fun r hr => ?_, h0⟩
      · by_cases h : 0 < X.length
        · rw [h0 h]
          have h2 : 0 < R.length := by rw [← HR.out.1, HX.out.2.2, ← HX.out.2.1]; exact h
          unfold wideI
          rw [List.getD_eq_getElem?_getD, List.getElem?_eq_getElem h2]
          exact HR.out.2.2.2 _ (List.getElem_mem h2)
        · have e : X = [] := List.length_eq_zero_iff.1 (by omega)
          rw [e]; exact Nat.zero_le _
      · rw [h0 (List.length_pos_of_mem hr)]; exact hsh.2 r hr
    have HW := Lib.hid hw6
    have HTC : Hid ((∀ r ∈ T, r.length = X.length) ∧ (∀ r ∈ X, r.length = wideI X) ∧ lenI T 2 ∧ lenI X 5000 ∧ X.length ≤ 6 ∧ T.length ≤ 6 ∧ wideI X ≤ 6) := ⟨fun r hr => by rw [HSV.out.1.1.2 r hr, HX.out.2.1, HT.out.1], hw6.2.1, HT.out.2.2.1, HSV.out.2.len, by have := HX.out.2.1; have := HT.out; omega, HT.out.2.1, hw6.1⟩
    clear hw6
    go_wp2_with fail
    refine (btimes_any _ _ T X _ hV4 hX4 HTC).mono ?_
    rintro e w5 ⟨P0, rfl, hP, b5⟩
    obtain ⟨Q, hQ⟩ : ∃ Q, Q = timesI T X := ⟨_, rfl⟩
    rw [← hQ] at hP
    have HQ := Lib.hid hQ
    obtain ⟨AP, cP, rfl, -, -⟩ := hP.shape
    obtain ⟨q, hq⟩ : ∃ q, q = Q.length := ⟨_, rfl⟩
    rw [← hq] at hP ⊢
    have HQL : Hid (q = Q.length ∧ Q.length = n) := ⟨hq, by rw [hQ, HT.out.1]; unfold timesI; rw [List.length_map]⟩
    clear hQ hq
    have BD := BD4.below b5
    have sd := sd4.below b5
    have HP5 := Lib.hid hP
    have HW5 := Lib.hid (hW4.below b5)
    have HBD := Lib.hid BD
    have HSD := Lib.hid sd
    have HB5 := Lib.hid (bb4.trans (b5.mono bb4.size))
    clear BD4 sd4 b5 hV4 hW4 hX4 bb4 hP BD sd
    have HB0 : Hid (Below w5.heap.size w5 w5) := Below.refl _ _
    have hm6 : m ≤ 6 := by have := HR.out; omega
    go_wp2
    go_loopw [13] (fun v13 wr => ∃ i : Nat, i ≤ m ∧ Hid (Below w5.heap.size w5 wr) ∧ v13 = .int .i64 (i : Int)) (fun v13 _ => m - (intOf v13).toNat)
    case atStart => exact ⟨0, by omega, HB0, rfl⟩
    case round =>
      clear HB0
      obtain ⟨i, hi, HBo, rfl⟩ := hrel
      obtain ⟨wo, hwo⟩ : ∃ wo, wo = wr := ⟨_, rfl⟩
      subst hwo
      by_cases him : i < m
      · obtain ⟨r, hr⟩ : ∃ r, R[i]? = some r := ⟨_, List.getElem?_eq_getElem (by rw [← HR.out.1]; exact him)⟩
        have hrl : r.length = wideI R := (HSV.out.1.2.1.2 r (List.mem_of_getElem? hr)).1
        obtain ⟨rl, hrlx⟩ : ∃ rl, rl = r.length := ⟨_, rfl⟩
        have hrl6 : rl ≤ 6 := by rw [hrlx]; exact HR.out.2.2.2 r (List.mem_of_getElem? hr)
        have HRR : Hid (R[i]? = some r ∧ rl = r.length ∧ r.length = wideI R) := ⟨hr, hrlx, hrl⟩
        obtain ⟨adW, rfl⟩ := HW5.out.place (List.length_pos_iff.1 (by rw [← HR.out.1]; omega))
        obtain ⟨adP, rfl⟩ := HP5.out.place (List.length_pos_iff.1 (by rw [HQL.out.2, ← HX.out.2.2]; omega))
        clear hr hrl hrlx
        go_wp2
        go_loopw [14] (fun v14 wr => ∃ j : Nat, j ≤ rl ∧ Hid (Below w5.heap.size w5 wr) ∧ v14 = .int .i64 (j : Int)) (fun v14 _ => rl - (intOf v14).toNat)
        case atStart => exact ⟨0, by omega, HBo, rfl⟩
        case round =>
          clear HBo
          obtain ⟨j, hj, HBi, rfl⟩ := hrel
          obtain ⟨wi, hwi⟩ : ∃ wi, wi = wr := ⟨_, rfl⟩
          subst hwi
          have hWi := HW5.out.below HBi.out
          obtain ⟨Ar, cr, himx, ecr, sr⟩ := hWi.at2 HRR.out.1
          rw [← HRR.out.2.1] at ecr sr
          by_cases hjl : j < rl
          · obtain ⟨y, hy⟩ : ∃ y, r[j]? = some y := ⟨_, List.getElem?_eq_getElem (by rw [← HRR.out.2.1]; exact hjl)⟩
            have hjX : j < wideI X := by rw [HW.out.2.2 (by rw [HX.out.2.1, ← HX.out.2.2]; omega), ← HRR.out.2.2, ← HRR.out.2.1]; exact hjl
            obtain ⟨S, hS⟩ : ∃ S, S = sumI X.length (fun c => entI T i c * entI X c j) := ⟨_, rfl⟩
            obtain ⟨pr, hpr, hprl, hpS⟩ := timesI_ent (A := T) (X := X) (i := i) (j := j) (by rw [← HT.out.1, ← HX.out.2.2]; exact him) hjX
            rw [← hS] at hpS
            rw [← HQ.out] at hpr
            have hPi := HP5.out.below HBi.out
            obtain ⟨Ap, cp, hipx, ecp, sp⟩ := hPi.at2 hpr
            obtain ⟨pl, hpl⟩ : ∃ pl, pl = pr.length := ⟨_, rfl⟩
            rw [← hpl] at ecp sp
            obtain ⟨gp, op, us, rfl, hia, p0, p1, ss⟩ := sp.at_ hpS
            obtain ⟨gr, or, uy, rfl, hib, q0, q1, sy⟩ := sr.at_ hy
            obtain ⟨As, cs, rfl, _⟩ := id ss
            obtain ⟨Ay, cy, rfl, _⟩ := id sy
            have hix := fun w => index2 (P := Try.prog) Try.underlying51 (by kernel_rfl) (g := gp) (o := op) (c := cp) hia w
            have hix2 := fun w => index2 (P := Try.prog) Try.underlying51 (by kernel_rfl) (g := gr) (o := or) (c := cr) hib w
            have HSE : Hid (S = y * d) := by
              have h1 := HSV.out.2.sol i j (by rw [← HT.out.1, ← HX.out.2.2]; exact him) (by rw [← HRR.out.2.2, ← HRR.out.2.1]; exact hjl)
              have h2 : ((S : Int) : Rat) = sumN T.length (fun c => (entI T i c : Rat) * (entI X c j : Rat)) := by
                rw [hS, sumI_cast, HX.out.2.1, HT.out.1]
                exact sumN_congr fun c _ => by rw [Rat.intCast_mul]
              rw [← h2, entI_of HRR.out.1 hy, ← Rat.intCast_mul] at h1
              exact (Rat.intCast_inj.1 h1).trans (Int.mul_comm _ _)
            have hly : lenZ y ≤ 2 := HR.out.2.2.1 r (List.mem_of_getElem? HRR.out.1) y (List.mem_of_getElem? hy)
            obtain ⟨M, hM⟩ : ∃ M, M = y * d := ⟨_, rfl⟩
            have CM : ∀ w a b, IsZ w a y → IsZ w b d → Calls Try.prog 20 #[a, b] w (RetZ M w) := fun w a b h1 h2 => zmul_any a b y d M w h1 h2 (by omega) (by have := HSV.out.2.dl; omega) hM
            have HO : Hid (0 = ordz S M) := by show _ = _; rw [hM, HSE.out]; simp [ordz]
            have bd := (Below.refl wi.heap.size wi).drew
            have HBd : Hid (Below w5.heap.size w5 wi.drew) := HBi.out.drew
            have kS : IsZ wi.drew (.agg #[.bool (ngB S), .slice As (digs 4294967296 S.natAbs).length cs]) S := ⟨_, rfl, ss.below bd⟩
            have kY : IsZ wi.drew (.agg #[.bool (ngB y), .slice Ay (digs 4294967296 y.natAbs).length cy]) y := ⟨_, rfl, sy.below bd⟩
            have kD : IsZ wi.drew (.agg #[.bool (ngB d), .slice Ad (digs 4294967296 d.natAbs).length cd]) d := ⟨_, rfl, (HSD.out.below HBi.out).below bd⟩
            obtain ⟨x0, x1, _, _⟩ := Blk.two ((HBD.out.below HBi.out).below bd)
            have p0d : wi.drew.cell? _ = _ := p0
            have p1d : wi.drew.cell? _ = _ := p1
            have q0d : wi.drew.cell? _ = _ := q0
            have q1d : wi.drew.cell? _ = _ := q1
            have ecpd : wi.drew.cell? _ = _ := ecp
            have ecrd : wi.drew.cell? _ = _ := ecr
            clear hy hjX hS hpr hprl hpS hPi hWi sp sr hpl hly hM p0 p1 q0 q1 ecp ss sy bd HBi
            go_upto_region 15 with (fail)
            clear ecr
            refine wp_region_held_drew (S := fun w' : World => Below wi.drew.heap.size wi.drew w') (by kernel_rfl) (Below.refl _ _) (fun hHeld => ?_)
            refine wpAnyH_take (i := 0) (v := .slice (some adP) q cP) rfl (by kernel_rfl) (by kernel_rfl) (by kernel_rfl) (fun _ _ _ h => h) (Or.inl ⟨by kernel_rfl, fun w hSw => by (go_simp; first | done | with_reducible rfl)⟩) hHeld ?_
            simp only [Act.put, List.getElem_toArray, List.getElem_cons_zero, List.getElem_cons_succ, List.setIfInBounds_toArray, List.set_cons_zero, List.set_cons_succ]
            refine wpAnyH_take (i := 1) (v := .int .i64 (i : Int)) rfl (by kernel_rfl) (by kernel_rfl) (by kernel_rfl) (fun _ _ _ h => h) (Or.inl ⟨by kernel_rfl, fun w hSw => by (go_simp; first | done | with_reducible rfl)⟩) hHeld ?_
            simp only [Act.put, List.getElem_toArray, List.getElem_cons_zero, List.getElem_cons_succ, List.setIfInBounds_toArray, List.set_cons_zero, List.set_cons_succ]
            refine wpAnyH_take (i := 2) (v := .pointer (some (adP.add i))) rfl (by kernel_rfl) (by kernel_rfl) (by kernel_rfl) (fun _ _ _ h => h) (Or.inl ⟨by kernel_rfl, fun w hSw => by (go_simp; first | done | with_reducible rfl)⟩) hHeld ?_
            simp only [Act.put, List.getElem_toArray, List.getElem_cons_zero, List.getElem_cons_succ, List.setIfInBounds_toArray, List.set_cons_zero, List.set_cons_succ]
            refine wpAnyH_take (i := 3) (v := .slice (some ⟨gp, op, none⟩) pl cp) rfl (by kernel_rfl) (by kernel_rfl) (by kernel_rfl) (fun _ _ _ h => h) (Or.inl ⟨by kernel_rfl, fun w hSw => by (have hBw : Below wi.drew.heap.size wi.drew w := hSw; have f0 := (hBw.cell (World.block_lt_of_cell? _ _ ecpd)).trans ecpd; go_simp; first | done | with_reducible rfl)⟩) hHeld ?_
            simp only [Act.put, List.getElem_toArray, List.getElem_cons_zero, List.getElem_cons_succ, List.setIfInBounds_toArray, List.set_cons_zero, List.set_cons_succ]
            refine wpAnyH_take (i := 4) (v := .int .i64 (j : Int)) rfl (by kernel_rfl) (by kernel_rfl) (by kernel_rfl) (fun _ _ _ h => h) (Or.inl ⟨by kernel_rfl, fun w hSw => by (go_simp; first | done | with_reducible rfl)⟩) hHeld ?_
            simp only [Act.put, List.getElem_toArray, List.getElem_cons_zero, List.getElem_cons_succ, List.setIfInBounds_toArray, List.set_cons_zero, List.set_cons_succ]
            refine wpAnyH_take (i := 5) (v := .pointer (some ⟨gp, op + j * 2, none⟩)) rfl (by kernel_rfl) (by kernel_rfl) (by kernel_rfl) (fun _ _ _ h => h) (Or.inl ⟨by kernel_rfl, fun w hSw => by (go_simp; first | done | with_reducible rfl)⟩) hHeld ?_
            simp only [Act.put, List.getElem_toArray, List.getElem_cons_zero, List.getElem_cons_succ, List.setIfInBounds_toArray, List.set_cons_zero, List.set_cons_succ]
            refine wpAnyH_take (i := 6) (v := .agg #[.bool (ngB S), .slice As (digs 4294967296 S.natAbs).length cs]) rfl (by kernel_rfl) (by kernel_rfl) (by kernel_rfl) (fun _ _ _ h => h) (Or.inl ⟨by kernel_rfl, fun w hSw => by (have hBw : Below wi.drew.heap.size wi.drew w := hSw; have f0 := (hBw.cell (World.block_lt_of_cell? _ _ p0d)).trans p0d; have f1 := (hBw.cell (World.block_lt_of_cell? _ _ p1d)).trans p1d; go_simp; first | done | with_reducible rfl)⟩) hHeld ?_
            simp only [Act.put, List.getElem_toArray, List.getElem_cons_zero, List.getElem_cons_succ, List.setIfInBounds_toArray, List.set_cons_zero, List.set_cons_succ]
            refine wpAnyH_take (i := 7) (v := .slice (some adW) m cW) rfl (by kernel_rfl) (by kernel_rfl) (by kernel_rfl) (fun _ _ _ h => h) (Or.inl ⟨by kernel_rfl, fun w hSw => by (go_simp; first | done | with_reducible rfl)⟩) hHeld ?_
            simp only [Act.put, List.getElem_toArray, List.getElem_cons_zero, List.getElem_cons_succ, List.setIfInBounds_toArray, List.set_cons_zero, List.set_cons_succ]
            refine wpAnyH_take (i := 8) (v := .int .i64 (i : Int)) rfl (by kernel_rfl) (by kernel_rfl) (by kernel_rfl) (fun _ _ _ h => h) (Or.inl ⟨by kernel_rfl, fun w hSw => by (go_simp; first | done | with_reducible rfl)⟩) hHeld ?_
            simp only [Act.put, List.getElem_toArray, List.getElem_cons_zero, List.getElem_cons_succ, List.setIfInBounds_toArray, List.set_cons_zero, List.set_cons_succ]
            refine wpAnyH_take (i := 9) (v := .pointer (some (adW.add i))) rfl (by kernel_rfl) (by kernel_rfl) (by kernel_rfl) (fun _ _ _ h => h) (Or.inl ⟨by kernel_rfl, fun w hSw => by (go_simp; first | done | with_reducible rfl)⟩) hHeld ?_
            simp only [Act.put, List.getElem_toArray, List.getElem_cons_zero, List.getElem_cons_succ, List.setIfInBounds_toArray, List.set_cons_zero, List.set_cons_succ]
            refine wpAnyH_take (i := 10) (v := .slice (some ⟨gr, or, none⟩) rl cr) rfl (by kernel_rfl) (by kernel_rfl) (by kernel_rfl) (fun _ _ _ h => h) (Or.inl ⟨by kernel_rfl, fun w hSw => by (have hBw : Below wi.drew.heap.size wi.drew w := hSw; have f0 := (hBw.cell (World.block_lt_of_cell? _ _ ecrd)).trans ecrd; go_simp; first | done | with_reducible rfl)⟩) hHeld ?_
            simp only [Act.put, List.getElem_toArray, List.getElem_cons_zero, List.getElem_cons_succ, List.setIfInBounds_toArray, List.set_cons_zero, List.set_cons_succ]
            refine wpAnyH_take (i := 11) (v := .int .i64 (j : Int)) rfl (by kernel_rfl) (by kernel_rfl) (by kernel_rfl) (fun _ _ _ h => h) (Or.inl ⟨by kernel_rfl, fun w hSw => by (go_simp; first | done | with_reducible rfl)⟩) hHeld ?_
            simp only [Act.put, List.getElem_toArray, List.getElem_cons_zero, List.getElem_cons_succ, List.setIfInBounds_toArray, List.set_cons_zero, List.set_cons_succ]
            refine wpAnyH_take (i := 12) (v := .pointer (some ⟨gr, or + j * 2, none⟩)) rfl (by kernel_rfl) (by kernel_rfl) (by kernel_rfl) (fun _ _ _ h => h) (Or.inl ⟨by kernel_rfl, fun w hSw => by (go_simp; first | done | with_reducible rfl)⟩) hHeld ?_
            simp only [Act.put, List.getElem_toArray, List.getElem_cons_zero, List.getElem_cons_succ, List.setIfInBounds_toArray, List.set_cons_zero, List.set_cons_succ]
            refine wpAnyH_take (i := 13) (v := .agg #[.bool (ngB y), .slice Ay (digs 4294967296 y.natAbs).length cy]) rfl (by kernel_rfl) (by kernel_rfl) (by kernel_rfl) (fun _ _ _ h => h) (Or.inl ⟨by kernel_rfl, fun w hSw => by (have hBw : Below wi.drew.heap.size wi.drew w := hSw; have f0 := (hBw.cell (World.block_lt_of_cell? _ _ q0d)).trans q0d; have f1 := (hBw.cell (World.block_lt_of_cell? _ _ q1d)).trans q1d; go_simp; first | done | with_reducible rfl)⟩) hHeld ?_
            simp only [Act.put, List.getElem_toArray, List.getElem_cons_zero, List.getElem_cons_succ, List.setIfInBounds_toArray, List.set_cons_zero, List.set_cons_succ]
            refine wpAnyH_take (i := 14) (v := .agg #[.bool (ngB d), .slice Ad (digs 4294967296 d.natAbs).length cd]) rfl (by kernel_rfl) (by kernel_rfl) (by kernel_rfl) (fun _ _ _ h => h) (Or.inl ⟨by kernel_rfl, fun w hSw => by (have hBw : Below wi.drew.heap.size wi.drew w := hSw; have f0 := (hBw.cell (World.block_lt_of_cell? _ _ x0)).trans x0; have f1 := (hBw.cell (World.block_lt_of_cell? _ _ x1)).trans x1; go_simp; first | done | with_reducible rfl)⟩) hHeld ?_
            simp only [Act.put, List.getElem_toArray, List.getElem_cons_zero, List.getElem_cons_succ, List.setIfInBounds_toArray, List.set_cons_zero, List.set_cons_succ]
            refine wpAnyH_ready (rs := [15]) (by kernel_rfl) (by simp) ?_
            refine AllReadyH.cons rfl (fun K hK => ?_) AllReadyH.nil
            go_simp
            go_at_call 20
            refine (CM _ _ _ kY kD).mono ?_
            rintro e w6 ⟨v6, rfl, k6, -, b6⟩; obtain ⟨u6, rfl, s6⟩ := k6; obtain ⟨A6, c6, rfl, _⟩ := id s6
            have bT := b6
            refine hK.out _ _ (by exact bT) (fun hHeld => ?_)
            clear hK K
            try simp only [Act.put, List.getElem_toArray, List.getElem_cons_zero, List.getElem_cons_succ, List.setIfInBounds_toArray, List.set_cons_zero, List.set_cons_succ]
            refine wpAnyH_ready (rs := [16]) (by kernel_rfl) (by simp) ?_
            refine AllReadyH.cons rfl (fun K hK => ?_) AllReadyH.nil
            go_simp
            go_at_call 16
            refine (zcmp_any _ S _ M 0 _ (kS.below bT) ⟨_, rfl, s6⟩ HO.out).mono ?_
            rintro e w7 ⟨rfl, b7⟩
            have bT := bT.trans (b7.mono bT.size)
            refine hK.out _ _ (by exact bT) (fun hHeld => ?_)
            clear hK K
            try simp only [Act.put, List.getElem_toArray, List.getElem_cons_zero, List.getElem_cons_succ, List.setIfInBounds_toArray, List.set_cons_zero, List.set_cons_succ]
            refine wpAnyH_take (i := 17) (v := .bool false) rfl (by kernel_rfl) (by kernel_rfl) (by kernel_rfl) (fun _ _ _ h => h) (Or.inl ⟨by kernel_rfl, fun w hSw => by (go_simp; first | done | with_reducible rfl)⟩) hHeld ?_
            simp only [Act.put, List.getElem_toArray, List.getElem_cons_zero, List.getElem_cons_succ, List.setIfInBounds_toArray, List.set_cons_zero, List.set_cons_succ]
            refine wpAnyH_done (by kernel_rfl) ?_ _
            have HBn : Hid (Below w5.heap.size w5 _) := HBd.out.trans (bT.mono HBd.out.size)
            clear HBd CM kS kY kD x0 x1 p0d p1d q0d q1d ecpd ecrd s6 bT b6 b7 hix hix2
            go_wp2
            go_roundw
            case rel => exact ⟨j + 1, by omega, HBn, by go_num⟩
            case measure => simp [intOf]; omega
          · clear hWi sr
            go_wp2
            go_roundw
            case rel => exact ⟨i + 1, by omega, HBi, by go_num⟩
            case measure => simp [intOf]; omega
      · have bbe := HB5.out.trans (HBo.out.mono HB5.out.size)
        go_wp2
        go_ret
        exact ⟨rfl, bbe⟩
  · clear h0
    have bbx := bb3.trans (b4.mono bb3.size)
    have bbe := bbx.trans ((below_alloc (w := w4) (Nat.le_refl _) (.cells #[.bool false, .slice none 0 0] 29)).mono bbx.size)
    clear hok bbx
    go_wp2
    go_ret
    exact ⟨rfl, bbe⟩
  · have bbx := bb3.trans (b4.mono bb3.size)
    have bbe := bbx.trans ((below_alloc (w := w4) (Nat.le_refl _) (.cells #[.bool false, .slice none 0 0] 29)).mono bbx.size)
    clear hok bbx
    go_wp2
    go_ret
    exact ⟨rfl, bbe⟩
set_option maxRecDepth 100000 in
theorem lifted (os : Os) (started : os.Started) (H : Type) (enc : TypeId × Value → H) :
  ReturnsInHanded {} Try.checked os 5 .any (Rows.bareissSolvedSpec.pre6 enc Try.prog Try.f5 Rows.bareissSolvedRow.domain false) (Rows.bareissSolvedSpec.post enc Try.prog Try.f5 false true false false) := by
 refine returnsInHanded_of_change (C := Try.checked) own started (by kernel_rfl) Try.func5
  (ChangeSpec.witness6 (enc := enc) (C := Try.checked) false ⟨#[], #[.slice none 0 0, .slice none 0 0], []⟩ 8 (by kernel_rfl) (by kernel_rfl) (by kernel_rfl) (by kernel_rfl)) ?_
 intro W base args ds gs before hval0 hW hcnd _
 have hval : ∀ (j : Nat) t v, Try.f5.params[j]? = some t → args[j]? = some v → Value.okWide Try.prog W .any base t v := hval0
 have hW' := hW
 obtain ⟨p, q, hA0, hV, rfl, hfz, hnd⟩ := hW
 have hA : DataW.TrodAll enc Try.prog W 0 (fun _ => true) true Try.f5.params.toList args.toList ds p := hA0
 rw [Try.params5] at hA hval
 obtain ⟨v0, vs0, d0, ds0, p0, q0, hargs, rfl, rfl, t0, r0⟩ := trodAll_cons hA
 obtain ⟨v1, vs1, d1, ds1, p1, q1, rfl, rfl, rfl, t1, r1⟩ := trodAll_cons r0
 obtain ⟨rfl, rfl, rfl⟩ := trodAll_nil r1
 obtain rfl : args = #[v0, v1] := by cases args; simp_all
 obtain ⟨rfl, rfl⟩ := trodVars_none hV
 have hs0 := arg_w Try.underlying22 (by kernel_rfl) Try.underlying51 Try.underlying29 (by kernel_rfl) (by kernel_rfl) Try.underlying4 Try.underlying27 Try.underlying64 cells_u (hval 0 22 v0 rfl rfl) t0
 have hs1 := arg_w Try.underlying22 (by kernel_rfl) Try.underlying51 Try.underlying29 (by kernel_rfl) (by kernel_rfl) Try.underlying4 Try.underlying27 Try.underlying64 cells_u (hval 1 22 v1 rfl rfl) t1
 clear hA0 hval0
 simp only [List.append_nil] at hW'
 have hlt0 : ∀ x ∈ p0, x.block < W.heap.size := fun x hx => hW'.lt x (List.mem_append_left _ hx)
 have hlt1 : ∀ x ∈ p1, x.block < W.heap.size := fun x hx => hW'.lt x (List.mem_append_right _ (hx))
 refine (walk v0 v1 W hs0 hs1).mono fun e W' ⟨he, hb⟩ => ?_
 subst he
 have s0 := Below.trod laidOut (by kernel_rfl) (of_decide_eq_true (by kernel_rfl)) t0 hb hlt0
 have s1 := Below.trod laidOut (by kernel_rfl) (of_decide_eq_true (by kernel_rfl)) t1 hb hlt1
 exact ⟨_, rfl, _, _, _, [] ++ [], _, [], hW', trodAll_cons_mk (shut_bool Try.underlying4 _) trodAll_mk0, trodAll_cons_mk s0 (trodAll_cons_mk s1 (trodAll_mk0)), rfl, hb.frame _, fun h => by cases h⟩
theorem over : Rows.bareissSolvedRow.holds Try.pinned (OpenSpec.ofChange Rows.bareissSolvedSpec) :=
 OpenClaim.holds_of_wide 5 Try.f5 rfl rfl rfl rfl rfl rfl rfl ⟨rfl, rfl, rfl, rfl, rfl⟩ rfl rfl rfl rfl rfl (by kernel_rfl) Try.func5 (by kernel_rfl)
  (of_decide_eq_true (by kernel_rfl)) (by unfold Func.isWrapper; first | (rw [if_pos (by decide +kernel)]; kernel_rfl) | (rw [if_neg (by decide +kernel)]; exact ⟨rfl, rfl⟩))
  (fun os started H enc _ => lifted os started H enc)
/-- The statement. -/
theorem proved : Rows.BareissSolvedSaid := over
end Go.Proofs.Yteijlcfhenlanaa.bareissSolved
