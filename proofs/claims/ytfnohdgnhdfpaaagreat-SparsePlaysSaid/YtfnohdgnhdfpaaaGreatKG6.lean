/- The comparison of both tables (triviumlaw13.same). Condition: as each says.
An argument as a slice of structs of three numbers and a fraction. Condition: it can be read as data.
Package matrix: Add, Mul. Condition: as each says.
Package matrix: Beside. Condition: as each says.
The chapter's example of layer 12; the statements' Among. Condition: as each says.
What the law over acts wants: elements of six cells, what a store into the document's table keeps, how long numbers grow. Condition: as each says. -/
import Derived.Test.YtfnohdgnhdfpaaaGreatKG5
import Derived.Deep.RegionHeld3
import Derived.Deep.CutRange
namespace Go.Proofs.YtfnohdgnhdfpaaaGreat.rat
open Go.RowKit Go.Proofs.YtfnohdgnhdfpaaaGreat.num Go.Proofs.YtfnohdgnhdfpaaaGreat.mem Go.Proofs.YtfnohdgnhdfpaaaGreat.nat Go.Proofs.YtfnohdgnhdfpaaaGreat.txt Go.Proofs.YtfnohdgnhdfpaaaGreat.str Go.Proofs.YtfnohdgnhdfpaaaGreat.flow Go.Proofs.YtfnohdgnhdfpaaaGreat.whl
set_option linter.unusedVariables false
set_option linter.unusedSimpArgs false
theorem cntT_take {T : List (List Rat)} {i : Nat} {r : List Rat} (h : T[i]? = some r) : cntT (T.take (i + 1)) = cntT (T.take i) + cntR r := by
  unfold cntT
  rw [List.take_add_one, h]
  simp
theorem cellsR_none : ∀ k, cellsR [] k = []
  | 0 => rfl
  | k + 1 => by
    rw [cellsR_miss (fun q hq => by simp at hq)]
    exact cellsR_none k
theorem cellsR_cnt (r : List Rat) : ∀ k, k ≤ r.length → (cellsR r k).length = cntR (r.take k)
  | 0, _ => rfl
  | k + 1, h => by
    have ih := cellsR_cnt r k (by omega)
    obtain ⟨q, hq⟩ : ∃ q, r[k]? = some q := ⟨_, List.getElem?_eq_getElem (by omega)⟩
    unfold cntR at *
    rw [List.take_add_one, hq, List.countP_append, ← ih]
    by_cases h0 : q = 0
    · rw [cellsR_miss (fun p hp => by rw [hq] at hp; injection hp with hp; rw [← hp]; exact h0)]
      simp [h0]
    · rw [cellsR_hit hq h0]
      simp [h0]
theorem cellsR_next {r : List Rat} {j : Nat} {q : Rat} (hq : r[j]? = some q) (h0 : q ≠ 0) : ∀ d, (cellsR r (j + 1 + d))[(cellsR r j).length]? = some (j, q)
  | 0 => by
    rw [Nat.add_zero, cellsR_hit hq h0]
    simp
  | d + 1 => by
    have ih := cellsR_next hq h0 d
    rw [← Nat.add_assoc]
    by_cases hk : ∀ p, r[j + 1 + d]? = some p → p = 0
    · rw [cellsR_miss hk]
      exact ih
    · cases hp : r[j + 1 + d]? with
      | none => exact absurd (fun p h => by rw [hp] at h; cases h) hk
      | some p =>
        have hp0 : p ≠ 0 := fun e => hk fun p' h => by
          rw [hp] at h
          injection h with h
          rw [← h]
          exact e
        rw [cellsR_hit hp hp0, List.getElem?_append_left (List.getElem?_eq_some_iff.1 ih).1]
        exact ih
theorem cntT_take_le {T : List (List Rat)} {R C : Nat} (hs : shp T R C) (hR : R ≤ 200) (hC : C ≤ 200) (m : Nat) : cntT (T.take m) ≤ 40000 := by
  have h := cntT_le (T := T.take m) (R := (T.take m).length) (C := C) ⟨rfl, fun r hr => hs.2 r (List.mem_of_mem_take hr)⟩
  have h1 : (T.take m).length ≤ 200 := by rw [List.length_take, hs.1]; omega
  have h2 := Nat.mul_le_mul h1 hC
  omega
theorem IsP.kept {w w' : World} {v : Value} {q : Rat} (h : IsP w v q) (hb : Below w.heap.size w w') : IsP w' v q := by
  obtain ⟨u, t, e, h1, h2⟩ := h
  exact ⟨u, t, e, h1.below hb, h2.below hb⟩
set_option maxHeartbeats 12800000 in
set_option maxRecDepth 100000 in
theorem same13_any (g b R C base gq : Nat) (V : Value) (us : List Value) (pss : List (List Elt)) (T : List (List Rat)) (w : World) (S : Spt w g b R C T) (Q : Qst w base gq R C V us pss T) (hl : lenS T 30000) : Calls Tryz.prog 45 #[.pointer (some ⟨g, 0, none⟩), .pointer (some ⟨gq, 0, none⟩)] w (RetV (.bool true) w) := by
  obtain ⟨AV, cV, rfl⟩ := RowV.slice Q.tab.row
  have hR := S.hR
  have hC := S.hC
  have HT := Lib.hid S.shp
  have HL : Hid (lenS T 30000 ∧ lenS T 100000) := ⟨hl, fun i j q h => (hl i j q h).mono (by omega)⟩
  obtain ⟨Z, hZ⟩ : ∃ Z : Rat, Z = 0 := ⟨_, rfl⟩
  have CO : ∀ w, Calls Tryz.prog 32 #[.int .i64 0] w (RetQ Z w) := fun w => by
    have h := of8_any 0 w (by omega) (by omega)
    rwa [show ((0 : Int) : Rat) = Z by rw [hZ]; rfl] at h
  have HZ := Lib.hid hZ
  clear hZ hl
  go_enter Tryz.func45, Tryz.ntmps45
  go_wp2_with fail
  refine (ssize_any _ _ _ _ _ _ S).mono ?_
  rintro e w2 ⟨rfl, b2⟩
  obtain ⟨c0, c1, c2⟩ := (Q.below b2).cells
  go_wp2
  go_loopw [7, 8] (fun v7 v8 wr => ∃ (n : Nat) (x : Int), n ≤ R + 2 ∧ x = (n : Int) - 1 ∧ Below w.heap.size w wr ∧ v7 = .int .i64 (cntT (T.take (n - 1)) : Int) ∧ v8 = .int .i64 x) (fun _ v8 _ => ((R : Int) + 1 - intOf v8).toNat)
  case atStart => exact ⟨0, -1, by omega, by omega, b2, by simp [cntT], rfl⟩
  case round =>
    clear c0 c1 c2 b2
    obtain ⟨n, x, hn, hx, bw, rfl, rfl⟩ := hrel
    obtain ⟨wo, hwo⟩ : ∃ wo, wo = wr := ⟨_, rfl⟩
    subst hwo
    obtain ⟨c0, c1, c2⟩ := (Q.below bw).cells
    have hx1 : -1 ≤ x ∧ x ≤ (R : Int) + 1 := by omega
    have HX := Lib.hid hx
    clear hx
    have HCT := Lib.hid (cntT_take_le HT.out hR hC (n - 1))
    by_cases hlt : x ≤ (R : Int)
    · obtain ⟨L, hL⟩ : ∃ L, L = cellsR (rowOf T x) C := ⟨_, rfl⟩
      obtain ⟨nl, hnl⟩ : ∃ nl, nl = L.length := ⟨_, rfl⟩
      have CR := srow_any g b R C T x wo (S.below bw) ⟨by omega, by omega⟩ HL.out.2
      rw [← hL] at CR
      have HNL := Lib.hid hnl
      have HLL := Lib.hid hL
      clear hL hnl
      go_wp2_with fail
      refine CR.mono ?_
      clear CR
      rintro e w3 ⟨VL, rfl, sL, b3⟩
      obtain ⟨AL, cL, eL, -, -⟩ := sL.shape
      rw [← HNL.out] at eL
      subst eL
      clear c0 c1 c2
      have bw3 := bw.trans (b3.mono bw.size)
      obtain ⟨c0, c1, c2⟩ := (Q.below bw3).cells
      clear b3
      go_wp2
      go_loopw [7, 10, 11] (fun v7 v10 v11 wy => ∃ (j k : Nat), j ≤ C ∧ Hid (k = (cellsR (rowOf T x) j).length) ∧ Below w3.heap.size w3 wy ∧ v7 = .int .i64 ((cntT (T.take (n - 1)) + k : Nat) : Int) ∧ v10 = .int .i64 (k : Int) ∧ v11 = .int .i64 (j : Int)) (fun _ _ v11 _ => C - (intOf v11).toNat)
      case atStart => exact ⟨0, 0, by omega, rfl, Below.refl _ _, rfl, rfl, rfl⟩
      case round =>
        clear c0 c1 c2
        obtain ⟨j, k, hj, HK, bY, rfl, rfl, rfl⟩ := hrel
        have bz := bw3.trans (bY.mono bw3.size)
        obtain ⟨c0, c1, c2⟩ := (Q.below bz).cells
        by_cases hgo : j < C ∧ 0 ≤ x ∧ x < (R : Int)
        · obtain ⟨h1, h2, h3⟩ := hgo
          obtain ⟨i, rfl⟩ : ∃ i : Nat, x = i := ⟨x.toNat, by omega⟩
          have hi : i < R := by omega
          obtain ⟨gV, cV', a, ca, ps, q0, eV, hu, hps, hpl, hq0, hcq, hE0, -⟩ := (Q.below bz).place hi h1
          injection eV with eA en ec
          subst eA
          subst ec
          have hiu : i < us.length := by omega
          clear en
          obtain ⟨x0, u0, t0⟩ := q0
          obtain ⟨⟨Au, cu, eu, _⟩, At, ct, et, _⟩ := id hE0
          change u0 = .slice Au (digs 10000 x0.num.natAbs).length cu at eu
          change t0 = .slice At (digs 10000 x0.den).length ct at et
          subst eu et
          have hcx : cellq T i j = some x0 := hcq
          have HC : Hid (∃ r, rowOf T (i : Int) = r ∧ T[i]? = some r ∧ r[j]? = some x0) := by
            obtain ⟨r, e1, e2⟩ := cellq_inv hcx
            exact ⟨r, rowOf_nat e1, e1, e2⟩
          have HLX : Hid (lenQ x0 30000) := HL.out.1 i j x0 hcx
          have CG : ∀ w, Spt w g b R C T → Calls Tryz.prog 94 #[.pointer (some ⟨g, 0, none⟩), .int .i64 (i : Int), .int .i64 (j : Int)] w (RetQ x0 w) := fun w h => by
            have h1 := sget_any g b R C T (i : Int) (j : Int) w h ⟨by omega, by omega⟩ ⟨by omega, by omega⟩ HL.out.2
            rwa [valAt_of hcx] at h1
          have hcV : wr.cell? ⟨gV, i, none⟩ = some (.slice (some ⟨a, 0, none⟩) C ca) := RowV.cellAt (Q.below bz).tab.row hu
          obtain ⟨a', c', cs', ea, _, hB, k0, k1, k2⟩ := RowF.at_ ((Q.below bz).tab.own i _ ps hu hps) hq0
          have ea' := sl_block ea
          clear ea
          subst ea'
          have m0 : wr.cell? ⟨a, j * 3, none⟩ = some (.bool (ngB x0.num)) := k0
          have m1 : wr.cell? ⟨a, j * 3 + 1, none⟩ = some (.slice Au (digs 10000 x0.num.natAbs).length cu) := k1
          have m2 : wr.cell? ⟨a, j * 3 + 2, none⟩ = some (.slice At (digs 10000 x0.den).length ct) := k2
          have hij := fun w => indexN (P := Tryz.prog) Tryz.underlying87 (by kernel_rfl) (g := a) (c := ca) h1 w
          have kp : IsP wr (.agg #[.bool (ngB x0.num), .slice Au (digs 10000 x0.num.natAbs).length cu, .slice At (digs 10000 x0.den).length ct]) x0 := ⟨_, _, rfl, hE0.1, hE0.2⟩
          have Sr := S.below bz
          clear k0 k1 k2 hB hps hpl hq0 hcq hE0 hu hcx
          go_upto_region 13 with (fail)
          go_cut [78] from 62 to 78 (fun s78 wx => s78 = .bool false ∧ Below wr.heap.size wr wx)
          case first =>
            have bd := (Below.refl wr.heap.size wr).drew
            have S0 := Sr.below bd
            have kp0 := kp.kept bd
            have y2 : wr.drew.cell? ⟨gq, 2, none⟩ = some (.slice (some ⟨gV, 0, none⟩) us.length cV) := c2
            have yV : wr.drew.cell? ⟨gV, i, none⟩ = some (.slice (some ⟨a, 0, none⟩) C ca) := hcV
            have n0 : wr.drew.cell? ⟨a, j * 3, none⟩ = some (.bool (ngB x0.num)) := m0
            have n1 : wr.drew.cell? ⟨a, j * 3 + 1, none⟩ = some (.slice Au (digs 10000 x0.num.natAbs).length cu) := m1
            have n2 : wr.drew.cell? ⟨a, j * 3 + 2, none⟩ = some (.slice At (digs 10000 x0.den).length ct) := m2
            clear c0 c1 c2 hcV m0 m1 m2 kp Sr
--R13
            refine wp_region_held_drew (S := fun w' : World => Below wr.drew.heap.size wr.drew w') (by kernel_rfl) (Below.refl _ _) (fun hHeld => ?_)
            refine wpAnyH_take (i := 0) (v := .pointer (some ⟨g, 0, none⟩)) rfl (by kernel_rfl) (by kernel_rfl) (by kernel_rfl) (fun _ _ _ h => h) (Or.inl ⟨by kernel_rfl, fun w hSw => by (go_simp; first | done | with_reducible rfl)⟩) hHeld ?_
            simp only [Act.put, List.getElem_toArray, List.getElem_cons_zero, List.getElem_cons_succ, List.setIfInBounds_toArray, List.set_cons_zero, List.set_cons_succ]
            refine wpAnyH_take (i := 1) (v := .int .i64 (i : Int)) rfl (by kernel_rfl) (by kernel_rfl) (by kernel_rfl) (fun _ _ _ h => h) (Or.inl ⟨by kernel_rfl, fun w hSw => by (go_simp; first | done | with_reducible rfl)⟩) hHeld ?_
            simp only [Act.put, List.getElem_toArray, List.getElem_cons_zero, List.getElem_cons_succ, List.setIfInBounds_toArray, List.set_cons_zero, List.set_cons_succ]
            refine wpAnyH_take (i := 2) (v := .int .i64 (j : Int)) rfl (by kernel_rfl) (by kernel_rfl) (by kernel_rfl) (fun _ _ _ h => h) (Or.inl ⟨by kernel_rfl, fun w hSw => by (go_simp; first | done | with_reducible rfl)⟩) hHeld ?_
            simp only [Act.put, List.getElem_toArray, List.getElem_cons_zero, List.getElem_cons_succ, List.setIfInBounds_toArray, List.set_cons_zero, List.set_cons_succ]
            refine wpAnyH_take (i := 4) (v := .pointer (some ⟨gq, 0, none⟩)) rfl (by kernel_rfl) (by kernel_rfl) (by kernel_rfl) (fun _ _ _ h => h) (Or.inl ⟨by kernel_rfl, fun w hSw => by (go_simp; first | done | with_reducible rfl)⟩) hHeld ?_
            simp only [Act.put, List.getElem_toArray, List.getElem_cons_zero, List.getElem_cons_succ, List.setIfInBounds_toArray, List.set_cons_zero, List.set_cons_succ]
            refine wpAnyH_take (i := 5) (v := .pointer (some ⟨gq, 0, none⟩)) rfl (by kernel_rfl) (by kernel_rfl) (by kernel_rfl) (fun _ _ _ h => h) (Or.inl ⟨by kernel_rfl, fun w hSw => by (go_simp; first | done | with_reducible rfl)⟩) hHeld ?_
            simp only [Act.put, List.getElem_toArray, List.getElem_cons_zero, List.getElem_cons_succ, List.setIfInBounds_toArray, List.set_cons_zero, List.set_cons_succ]
            refine wpAnyH_take (i := 6) (v := .pointer (some ⟨gq, 2, none⟩)) rfl (by kernel_rfl) (by kernel_rfl) (by kernel_rfl) (fun _ _ _ h => h) (Or.inl ⟨by kernel_rfl, fun w hSw => by (go_simp; first | done | with_reducible rfl)⟩) hHeld ?_
            simp only [Act.put, List.getElem_toArray, List.getElem_cons_zero, List.getElem_cons_succ, List.setIfInBounds_toArray, List.set_cons_zero, List.set_cons_succ]
            refine wpAnyH_take (i := 7) (v := .slice (some ⟨gV, 0, none⟩) us.length cV) rfl (by kernel_rfl) (by kernel_rfl) (by kernel_rfl) (fun _ _ _ h => h) (Or.inl ⟨by kernel_rfl, fun w hSw => by (have hBw : Below wr.drew.heap.size wr.drew w := hSw; have f0 := (hBw.cell (World.block_lt_of_cell? _ _ y2)).trans y2; go_simp; first | done | with_reducible rfl)⟩) hHeld ?_
            simp only [Act.put, List.getElem_toArray, List.getElem_cons_zero, List.getElem_cons_succ, List.setIfInBounds_toArray, List.set_cons_zero, List.set_cons_succ]
            refine wpAnyH_take (i := 8) (v := .int .i64 (i : Int)) rfl (by kernel_rfl) (by kernel_rfl) (by kernel_rfl) (fun _ _ _ h => h) (Or.inl ⟨by kernel_rfl, fun w hSw => by (go_simp; first | done | with_reducible rfl)⟩) hHeld ?_
            simp only [Act.put, List.getElem_toArray, List.getElem_cons_zero, List.getElem_cons_succ, List.setIfInBounds_toArray, List.set_cons_zero, List.set_cons_succ]
            refine wpAnyH_take (i := 9) (v := .pointer (some ⟨gV, i, none⟩)) rfl (by kernel_rfl) (by kernel_rfl) (by kernel_rfl) (fun _ _ _ h => h) (Or.inl ⟨by kernel_rfl, fun w hSw => by (go_simp; first | done | with_reducible rfl)⟩) hHeld ?_
            simp only [Act.put, List.getElem_toArray, List.getElem_cons_zero, List.getElem_cons_succ, List.setIfInBounds_toArray, List.set_cons_zero, List.set_cons_succ]
            refine wpAnyH_take (i := 10) (v := .slice (some ⟨a, 0, none⟩) C ca) rfl (by kernel_rfl) (by kernel_rfl) (by kernel_rfl) (fun _ _ _ h => h) (Or.inl ⟨by kernel_rfl, fun w hSw => by (have hBw : Below wr.drew.heap.size wr.drew w := hSw; have f0 := (hBw.cell (World.block_lt_of_cell? _ _ yV)).trans yV; go_simp; first | done | with_reducible rfl)⟩) hHeld ?_
            simp only [Act.put, List.getElem_toArray, List.getElem_cons_zero, List.getElem_cons_succ, List.setIfInBounds_toArray, List.set_cons_zero, List.set_cons_succ]
            refine wpAnyH_take (i := 11) (v := .int .i64 (j : Int)) rfl (by kernel_rfl) (by kernel_rfl) (by kernel_rfl) (fun _ _ _ h => h) (Or.inl ⟨by kernel_rfl, fun w hSw => by (go_simp; first | done | with_reducible rfl)⟩) hHeld ?_
            simp only [Act.put, List.getElem_toArray, List.getElem_cons_zero, List.getElem_cons_succ, List.setIfInBounds_toArray, List.set_cons_zero, List.set_cons_succ]
            refine wpAnyH_take (i := 12) (v := .pointer (some ⟨a, j * 3, none⟩)) rfl (by kernel_rfl) (by kernel_rfl) (by kernel_rfl) (fun _ _ _ h => h) (Or.inl ⟨by kernel_rfl, fun w hSw => by (go_simp; first | done | with_reducible rfl)⟩) hHeld ?_
            simp only [Act.put, List.getElem_toArray, List.getElem_cons_zero, List.getElem_cons_succ, List.setIfInBounds_toArray, List.set_cons_zero, List.set_cons_succ]
            refine wpAnyH_take (i := 13) (v := .agg #[.bool (ngB x0.num), .slice Au (digs 10000 x0.num.natAbs).length cu, .slice At (digs 10000 x0.den).length ct]) rfl (by kernel_rfl) (by kernel_rfl) (by kernel_rfl) (fun _ _ _ h => h) (Or.inl ⟨by kernel_rfl, fun w hSw => by (have hBw : Below wr.drew.heap.size wr.drew w := hSw; have f0 := (hBw.cell (World.block_lt_of_cell? _ _ n0)).trans n0; have f1 := (hBw.cell (World.block_lt_of_cell? _ _ n1)).trans n1; have f2 := (hBw.cell (World.block_lt_of_cell? _ _ n2)).trans n2; go_simp; first | done | with_reducible rfl)⟩) hHeld ?_
            simp only [Act.put, List.getElem_toArray, List.getElem_cons_zero, List.getElem_cons_succ, List.setIfInBounds_toArray, List.set_cons_zero, List.set_cons_succ]
            refine wpAnyH_ready (rs := [3]) (by kernel_rfl) (by simp) ?_
            refine AllReadyH.cons rfl (fun K hK => ?_) AllReadyH.nil
            go_simp
            go_at_call 94
            refine (CG _ (S0)).mono ?_
            rintro e wG ⟨vG, rfl, kG, -, bG⟩
            have bT := bG
            refine hK.out _ _ (by exact bT) (fun hHeld => ?_)
            clear hK K
            try simp only [Act.put, List.getElem_toArray, List.getElem_cons_zero, List.getElem_cons_succ, List.setIfInBounds_toArray, List.set_cons_zero, List.set_cons_succ]
            refine wpAnyH_ready (rs := [14]) (by kernel_rfl) (by simp) ?_
            refine AllReadyH.cons rfl (fun K hK => ?_) AllReadyH.nil
            go_simp
            go_at_call 22
            refine (qback_any _ x0 _ (kp0.kept bT) HLX.out).mono ?_
            rintro e wB ⟨vB, rfl, kB, -, bB⟩
            have bT := bT.trans (bB.mono bT.size)
            refine hK.out _ _ (by exact bT) (fun hHeld => ?_)
            clear hK K
            try simp only [Act.put, List.getElem_toArray, List.getElem_cons_zero, List.getElem_cons_succ, List.setIfInBounds_toArray, List.set_cons_zero, List.set_cons_succ]
            refine wpAnyH_ready (rs := [15]) (by kernel_rfl) (by simp) ?_
            refine AllReadyH.cons rfl (fun K hK => ?_) AllReadyH.nil
            go_simp
            go_at_call 21
            refine (qsame_any _ _ x0 x0 true _ (kG.below bB) kB (decide_eq_true rfl).symm).mono ?_
            rintro e wS ⟨rfl, bS⟩
            have bT := bT.trans (bS.mono bT.size)
            refine hK.out _ _ (by exact bT) (fun hHeld => ?_)
            clear hK K
            try simp only [Act.put, List.getElem_toArray, List.getElem_cons_zero, List.getElem_cons_succ, List.setIfInBounds_toArray, List.set_cons_zero, List.set_cons_succ]
            refine wpAnyH_take (i := 16) (v := .bool false) rfl (by kernel_rfl) (by kernel_rfl) (by kernel_rfl) (fun _ _ _ h => h) (Or.inl ⟨by kernel_rfl, fun w hSw => by (go_simp; first | done | with_reducible rfl)⟩) hHeld ?_
            simp only [Act.put, List.getElem_toArray, List.getElem_cons_zero, List.getElem_cons_succ, List.setIfInBounds_toArray, List.set_cons_zero, List.set_cons_succ]
            refine wpAnyH_done (by kernel_rfl) ?_ _
            go_wp2
            go_meet
            exact ⟨rfl, bd.trans (bT.mono bd.size)⟩
--E13
          case rest =>
            obtain ⟨rfl, bc⟩ := hcut
            obtain ⟨wa, hwa⟩ : ∃ wa, wa = wc := ⟨_, rfl⟩
            subst hwa
            have d2 := (bc.cell (World.block_lt_of_cell? _ _ c2)).trans c2
            have dV := (bc.cell (World.block_lt_of_cell? _ _ hcV)).trans hcV
            have d0 := (bc.cell (World.block_lt_of_cell? _ _ m0)).trans m0
            have d1 := (bc.cell (World.block_lt_of_cell? _ _ m1)).trans m1
            have d3 := (bc.cell (World.block_lt_of_cell? _ _ m2)).trans m2
            have kpa := kp.kept bc
            have hij2 := hij wa
            have bYc := bY.trans (bc.mono bY.size)
            clear c0 c1 c2 hcV m0 m1 m2 kp Sr
            by_cases h0 : x0 = 0
            · have HZ0 : Hid (true = decide (x0 = 0)) := (decide_eq_true h0).symm
              have HK2 : Hid (k = (cellsR (rowOf T (i : Int)) (j + 1)).length) := by
                show _ = _
                obtain ⟨r, e1, _, e3⟩ := HC.out
                rw [cellsR_miss (fun p hp => by rw [e1, e3] at hp; injection hp with hp; rw [← hp]; exact h0)]
                exact HK.out
              clear h0
              go_wp2_with fail
              refine (qzero_any _ x0 true _ (by exact kpa) HZ0.out).mono ?_
              rintro e wz ⟨rfl, bz2⟩
              have bYz := bYc.trans (bz2.mono bYc.size)
              go_wp2
              go_roundw
              case rel => exact ⟨j + 1, k, by omega, HK2, bYz, rfl, rfl, by go_num⟩
              case measure => simp [intOf]; omega
            · have HZ0 : Hid (false = decide (x0 = 0)) := (decide_eq_false h0).symm
              have HNX : L[k]? = some (j, x0) := by
                obtain ⟨r, e1, _, e3⟩ := HC.out
                have h2 := cellsR_next e3 h0 (C - (j + 1))
                rw [← e1, show j + 1 + (C - (j + 1)) = C by omega, ← HLL.out, ← HK.out] at h2
                exact h2
              have HK2 : Hid (k + 1 = (cellsR (rowOf T (i : Int)) (j + 1)).length) := by
                show _ = _
                obtain ⟨r, e1, _, e3⟩ := HC.out
                rw [cellsR_hit (by rw [e1]; exact e3) h0, List.length_append, ← HK.out]
                rfl
              clear h0
              go_wp2_with fail
              refine (qzero_any _ x0 false _ (by exact kpa) HZ0.out).mono ?_
              rintro e wz ⟨rfl, bz2⟩
              have bYz := bYc.trans (bz2.mono bYc.size)
              obtain ⟨g4, o4, u4, t4, eAL, hkn, q0, q1, q2, q3, s4, t4s⟩ := (sL.below bYz).at_ HNX
              subst eAL
              obtain ⟨A4, c4, rfl, _⟩ := id s4
              obtain ⟨D4, e4, rfl, _⟩ := id t4s
              clear HNX
              have hkn2 : ¬ nl ≤ k := by omega
              have hk4 := fun w => index4 (P := Tryz.prog) Tryz.underlying135 (by kernel_rfl) (g := g4) (o := o4) (c := cL) hkn w
              go_upto_region 16 with (fail)
              go_cut [122] from 90 to 122 (fun s122 wx => s122 = .bool false ∧ Below wz.heap.size wz wx)
              case first =>
                have bd := (Below.refl wz.heap.size wz).drew
                have y2 : wz.drew.cell? ⟨gq, 2, none⟩ = some (.slice (some ⟨gV, 0, none⟩) us.length cV) := (bz2.cell (World.block_lt_of_cell? _ _ d2)).trans d2
                have yV : wz.drew.cell? ⟨gV, i, none⟩ = some (.slice (some ⟨a, 0, none⟩) C ca) := (bz2.cell (World.block_lt_of_cell? _ _ dV)).trans dV
                have n0 : wz.drew.cell? ⟨a, j * 3, none⟩ = some (.bool (ngB x0.num)) := (bz2.cell (World.block_lt_of_cell? _ _ d0)).trans d0
                have n1 : wz.drew.cell? ⟨a, j * 3 + 1, none⟩ = some (.slice Au (digs 10000 x0.num.natAbs).length cu) := (bz2.cell (World.block_lt_of_cell? _ _ d1)).trans d1
                have n2 : wz.drew.cell? ⟨a, j * 3 + 2, none⟩ = some (.slice At (digs 10000 x0.den).length ct) := (bz2.cell (World.block_lt_of_cell? _ _ d3)).trans d3
                have l0 : wz.drew.cell? ⟨g4, o4 + k * 4, none⟩ = some (.int .i64 (j : Int)) := q0
                have l1 : wz.drew.cell? ⟨g4, o4 + k * 4 + 1, none⟩ = some (.bool (ngB x0.num)) := q1
                have l2 : wz.drew.cell? ⟨g4, o4 + k * 4 + 2, none⟩ = some (.slice A4 (digs 4294967296 x0.num.natAbs).length c4) := q2
                have l3 : wz.drew.cell? ⟨g4, o4 + k * 4 + 3, none⟩ = some (.slice D4 (digs 4294967296 x0.den).length e4) := q3
                have kp0 := (kpa.kept bz2).kept bd
                have kq4 : IsQ wz.drew (.agg #[.bool (ngB x0.num), .slice A4 (digs 4294967296 x0.num.natAbs).length c4, .slice D4 (digs 4294967296 x0.den).length e4]) x0 := ⟨_, _, rfl, s4.below bd, t4s.below bd⟩
                clear q0 q1 q2 q3 d0 d1 d2 d3 dV kpa
                refine wp_region_held_drew (S := fun w' : World => Below wz.drew.heap.size wz.drew w') (by kernel_rfl) (Below.refl _ _) (fun hHeld => ?_)
                refine wpAnyH_take (i := 0) (v := .int .i64 (k : Int)) rfl (by kernel_rfl) (by kernel_rfl) (by kernel_rfl) (fun _ _ _ h => h) (Or.inl ⟨by kernel_rfl, fun w hSw => by (go_simp; first | done | with_reducible rfl)⟩) hHeld ?_
                simp only [Act.put, List.getElem_toArray, List.getElem_cons_zero, List.getElem_cons_succ, List.setIfInBounds_toArray, List.set_cons_zero, List.set_cons_succ]
                refine wpAnyH_take (i := 1) (v := .slice (some ⟨g4, o4, none⟩) nl cL) rfl (by kernel_rfl) (by kernel_rfl) (by kernel_rfl) (fun _ _ _ h => h) (Or.inl ⟨by kernel_rfl, fun w hSw => by (go_simp; first | done | with_reducible rfl)⟩) hHeld ?_
                simp only [Act.put, List.getElem_toArray, List.getElem_cons_zero, List.getElem_cons_succ, List.setIfInBounds_toArray, List.set_cons_zero, List.set_cons_succ]
                refine wpAnyH_take (i := 2) (v := .int .i64 (nl : Int)) rfl (by kernel_rfl) (by kernel_rfl) (by kernel_rfl) (fun _ _ _ h => h) (Or.inl ⟨by kernel_rfl, fun w hSw => by (go_simp; first | done | with_reducible rfl)⟩) hHeld ?_
                simp only [Act.put, List.getElem_toArray, List.getElem_cons_zero, List.getElem_cons_succ, List.setIfInBounds_toArray, List.set_cons_zero, List.set_cons_succ]
                refine wpAnyH_take (i := 3) (v := .bool false) rfl (by kernel_rfl) (by kernel_rfl) (by kernel_rfl) (fun _ _ _ h => h) (Or.inl ⟨by kernel_rfl, fun w hSw => by (go_simp; first | done | with_reducible rfl)⟩) hHeld ?_
                simp only [Act.put, List.getElem_toArray, List.getElem_cons_zero, List.getElem_cons_succ, List.setIfInBounds_toArray, List.set_cons_zero, List.set_cons_succ]
                refine wpAnyH_take (i := 4) (v := .bool false) rfl (by kernel_rfl) (by kernel_rfl) (by kernel_rfl) (fun _ _ _ h => h) (Or.inl ⟨by kernel_rfl, fun w hSw => by (go_simp; first | done | with_reducible rfl)⟩) hHeld ?_
                simp only [Act.put, List.getElem_toArray, List.getElem_cons_zero, List.getElem_cons_succ, List.setIfInBounds_toArray, List.set_cons_zero, List.set_cons_succ]
                refine wpAnyH_take (i := 5) (v := .slice (some ⟨g4, o4, none⟩) nl cL) rfl (by kernel_rfl) (by kernel_rfl) (by kernel_rfl) (fun _ _ _ h => h) (Or.inl ⟨by kernel_rfl, fun w hSw => by (go_simp; first | done | with_reducible rfl)⟩) hHeld ?_
                simp only [Act.put, List.getElem_toArray, List.getElem_cons_zero, List.getElem_cons_succ, List.setIfInBounds_toArray, List.set_cons_zero, List.set_cons_succ]
                refine wpAnyH_take (i := 6) (v := .int .i64 (k : Int)) rfl (by kernel_rfl) (by kernel_rfl) (by kernel_rfl) (fun _ _ _ h => h) (Or.inl ⟨by kernel_rfl, fun w hSw => by (go_simp; first | done | with_reducible rfl)⟩) hHeld ?_
                simp only [Act.put, List.getElem_toArray, List.getElem_cons_zero, List.getElem_cons_succ, List.setIfInBounds_toArray, List.set_cons_zero, List.set_cons_succ]
                refine wpAnyH_take (i := 7) (v := .pointer (some ⟨g4, o4 + k * 4, none⟩)) rfl (by kernel_rfl) (by kernel_rfl) (by kernel_rfl) (fun _ _ _ h => h) (Or.inl ⟨by kernel_rfl, fun w hSw => by (go_simp; first | done | with_reducible rfl)⟩) hHeld ?_
                simp only [Act.put, List.getElem_toArray, List.getElem_cons_zero, List.getElem_cons_succ, List.setIfInBounds_toArray, List.set_cons_zero, List.set_cons_succ]
                refine wpAnyH_take (i := 8) (v := .pointer (some ⟨g4, o4 + k * 4, none⟩)) rfl (by kernel_rfl) (by kernel_rfl) (by kernel_rfl) (fun _ _ _ h => h) (Or.inl ⟨by kernel_rfl, fun w hSw => by (go_simp; first | done | with_reducible rfl)⟩) hHeld ?_
                simp only [Act.put, List.getElem_toArray, List.getElem_cons_zero, List.getElem_cons_succ, List.setIfInBounds_toArray, List.set_cons_zero, List.set_cons_succ]
                refine wpAnyH_take (i := 9) (v := .int .i64 (j : Int)) rfl (by kernel_rfl) (by kernel_rfl) (by kernel_rfl) (fun _ _ _ h => h) (Or.inl ⟨by kernel_rfl, fun w hSw => by (have hBw : Below wz.drew.heap.size wz.drew w := hSw; have f0 := (hBw.cell (World.block_lt_of_cell? _ _ l0)).trans l0; go_simp; first | done | with_reducible rfl)⟩) hHeld ?_
                simp only [Act.put, List.getElem_toArray, List.getElem_cons_zero, List.getElem_cons_succ, List.setIfInBounds_toArray, List.set_cons_zero, List.set_cons_succ]
                refine wpAnyH_take (i := 10) (v := .int .i64 (j : Int)) rfl (by kernel_rfl) (by kernel_rfl) (by kernel_rfl) (fun _ _ _ h => h) (Or.inl ⟨by kernel_rfl, fun w hSw => by (go_simp; first | done | with_reducible rfl)⟩) hHeld ?_
                simp only [Act.put, List.getElem_toArray, List.getElem_cons_zero, List.getElem_cons_succ, List.setIfInBounds_toArray, List.set_cons_zero, List.set_cons_succ]
                refine wpAnyH_take (i := 11) (v := .bool false) rfl (by kernel_rfl) (by kernel_rfl) (by kernel_rfl) (fun _ _ _ h => h) (Or.inl ⟨by kernel_rfl, fun w hSw => by (go_simp; first | done | with_reducible rfl)⟩) hHeld ?_
                simp only [Act.put, List.getElem_toArray, List.getElem_cons_zero, List.getElem_cons_succ, List.setIfInBounds_toArray, List.set_cons_zero, List.set_cons_succ]
                refine wpAnyH_take (i := 12) (v := .bool false) rfl (by kernel_rfl) (by kernel_rfl) (by kernel_rfl) (fun _ _ _ h => h) (Or.inl ⟨by kernel_rfl, fun w hSw => by (go_simp; first | done | with_reducible rfl)⟩) hHeld ?_
                simp only [Act.put, List.getElem_toArray, List.getElem_cons_zero, List.getElem_cons_succ, List.setIfInBounds_toArray, List.set_cons_zero, List.set_cons_succ]
                refine wpAnyH_take (i := 13) (v := .bool false) rfl (by kernel_rfl) (by kernel_rfl) (by kernel_rfl) (fun _ _ _ h => h) (Or.inl ⟨by kernel_rfl, fun w hSw => by (go_simp; first | done | with_reducible rfl)⟩) hHeld ?_
                simp only [Act.put, List.getElem_toArray, List.getElem_cons_zero, List.getElem_cons_succ, List.setIfInBounds_toArray, List.set_cons_zero, List.set_cons_succ]
                refine wpAnyH_take (i := 14) (v := .slice (some ⟨g4, o4, none⟩) nl cL) rfl (by kernel_rfl) (by kernel_rfl) (by kernel_rfl) (fun _ _ _ h => h) (Or.inl ⟨by kernel_rfl, fun w hSw => by (go_simp; first | done | with_reducible rfl)⟩) hHeld ?_
                simp only [Act.put, List.getElem_toArray, List.getElem_cons_zero, List.getElem_cons_succ, List.setIfInBounds_toArray, List.set_cons_zero, List.set_cons_succ]
                refine wpAnyH_take (i := 15) (v := .int .i64 (k : Int)) rfl (by kernel_rfl) (by kernel_rfl) (by kernel_rfl) (fun _ _ _ h => h) (Or.inl ⟨by kernel_rfl, fun w hSw => by (go_simp; first | done | with_reducible rfl)⟩) hHeld ?_
                simp only [Act.put, List.getElem_toArray, List.getElem_cons_zero, List.getElem_cons_succ, List.setIfInBounds_toArray, List.set_cons_zero, List.set_cons_succ]
                refine wpAnyH_take (i := 16) (v := .pointer (some ⟨g4, o4 + k * 4, none⟩)) rfl (by kernel_rfl) (by kernel_rfl) (by kernel_rfl) (fun _ _ _ h => h) (Or.inl ⟨by kernel_rfl, fun w hSw => by (go_simp; first | done | with_reducible rfl)⟩) hHeld ?_
                simp only [Act.put, List.getElem_toArray, List.getElem_cons_zero, List.getElem_cons_succ, List.setIfInBounds_toArray, List.set_cons_zero, List.set_cons_succ]
                refine wpAnyH_take (i := 17) (v := .pointer (some ⟨g4, o4 + k * 4 + 1, none⟩)) rfl (by kernel_rfl) (by kernel_rfl) (by kernel_rfl) (fun _ _ _ h => h) (Or.inl ⟨by kernel_rfl, fun w hSw => by (go_simp; first | done | with_reducible rfl)⟩) hHeld ?_
                simp only [Act.put, List.getElem_toArray, List.getElem_cons_zero, List.getElem_cons_succ, List.setIfInBounds_toArray, List.set_cons_zero, List.set_cons_succ]
                refine wpAnyH_take (i := 18) (v := .agg #[.bool (ngB x0.num), .slice A4 (digs 4294967296 x0.num.natAbs).length c4, .slice D4 (digs 4294967296 x0.den).length e4]) rfl (by kernel_rfl) (by kernel_rfl) (by kernel_rfl) (fun _ _ _ h => h) (Or.inl ⟨by kernel_rfl, fun w hSw => by (have hBw : Below wz.drew.heap.size wz.drew w := hSw; have f0 := (hBw.cell (World.block_lt_of_cell? _ _ l1)).trans l1; have f1 := (hBw.cell (World.block_lt_of_cell? _ _ l2)).trans l2; have f2 := (hBw.cell (World.block_lt_of_cell? _ _ l3)).trans l3; go_simp; first | done | with_reducible rfl)⟩) hHeld ?_
                simp only [Act.put, List.getElem_toArray, List.getElem_cons_zero, List.getElem_cons_succ, List.setIfInBounds_toArray, List.set_cons_zero, List.set_cons_succ]
                refine wpAnyH_take (i := 19) (v := .pointer (some ⟨gq, 0, none⟩)) rfl (by kernel_rfl) (by kernel_rfl) (by kernel_rfl) (fun _ _ _ h => h) (Or.inl ⟨by kernel_rfl, fun w hSw => by (go_simp; first | done | with_reducible rfl)⟩) hHeld ?_
                simp only [Act.put, List.getElem_toArray, List.getElem_cons_zero, List.getElem_cons_succ, List.setIfInBounds_toArray, List.set_cons_zero, List.set_cons_succ]
                refine wpAnyH_take (i := 20) (v := .pointer (some ⟨gq, 0, none⟩)) rfl (by kernel_rfl) (by kernel_rfl) (by kernel_rfl) (fun _ _ _ h => h) (Or.inl ⟨by kernel_rfl, fun w hSw => by (go_simp; first | done | with_reducible rfl)⟩) hHeld ?_
                simp only [Act.put, List.getElem_toArray, List.getElem_cons_zero, List.getElem_cons_succ, List.setIfInBounds_toArray, List.set_cons_zero, List.set_cons_succ]
                refine wpAnyH_take (i := 21) (v := .pointer (some ⟨gq, 2, none⟩)) rfl (by kernel_rfl) (by kernel_rfl) (by kernel_rfl) (fun _ _ _ h => h) (Or.inl ⟨by kernel_rfl, fun w hSw => by (go_simp; first | done | with_reducible rfl)⟩) hHeld ?_
                simp only [Act.put, List.getElem_toArray, List.getElem_cons_zero, List.getElem_cons_succ, List.setIfInBounds_toArray, List.set_cons_zero, List.set_cons_succ]
                refine wpAnyH_take (i := 22) (v := .slice (some ⟨gV, 0, none⟩) us.length cV) rfl (by kernel_rfl) (by kernel_rfl) (by kernel_rfl) (fun _ _ _ h => h) (Or.inl ⟨by kernel_rfl, fun w hSw => by (have hBw : Below wz.drew.heap.size wz.drew w := hSw; have f0 := (hBw.cell (World.block_lt_of_cell? _ _ y2)).trans y2; go_simp; first | done | with_reducible rfl)⟩) hHeld ?_
                simp only [Act.put, List.getElem_toArray, List.getElem_cons_zero, List.getElem_cons_succ, List.setIfInBounds_toArray, List.set_cons_zero, List.set_cons_succ]
                refine wpAnyH_take (i := 23) (v := .int .i64 (i : Int)) rfl (by kernel_rfl) (by kernel_rfl) (by kernel_rfl) (fun _ _ _ h => h) (Or.inl ⟨by kernel_rfl, fun w hSw => by (go_simp; first | done | with_reducible rfl)⟩) hHeld ?_
                simp only [Act.put, List.getElem_toArray, List.getElem_cons_zero, List.getElem_cons_succ, List.setIfInBounds_toArray, List.set_cons_zero, List.set_cons_succ]
                refine wpAnyH_take (i := 24) (v := .pointer (some ⟨gV, i, none⟩)) rfl (by kernel_rfl) (by kernel_rfl) (by kernel_rfl) (fun _ _ _ h => h) (Or.inl ⟨by kernel_rfl, fun w hSw => by (go_simp; first | done | with_reducible rfl)⟩) hHeld ?_
                simp only [Act.put, List.getElem_toArray, List.getElem_cons_zero, List.getElem_cons_succ, List.setIfInBounds_toArray, List.set_cons_zero, List.set_cons_succ]
                refine wpAnyH_take (i := 25) (v := .slice (some ⟨a, 0, none⟩) C ca) rfl (by kernel_rfl) (by kernel_rfl) (by kernel_rfl) (fun _ _ _ h => h) (Or.inl ⟨by kernel_rfl, fun w hSw => by (have hBw : Below wz.drew.heap.size wz.drew w := hSw; have f0 := (hBw.cell (World.block_lt_of_cell? _ _ yV)).trans yV; go_simp; first | done | with_reducible rfl)⟩) hHeld ?_
                simp only [Act.put, List.getElem_toArray, List.getElem_cons_zero, List.getElem_cons_succ, List.setIfInBounds_toArray, List.set_cons_zero, List.set_cons_succ]
                refine wpAnyH_take (i := 26) (v := .int .i64 (j : Int)) rfl (by kernel_rfl) (by kernel_rfl) (by kernel_rfl) (fun _ _ _ h => h) (Or.inl ⟨by kernel_rfl, fun w hSw => by (go_simp; first | done | with_reducible rfl)⟩) hHeld ?_
                simp only [Act.put, List.getElem_toArray, List.getElem_cons_zero, List.getElem_cons_succ, List.setIfInBounds_toArray, List.set_cons_zero, List.set_cons_succ]
                refine wpAnyH_take (i := 27) (v := .pointer (some ⟨a, j * 3, none⟩)) rfl (by kernel_rfl) (by kernel_rfl) (by kernel_rfl) (fun _ _ _ h => h) (Or.inl ⟨by kernel_rfl, fun w hSw => by (go_simp; first | done | with_reducible rfl)⟩) hHeld ?_
                simp only [Act.put, List.getElem_toArray, List.getElem_cons_zero, List.getElem_cons_succ, List.setIfInBounds_toArray, List.set_cons_zero, List.set_cons_succ]
                refine wpAnyH_take (i := 28) (v := .agg #[.bool (ngB x0.num), .slice Au (digs 10000 x0.num.natAbs).length cu, .slice At (digs 10000 x0.den).length ct]) rfl (by kernel_rfl) (by kernel_rfl) (by kernel_rfl) (fun _ _ _ h => h) (Or.inl ⟨by kernel_rfl, fun w hSw => by (have hBw : Below wz.drew.heap.size wz.drew w := hSw; have f0 := (hBw.cell (World.block_lt_of_cell? _ _ n0)).trans n0; have f1 := (hBw.cell (World.block_lt_of_cell? _ _ n1)).trans n1; have f2 := (hBw.cell (World.block_lt_of_cell? _ _ n2)).trans n2; go_simp; first | done | with_reducible rfl)⟩) hHeld ?_
                simp only [Act.put, List.getElem_toArray, List.getElem_cons_zero, List.getElem_cons_succ, List.setIfInBounds_toArray, List.set_cons_zero, List.set_cons_succ]
                refine wpAnyH_ready (rs := [29]) (by kernel_rfl) (by simp) ?_
                refine AllReadyH.cons rfl (fun K hK => ?_) AllReadyH.nil
                go_simp
                go_at_call 22
                refine (qback_any _ x0 _ kp0 HLX.out).mono ?_
                rintro e wB ⟨vB, rfl, kB, -, bB⟩
                have bT := bB
                refine hK.out _ _ (by exact bT) (fun hHeld => ?_)
                clear hK K
                try simp only [Act.put, List.getElem_toArray, List.getElem_cons_zero, List.getElem_cons_succ, List.setIfInBounds_toArray, List.set_cons_zero, List.set_cons_succ]
                refine wpAnyH_ready (rs := [30]) (by kernel_rfl) (by simp) ?_
                refine AllReadyH.cons rfl (fun K hK => ?_) AllReadyH.nil
                go_simp
                go_at_call 21
                refine (qsame_any _ _ x0 x0 true _ (kq4.below bB) kB (decide_eq_true rfl).symm).mono ?_
                rintro e wS ⟨rfl, bS⟩
                have bT := bT.trans (bS.mono bT.size)
                refine hK.out _ _ (by exact bT) (fun hHeld => ?_)
                clear hK K
                try simp only [Act.put, List.getElem_toArray, List.getElem_cons_zero, List.getElem_cons_succ, List.setIfInBounds_toArray, List.set_cons_zero, List.set_cons_succ]
                refine wpAnyH_take (i := 31) (v := .bool false) rfl (by kernel_rfl) (by kernel_rfl) (by kernel_rfl) (fun _ _ _ h => h) (Or.inl ⟨by kernel_rfl, fun w hSw => by (go_simp; first | done | with_reducible rfl)⟩) hHeld ?_
                simp only [Act.put, List.getElem_toArray, List.getElem_cons_zero, List.getElem_cons_succ, List.setIfInBounds_toArray, List.set_cons_zero, List.set_cons_succ]
                refine wpAnyH_take (i := 32) (v := .bool false) rfl (by kernel_rfl) (by kernel_rfl) (by kernel_rfl) (fun _ _ _ h => h) (Or.inl ⟨by kernel_rfl, fun w hSw => by (go_simp; first | done | with_reducible rfl)⟩) hHeld ?_
                simp only [Act.put, List.getElem_toArray, List.getElem_cons_zero, List.getElem_cons_succ, List.setIfInBounds_toArray, List.set_cons_zero, List.set_cons_succ]
                refine wpAnyH_done (by kernel_rfl) ?_ _
                go_wp2
                go_meet
                exact ⟨rfl, bd.trans (bT.mono bd.size)⟩
              case rest =>
                obtain ⟨rfl, be⟩ := hcut
                have bYe := bYz.trans (be.mono bYz.size)
                have hkj : k ≤ j := by rw [HK.out]; exact cellsR_len _ _
                have hct := HCT.out
                clear q0 q1 q2 q3 d0 d1 d2 d3 dV kpa
                go_wp2
                go_roundw
                case rel => exact ⟨j + 1, k + 1, by omega, HK2, bYe, by go_num, by go_num, by go_num⟩
                case measure => simp [intOf]; omega
        · have HKN : Hid (k = nl ∧ cntT (T.take (n - 1)) + k = cntT (T.take n)) := by
            show _ ∧ _
            have hLL := HLL.out
            have hNL := HNL.out
            have hKK := HK.out
            have hXX := HX.out
            by_cases hx0 : 0 ≤ x ∧ x < (R : Int)
            · obtain rfl : j = C := by omega
              obtain ⟨i, rfl⟩ : ∃ i : Nat, x = i := ⟨x.toNat, by omega⟩
              obtain ⟨r, h1, h2⟩ := row_ex HT.out (show i < R by omega)
              refine ⟨by rw [hKK, hNL, hLL], ?_⟩
              obtain rfl : n = i + 1 := by omega
              rw [Nat.add_sub_cancel, cntT_take h1, hKK, rowOf_nat h1, ← h2, cellsR_cnt r r.length (Nat.le_refl _), List.take_of_length_le (Nat.le_refl _)]
            · have e0 : rowOf T x = [] := by
                unfold rowOf
                by_cases hp : 0 ≤ x
                · rw [if_pos hp, List.getElem?_eq_none (by rw [HT.out.1]; omega)]; rfl
                · rw [if_neg hp]
              rw [e0, cellsR_none] at hLL hKK
              rw [hLL] at hNL
              refine ⟨by rw [hNL, hKK], ?_⟩
              rw [hKK]
              by_cases hp : 0 ≤ x
              · rw [List.take_of_length_le (by rw [HT.out.1]; omega), List.take_of_length_le (by rw [HT.out.1]; omega)]; rfl
              · obtain rfl : n = 0 := by omega
                rfl
          have HCN := Lib.hid HKN.out.2
          obtain rfl : k = nl := HKN.out.1
          have CG1 : ∀ w, Spt w g b R C T → Calls Tryz.prog 94 #[.pointer (some ⟨g, 0, none⟩), .int .i64 x, .int .i64 (-1)] w (RetQ Z w) := fun w h => by
            have h1 := sget_any g b R C T x (-1) w h ⟨by omega, by omega⟩ ⟨by omega, by omega⟩ HL.out.2
            rwa [show valAt T x (-1) = Z from by rw [HZ.out]; exact valAt_zero fun i j q e1 e2 hq => by omega] at h1
          have CG2 : ∀ w, Spt w g b R C T → Calls Tryz.prog 94 #[.pointer (some ⟨g, 0, none⟩), .int .i64 x, .int .i64 (C : Int)] w (RetQ Z w) := fun w h => by
            have h1 := sget_any g b R C T x (C : Int) w h ⟨by omega, by omega⟩ ⟨by omega, by omega⟩ HL.out.2
            rwa [show valAt T x (C : Int) = Z from by rw [HZ.out]; exact valAt_zero fun i j q e1 e2 hq => by (have := (cellq_lt HT.out hq).2; omega)] at h1
          clear HKN
          by_cases hjl : j < C
          · by_cases hx0 : 0 ≤ x
            · have hx1 : ¬ x < (R : Int) := fun h => hgo ⟨hjl, hx0, h⟩
              clear hgo
              go_wp2_with fail
              refine (CG1 _ (S.below bz)).mono ?_
              rintro e wa ⟨va, rfl, ka, -, ba⟩
              have bza := bz.trans (ba.mono bz.size)
              go_wp2_with fail
              refine (CO _).mono ?_
              rintro e wb ⟨vb, rfl, kb, -, bb⟩
              have bzb := bza.trans (bb.mono bza.size)
              go_wp2_with fail
              refine (same8_any _ _ Z Z true _ (ka.below bb) kb (decide_eq_true rfl).symm).mono ?_
              rintro e wc ⟨rfl, bc⟩
              have bzc := bzb.trans (bc.mono bzb.size)
              obtain ⟨c0, c1, c2⟩ := (Q.below bzc).cells
              clear ka kb ba bb bc bza bzb
              go_wp2_with fail
              refine (CG2 _ (S.below bzc)).mono ?_
              rintro e wa ⟨va, rfl, ka, -, ba⟩
              have bza := bzc.trans (ba.mono bzc.size)
              go_wp2_with fail
              refine (CO _).mono ?_
              rintro e wb ⟨vb, rfl, kb, -, bb⟩
              have bzb := bza.trans (bb.mono bza.size)
              go_wp2_with fail
              refine (same8_any _ _ Z Z true _ (ka.below bb) kb (decide_eq_true rfl).symm).mono ?_
              rintro e wc ⟨rfl, bc⟩
              have bzd := bzb.trans (bc.mono bzb.size)
              clear ka kb ba bb bc bza bzb c0 c1 c2
              go_wp2
              go_roundw
              case rel => exact ⟨n + 1, x + 1, by (have := HX.out; omega), by (have := HX.out; omega), bzd, by (rw [Nat.add_sub_cancel, ← HCN.out, Int.natCast_add]), by go_num⟩
              case measure => simp [intOf]; omega
            · clear hgo
              go_wp2_with fail
              refine (CG1 _ (S.below bz)).mono ?_
              rintro e wa ⟨va, rfl, ka, -, ba⟩
              have bza := bz.trans (ba.mono bz.size)
              go_wp2_with fail
              refine (CO _).mono ?_
              rintro e wb ⟨vb, rfl, kb, -, bb⟩
              have bzb := bza.trans (bb.mono bza.size)
              go_wp2_with fail
              refine (same8_any _ _ Z Z true _ (ka.below bb) kb (decide_eq_true rfl).symm).mono ?_
              rintro e wc ⟨rfl, bc⟩
              have bzc := bzb.trans (bc.mono bzb.size)
              obtain ⟨c0, c1, c2⟩ := (Q.below bzc).cells
              clear ka kb ba bb bc bza bzb
              go_wp2_with fail
              refine (CG2 _ (S.below bzc)).mono ?_
              rintro e wa ⟨va, rfl, ka, -, ba⟩
              have bza := bzc.trans (ba.mono bzc.size)
              go_wp2_with fail
              refine (CO _).mono ?_
              rintro e wb ⟨vb, rfl, kb, -, bb⟩
              have bzb := bza.trans (bb.mono bza.size)
              go_wp2_with fail
              refine (same8_any _ _ Z Z true _ (ka.below bb) kb (decide_eq_true rfl).symm).mono ?_
              rintro e wc ⟨rfl, bc⟩
              have bzd := bzb.trans (bc.mono bzb.size)
              clear ka kb ba bb bc bza bzb c0 c1 c2
              go_wp2
              go_roundw
              case rel => exact ⟨n + 1, x + 1, by (have := HX.out; omega), by (have := HX.out; omega), bzd, by (rw [Nat.add_sub_cancel, ← HCN.out, Int.natCast_add]), by go_num⟩
              case measure => simp [intOf]; omega
          · clear hgo
            go_wp2_with fail
            refine (CG1 _ (S.below bz)).mono ?_
            rintro e wa ⟨va, rfl, ka, -, ba⟩
            have bza := bz.trans (ba.mono bz.size)
            go_wp2_with fail
            refine (CO _).mono ?_
            rintro e wb ⟨vb, rfl, kb, -, bb⟩
            have bzb := bza.trans (bb.mono bza.size)
            go_wp2_with fail
            refine (same8_any _ _ Z Z true _ (ka.below bb) kb (decide_eq_true rfl).symm).mono ?_
            rintro e wc ⟨rfl, bc⟩
            have bzc := bzb.trans (bc.mono bzb.size)
            obtain ⟨c0, c1, c2⟩ := (Q.below bzc).cells
            clear ka kb ba bb bc bza bzb
            go_wp2_with fail
            refine (CG2 _ (S.below bzc)).mono ?_
            rintro e wa ⟨va, rfl, ka, -, ba⟩
            have bza := bzc.trans (ba.mono bzc.size)
            go_wp2_with fail
            refine (CO _).mono ?_
            rintro e wb ⟨vb, rfl, kb, -, bb⟩
            have bzb := bza.trans (bb.mono bza.size)
            go_wp2_with fail
            refine (same8_any _ _ Z Z true _ (ka.below bb) kb (decide_eq_true rfl).symm).mono ?_
            rintro e wc ⟨rfl, bc⟩
            have bzd := bzb.trans (bc.mono bzb.size)
            clear ka kb ba bb bc bza bzb c0 c1 c2
            go_wp2
            go_roundw
            case rel => exact ⟨n + 1, x + 1, by (have := HX.out; omega), by (have := HX.out; omega), bzd, by (rw [Nat.add_sub_cancel, ← HCN.out, Int.natCast_add]), by go_num⟩
            case measure => simp [intOf]; omega
    · have hcT : cntT (T.take (n - 1)) = cntT T := by
        rw [List.take_of_length_le (by rw [HT.out.1]; have := HX.out; omega)]
      rw [hcT]
      clear hcT
      have bd := (Below.refl wo.heap.size wo).drew
      have bwd := bw.trans (bd.mono bw.size)
      have S0 := S.below bwd
      have y2 : wo.drew.cell? ⟨gq, 2, none⟩ = some (.slice AV us.length cV) := c2
      have kQ : SlT .i64 10000 wo.drew (.slice AV us.length cV) T := by
        have h := (Q.below bwd).tab.slT
        rwa [Q.val] at h
      have HLT : Hid (lenT T 30000) := fun r hr y hy => by
        obtain ⟨i, hi⟩ := List.mem_iff_getElem?.1 hr
        obtain ⟨j, hj⟩ := List.mem_iff_getElem?.1 hy
        exact HL.out.1 i j y (cellq_of hi hj)
      go_upto_region 22 with (fail)
      refine wp_region_held_drew (S := fun w' : World => Below wo.drew.heap.size wo.drew w') (by kernel_rfl) (Below.refl _ _) (fun hHeld => ?_)
      refine wpAnyH_take (i := 0) (v := .pointer (some ⟨g, 0, none⟩)) rfl (by kernel_rfl) (by kernel_rfl) (by kernel_rfl) (fun _ _ _ h => h) (Or.inl ⟨by kernel_rfl, fun w hSw => by (go_simp; first | done | with_reducible rfl)⟩) hHeld ?_
      simp only [Act.put, List.getElem_toArray, List.getElem_cons_zero, List.getElem_cons_succ, List.setIfInBounds_toArray, List.set_cons_zero, List.set_cons_succ]
      refine wpAnyH_take (i := 2) (v := .int .i64 (cntT T : Int)) rfl (by kernel_rfl) (by kernel_rfl) (by kernel_rfl) (fun _ _ _ h => h) (Or.inl ⟨by kernel_rfl, fun w hSw => by (go_simp; first | done | with_reducible rfl)⟩) hHeld ?_
      simp only [Act.put, List.getElem_toArray, List.getElem_cons_zero, List.getElem_cons_succ, List.setIfInBounds_toArray, List.set_cons_zero, List.set_cons_succ]
      refine wpAnyH_ready (rs := [1]) (by kernel_rfl) (by simp) ?_
      refine AllReadyH.cons rfl (fun K hK => ?_) AllReadyH.nil
      go_simp
      go_at_call 97
      refine (scount_any g b R C T _ S0).mono ?_
      rintro e wC ⟨rfl, bC⟩
      have bT := bC
      refine hK.out _ _ (by exact bT) (fun hHeld => ?_)
      clear hK K
      try simp only [Act.put, List.getElem_toArray, List.getElem_cons_zero, List.getElem_cons_succ, List.setIfInBounds_toArray, List.set_cons_zero, List.set_cons_succ]
      refine wpAnyH_take (i := 3) (v := .bool true) rfl (by kernel_rfl) (by kernel_rfl) (by kernel_rfl) (fun _ _ _ h => h) (Or.inl ⟨by kernel_rfl, fun w hSw => by (go_simp; first | done | with_reducible rfl)⟩) hHeld ?_
      simp only [Act.put, List.getElem_toArray, List.getElem_cons_zero, List.getElem_cons_succ, List.setIfInBounds_toArray, List.set_cons_zero, List.set_cons_succ]
      refine wpAnyH_take (i := 4) (v := .bool true) rfl (by kernel_rfl) (by kernel_rfl) (by kernel_rfl) (fun _ _ _ h => h) (Or.inl ⟨by kernel_rfl, fun w hSw => by (go_simp; first | done | with_reducible rfl)⟩) hHeld ?_
      simp only [Act.put, List.getElem_toArray, List.getElem_cons_zero, List.getElem_cons_succ, List.setIfInBounds_toArray, List.set_cons_zero, List.set_cons_succ]
      refine wpAnyH_take (i := 5) (v := .pointer (some ⟨g, 0, none⟩)) rfl (by kernel_rfl) (by kernel_rfl) (by kernel_rfl) (fun _ _ _ h => h) (Or.inl ⟨by kernel_rfl, fun w hSw => by (go_simp; first | done | with_reducible rfl)⟩) hHeld ?_
      simp only [Act.put, List.getElem_toArray, List.getElem_cons_zero, List.getElem_cons_succ, List.setIfInBounds_toArray, List.set_cons_zero, List.set_cons_succ]
      refine wpAnyH_take (i := 7) (v := .pointer (some ⟨gq, 0, none⟩)) rfl (by kernel_rfl) (by kernel_rfl) (by kernel_rfl) (fun _ _ _ h => h) (Or.inl ⟨by kernel_rfl, fun w hSw => by (go_simp; first | done | with_reducible rfl)⟩) hHeld ?_
      simp only [Act.put, List.getElem_toArray, List.getElem_cons_zero, List.getElem_cons_succ, List.setIfInBounds_toArray, List.set_cons_zero, List.set_cons_succ]
      refine wpAnyH_take (i := 8) (v := .pointer (some ⟨gq, 0, none⟩)) rfl (by kernel_rfl) (by kernel_rfl) (by kernel_rfl) (fun _ _ _ h => h) (Or.inl ⟨by kernel_rfl, fun w hSw => by (go_simp; first | done | with_reducible rfl)⟩) hHeld ?_
      simp only [Act.put, List.getElem_toArray, List.getElem_cons_zero, List.getElem_cons_succ, List.setIfInBounds_toArray, List.set_cons_zero, List.set_cons_succ]
      refine wpAnyH_take (i := 9) (v := .pointer (some ⟨gq, 2, none⟩)) rfl (by kernel_rfl) (by kernel_rfl) (by kernel_rfl) (fun _ _ _ h => h) (Or.inl ⟨by kernel_rfl, fun w hSw => by (go_simp; first | done | with_reducible rfl)⟩) hHeld ?_
      simp only [Act.put, List.getElem_toArray, List.getElem_cons_zero, List.getElem_cons_succ, List.setIfInBounds_toArray, List.set_cons_zero, List.set_cons_succ]
      refine wpAnyH_take (i := 10) (v := .slice AV us.length cV) rfl (by kernel_rfl) (by kernel_rfl) (by kernel_rfl) (fun _ _ _ h => h) (Or.inl ⟨by kernel_rfl, fun w hSw => by (have hBw : Below wo.drew.heap.size wo.drew w := hSw; have f0 := (hBw.cell (World.block_lt_of_cell? _ _ y2)).trans y2; go_simp; first | done | with_reducible rfl)⟩) hHeld ?_
      simp only [Act.put, List.getElem_toArray, List.getElem_cons_zero, List.getElem_cons_succ, List.setIfInBounds_toArray, List.set_cons_zero, List.set_cons_succ]
      refine wpAnyH_ready (rs := [6]) (by kernel_rfl) (by simp) ?_
      refine AllReadyH.cons rfl (fun K hK => ?_) AllReadyH.nil
      go_simp
      go_at_call 98
      refine (sfull_any g b R C T _ (S0.below bT) HL.out.2).mono ?_
      rintro e wF ⟨VF, rfl, kF, bF⟩
      have bT := bT.trans (bF.mono bT.size)
      refine hK.out _ _ (by exact bT) (fun hHeld => ?_)
      clear hK K
      try simp only [Act.put, List.getElem_toArray, List.getElem_cons_zero, List.getElem_cons_succ, List.setIfInBounds_toArray, List.set_cons_zero, List.set_cons_succ]
      refine wpAnyH_ready (rs := [11]) (by kernel_rfl) (by simp) ?_
      refine AllReadyH.cons rfl (fun K hK => ?_) AllReadyH.nil
      go_simp
      go_at_call 15
      refine (ist_any _ _ T T 1 _ kF (kQ.below bT) HLT.out (if_pos rfl).symm).mono ?_
      rintro e wI ⟨rfl, bI⟩
      have bT := bT.trans (bI.mono bT.size)
      refine hK.out _ _ (by exact bT) (fun hHeld => ?_)
      clear hK K
      try simp only [Act.put, List.getElem_toArray, List.getElem_cons_zero, List.getElem_cons_succ, List.setIfInBounds_toArray, List.set_cons_zero, List.set_cons_succ]
      refine wpAnyH_take (i := 12) (v := .bool true) rfl (by kernel_rfl) (by kernel_rfl) (by kernel_rfl) (fun _ _ _ h => h) (Or.inl ⟨by kernel_rfl, fun w hSw => by (go_simp; first | done | with_reducible rfl)⟩) hHeld ?_
      simp only [Act.put, List.getElem_toArray, List.getElem_cons_zero, List.getElem_cons_succ, List.setIfInBounds_toArray, List.set_cons_zero, List.set_cons_succ]
      refine wpAnyH_take (i := 13) (v := .bool true) rfl (by kernel_rfl) (by kernel_rfl) (by kernel_rfl) (fun _ _ _ h => h) (Or.inl ⟨by kernel_rfl, fun w hSw => by (go_simp; first | done | with_reducible rfl)⟩) hHeld ?_
      simp only [Act.put, List.getElem_toArray, List.getElem_cons_zero, List.getElem_cons_succ, List.setIfInBounds_toArray, List.set_cons_zero, List.set_cons_succ]
      refine wpAnyH_ready (rs := [14]) (by kernel_rfl) (by simp) ?_
      refine AllReadyH.cons rfl (fun K hK => ?_) AllReadyH.nil
      go_simp
      refine hK.out _ _ (by exact bT) (fun hHeld => ?_)
      clear hK K
      try simp only [Act.put, List.getElem_toArray, List.getElem_cons_zero, List.getElem_cons_succ, List.setIfInBounds_toArray, List.set_cons_zero, List.set_cons_succ]
      refine wpAnyH_done (by kernel_rfl) ?_ _
      go_wp2
      go_ret
      exact ⟨rfl, bw.trans (bd.trans (bT.mono bd.size) |>.mono bw.size)⟩
end Go.Proofs.YtfnohdgnhdfpaaaGreat.rat
namespace Go.Proofs.YtfnohdgnhdfpaaaGreat.rat
open Go.RowKit Go.ChangeShapes Go.WideShapes Go.ChangeAt Go.Joins Go.Deep Go.Proofs.YtfnohdgnhdfpaaaGreat.num Go.Proofs.YtfnohdgnhdfpaaaGreat.mem Go.Proofs.YtfnohdgnhdfpaaaGreat.nat Go.Proofs.YtfnohdgnhdfpaaaGreat.txt Go.Proofs.YtfnohdgnhdfpaaaGreat.str Go.Proofs.YtfnohdgnhdfpaaaGreat.flow Go.Proofs.YtfnohdgnhdfpaaaGreat.whl
set_option linter.unusedVariables false
/-- A slice of structs of three numbers, and a fraction, as it came in. -/
def ArgAct (w : World) (v : Value) : Prop := ∃ A n c, v = .slice A n c ∧ n ≤ c ∧ c ≤ maxLen ∧ ∀ i, i < n → ∃ ad d x y b u t l m, A = some ad ∧ w.cell? (ad.add (i * 6)) = some (.int .i64 d) ∧ w.cell? (ad.add (i * 6 + 1)) = some (.int .i64 x) ∧ w.cell? (ad.add (i * 6 + 2)) = some (.int .i64 y) ∧ w.cell? (ad.add (i * 6 + 3)) = some (.bool b) ∧ w.cell? (ad.add (i * 6 + 4)) = some u ∧ w.cell? (ad.add (i * 6 + 5)) = some t ∧ ((Lit.int .i64 d).wf = true ∧ (Lit.int .i64 x).wf = true ∧ (Lit.int .i64 y).wf = true) ∧ IsS w .u64 u l ∧ Lt 18446744073709551616 l ∧ IsS w .u64 t m ∧ Lt 18446744073709551616 m
theorem ArgAct.below {w w' : World} {v : Value} (h : ArgAct w v) (hb : Below w.heap.size w w') : ArgAct w' v := by
  obtain ⟨A, n, c, e, h1, h2, h3⟩ := h
  refine ⟨A, n, c, e, h1, h2, fun i hi => ?_⟩
  obtain ⟨ad, d, x, y, b, u, t, l, m, a1, e0, e1, e2, e3, e4, e5, hw, s0, s1, s2, s3⟩ := h3 i hi
  have K : ∀ {p : Addr} {z : Value}, w.cell? p = some z → w'.cell? p = some z := fun {p z} h => (hb.cell (World.block_lt_of_cell? w _ h)).trans h
  exact ⟨ad, d, x, y, b, u, t, l, m, a1, K e0, K e1, K e2, K e3, K e4, K e5, hw, s0.below hb, s1, s2.below hb, s3⟩
theorem arg_act {H : Type} {enc : TypeId × Value → H} {P : Program} {W : World} {base : Nat} {ts t e : TypeId} {h0 h1 h2 h3 f0 f1 g0 g1 : Field} {v : Value} {d : DataW H} {p : List MemPlace} (ht : P.underlying ts = some (.slice t)) (hst : P.underlying t = some (.struct #[h0, h1, h2, h3])) (hC : P.cellsOf t = 6)
    (hoo : (h0.offset == 0 && h1.offset == 1 && h2.offset == 2 && h3.offset == 3 && P.cellsOf h0.type == 1 && P.cellsOf h1.type == 1 && P.cellsOf h2.type == 1 && P.cellsOf h3.type == 3) = true)
    (hi0 : P.underlying h0.type = some (.int .i64)) (hi1 : P.underlying h1.type = some (.int .i64)) (hi2 : P.underlying h2.type = some (.int .i64))
    (hs : P.underlying h3.type = some (.struct #[f0, f1])) (ho : (f0.offset == 0 && f1.offset == 2 && P.cellsOf f0.type == 2 && P.cellsOf f1.type == 1) = true)
    (hs2 : P.underlying f0.type = some (.struct #[g0, g1])) (hone : oneCellFields P #[g0, g1] = true) (hb : P.underlying g0.type = some .bool) (hsl : P.underlying g1.type = some (.slice e)) (hsl2 : P.underlying f1.type = some (.slice e)) (he : P.underlying e = some (.int .u64)) (ce : P.cellsOf e = 1)
    (hv : Value.okWide P W .any base ts v) (h : DataW.Trod enc P W 0 (fun _ => true) true ts v d p) : ArgAct W v := by
  obtain ⟨a0, len, cap, rfl⟩ := okWide_slice ht hv
  obtain ⟨fuel, hf⟩ := h
  simp only [Bool.and_eq_true, beq_iff_eq] at hoo
  obtain ⟨⟨⟨⟨⟨⟨⟨o0, o1⟩, o2⟩, o3⟩, k0⟩, k1⟩, k2⟩, k3⟩ := hoo
  rcases Go.Deep.open_slice ht hf with ⟨hcs, hx⟩ | ⟨a, len', cap', m, n, D, Pl, hcs, _, hl, hm, hmm, hx, hrows⟩
  · simp [Value.cells] at hcs
    obtain ⟨rfl, rfl, rfl⟩ := hcs
    exact ⟨none, 0, 0, rfl, by omega, by simp, fun i hi => by omega⟩
  · simp [Value.cells] at hcs
    obtain ⟨rfl, rfl, rfl⟩ := hcs
    refine ⟨some a, len, cap, rfl, hl, hm, fun i hi => ?_⟩
    obtain ⟨cs', h1', h2'⟩ := hrows i (by simp at hmm; omega)
    rw [hC] at h1'
    obtain ⟨_, hlen, hcell⟩ := World.cells?_some h1'
    match cs', hlen with
    | [c0, c1, c2, c3, c4, c5], _ =>
      obtain ⟨xs, n3, _, hx3, _, hlen3, hg3⟩ := DataW.trod_struct hst h2'
      have j0 := hg3 0 h0 rfl
      have j1 := hg3 1 h1 rfl
      have j2 := hg3 2 h2 rfl
      have j3 := hg3 3 h3 rfl
      simp [o0, o1, o2, o3, k0, k1, k2, k3] at j0 j1 j2 j3
      match xs, hlen3 with
      | [y0, y1, y2, y3], _ =>
        have q0 : DataW.trod enc P W 0 (fun _ => true) true n3 h0.type [c0] = some y0 := by simpa using j0
        have q1 : DataW.trod enc P W 0 (fun _ => true) true n3 h1.type [c1] = some y1 := by simpa using j1
        have q2 : DataW.trod enc P W 0 (fun _ => true) true n3 h2.type [c2] = some y2 := by simpa using j2
        have q3 : DataW.trod enc P W 0 (fun _ => true) true n3 h3.type [c3, c4, c5] = some y3 := by simpa using j3
        obtain ⟨d0, e0, _, w0⟩ := DataW.trod_int hi0 q0
        obtain ⟨d1, e1, _, w1⟩ := DataW.trod_int hi1 q1
        obtain ⟨d2, e2, _, w2⟩ := DataW.trod_int hi2 q2
        injection e0 with e0 _
        injection e1 with e1 _
        injection e2 with e2 _
        subst e0; subst e1; subst e2
        obtain ⟨b, l, m', e3, r1, r2, r3, r4⟩ := trod_q hs ho hs2 hone hb hsl hsl2 he ce q3
        subst e3
        have p0 := hcell 0 (by omega)
        have p1 := hcell 1 (by omega)
        have p2 := hcell 2 (by omega)
        have p3 := hcell 3 (by omega)
        have p4 := hcell 4 (by omega)
        have p5 := hcell 5 (by omega)
        rw [add_add] at p0 p1 p2 p3 p4 p5
        exact ⟨a, d0, d1, d2, b, c4, c5, l, m', rfl, by simpa using p0, by simpa using p1, by simpa using p2, by simpa using p3, by simpa using p4, by simpa using p5, ⟨w0, w1, w2⟩, r1, r2, r3, r4⟩
theorem index6_any {P : Program} {t e : TypeId} (hu : P.underlying t = some (.slice e)) (hs : (P.info? e).map (·.size) = some 6) (ad : Addr) {n c k : Nat} (hk : k < n) (w : World) : (Instr.indexAt t (.slice (some ad) n c) (.int .i64 (k : Int))).run P w = .ok (.pointer (some (ad.add (k * 6)))) w := by
  cases hq : P.info? e with
  | none => simp [hq] at hs
  | some inf =>
    have hsz : inf.size = 6 := by simpa [hq] using hs
    simp [Instr.indexAt, asIntOf, go_sem, run_underlying hu, sizeOf, typeInfo, hq, hsz, hk]
theorem cell_add {w : World} {p : Addr} {k i : Nat} {v : Value} (hi : i ≠ 0) (h : w.cell? (p.add (k + i)) = some v) : w.cell? ⟨(p.add k).block, (p.add k).off + i, none⟩ = some v := by
  rw [← add_add] at h
  generalize p.add k = q at h ⊢
  unfold Addr.add at h
  rw [if_neg hi] at h
  exact h
end Go.Proofs.YtfnohdgnhdfpaaaGreat.rat
namespace Go.Proofs.YtfnohdgnhdfpaaaGreat.rat
open Go.RowKit Go.Proofs.YtfnohdgnhdfpaaaGreat.num Go.Proofs.YtfnohdgnhdfpaaaGreat.mem Go.Proofs.YtfnohdgnhdfpaaaGreat.nat Go.Proofs.YtfnohdgnhdfpaaaGreat.txt Go.Proofs.YtfnohdgnhdfpaaaGreat.str Go.Proofs.YtfnohdgnhdfpaaaGreat.flow Go.Proofs.YtfnohdgnhdfpaaaGreat.whl
set_option linter.unusedVariables false
set_option linter.unusedSimpArgs false
theorem ListT.tail {w : World} {ad : Addr} {n c : Nat} {ts : List (List (List Rat))} (h : ListT w (.slice (some ad) n c) ts) (hne : ts ≠ []) : ListT w (.slice (if c = 1 then some ad else some (ad.add 1)) (n - 1) (c - 1)) ts.tail := by
  obtain ⟨us, h1, ⟨A, c', e, hc, hcell⟩, h3, h4⟩ := h
  injection e with e1 e2 e3
  subst e1; subst e2; subst e3
  have hpos : 0 < ts.length := List.length_pos_iff.2 hne
  refine ⟨us.tail, by rw [List.length_tail, List.length_tail, h1], ?_, by rw [List.length_tail]; omega, fun i u t hu ht => ?_⟩
  · by_cases h2 : c = 1
    · have : us.tail = [] := List.length_eq_zero_iff.1 (by rw [List.length_tail]; omega)
      rw [this]
      exact ⟨_, _, by rw [show us.length - 1 = 0 by omega]; rfl, by simp, fun i u hu => by simp at hu⟩
    · rw [if_neg h2]
      refine ⟨some (ad.add 1), c - 1, by rw [List.length_tail], by rw [List.length_tail]; omega, fun i u hu => ?_⟩
      rw [List.getElem?_tail] at hu
      obtain ⟨ad', ha, hc2⟩ := hcell (i + 1) u hu
      injection ha with ha; subst ha
      refine ⟨_, rfl, ?_⟩
      have e : (ad.add 1).add i = ad.add (i + 1) := by
        unfold Addr.add
        by_cases hi : i = 0
        · simp [hi]
        · simp [hi]; omega
      rw [e]; exact hc2
  · rw [List.getElem?_tail] at hu ht
    exact h4 (i + 1) u t hu ht
theorem sum_take_le : ∀ (l : List Nat) (j : Nat), (l.take j).sum ≤ l.sum
  | [], j => by simp
  | x :: l, 0 => by simp
  | x :: l, j + 1 => by have := sum_take_le l j; simp; omega
/-- A table of the call's own. -/
def RetTO (n : Nat) (t : List (List Rat)) (w : World) (e : Ending) (w' : World) : Prop := ∃ g us pss, e = .returned (.tuple #[.slice (some ⟨g, 0, none⟩) n n, .int .i64 0]) ∧ TabR w' w.heap.size (.slice (some ⟨g, 0, none⟩) n n) us pss ∧ valq pss = t ∧ us.length = n ∧ w.heap.size ≤ g ∧ Below w.heap.size w w'
/-- A number as one from 0 to d - 1. -/
def RetAm (d : Nat) (w : World) (e : Ending) (w' : World) : Prop := ∃ k : Nat, e = .returned (.int .i64 (k : Int)) ∧ k < d ∧ Below w.heap.size w w'
set_option maxHeartbeats 3200000 in
set_option maxRecDepth 100000 in
theorem among_any (x n : Int) (d : Nat) (w : World) (hn : n = (d : Int)) (hd : 1 ≤ d ∧ d ≤ 1000000) : Calls Tryz.prog 36 #[.int .i64 x, .int .i64 n] w (RetAm d w) := by
  subst hn
  have h1 : ¬ (d : Int) < 1 := by omega
  go_enter Tryz.func36, Tryz.ntmps36
  obtain ⟨m, hm⟩ : ∃ m, m = IntKind.u64.wrap x := ⟨_, rfl⟩
  have hm0 : 0 ≤ m := by rw [hm]; simp [IntKind.wrap, IntKind.bits, IntKind.signed]; omega
  obtain ⟨r, hr⟩ : ∃ r, r = (m.tmod (d : Int)) := ⟨_, rfl⟩
  have hr0 : 0 ≤ r := by rw [hr]; exact Int.tmod_nonneg _ hm0
  have hrd : r < (d : Int) := by rw [hr]; exact Int.tmod_lt_of_pos _ (by omega)
  have HW : Hid (wrap64 ((IntKind.u64.wrap x).tmod (d : Int)) = ((r.toNat : Nat) : Int)) := by
    show _ = _
    rw [← hm, ← hr, Int.toNat_of_nonneg hr0]
    exact IntWalk.wrap64_in _ (by omega)
  clear hm hr
  go_wp2
  go_ret
  exact ⟨r.toNat, by rw [← HW.out]; rfl, by omega, Below.refl _ _⟩
theorem lenS_setq {T : List (List Rat)} {R C i j m : Nat} {q : Rat} (h : lenS T m) (hs : shp T R C) (hi : i < R) (hj : j < C) (hq : lenQ q m) : lenS (setq T i j q) m := fun a b x hx => by
  rw [cellq_setq hs hi hj] at hx
  by_cases e : i = a ∧ j = b
  · rw [if_pos e] at hx
    injection hx with hx
    rw [← hx]; exact hq
  · rw [if_neg e] at hx
    exact h a b x hx
theorem lenS_zeros (R C m : Nat) (hm : 1 ≤ m) : lenS (zerosT R C) m := fun a b x hx => by
  rw [cellq_zeros hx]; exact lenQ_nought m hm
theorem MapQ.keeps {w w' : World} {b a : Nat} {T : List (List Rat)} {t : TypeId} {cs : Array Value} (h : MapQ w b T) (hB : Blk w a t cs) (hg : w.grownBy w' (some a)) (hk : KeepsI w w') : MapQ w' b T := by
  obtain ⟨D, h1, h2⟩ := h
  have hne : b ≠ a := fun e => by
    obtain ⟨es, ck, h3, _⟩ := h1
    unfold Blk at hB
    rw [e, hB] at h3
    cases h3
  exact ⟨D, h1.kept hg (fun e => hne (by injection e)), h2.kept fun p hp => hk.isE hp⟩
theorem Spt.keeps {w w' : World} {g b R C a : Nat} {T : List (List Rat)} {t : TypeId} {cs : Array Value} (h : Spt w g b R C T) (hB : Blk w a t cs) (ht : 124 ≠ t) (hg : w.grownBy w' (some a)) (hk : KeepsI w w') : Spt w' g b R C T :=
  ⟨Blk.grown h.blk hg (Blk.ne h.blk hB ht), h.map.keeps hB hg hk, h.shp, h.hR, h.hC⟩
end Go.Proofs.YtfnohdgnhdfpaaaGreat.rat
