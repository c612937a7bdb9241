/- Few of a table of whole numbers. Condition: as it says.
An argument as a table of whole numbers ([][]api.Int): its opening. Condition: as it says.
The document's Square of layer 15. Condition: as it says.
Rows of whole numbers as pairs: a whole row, or a part of one, put behind another one; a number written in place. Condition: as each says.
Determinants of whole numbers by the first row, and sums. Mathematics alone: no program stands here.
The document's Det. Condition: as each says.
The document's determinant of layer 15, by recursion. Condition: at most four rows, of numbers of at most two limbs. -/
import Derived.Test.YteijlcfhenlanaaKA3
import Derived.Deep.RegionHeld
import Derived.Shelf.Abstract
namespace Go.Proofs.Yteijlcfhenlanaa.rat
open Go.RowKit Go.Proofs.Yteijlcfhenlanaa.num Go.Proofs.Yteijlcfhenlanaa.mem Go.Proofs.Yteijlcfhenlanaa.nat Go.Proofs.Yteijlcfhenlanaa.txt Go.Proofs.Yteijlcfhenlanaa.str Go.Proofs.Yteijlcfhenlanaa.flow Go.Proofs.Yteijlcfhenlanaa.whl
set_option linter.unusedVariables false
set_option linter.unusedSimpArgs false
theorem info_zdoc : ∃ i, Try.prog.info? 41 = some i ∧ i.zero = some (.agg #[.bool false, .slice none 0 0]) ∧ i.size = 2 ∧ i.bytes = 32 := info_parts (P := Try.prog) (e := 41) (z := .agg #[.bool false, .slice none 0 0]) (size := 2) (bytes := 32) (by kernel_rfl)
theorem info_zdocs : ∃ i, Try.prog.info? 43 = some i ∧ i.zero = some (.slice none 0 0) ∧ i.size = 1 ∧ i.bytes = 24 := info_parts (P := Try.prog) (e := 43) (z := .slice none 0 0) (size := 1) (bytes := 24) (by kernel_rfl)
theorem rowX_lit0 (S : Value → Prop) (w : World) (base : Nat) (e : TypeId) (hb : base ≤ w.heap.size) : RowX S (w.alloc (.cells #[] e)) base e (.slice (some ⟨w.heap.size, 0, none⟩) 0 0) [] := by
 refine ⟨by simpa using rowV_lit0 w base e hb, fun g hg => ?_⟩
 obtain rfl : w.heap.size = g := by simpa [Value.ownBlock] using hg
 exact ⟨_, heap_alloc_new w _, fun c hc => by simp at hc⟩
theorem new_cells2 (w : World) (T : TypeId) (x y : Value) : (w.alloc (.cells #[x, y] T)).cell? ((⟨w.heap.size, 0, none⟩ : Addr).add 0) = some x ∧ (w.alloc (.cells #[x, y] T)).cell? ((⟨w.heap.size, 0, none⟩ : Addr).add 1) = some y := by
 obtain ⟨a, b, _, _⟩ := Blk.two (Blk.new w T #[x, y])
 exact ⟨a, b⟩
theorem lit_cells (w : World) (e : TypeId) (u : Value) : ∀ (i : Nat) (x : Value), [u][i]? = some x → (w.alloc (.cells #[u] e)).cell? ((⟨w.heap.size, 0, none⟩ : Addr).add i) = some x := fun i x h => by
  match i, h with
  | 0, h =>
    simp at h; subst h
    exact (Blk.new w e #[u]).cell 0
  | i + 1, h => simp at h
set_option maxHeartbeats 6400000 in
set_option maxRecDepth 100000 in
theorem few15_any (a0 : Value) (M : Nat) (w : World) (h0 : ArgW w a0) (hM : M ≤ 8) :
    Calls Try.prog 7 #[a0, .int .i64 (M : Int)] w (RetFewI M w) := by
  have at0 := h0
  obtain ⟨A0, n0, c0, rfl, hc0, hm0⟩ := h0.shape
  unfold maxLen at hm0
  clear h0
  go_enter Try.func7, Try.ntmps7
  go_wp2
  go_loopw [6, 7, 8] (fun v6 v7 v8 wr => ∃ (k : Nat) (us vs : List Value) (T : List (List Int)), k ≤ n0 ∧ k ≤ M ∧ TabY wr w.heap.size v6 v7 us vs T ∧ Hid (T.length = k ∧ (∀ r ∈ T, r.length ≤ M) ∧ lenI T 2) ∧ Hid (Below w.heap.size w wr) ∧ v8 = .int .i64 (k : Int)) (fun _ _ v8 _ => M - (intOf v8).toNat)
  case atStart =>
    have r0 := rowX_lit0 isSl w w.heap.size 51 (Nat.le_refl _)
    have ba := below_alloc (w := w) (Nat.le_refl _) (.cells #[] 51)
    have r1 := rowX_lit0 isSl (w.alloc (.cells #[] 51)) w.heap.size 43 ba.size
    have bb := below_alloc (w := w.alloc (.cells #[] 51)) (Nat.le_refl _) (.cells #[] 43)
    have HT0 : Hid (([] : List (List Int)).length = 0 ∧ (∀ r ∈ ([] : List (List Int)), r.length ≤ M) ∧ lenI [] 2) := ⟨rfl, fun r hr => by simp at hr, fun r hr => by simp at hr⟩
    refine ⟨0, [], [], [], by omega, by omega, ⟨r0.below bb, ?_, rfl, rfl, fun i u r hu => by simp at hu, fun i u r hu => by simp at hu⟩, HT0, ba.trans (bb.mono ba.size), rfl⟩
    simpa using r1
  case round =>
    obtain ⟨k, us, vs, T, hk, hkM, hT, HT, HB, rfl⟩ := hrel
    obtain ⟨wo, hwo⟩ : ∃ wo, wo = wr := ⟨_, rfl⟩
    subst hwo
    obtain ⟨A6, c6, e6⟩ := RowV.slice hT.p.1
    obtain ⟨A7, c7, e7⟩ := RowV.slice hT.q.1
    subst e6
    subst e7
    have HTY := Lib.hid hT
    clear hT
    by_cases hlt : k < n0 ∧ k < M
    · obtain ⟨hlt1, hlt2⟩ := hlt
      obtain ⟨A_, n_, c_, e_, _, _, hel⟩ := at0.below HB.out
      injection e_ with e1 e2 e3
      subst e1; subst e2; subst e3
      obtain ⟨ad, ue, rfl, ec, hz⟩ := hel k hlt1
      clear hel
      obtain ⟨Aq, nq, cq, rfl, _, _, _⟩ := id hz
      have HZ := Lib.hid hz
      clear hz
      have HEC := Lib.hid ec
      clear ec
      have r0 := rowB_lit0 29 wo wo.heap.size (Nat.le_refl _)
      have ba := below_alloc (w := wo) (Nat.le_refl _) (.cells #[] 29)
      have r1 := rowB_lit0 41 (wo.alloc (.cells #[] 29)) wo.heap.size ba.size
      have bb := below_alloc (w := wo.alloc (.cells #[] 29)) (Nat.le_refl _) (.cells #[] 41)
      have r2 := r0.below bb
      have HB2 := Lib.hid (ba.trans (bb.mono ba.size))
      clear r0 ba bb
      go_wp2
      go_loopw [9, 10, 11] (fun v9 v10 v11 wr => ∃ (j : Nat) (ps qs : List (Int × Value)), j ≤ nq ∧ j ≤ M ∧ RowB 29 wr wo.heap.size v9 ps ∧ RowB 41 wr wo.heap.size v10 qs ∧ Hid (ps.length = j ∧ qs.map (·.1) = ps.map (·.1) ∧ ∀ p ∈ ps, lenZ p.1 ≤ 2) ∧ Hid ((∀ p ∈ ps, IsS wr .u64 p.2 (digs 4294967296 p.1.natAbs)) ∧ ∀ p ∈ qs, IsS wr .i64 p.2 (digs 10000 p.1.natAbs)) ∧ Hid (Below wo.heap.size wo wr) ∧ v11 = .int .i64 (j : Int)) (fun _ _ v11 _ => M - (intOf v11).toNat)
      case atStart =>
        have HP0 : Hid (([] : List (Int × Value)).length = 0 ∧ ([] : List (Int × Value)).map (·.1) = ([] : List (Int × Value)).map (·.1) ∧ ∀ p ∈ ([] : List (Int × Value)), lenZ p.1 ≤ 2) := ⟨rfl, rfl, fun p hp => by simp at hp⟩
        refine ⟨0, [], [], by omega, by omega, r2, ?_, HP0, ⟨fun p hp => by simp at hp, fun p hp => by simp at hp⟩, HB2, rfl⟩
        simpa using r1
      case round =>
        clear r2 r1 HB2
        obtain ⟨j, ps, qs, hj, hjM, ra, rb, HPQ, HLS, HBi, rfl⟩ := hrel
        obtain ⟨wi, hwi⟩ : ∃ wi, wi = wr := ⟨_, rfl⟩
        subst hwi
        have eci := (HBi.out.cell (World.block_lt_of_cell? wo _ HEC.out)).trans HEC.out
        obtain ⟨A9, c9, e9⟩ := ra.slice
        obtain ⟨A10, c10, e10⟩ := rb.slice
        subst e9
        subst e10
        by_cases hlj : j < nq ∧ j < M
        · obtain ⟨hlj1, hlj2⟩ := hlj
          obtain ⟨A__, n__, c__, e__, _, _, hel⟩ := ArgZ.below HZ.out HBi.out
          injection e__ with e1 e2 e3
          subst e1; subst e2; subst e3
          obtain ⟨adq, b, uq, l, rfl, e0, e1, hs, hlt⟩ := hel j hlj1
          rw [at_one] at e1
          clear hel
          obtain ⟨Al, cl, rfl, _⟩ := id hs
          obtain ⟨z, hzc⟩ : ∃ z, z = cleanZ b l 2 := ⟨_, rfl⟩
          have lz : lenZ z ≤ 2 := by rw [hzc]; exact cleanZ_len b l 2
          have CC : ∀ w', IsS w' .u64 (.slice Al l.length cl) l → Calls Try.prog 24 #[.agg #[.bool b, .slice Al l.length cl], .int .i64 2] w' (RetZ z w') := fun w' h => by rw [hzc]; exact zclean_any b _ l 2 2 w' rfl h hlt (by omega)
          have hix := fun w => index2_any (P := Try.prog) Try.underlying51 (by kernel_rfl) adq (n := nq) (c := cq) hlj1 w
          have HLZ := Lib.hid lz
          clear hzc hlt lz
          go_wp2_with fail
          refine (CC _ hs).mono ?_
          rintro e w5 ⟨v5, rfl, k5, f5, b5⟩
          obtain ⟨u5, rfl, s5⟩ := k5
          obtain ⟨A5, c5, rfl, _⟩ := id s5
          have ba := below_alloc (w := w5) (Nat.le_refl _) (.cells #[.bool (ngB z), .slice A5 (digs 4294967296 z.natAbs).length c5] 29)
          have B12 := Blk.new w5 29 #[.bool (ngB z), .slice A5 (digs 4294967296 z.natAbs).length c5]
          have b6 := b5.trans (ba.mono b5.size)
          have ra6 := ra.below b6
          have rb6 := rb.below b6
          have s6 := s5.below ba
          have HLS6 : Hid ((∀ p ∈ ps, IsS (w5.alloc (.cells #[.bool (ngB z), .slice A5 (digs 4294967296 z.natAbs).length c5] 29)) .u64 p.2 (digs 4294967296 p.1.natAbs)) ∧ ∀ p ∈ qs, IsS (w5.alloc (.cells #[.bool (ngB z), .slice A5 (digs 4294967296 z.natAbs).length c5] 29)) .i64 p.2 (digs 10000 p.1.natAbs)) := ⟨fun p hp => (HLS.out.1 p hp).below b6, fun p hp => (HLS.out.2 p hp).below b6⟩
          have hbi := HBi.out.size
          have HB6 := Lib.hid (HBi.out.trans (b6.mono hbi))
          have ua := ra.under
          have h5 := b5.size
          have hne : ∀ g, (Value.slice A9 ps.length c9).ownBlock = some g → w5.heap.size ≠ g := fun g e => by have := (ua g e).2; omega
          have HL8 : Hid (ps.length + 1 ≤ 1000000000 ∧ qs.length + 1 ≤ 1000000000) := by
            have h1 := HPQ.out.1
            have h2 := congrArg List.length HPQ.out.2.1
            rw [List.length_map, List.length_map] at h2
            exact ⟨by omega, by omega⟩
          have HNE := Lib.hid hne
          clear ra rb s5 ba b5 b6 e0 e1 hs CC eci HLS HBi hix ua hne
          obtain ⟨w6, hw6⟩ : ∃ w6, w5.alloc (.cells #[.bool (ngB z), .slice A5 (digs 4294967296 z.natAbs).length c5] 29) = w6 := ⟨_, rfl⟩
          go_upto_region 10 with (fail)
          rw [hw6] at B12 ra6 rb6 s6 HLS6 HB6
          clear hw6
          obtain ⟨V0, V1, _, _⟩ := Blk.two B12
          obtain ⟨cA0, cA1⟩ := new_cells2 w6 29 (.bool (ngB z)) (.slice A5 (digs 4294967296 z.natAbs).length c5)
          have bA := (below_alloc (w := w6) (Nat.le_refl _) (.cells #[.bool (ngB z), .slice A5 (digs 4294967296 z.natAbs).length c5] 29)).drew
          have rA := ra6.below bA
          have rbA := rb6.below bA
          have sA := s6.below bA
          have B12A := B12.below bA
          obtain ⟨xA0, xA1, _, _⟩ := Blk.two B12A
          have hszA := Nat.le_trans HB6.out.size bA.size
          have HBA := Lib.hid (HB6.out.trans (bA.mono HB6.out.size))
          have HLSA := Lib.hid (And.intro (fun p hp => (HLS6.out.1 p hp).below bA) (fun p hp => (HLS6.out.2 p hp).below bA))
          have lz3 : lenZ z ≤ 30000 := by have := HLZ.out; omega
          clear bA ra6 rb6 s6 B12 HLS6
          go_region_law (first
            | (refine step_append_B rfl (.tmp 50) (.tmp 52) rfl Try.underlying51 Go.Proofs.Yteijlcfhenlanaa.whl.info_int (v := .slice A9 ps.length c9) (p := (z, .slice A5 (digs 4294967296 z.natAbs).length c5)) (ps := ps) (by rfl) (by exact rA) (ad := ⟨w6.heap.size, 0, none⟩) (c := 1) (by rfl) (by exact cA0) (by exact cA1) ⟨_, _, _, rfl⟩ HL8.out.1 (by exact hszA) ?_; intro v8 w8 row8 G8 O8; have rb8 := rbA.grown G8.out (fun g e e2 => RowB.notB rA rbA (by decide) g e2 e); have s8 := rA.keepS G8.out sA; have B8 := Go.Proofs.Yteijlcfhenlanaa.whl.Blk.other B12A G8.out (fun e => HNE.out _ e rfl); obtain ⟨y0, y1, _, _⟩ := Blk.two B8)
            | (go_simp; go_at_call 25; refine (roff_any _ z _ ⟨_, rfl, (by exact s8)⟩ lz3).mono ?_; rintro e w9 ⟨v9, rfl, k9, f9, b9⟩; obtain ⟨u9, rfl, s9⟩ := k9; obtain ⟨A11, c11, rfl, _⟩ := id s9; obtain ⟨cC0, cC1⟩ := new_cells2 w9 41 (.bool (ngB z)) (.slice A11 (digs 10000 z.natAbs).length c11); have bC := below_alloc (w := w9) (Nat.le_refl _) (.cells #[.bool (ngB z), .slice A11 (digs 10000 z.natAbs).length c11] 41); have rC := (rb8.below b9).below bC; have hszC := Nat.le_trans (Nat.le_trans (Nat.le_trans hszA G8.out.size) b9.size) bC.size)
            | (refine step_append_B rfl (.tmp 54) (.tmp 57) rfl Try.underlying43 info_zdoc (v := .slice A10 qs.length c10) (p := (z, .slice A11 (digs 10000 z.natAbs).length c11)) (ps := qs) (by rfl) (by exact rC) (ad := ⟨w9.heap.size, 0, none⟩) (c := 1) (by rfl) (by exact cC0) (by exact cC1) ⟨_, _, _, rfl⟩ HL8.out.2 (by exact hszC) ?_; intro v10 w10 row10 G10 O10))
          all_goals
            have row8C := (row8.below b9).below bC
            have rowA := row8C.grown G10.out (fun g e e2 => RowB.notB row8C rC (by decide) g e e2)
            have kk : ∀ {k u l}, IsS _ k u l → IsS w10 k u l := fun h => rC.keepS G10.out (((rA.keepS G8.out h).below b9).below bC)
            have s10 := rC.keepS G10.out ((s8.below b9).below bC)
            have s11 := rC.keepS G10.out (s9.below bC)
            have HLS10 : Hid ((∀ p ∈ ps ++ [(z, .slice A5 (digs 4294967296 z.natAbs).length c5)], IsS w10 .u64 p.2 (digs 4294967296 p.1.natAbs)) ∧ ∀ p ∈ qs ++ [(z, .slice A11 (digs 10000 z.natAbs).length c11)], IsS w10 .i64 p.2 (digs 10000 p.1.natAbs)) := by
              refine ⟨fun p hp => ?_, fun p hp => ?_⟩
              · rcases List.mem_append.1 hp with hp | hp
                · exact kk (HLSA.out.1 p hp)
                · rw [List.mem_singleton.1 hp]; exact s10
              · rcases List.mem_append.1 hp with hp | hp
                · exact kk (HLSA.out.2 p hp)
                · rw [List.mem_singleton.1 hp]; exact s11
            have HPQ10 : Hid ((ps ++ [(z, Value.slice A5 (digs 4294967296 z.natAbs).length c5)]).length = j + 1 ∧ (qs ++ [(z, Value.slice A11 (digs 10000 z.natAbs).length c11)]).map (·.1) = (ps ++ [(z, Value.slice A5 (digs 4294967296 z.natAbs).length c5)]).map (·.1) ∧ ∀ p ∈ ps ++ [(z, Value.slice A5 (digs 4294967296 z.natAbs).length c5)], lenZ p.1 ≤ 2) := by
              refine ⟨by rw [List.length_append, HPQ.out.1]; rfl, by rw [List.map_append, List.map_append, HPQ.out.2.1]; rfl, fun p hp => ?_⟩
              rcases List.mem_append.1 hp with hp | hp
              · exact HPQ.out.2.2 p hp
              · rw [List.mem_singleton.1 hp]; exact HLZ.out
            have HB10 : Hid (Below wo.heap.size wo w10) := ((((HBA.out.trans (rA.bel G8.out hszA)).trans (b9.mono (Nat.le_trans hszA G8.out.size))).trans (bC.mono (Nat.le_trans (Nat.le_trans hszA G8.out.size) b9.size)))).trans (rC.bel G10.out hszC)
            have hme : M - (j + 1) < M - j := by omega
            clear rA rbA sA B12A xA0 xA1 cA0 cA1 rb8 s8 B8 y0 y1 b9 s9 cC0 cC1 bC rC row8 row8C G8 G10 O8 O10 kk s10 s11 HLSA HBA HB6 HLZ lz3
            go_wp2
            go_roundw
            case rel => exact ⟨j + 1, _, _, by omega, by omega, rowA, row10, HPQ10, HLS10, HB10, by go_num⟩
            case measure => exact hme
        · have hx : ¬ j < nq ∨ (j < nq ∧ ¬ j < M) := by omega
          have T2 := HTY.out.below HBi.out
          have b1 := below_alloc (w := wi) (Nat.le_refl _) (.cells #[.slice A9 ps.length c9] 51)
          have T3 := T2.below b1
          have sa := (ra.sl HLS.out.1).below b1
          have sb := (rb.sl HLS.out.2).below b1
          rw [HPQ.out.2.1] at sb
          have hr1 := lit_cells wi 51 (.slice A9 ps.length c9)
          have hs1 : ∀ u ∈ [Value.slice A9 ps.length c9], isSl u := fun u hu => by rw [List.mem_singleton.1 hu]; exact ⟨_, _, _, rfl⟩
          have hs2 : ∀ u ∈ [Value.slice A10 qs.length c10], isSl u := fun u hu => by rw [List.mem_singleton.1 hu]; exact ⟨_, _, _, rfl⟩
          have hb3 : w.heap.size ≤ (wi.alloc (.cells #[.slice A9 ps.length c9] 51)).heap.size := Nat.le_trans (Nat.le_trans HB.out.size HBi.out.size) b1.size
          have HLEN : Hid (us.length + 1 ≤ 1000000000 ∧ vs.length + 1 ≤ 1000000000) := by
            have h1 := HTY.out.lp
            have h2 := HTY.out.lq
            have h3 := HT.out.1
            exact ⟨by omega, by omega⟩
          have HNEW : Hid ((T ++ [ps.map (·.1)]).length = k + 1 ∧ (∀ r ∈ T ++ [ps.map (·.1)], r.length ≤ M) ∧ lenI (T ++ [ps.map (·.1)]) 2) := by
            refine ⟨by rw [List.length_append, HT.out.1]; rfl, fun r hr => ?_, fun r hr => ?_⟩
            · rcases List.mem_append.1 hr with hr | hr
              · exact HT.out.2.1 r hr
              · rw [List.mem_singleton.1 hr, List.length_map, HPQ.out.1]; exact hjM
            · rcases List.mem_append.1 hr with hr | hr
              · exact HT.out.2.2 r hr
              · rw [List.mem_singleton.1 hr]
                intro x hx
                obtain ⟨p, hp, rfl⟩ := List.mem_map.1 hx
                exact HPQ.out.2.2 p hp
          have HT3 := Lib.hid T3
          have HS3 := Lib.hid (And.intro sa sb)
          have HB3 := Lib.hid ((HB.out.trans (HBi.out.mono HB.out.size)).trans (b1.mono (Nat.le_trans HB.out.size HBi.out.size)))
          have hsk : M - (k + 1) < M - k := by omega
          clear T2 b1 T3 sa sb ra rb HPQ HLS HBi
          rcases hx with hx | ⟨hx1, hx2⟩
          all_goals
            go_wp2_with (first
              | (at_builtin; refine wpList_append_S rfl (.tmp 59) (.tmp 61) rfl Try.underlying22 info_ints (news := [.slice A9 ps.length c9]) rfl HT3.out.p rfl rfl (by decide) hr1 hs1 HLEN.out.1 hb3 ?_; intro V3 w3 row3 G3 O3; have q3 := HT3.out.q.grown G3.out (fun g e e2 => RowV.notV HT3.out.p.1 HT3.out.q.1 (by decide) g e2 e); have b4 := below_alloc (w := w3) (Nat.le_refl _) (.cells #[.slice A10 qs.length c10] 43); have q4 := q3.below b4; have hr2 := lit_cells w3 43 (.slice A10 qs.length c10); have hb4 := Nat.le_trans (Nat.le_trans hb3 G3.out.size) b4.size)
              | (at_builtin; refine wpList_append_S rfl (.tmp 63) (.tmp 65) rfl Try.underlying23 info_zdocs (news := [.slice A10 qs.length c10]) rfl q4 rfl rfl (by decide) hr2 hs2 HLEN.out.2 hb4 ?_; intro U4 w4 row4 G4 O4))
            have T4 := HT3.out.step HS3.out.1 HS3.out.2 row3 G3.out row4 ((below_none b4 _).trans G4.out)
            have HB4 := Lib.hid (((HB3.out.trans ((Below.refl w.heap.size _).grown G3.out hb3 (fun g e => (World.ownsRow.lt HT3.out.p.1 g e).1))).trans (b4.mono (Nat.le_trans hb3 G3.out.size))).trans ((Below.refl w.heap.size _).grown G4.out hb4 (fun g e => (World.ownsRow.lt q4.1 g e).1)))
            clear q3 q4 b4 hr1 hr2 row3 row4 G3 G4 O3 O4 HT3 HS3 HB3 eci
            go_wp2
            go_roundw
            case rel => exact ⟨k + 1, _, _, _, by omega, by omega, T4, HNEW, HB4, by go_num⟩
            case measure => simp [intOf]; omega
    · have hx : ¬ k < n0 ∨ (k < n0 ∧ ¬ k < M) := by omega
      have HEND : Hid (RetFewI M w (.returned (.tuple #[.slice A6 us.length c6, .slice A7 vs.length c7])) wo) := ⟨_, _, T, rfl, rowX_slW HTY.out.p HTY.out.lp HTY.out.rp, rowX_slW HTY.out.q HTY.out.lq HTY.out.rq, by rw [HT.out.1]; exact hkM, HT.out.2.1, HT.out.2.2, HB.out⟩
      clear HTY HT HB
      rcases hx with hx | ⟨hx1, hx2⟩
      all_goals
        go_wp2
        go_ret2
        exact HEND.out
end Go.Proofs.Yteijlcfhenlanaa.rat
namespace Go.Proofs.Yteijlcfhenlanaa.rat
open Go.RowKit Go.ChangeShapes Go.WideShapes Go.ChangeAt Go.Joins Go.Deep Go.Proofs.Yteijlcfhenlanaa.num Go.Proofs.Yteijlcfhenlanaa.mem Go.Proofs.Yteijlcfhenlanaa.nat Go.Proofs.Yteijlcfhenlanaa.txt Go.Proofs.Yteijlcfhenlanaa.str Go.Proofs.Yteijlcfhenlanaa.flow Go.Proofs.Yteijlcfhenlanaa.whl
set_option linter.unusedVariables false
theorem trod_zs {H : Type} {enc : TypeId × Value → H} {P : Program} {W : World} {fuel : Nat} {t z e : TypeId} {f0 f1 : Field} {v : Value} {x : DataW H × List MemPlace} (ht : P.underlying t = some (.slice z)) (hs : P.underlying z = some (.struct #[f0, f1])) (hone : oneCellFields P #[f0, f1] = true) (hC : P.cellsOf z = 2)
  (hb : P.underlying f0.type = some .bool) (hsl : P.underlying f1.type = some (.slice e)) (he : P.underlying e = some (.int .u64)) (ce : P.cellsOf e = 1)
  (hf : DataW.trod enc P W 0 (fun _ => true) true fuel t [v] = some x) : ArgZ W v := by
 obtain ⟨o0, c0⟩ := hone_of hone 0 f0 rfl
 obtain ⟨o1, c1⟩ := hone_of hone 1 f1 rfl
 rcases Go.Deep.open_slice_pairs ht hs hC o0 o1 c0 c1 hf with ⟨hcs, hx⟩ | ⟨a, len', cap', m, n, V0, V1, D0, D1, P0, P1, hcs, _, hl, hm, hmm, hx, hrows⟩
 ·injection hcs with hcs
  subst hcs
  exact ⟨none, 0, 0, rfl, by omega, by simp, fun i hi => by omega⟩
 ·injection hcs with hcs
  subst hcs
  refine ⟨some a, len', cap', rfl, hl, hm, fun i hi => ?_⟩
  obtain ⟨h1, h2, h3, h4⟩ := hrows i (by simp at hmm; omega)
  obtain ⟨b, e0, _⟩ := DataW.trod_bool hb h3
  injection e0 with e0 _
  obtain ⟨l, k1, k2⟩ := trod_nat hsl he ce h4
  exact ⟨a, b, V1 i, l, rfl, by rw [h1, e0], h2, k1, k2⟩
theorem arg_w {H : Type} {enc : TypeId × Value → H} {P : Program} {W : World} {base : Nat} {tt t z e : TypeId} {f0 f1 : Field} {v : Value} {d : DataW H} {p : List MemPlace} (htt : P.underlying tt = some (.slice t)) (hC1 : P.cellsOf t = 1) (ht : P.underlying t = some (.slice z)) (hs : P.underlying z = some (.struct #[f0, f1])) (hone : oneCellFields P #[f0, f1] = true) (hC : P.cellsOf z = 2)
    (hb : P.underlying f0.type = some .bool) (hsl : P.underlying f1.type = some (.slice e)) (he : P.underlying e = some (.int .u64)) (ce : P.cellsOf e = 1)
    (hv : Value.okWide P W .any base tt v) (h : DataW.Trod enc P W 0 (fun _ => true) true tt v d p) : ArgW W v := by
  obtain ⟨a0, len, cap, rfl⟩ := okWide_slice htt hv
  obtain ⟨fuel, hf⟩ := h
  rcases Go.Deep.open_slice htt hf with ⟨hcs, hx⟩ | ⟨a, len', cap', m, n, D, Pl, hcs, _, hl, hm, hmm, hx, hrows⟩
  · simp [Value.cells] at hcs
    obtain ⟨rfl, rfl, rfl⟩ := hcs
    exact ⟨none, 0, 0, rfl, by omega, by simp, fun i hi => by omega⟩
  · simp [Value.cells] at hcs
    obtain ⟨rfl, rfl, rfl⟩ := hcs
    refine ⟨some a, len, cap, rfl, hl, hm, fun i hi => ?_⟩
    obtain ⟨cs', h1, h2⟩ := hrows i (by simp at hmm; omega)
    rw [hC1] at h1
    obtain ⟨_, hlen, hcell⟩ := World.cells?_some h1
    match cs', hlen with
    | [c0], _ =>
      have g0 := hcell 0 (by omega)
      rw [add_add] at g0
      exact ⟨a, c0, rfl, by simpa using g0, trod_zs ht hs hone hC hb hsl he ce h2⟩
end Go.Proofs.Yteijlcfhenlanaa.rat
namespace Go.Proofs.Yteijlcfhenlanaa.rat
open Go.RowKit Go.Proofs.Yteijlcfhenlanaa.num Go.Proofs.Yteijlcfhenlanaa.mem Go.Proofs.Yteijlcfhenlanaa.nat Go.Proofs.Yteijlcfhenlanaa.txt Go.Proofs.Yteijlcfhenlanaa.str Go.Proofs.Yteijlcfhenlanaa.flow Go.Proofs.Yteijlcfhenlanaa.whl
set_option linter.unusedVariables false
set_option linter.unusedSimpArgs false
set_option maxHeartbeats 3200000 in
set_option maxRecDepth 100000 in
theorem rsquare_any (a0 : Value) (T : List (List Int)) (w : World) (h0 : SlW .i64 10000 w a0 T) : Calls Try.prog 10 #[a0] w (fun e w' => (squareI T ∧ RetV (.bool true) w e w') ∨ (¬ squareI T ∧ RetV (.bool false) w e w')) := by
 have st0 := h0
 obtain ⟨A0, c0, rfl, hc0, hm0⟩ := h0.shape
 unfold maxLen at hm0
 go_enter Try.func10, Try.ntmps10
 go_wp2
 go_loopw [3] (fun v3 wr => ∃ k : Nat, k ≤ T.length ∧ Hid (∀ r ∈ T.take k, r.length = T.length) ∧ Hid (Below w.heap.size w wr) ∧ v3 = .int .i64 (k : Int)) (fun v3 _ => T.length - (intOf v3).toNat)
 case atStart =>
  have H0 : Hid (∀ r ∈ T.take 0, r.length = T.length) := by show ∀ r ∈ _, _; intro r hr; simp at hr
  exact ⟨0, by omega, H0, Below.refl _ _, rfl⟩
 case round =>
  obtain ⟨k, hk, HE, HB, rfl⟩ := hrel
  by_cases hlt : k < T.length
  ·obtain ⟨r, hr⟩ : ∃ r, T[k]? = some r := ⟨_, List.getElem?_eq_getElem hlt⟩
   have HR := Lib.hid hr
   obtain ⟨ad, rfl⟩ := st0.place (List.length_pos_iff.1 (by omega))
   obtain ⟨Ar, cr, hik, ecr, -⟩ := (st0.below HB.out).at2 hr
   clear hr
   by_cases e1 : r.length = T.length
   ·have g1 : (((r.length : Nat) : Int) != ((T.length : Nat) : Int)) = false := by rw [bne_eq_false_iff_eq]; omega
    have HE2 : Hid (∀ x ∈ T.take (k + 1), x.length = T.length) := by
     show ∀ x ∈ _, _
     intro x hx
     rw [List.take_add_one, HR.out] at hx
     rcases List.mem_append.1 hx with hx | hx
     ·exact HE.out x hx
     ·obtain rfl : x = r := by simpa using hx
      exact e1
    clear e1
    go_wp2
    go_roundw
    case rel => exact ⟨k + 1, by omega, HE2, HB, by go_num⟩
    case measure => simp [intOf]; omega
   ·have g1 : (((r.length : Nat) : Int) != ((T.length : Nat) : Int)) = true := by rw [bne_iff_ne]; omega
    have HN : Hid (¬ squareI T) := fun h => e1 (h.2 r (List.mem_of_getElem? HR.out))
    clear e1
    go_wp2
    go_ret
    exact .inr ⟨HN.out, rfl, HB.out⟩
  ·obtain rfl : k = T.length := by omega
   have HE2 : Hid (∀ x ∈ T, x.length = T.length) := by have := HE.out; rwa [List.take_length] at this
   by_cases hl : T.length ≤ 100
   ·have hl1 : ((T.length : Nat) : Int) ≤ 100 := by omega
    have hl2 : decide (((T.length : Nat) : Int) ≤ 100) = true := decide_eq_true hl1
    go_wp2
    go_ret
    exact .inl ⟨⟨hl, HE2.out⟩, by first | rfl | simp [hl2] | simp [hl1], HB.out⟩
   ·have hl1 : ¬ ((T.length : Nat) : Int) ≤ 100 := by omega
    have hl2 : decide (((T.length : Nat) : Int) ≤ 100) = false := decide_eq_false hl1
    go_wp2
    go_ret
    exact .inr ⟨fun h => hl h.1, by first | rfl | simp [hl2] | simp [hl1], HB.out⟩
/-- A slice as pairs of a number and its limbs. -/
def SlP (w : World) (v : Value) (ps : List (Int × Value)) : Prop := ∃ A c, v = .slice A ps.length c ∧ ps.length ≤ c ∧ c ≤ maxLen ∧ ∀ (i : Nat) (p : Int × Value), ps[i]? = some p → ∃ g o, A = some ⟨g, o, none⟩ ∧ w.cell? ⟨g, o + i * 2, none⟩ = some (.bool (ngB p.1)) ∧ w.cell? ⟨g, o + i * 2 + 1, none⟩ = some p.2
def NumP (k : IntKind) (B : Nat) (w : World) (ps : List (Int × Value)) : Prop := ∀ p ∈ ps, IsS w k p.2 (digs B p.1.natAbs)
theorem SlZ.pairs {k : IntKind} {B : Nat} {w : World} {v : Value} {zs : List Int} (h : SlZ k B w v zs) : ∃ ps : List (Int × Value), ps.map (·.1) = zs ∧ SlP w v ps ∧ NumP k B w ps := by
  obtain ⟨A, c, rfl, h2, h3, h4⟩ := h
  have h5 : ∀ i : Nat, ∃ u : Value, ∀ z, zs[i]? = some z → ∃ g o, A = some ⟨g, o, none⟩ ∧ w.cell? ⟨g, o + i * 2, none⟩ = some (.bool (ngB z)) ∧ w.cell? ⟨g, o + i * 2 + 1, none⟩ = some u ∧ IsS w k u (digs B z.natAbs) := fun i => by
    cases hz : zs[i]? with
    | none => exact ⟨.bool false, fun z h => by cases h⟩
    | some z =>
      obtain ⟨g, o, u, h⟩ := h4 i z hz
      exact ⟨u, fun z' h' => by injection h' with h'; subst h'; exact ⟨g, o, h⟩⟩
  obtain ⟨f, hf⟩ := Classical.axiomOfChoice h5
  obtain ⟨ps, hps⟩ : ∃ ps : List (Int × Value), ps = (List.range zs.length).map fun i => (zs.getD i 0, f i) := ⟨_, rfl⟩
  have hl : ps.length = zs.length := by rw [hps]; simp
  have at_ : ∀ (i : Nat) (p : Int × Value), ps[i]? = some p → zs[i]? = some p.1 ∧ p.2 = f i := fun i p hp => by
    have hi := (List.getElem?_eq_some_iff.1 hp).1
    rw [hl] at hi
    rw [hps, List.getElem?_map, List.getElem?_range hi] at hp
    injection hp with hp
    subst hp
    refine ⟨?_, rfl⟩
    show zs[i]? = some (zs.getD i 0)
    rw [List.getD_eq_getElem?_getD, List.getElem?_eq_getElem hi]; rfl
  refine ⟨ps, ?_, ⟨A, c, by rw [hl], by rw [hl]; exact h2, h3, fun i p hp => ?_⟩, fun p hp => ?_⟩
  · refine List.ext_getElem? fun i => ?_
    rw [List.getElem?_map]
    cases hp : ps[i]? with
    | none =>
      have h6 : ¬ i < ps.length := fun h => by rw [List.getElem?_eq_getElem h] at hp; cases hp
      rw [List.getElem?_eq_none (by omega)]; rfl
    | some p => rw [(at_ i p hp).1]; rfl
  · obtain ⟨h6, h7⟩ := at_ i p hp
    obtain ⟨g, o, e, c0, c1, _⟩ := hf i _ h6
    exact ⟨g, o, e, c0, by rw [h7]; exact c1⟩
  · obtain ⟨i, hi⟩ := List.mem_iff_getElem?.1 hp
    obtain ⟨h6, h7⟩ := at_ i p hi
    obtain ⟨g, o, e, c0, c1, s⟩ := hf i _ h6
    rw [h7]; exact s
theorem NumP.sl {k : IntKind} {B : Nat} {w : World} {ps : List (Int × Value)} (h : NumP k B w ps) : allSl ps := fun p hp => by
 obtain ⟨A, c, e, _⟩ := h p hp
 exact ⟨A, _, c, e⟩
theorem NumP.below {k : IntKind} {B : Nat} {w w' : World} {ps : List (Int × Value)} (h : NumP k B w ps) (hb : Below w.heap.size w w') : NumP k B w' ps := fun p hp => (h p hp).below hb
theorem NumP.append {k : IntKind} {B : Nat} {w : World} {ps qs : List (Int × Value)} (h : NumP k B w ps) (h' : NumP k B w qs) : NumP k B w (ps ++ qs) := fun p hp => by
 rcases List.mem_append.1 hp with hp | hp
 ·exact h p hp
 ·exact h' p hp
theorem NumP.take {k : IntKind} {B : Nat} {w : World} {ps : List (Int × Value)} (h : NumP k B w ps) (n : Nat) : NumP k B w (ps.take n) := fun p hp => h p (List.mem_of_mem_take hp)
theorem NumP.drop {k : IntKind} {B : Nat} {w : World} {ps : List (Int × Value)} (h : NumP k B w ps) (n : Nat) : NumP k B w (ps.drop n) := fun p hp => h p (List.mem_of_mem_drop hp)
theorem SlP.below {w w' : World} {v : Value} {ps : List (Int × Value)} (h : SlP w v ps) (hb : Below w.heap.size w w') : SlP w' v ps := by
 obtain ⟨A, c, e, h1, h2, h3⟩ := h
 refine ⟨A, c, e, h1, h2, fun i p hp => ?_⟩
 obtain ⟨g, o, e2, c0, c1⟩ := h3 i p hp
 exact ⟨g, o, e2, (hb.cell (World.block_lt_of_cell? w _ c0)).trans c0, (hb.cell (World.block_lt_of_cell? w _ c1)).trans c1⟩
theorem SlP.sl {k : IntKind} {B : Nat} {w : World} {v : Value} {ps : List (Int × Value)} (h : SlP w v ps) (hs : NumP k B w ps) : SlZ k B w v (ps.map (·.1)) := by
  obtain ⟨A, c, e, h1, h2, h3⟩ := h
  refine ⟨A, c, by rw [List.length_map]; exact e, by rw [List.length_map]; exact h1, h2, fun i z hz => ?_⟩
  rw [List.getElem?_map] at hz
  cases hp : ps[i]? with
  | none => rw [hp] at hz; cases hz
  | some p =>
    rw [hp] at hz
    obtain rfl : p.1 = z := by simpa using hz
    obtain ⟨g, o, e2, c0, c1⟩ := h3 i p hp
    exact ⟨g, o, _, e2, c0, c1, hs p (List.mem_of_getElem? hp)⟩
/-- What a cut of such a row reads as. -/
theorem SlP.cutTo {w : World} {A : Option Addr} {n c j : Nat} {ps : List (Int × Value)} (h : SlP w (.slice A n c) ps) (hj : j ≤ ps.length) : SlP w (.slice A j c) (ps.take j) := by
 obtain ⟨A', c', e, h1, h2, h3⟩ := h
 injection e with e1 e2 e3
 subst e1; subst e3
 have hl : (ps.take j).length = j := by rw [List.length_take]; omega
 refine ⟨A, c, by rw [hl], by omega, h2, fun i p hp => ?_⟩
 have hi : i < j := by have := (List.getElem?_eq_some_iff.1 hp).1; omega
 rw [List.getElem?_take_of_lt hi] at hp
 exact h3 i p hp
theorem SlP.cutFrom {w : World} {g o n c k : Nat} {A : Option Addr} {ps : List (Int × Value)} (h : SlP w (.slice (some ⟨g, o, none⟩) n c) ps) (hk : k ≤ ps.length) (hA : k < ps.length → A = some ⟨g, o + k * 2, none⟩) : SlP w (.slice A (n - k) (c - k)) (ps.drop k) := by
 obtain ⟨A', c', e, h1, h2, h3⟩ := h
 injection e with e1 e2 e3
 subst e1; subst e2; subst e3
 refine ⟨A, c - k, by rw [List.length_drop], by rw [List.length_drop]; omega, by omega, fun i p hp => ?_⟩
 rw [List.getElem?_drop] at hp
 have hi := (List.getElem?_eq_some_iff.1 hp).1
 obtain ⟨g', o', e, c0, c1⟩ := h3 _ p hp
 injection e with e
 injection e with e4 e5
 subst e4; subst e5
 refine ⟨g, o + k * 2, hA (by omega), ?_, ?_⟩
 ·rw [show o + k * 2 + i * 2 = o + (k + i) * 2 by omega]; exact c0
 ·rw [show o + k * 2 + i * 2 = o + (k + i) * 2 by omega]; exact c1
theorem flat_find : ∀ (ps : List (Int × Value)) (j : Nat) (u : Value), (flat ps)[j]? = some u → ∃ i p, ps[i]? = some p ∧ ((j = i * 2 ∧ u = .bool (ngB p.1)) ∨ (j = i * 2 + 1 ∧ u = p.2))
  | [], j, u, h => by simp [flat] at h
  | p :: ps, 0, u, h => ⟨0, p, rfl, .inl ⟨rfl, by simpa [flat_cons] using h.symm⟩⟩
  | p :: ps, 1, u, h => ⟨0, p, rfl, .inr ⟨rfl, by simpa [flat_cons] using h.symm⟩⟩
  | p :: ps, j + 2, u, h => by
    have e : (flat (p :: ps))[j + 2]? = (flat ps)[j]? := by rw [flat_cons]; simp
    rw [e] at h
    obtain ⟨i, q, hq, h2⟩ := flat_find ps j u h
    refine ⟨i + 1, q, by simpa using hq, ?_⟩
    rcases h2 with ⟨a, b⟩ | ⟨a, b⟩
    · exact .inl ⟨by omega, b⟩
    · exact .inr ⟨by omega, b⟩
/-- A row read at its cells. -/
theorem SlP.flatAt {w : World} {A : Option Addr} {n c : Nat} {ps : List (Int × Value)} (h : SlP w (.slice A n c) ps) (hne : ps ≠ []) : ∃ ad, A = some ad ∧ ∀ (i : Nat) (u : Value), (flat ps)[i]? = some u → w.cell? (ad.add i) = some u := by
 obtain ⟨A', c', e, h1, h2, h3⟩ := h
 injection e with e1 e2 e3
 subst e1; subst e2; subst e3
 obtain ⟨p0, hp0⟩ : ∃ p0, ps[0]? = some p0 := ⟨_, List.getElem?_eq_getElem (List.length_pos_iff.2 hne)⟩
 obtain ⟨g0, o0, rfl, _⟩ := h3 0 p0 hp0
 refine ⟨_, rfl, fun j a ha => ?_⟩
 obtain ⟨k, p, hp, h⟩ := flat_find ps j a ha
 obtain ⟨g', o', e, c0, c1⟩ := h3 k p hp
 injection e with e
 injection e with e1 e2
 subst e1; subst e2
 rw [addr_plus]
 rcases h with ⟨rfl, rfl⟩ | ⟨rfl, rfl⟩
 ·exact c0
 ·rw [← Nat.add_assoc]; exact c1
section
variable {P : Program}
theorem run_append_P {w : World} {base : Nat} {t ty e : TypeId} (hT : P.underlying t = some (.slice e)) (hI : ∃ i, P.info? e = some i ∧ i.zero = some (.agg #[.bool false, .slice none 0 0]) ∧ i.size = 2 ∧ i.bytes = 32) {v u : Value} {ps qs : List (Int × Value)} (hown : RowB e w base v ps) (hu : SlP w u qs) (h1 : allSl qs) (hlen : ps.length + qs.length ≤ 1000000000) (hbase : base ≤ w.heap.size) :
  ∃ v' w', (Builtin.append_ #[t, t] ty #[v, u]).run P w = .ok v' w' ∧ RowB e w' base v' (ps ++ qs) ∧ w.grownBy w' v.ownBlock ∧ (v'.ownBlock = v.ownBlock ∨ v'.ownBlock = some w.heap.size) := by
 obtain ⟨A, c, rfl, hc, hm⟩ := id hu
 by_cases hq : qs = []
 ·subst hq
  obtain ⟨i, hi, hz, hs, hb⟩ := hI
  have hcv : ∃ Av cv, v = .slice Av ps.length cv ∧ ps.length ≤ cv := by
   rcases hown.1.2 with ⟨e1, h0⟩ | ⟨g, cap, cur, e1, _, _, hn, _⟩
   ·exact ⟨none, 0, by rw [e1, h0], by omega⟩
   ·exact ⟨_, cap, e1, hn⟩
  obtain ⟨Av, cv, rfl, hcv⟩ := hcv
  refine ⟨_, w, ?_, by rw [List.append_nil]; exact hown, grown_refl _ _, .inl rfl⟩
  cases A <;> cases Av <;> simp [Builtin.append_, go_sem, run_underlying hT, sizeOf, typeInfo, hi, Builtin.lenOf, Builtin.firstCells, hcv, storeCells]
 ·obtain ⟨ad, rfl, hr⟩ := hu.flatAt hq
  exact run_append_B hT hI hown rfl (List.length_pos_iff.2 hq) hr h1 hlen hbase
theorem wp_append_P {w : World} {o : Oper} {a : Act} {K : Act → World → Prop} {Q : Exit → Act → World → Prop} (s x : Operand) {t : TypeId}
  (ho : o.op = .call { callee := .builtin .append, args := #[s, x], argTypes := #[t, t] })
  {base : Nat} {e : TypeId} (hT : P.underlying t = some (.slice e)) (hI : ∃ i, P.info? e = some i ∧ i.zero = some (.agg #[.bool false, .slice none 0 0]) ∧ i.size = 2 ∧ i.bytes = 32) {v u : Value} {ps qs : List (Int × Value)} (hs : a.eval s = v) (hown : RowB e w base v ps) (hx : a.eval x = u) (hu : SlP w u qs) (h1 : allSl qs) (hlen : ps.length + qs.length ≤ 1000000000) (hbase : base ≤ w.heap.size)
  (h : ∀ v' w', RowB e w' base v' (ps ++ qs) → Hid (w.grownBy w' v.ownBlock) → Hid (v'.ownBlock = v.ownBlock ∨ v'.ownBlock = some w.heap.size) → K (a.put o.dst v') w') : o.wp P a w K Q := by
 obtain ⟨v', w', hrun, h2, h3, h4⟩ := run_append_P (P := P) (ty := o.type) hT hI hown hu h1 hlen hbase
 unfold Oper.wp execOp
 simp only [ho, resolve, invoke, builtin, Sem.run_bind, Sem.run_pure, Result.andThen_ok, List.map_toArray, List.map_cons, List.map_nil, hs, hx, hrun]
 exact h v' w' h2 h3 h4
theorem step_append_P {w : World} {ops : Array Oper} {o : Oper} {a : Act} {K : Act → World → Prop} {Q : Exit → Act → World → Prop} {E : Prop} (hgd : o.guard = none) (s x : Operand) {t : TypeId}
  (ho : o.op = .call { callee := .builtin .append, args := #[s, x], argTypes := #[t, t] })
  {base : Nat} {e : TypeId} (hT : P.underlying t = some (.slice e)) (hI : ∃ i, P.info? e = some i ∧ i.zero = some (.agg #[.bool false, .slice none 0 0]) ∧ i.size = 2 ∧ i.bytes = 32) {v u : Value} {ps qs : List (Int × Value)} (hs : a.eval s = v) (hown : RowB e w base v ps) (hx : a.eval x = u) (hu : SlP w u qs) (h1 : allSl qs) (hlen : ps.length + qs.length ≤ 1000000000) (hbase : base ≤ w.heap.size)
  (h : ∀ v' w', RowB e w' base v' (ps ++ qs) → Hid (w.grownBy w' v.ownBlock) → Hid (v'.ownBlock = v.ownBlock ∨ v'.ownBlock = some w.heap.size) → K (a.put o.dst v') w') :
  if Region.wanted o (yielded ops a.tmps) = true then Oper.wp P o a w K Q else E := by
 have hw : Region.wanted o (yielded ops a.tmps) = true := by simp [Region.wanted, hgd]
 rw [if_pos hw]
 exact wp_append_P s x ho hT hI hs hown hx hu h1 hlen hbase h
end
/-- A row of the call's own, as pairs. -/
theorem RowB.slP {e : TypeId} {w : World} {base : Nat} {v : Value} {ps : List (Int × Value)} (h : RowB e w base v ps) : SlP w v ps := by
 rcases h.1.2 with ⟨rfl, h0⟩ | ⟨g, cap, cur, rfl, _, hg, hn, hm, _, _⟩
 ·obtain rfl : ps = [] := List.length_eq_zero_iff.1 h0
  exact ⟨none, 0, rfl, Nat.le_refl _, Nat.zero_le _, fun i p hp => by simp at hp⟩
 ·refine ⟨some ⟨g, 0, none⟩, cap, rfl, hn, hm, fun i p hp => ?_⟩
  obtain ⟨f0, f1⟩ := flat_at ps i p hp
  have k0 := World.ownsRow.cells h.1 (g := g) rfl _ _ f0
  have k1 := World.ownsRow.cells h.1 (g := g) rfl _ _ f1
  rw [addr_zero] at k0 k1
  exact ⟨g, 0, rfl, by rw [Nat.zero_add]; exact k0, by rw [Nat.zero_add]; exact k1⟩
/-! A number written in place. -/
section
variable {w : World} {g o : Nat} {b0 : Bool} {A0 : Option Addr} {n0 c0 : Nat} {x y : Value}
end
def sumI : Nat → (Nat → Int) → Int
 | 0, _ => 0
 | n + 1, f => sumI n f + f n
theorem sumI_cast : ∀ (n : Nat) (f : Nat → Int), ((sumI n f : Int) : Rat) = sumN n (fun i => (f i : Rat))
  | 0, f => rfl
  | n + 1, f => by
    show ((sumI n f + f n : Int) : Rat) = sumN n _ + (f n : Rat)
    rw [Rat.intCast_add, sumI_cast n f]
theorem sumI_congr : ∀ {n : Nat} {f g : Nat → Int}, (∀ i, i < n → f i = g i) → sumI n f = sumI n g
  | 0, _, _, _ => rfl
  | n + 1, f, g, h => by
    show sumI n f + f n = sumI n g + g n
    rw [sumI_congr (fun i hi => h i (by omega)), h n (by omega)]
theorem lenZ_sumI {L : Nat} {f : Nat → Int} : ∀ j : Nat, (∀ c, c < j → lenZ (f c) ≤ L) → lenZ (sumI j f) ≤ L + j
  | 0, _ => by show lenZ 0 ≤ _; rw [lenZ_zero]; omega
  | j + 1, h => by
    have h1 := lenZ_sumI j (fun c hc => h c (by omega))
    have h2 := h j (by omega)
    exact lenZ_add_max (m := L + j) h1 (by omega)
def sgI (j : Nat) : Int := if j % 2 = 0 then 1 else -1
theorem sgI_cast (j : Nat) : ((sgI j : Int) : Rat) = sgN j := by
 unfold sgI sgN
 split
 ·rfl
 ·rfl
theorem lenZ_sgI {x : Int} {m : Nat} (j : Nat) (h : lenZ x ≤ m) : lenZ (sgI j * x) ≤ m := by
 unfold sgI
 split
 ·rw [Int.one_mul]; exact h
 ·rw [show (-1 : Int) * x = -x by omega]; exact lenZ_neg_le h
def minJ (M : Nat → Nat → Int) (j : Nat) : Nat → Nat → Int := fun i c => M (i + 1) (skipN j c)
def detI : Nat → (Nat → Nat → Int) → Int
 | 0, _ => 1
 | n + 1, M => sumI (n + 1) (fun j => sgI j * M 0 j * detI n (minJ M j))
theorem detI_cast : ∀ (n : Nat) (M : Nat → Nat → Int), ((detI n M : Int) : Rat) = detF n (qF M)
  | 0, M => rfl
  | n + 1, M => by
    show ((sumI (n + 1) _ : Int) : Rat) = sumN (n + 1) _
    rw [sumI_cast]
    refine sumN_congr fun j hj => ?_
    rw [Rat.intCast_mul, Rat.intCast_mul, sgI_cast, detI_cast n (minJ M j)]
    rfl
theorem detI_congr : ∀ (n : Nat) {M M' : Nat → Nat → Int}, (∀ i j, i < n → j < n → M i j = M' i j) → detI n M = detI n M'
  | 0, _, _, _ => rfl
  | n + 1, M, M', h => sumI_congr fun j hj => by
    rw [h 0 j (by omega) hj, detI_congr n (M := minJ M j) (M' := minJ M' j) (fun i c hi hc => h (i + 1) _ (by omega) (skipN_lt hc))]
def dZ (S : Nat) : Nat → Nat
 | 0 => 1
 | n + 1 => S + dZ S n + (n + 1)
theorem lenZ_det {S : Nat} : ∀ (n : Nat) {M : Nat → Nat → Int}, (∀ i j, i < n → j < n → lenZ (M i j) ≤ S) → lenZ (detI n M) ≤ dZ S n
  | 0, _, _ => lenZ_one
  | n + 1, M, h => by
    refine lenZ_sumI (n + 1) (fun c hc => ?_)
    rw [Int.mul_assoc]
    exact lenZ_sgI c (lenZ_mul_le (h 0 c (by omega) hc) (lenZ_det n (fun i j hi hj => h _ _ (by omega) (skipN_lt hj))))
/-! What is left without the first row and one place. -/
def minRZ (r : List Int) (j : Nat) : List Int := r.take j ++ r.drop (j + 1)
def minTZ (T : List (List Int)) (j : Nat) : List (List Int) := (T.drop 1).map fun r => minRZ r j
theorem minRZ_len {r : List Int} {j n : Nat} (h : r.length = n + 1) (hj : j < n + 1) : (minRZ r j).length = n := by
 unfold minRZ
 rw [List.length_append, List.length_take, List.length_drop]
 omega
theorem minTZ_len (T : List (List Int)) (j : Nat) : (minTZ T j).length = T.length - 1 := by unfold minTZ; rw [List.length_map, List.length_drop]
theorem minTZ_at {T : List (List Int)} {i j : Nat} {r : List Int} (h : T[i + 1]? = some r) : (minTZ T j)[i]? = some (minRZ r j) := by
 unfold minTZ
 rw [List.getElem?_map, List.getElem?_drop, Nat.add_comm, h]
 rfl
theorem minTZ_sh {T : List (List Int)} {n j : Nat} (h : shI T (n + 1) (n + 1)) (hj : j < n + 1) : shI (minTZ T j) n n := by
 refine ⟨by rw [minTZ_len, h.1]; omega, fun r hr => ?_⟩
 unfold minTZ at hr
 obtain ⟨x, hx, rfl⟩ := List.mem_map.1 hr
 exact minRZ_len (h.2 x (List.mem_of_mem_drop hx)) hj
theorem minRZ_getD {r : List Int} {j c : Nat} (hj : j < r.length) : (minRZ r j).getD c 0 = r.getD (skipN j c) 0 := by
 unfold minRZ skipN
 rw [List.getD_eq_getElem?_getD, List.getD_eq_getElem?_getD]
 have hl : (r.take j).length = j := by rw [List.length_take]; omega
 by_cases h : c < j
 ·rw [if_pos h, List.getElem?_append_left (by omega), List.getElem?_take_of_lt h]
 ·rw [if_neg h, List.getElem?_append_right (by omega), hl, List.getElem?_drop, show j + 1 + (c - j) = c + 1 by omega]
theorem minTZ_ent {T : List (List Int)} {n j i c : Nat} (h : shI T (n + 1) (n + 1)) (hj : j < n + 1) (hi : i < n) : entI (minTZ T j) i c = minJ (entI T) j i c := by
 obtain ⟨r, hr, hl⟩ := rowI_ex h (show i + 1 < n + 1 by omega)
 rw [entI_row (minTZ_at hr)]
 unfold minJ
 rw [entI_row hr, minRZ_getD (by omega)]
theorem lenI_min {T : List (List Int)} {m j : Nat} (h : lenI T m) : lenI (minTZ T j) m := by
 intro r hr x hx
 unfold minTZ at hr
 obtain ⟨y, hy, rfl⟩ := List.mem_map.1 hr
 unfold minRZ at hx
 rcases List.mem_append.1 hx with hx | hx
 ·exact h y (List.mem_of_mem_drop hy) x (List.mem_of_mem_take hx)
 ·exact h y (List.mem_of_mem_drop hy) x (List.mem_of_mem_drop hx)
theorem detI_min {T : List (List Int)} {n j : Nat} (h : shI T (n + 1) (n + 1)) (hj : j < n + 1) : detI n (entI (minTZ T j)) = detI n (minJ (entI T) j) := detI_congr n fun i c hi _ => minTZ_ent h hj hi
theorem entI_at {T : List (List Int)} {n C i j : Nat} (h : shI T n C) (hi : i < n) (hj : j < C) : ∃ r, T[i]? = some r ∧ r.length = C ∧ r[j]? = some (entI T i j) := by
 obtain ⟨r, hr, hl⟩ := rowI_ex h hi
 refine ⟨r, hr, hl, ?_⟩
 rw [entI_row hr, List.getD_eq_getElem?_getD, List.getElem?_eq_getElem (by omega)]; rfl
theorem entI_len {T : List (List Int)} {n C m i j : Nat} (hs : shI T n C) (h : lenI T m) (hi : i < n) (hj : j < C) : lenZ (entI T i j) ≤ m := by
 obtain ⟨r, hr, _, hq⟩ := entI_at hs hi hj
 exact h r (List.mem_of_getElem? hr) _ (List.mem_of_getElem? hq)
/-! A table times another one. -/
/-! A place put in another's stead. -/
end Go.Proofs.Yteijlcfhenlanaa.rat
namespace Go.Proofs.Yteijlcfhenlanaa.rat
open Go.RowKit Go.Shelf Go.Proofs.Yteijlcfhenlanaa.num Go.Proofs.Yteijlcfhenlanaa.mem Go.Proofs.Yteijlcfhenlanaa.nat Go.Proofs.Yteijlcfhenlanaa.txt Go.Proofs.Yteijlcfhenlanaa.str Go.Proofs.Yteijlcfhenlanaa.flow Go.Proofs.Yteijlcfhenlanaa.whl
set_option linter.unusedVariables false
set_option linter.unusedSimpArgs false
section
variable {P : Program}
theorem step_append_S {w : World} {ops : Array Oper} {o : Oper} {a : Act} {K : Act → World → Prop} {Q : Exit → Act → World → Prop} {E : Prop} (hgd : o.guard = none) (s x : Operand) {t : TypeId}
  (ho : o.op = .call { callee := .builtin .append, args := #[s, x], argTypes := #[t, t] })
  {base : Nat} {e : TypeId} (hT : P.underlying t = some (.slice e)) (hI : ∃ i, P.info? e = some i ∧ i.zero = some (.slice none 0 0) ∧ i.size = 1 ∧ i.bytes = 24) {v : Value} {vs news : List Value} (hs : a.eval s = v) (hown : RowX isSl w base e v vs) {ad : Addr} {m c : Nat} (hx : a.eval x = .slice (some ad) m c) (hm : m = news.length) (hm0 : 0 < m)
  (hr : ∀ (i : Nat) (u : Value), news[i]? = some u → w.cell? (ad.add i) = some u) (h1 : ∀ u ∈ news, isSl u) (hlen : vs.length + m ≤ 1000000000) (hbase : base ≤ w.heap.size)
  (h : ∀ v' w', RowX isSl w' base e v' (vs ++ news) → Hid (w.grownBy w' v.ownBlock) → Hid (v'.ownBlock = v.ownBlock ∨ v'.ownBlock = some w.heap.size) → K (a.put o.dst v') w') :
  if Region.wanted o (yielded ops a.tmps) = true then Oper.wp P o a w K Q else E := by
 have hw : Region.wanted o (yielded ops a.tmps) = true := by simp [Region.wanted, hgd]
 rw [if_pos hw]
 exact wp_append_S s x ho hT hI hs hown hx hm hm0 hr h1 hlen hbase h
end
/-! What is left without the first row and one place. -/
theorem take_nextD {α : Type} {l : List α} {k : Nat} {x : α} (h : l[k]? = some x) : l.take (k + 1) = l.take k ++ [x] := by rw [List.take_add_one, h]; rfl
theorem SlW.drew {k : IntKind} {B : Nat} {w : World} {v : Value} {t : List (List Int)} (h : SlW k B w v t) : SlW k B w.drew v t := h.below (Below.refl _ w).drew
/-- A table of whole numbers that a call makes by append. -/
structure TabZI (k : IntKind) (B : Nat) (e : TypeId) (w : World) (base : Nat) (V : Value) (us : List Value) (K : List (List Int)) : Prop where
 row : RowX isSl w base e V us
 len : us.length = K.length
 own : ∀ (i : Nat) (u : Value) (r : List Int), us[i]? = some u → K[i]? = some r → SlZ k B w u r
section
variable {k : IntKind} {B : Nat} {e : TypeId}
theorem TabZI.below {w w' : World} {base : Nat} {V : Value} {us : List Value} {K : List (List Int)} (h : TabZI k B e w base V us K) (hb : Below w.heap.size w w') : TabZI k B e w' base V us K := ⟨h.row.below hb, h.len, fun i u r hu hr => (h.own i u r hu hr).below hb⟩
theorem TabZI.snoc {w w' : World} {base : Nat} {V V' u : Value} {us : List Value} {K : List (List Int)} {r : List Int} (h : TabZI k B e w base V us K) (h' : RowX isSl w' base e V' (us ++ [u])) (hg : w.grownBy w' V.ownBlock) (hu : SlZ k B w u r) : TabZI k B e w' base V' (us ++ [u]) (K ++ [r]) := by
 refine ⟨h', by simp [h.len], fun i a b ha hb => ?_⟩
 by_cases hi : i < us.length
 ·rw [List.getElem?_append_left hi] at ha
  rw [List.getElem?_append_left (by rw [← h.len]; exact hi)] at hb
  exact h.row.keepZ hg (h.own i a b ha hb)
 ·rw [List.getElem?_append_right (by omega)] at ha
  rw [List.getElem?_append_right (by rw [← h.len]; omega), ← h.len] at hb
  rcases hj : i - us.length with _ | j
  ·rw [hj] at ha hb
   obtain rfl : u = a := by simpa using ha
   obtain rfl : r = b := by simpa using hb
   exact h.row.keepZ hg hu
  ·rw [hj] at ha
   simp at ha
theorem TabZI.slW {w : World} {base : Nat} {V : Value} {us : List Value} {K : List (List Int)} (h : TabZI k B e w base V us K) : SlW k B w V K := rowX_slW h.row h.len h.own
theorem TabZI.nil (w : World) (base : Nat) (hb : base ≤ w.heap.size) : TabZI k B e (w.alloc (.cells #[] e)) base (.slice (some ⟨w.heap.size, 0, none⟩) 0 0) [] [] := ⟨rowX_lit0 isSl w base e hb, rfl, fun i u r hu => by simp at hu⟩
end
/-- The document's determinant of tables of so many rows. -/
def DetJ (n : Nat) : Prop := ∀ (a0 : Value) (T : List (List Int)) (w : World), SlW .i64 10000 w a0 T → shI T n n → lenI T 2 → Calls Try.prog 14 #[a0] w (RetR (detI n (entI T)) w)
set_option maxHeartbeats 1600000 in
set_option maxRecDepth 100000 in
theorem detJ_zero : DetJ 0 := by
 intro a0 T w h0 hs hl
 obtain ⟨A0, c0, rfl, hc0, hm0⟩ := h0.shape
 obtain rfl : T = [] := List.length_eq_zero_iff.1 hs.1
 obtain ⟨Z, hZ⟩ : ∃ Z : Int, Z = 1 := ⟨_, rfl⟩
 have CN : ∀ w, Calls Try.prog 31 #[.int .i64 1] w (RetR Z w) := fun w => by rw [hZ]; exact rnum7_any 1 w (by omega) (by omega)
 have HV : Hid (detI 0 (entI []) = Z) := hZ.symm
 have ba0 := below_alloc (w := w) (Nat.le_refl _) (.cells #[.bool false, .slice none 0 0] 41)
 have BR0 := Blk.new w 41 #[.bool false, .slice none 0 0]
 clear hZ
 go_enter Try.func14, Try.ntmps14
 go_wp2_with fail
 refine (CN _).mono ?_
 rintro e w2 ⟨v2, rfl, k2, b2⟩
 obtain ⟨u2, rfl, s2⟩ := k2
 obtain ⟨A2, c2, rfl, _⟩ := id s2
 have BR2 := BR0.below b2
 have b02 := ba0.trans (b2.mono ba0.size)
 obtain ⟨X0, X1, F0, F1⟩ := Blk.two BR2
 have G7 := grown_set2 w2 w.heap.size (.bool (ngB Z)) (.slice A2 (digs 10000 Z.natAbs).length c2)
 have B7 := blk_set2 BR2 (.bool (ngB Z)) (.slice A2 (digs 10000 Z.natAbs).length c2)
 have s7 := Go.Proofs.Yteijlcfhenlanaa.flow.off s2 BR2 no_ints2 G7
 have b27 := b02.grown G7 b02.size (fun k e => by cases e; exact Nat.le_refl _)
 obtain ⟨C0, C1, _, _⟩ := Blk.two B7
 clear s2 BR2 BR0
 go_wp2
 refine bodyPost_ret (v := .agg #[.bool (ngB Z), .slice A2 (digs 10000 Z.natAbs).length c2]) (by simp [results, Try.results14, go_sem, C0, C1]) rfl ?_
 rw [HV.out]
 exact ⟨_, rfl, ⟨_, rfl, s7⟩, b27⟩
set_option maxHeartbeats 6400000 in
set_option maxRecDepth 100000 in
theorem detJ_succ (n : Nat) (hn : n ≤ 3) (ih : DetJ n) : DetJ (n + 1) := by
 intro a0 T w h0 hs hl
 obtain ⟨N, hN⟩ : ∃ N, N = T.length := ⟨_, rfl⟩
 have hN1 : N = n + 1 := by rw [hN]; exact hs.1
 obtain ⟨A0, c0, rfl, hc0, hm0⟩ := h0.shape
 rw [← hN] at h0 hc0 ⊢
 have hNp : 0 < N := by omega
 have hN4 : N ≤ 4 := by omega
 have hTne : T ≠ [] := fun e => by rw [e] at hN; simp at hN; omega
 obtain ⟨ad, rfl⟩ := h0.place hTne
 have HN := Lib.hid (And.intro hN hN1)
 have HST := Lib.hid h0
 have HS := Lib.hid hs
 have HL := Lib.hid hl
 obtain ⟨F, hF⟩ : ∃ F : Nat → Int, F = fun c => sgI c * entI T 0 c * detI n (minJ (entI T) c) := ⟨_, rfl⟩
 have HF := Lib.hid hF
 have hdZ : dZ 2 n ≤ 13 := by
  rcases (by omega : n = 0 ∨ n = 1 ∨ n = 2 ∨ n = 3) with rfl | rfl | rfl | rfl <;> decide
 have HFL : Hid (∀ c, c < N → lenZ (F c) ≤ 15) := by
  show ∀ c, _
  intro c hc
  rw [hF]
  show lenZ (sgI c * entI T 0 c * detI n (minJ (entI T) c)) ≤ 15
  rw [Int.mul_assoc]
  have h1 := lenZ_det (S := 2) n (M := minJ (entI T) c) (fun i j hi hj => entI_len hs hl (by omega) (skipN_lt hj))
  have h2 := entI_len hs hl (show 0 < n + 1 by omega) (show c < n + 1 by omega)
  exact lenZ_sgI c (Nat.le_trans (lenZ_mul_le h2 h1) (by omega))
 have HDZ := Lib.hid hdZ
 obtain ⟨Z, hZ⟩ : ∃ Z : Int, Z = 0 := ⟨_, rfl⟩
 have CN : ∀ w, Calls Try.prog 31 #[.int .i64 0] w (RetR Z w) := fun w => by rw [hZ]; exact rnum7_any 0 w (by omega) (by omega)
 have HZ : Hid (Z = sumI 0 F) := hZ
 have ba0 := below_alloc (w := w) (Nat.le_refl _) (.cells #[.bool false, .slice none 0 0] 41)
 have BR0 := Blk.new w 41 #[.bool false, .slice none 0 0]
 have hs1 : (w.alloc (.cells #[.bool false, .slice none 0 0] 41)).heap.size = w.heap.size + 1 := by first | rfl | exact Array.size_push _
 clear hZ hF hN hN1 hs hl h0 hTne hm0 hdZ
 go_enter Try.func14, Try.ntmps14
 go_wp2_with fail
 refine (CN _).mono ?_
 rintro e w2 ⟨v2, rfl, k2, b2⟩
 obtain ⟨u2, rfl, s2⟩ := k2
 obtain ⟨A2, c2, rfl, _⟩ := id s2
 have ba2 := below_alloc (w := w2) (Nat.le_refl _) (.cells #[.bool (ngB Z), .slice A2 (digs 10000 Z.natAbs).length c2] 41)
 have BP0 := Blk.new w2 41 #[.bool (ngB Z), .slice A2 (digs 10000 Z.natAbs).length c2]
 have BR2 := (BR0.below b2).below ba2
 have b01 := ba0.trans (b2.mono ba0.size)
 have HB0 : Hid (Below w.heap.size w _) := b01.trans (ba2.mono b01.size)
 have hg2 : w.heap.size < w2.heap.size := by have := b2.size; omega
 have s20 := s2.below ba2
 clear s2 BR0 ba0 ba2 b01 b2 hs1
 go_wp2
 go_loopw [4] (fun v4 wr => ∃ (j : Nat) (s : Int) (u : Value), j ≤ N ∧ Hid (s = sumI j F) ∧ Blk wr w2.heap.size 41 #[.bool (ngB s), u] ∧ IsS wr .i64 u (digs 10000 s.natAbs) ∧ Blk wr w.heap.size 41 #[.bool false, .slice none 0 0] ∧ Hid (Below w.heap.size w wr) ∧ v4 = .int .i64 (j : Int)) (fun v4 _ => N - (intOf v4).toNat)
 case atStart => exact ⟨0, Z, _, by omega, HZ, BP0, s20, BR2, HB0, rfl⟩
 case round =>
  clear BP0 s20 BR2 HB0 CN
  obtain ⟨j, s, u, hj, HSU, BP, su, BR, HB, rfl⟩ := hrel
  obtain ⟨Au, cu, rfl, _⟩ := id su
  obtain ⟨wj, hwj⟩ : ∃ wj, wj = wr := ⟨_, rfl⟩
  subst hwj
  by_cases hlt : j < N
  ·have ba5 := below_alloc (w := wj) (Nat.le_refl _) (.cells #[] 43)
   have TG5 : TabZI .i64 10000 43 (wj.alloc (.cells #[] 43)) wj.heap.size (.slice (some ⟨wj.heap.size, 0, none⟩) 0 0) [] ((minTZ T j).take (1 - 1)) := TabZI.nil wj wj.heap.size (Nat.le_refl _)
   go_wp2
   go_loopw [5, 6] (fun v5 v6 wr => ∃ (i : Nat) (us : List Value), 1 ≤ i ∧ i ≤ N ∧ TabZI .i64 10000 43 wr wj.heap.size v5 us ((minTZ T j).take (i - 1)) ∧ Hid (Below wj.heap.size wj wr) ∧ v6 = .int .i64 (i : Int)) (fun _ v6 _ => N - (intOf v6).toNat)
   case atStart => exact ⟨1, [], by omega, by omega, TG5, ba5, rfl⟩
   case round =>
     clear TG5 ba5
     obtain ⟨i, us, hi1, hiN, TG, HBi, rfl⟩ := hrel
     obtain ⟨wi, hwi⟩ : ∃ wi, wi = wr := ⟨_, rfl⟩
     subst hwi
     obtain ⟨A5, c5, e5⟩ := RowV.slice TG.row.1
     subst e5
     by_cases hil : i < N
     ·obtain ⟨ri, hri, hril⟩ := rowI_ex HS.out (show i < n + 1 by have := HN.out.2; omega)
      obtain ⟨Ari, ci, hiN2, ecj, sri⟩ := (HST.out.below HB.out).at2 hri
      have hjr : j + 1 ≤ ri.length := by have := HN.out.2; omega
      obtain ⟨gi, oi, rfl, -⟩ := sri.place (fun e => by rw [e] at hjr; simp at hjr)
      have hcs : ri.length ≤ ci ∧ ci ≤ maxLen := by obtain ⟨A', c', e, h1, h2⟩ := sri.shape; injection e with _ _ e; subst e; exact ⟨h1, h2⟩
      obtain ⟨hrc, hcm⟩ := hcs
      obtain ⟨psi, hpm, hVF, hIE⟩ := sri.pairs
      have hpl : psi.length = ri.length := by rw [← hpm, List.length_map]
      obtain ⟨J1, hJ1⟩ : ∃ J1 : Nat, J1 = j + 1 := ⟨_, rfl⟩
      obtain ⟨A2, hA2⟩ : ∃ A2 : Option Addr, A2 = if ci = J1 then some ⟨gi, oi, none⟩ else some ⟨gi, oi + J1 * 2, none⟩ := ⟨_, rfl⟩
      have VTo := hVF.cutTo (show j ≤ psi.length by omega)
      have VFrom := hVF.cutFrom (k := J1) (A := A2) (by omega) (fun h => by rw [hA2, if_neg (by omega)])
      have hone1 := (hIE.take j).sl
      have hone2 := (hIE.drop J1).sl
      have hlen1 : ([] : List (Int × Value)).length + (psi.take j).length ≤ 1000000000 := by rw [List.length_take, List.length_nil]; unfold maxLen at hcm; omega
      have hlen2 : ([] ++ psi.take j : List (Int × Value)).length + (psi.drop J1).length ≤ 1000000000 := by rw [List.nil_append, List.length_take, List.length_drop]; unfold maxLen at hcm; omega
      have bdi := (Below.refl wi.heap.size wi).drew
      have HBd0 : Hid (Below wj.heap.size wj wi.drew) := HBi.out.drew
      have baL0 := below_alloc (w := wi.drew) (Nat.le_refl _) (.cells #[] 41)
      have RL := rowB_lit0 41 wi.drew wi.drew.heap.size (Nat.le_refl _)
      have baL : Below wj.heap.size wj (wi.drew.alloc (.cells #[] 41)) := HBd0.out.trans (baL0.mono HBd0.out.size)
      have HRI := Lib.hid (And.intro hri hpm)
      have HIE := Lib.hid hIE
      have hjc : ¬ ci < j := by omega
      have hjc2 : ¬ ci < J1 := by omega
      have hjc3 : ¬ ri.length < J1 := by omega
      have hA3 := hA2.symm
      have hwr : IntKind.i64.wrap ((j : Int) + 1) = (J1 : Int) := by
       have h1 : ((j : Int) + 1) = (J1 : Int) := by omega
       rw [h1]
       exact Go.IntWalk.i64_in _ (by omega)
      have HJ1 := Lib.hid hJ1
      clear hri hpm hVF hIE hril hA2 hJ1
      go_upto_region 11 with (fail)
      refine wp_region_held_drew (S := fun w' : World => Below wj.heap.size wj w') (by kernel_rfl) HBd0.out (fun hHeld => ?_)
      refine wpAnyH_take (i := 0) (v := .slice A5 us.length c5) rfl (by kernel_rfl) (by kernel_rfl) (by kernel_rfl) (fun _ _ _ h => h) (Or.inl ⟨by kernel_rfl, fun w hSw => by (go_simp; first | done | with_reducible rfl)⟩) hHeld ?_
      simp only [Act.put, List.getElem_toArray, List.getElem_cons_zero, List.getElem_cons_succ, List.setIfInBounds_toArray, List.set_cons_zero, List.set_cons_succ]
      refine wpAnyH_take (i := 2) (v := .slice (some ad) N c0) rfl (by kernel_rfl) (by kernel_rfl) (by kernel_rfl) (fun _ _ _ h => h) (Or.inl ⟨by kernel_rfl, fun w hSw => by (go_simp; first | done | with_reducible rfl)⟩) hHeld ?_
      simp only [Act.put, List.getElem_toArray, List.getElem_cons_zero, List.getElem_cons_succ, List.setIfInBounds_toArray, List.set_cons_zero, List.set_cons_succ]
      refine wpAnyH_take (i := 3) (v := .int .i64 (i : Int)) rfl (by kernel_rfl) (by kernel_rfl) (by kernel_rfl) (fun _ _ _ h => h) (Or.inl ⟨by kernel_rfl, fun w hSw => by (go_simp; first | done | with_reducible rfl)⟩) hHeld ?_
      simp only [Act.put, List.getElem_toArray, List.getElem_cons_zero, List.getElem_cons_succ, List.setIfInBounds_toArray, List.set_cons_zero, List.set_cons_succ]
      refine wpAnyH_take (i := 4) (v := .pointer (some (ad.add i))) rfl (by kernel_rfl) (by kernel_rfl) (by kernel_rfl) (fun _ _ _ h => h) (Or.inl ⟨by kernel_rfl, fun w hSw => by (go_simp; first | done | with_reducible rfl)⟩) hHeld ?_
      simp only [Act.put, List.getElem_toArray, List.getElem_cons_zero, List.getElem_cons_succ, List.setIfInBounds_toArray, List.set_cons_zero, List.set_cons_succ]
      refine wpAnyH_take (i := 5) (v := .slice (some ⟨gi, oi, none⟩) ri.length ci) rfl (by kernel_rfl) (by kernel_rfl) (by kernel_rfl) (fun _ _ _ h => h) (Or.inl ⟨by kernel_rfl, fun w hSw => by (have hBw : Below wj.heap.size wj w := hSw; have f0 := (hBw.cell (World.block_lt_of_cell? _ _ ecj)).trans ecj; go_simp; first | done | with_reducible rfl)⟩) hHeld ?_
      simp only [Act.put, List.getElem_toArray, List.getElem_cons_zero, List.getElem_cons_succ, List.setIfInBounds_toArray, List.set_cons_zero, List.set_cons_succ]
      refine wpAnyH_take (i := 6) (v := .int .i64 (j : Int)) rfl (by kernel_rfl) (by kernel_rfl) (by kernel_rfl) (fun _ _ _ h => h) (Or.inl ⟨by kernel_rfl, fun w hSw => by (go_simp; first | done | with_reducible rfl)⟩) hHeld ?_
      simp only [Act.put, List.getElem_toArray, List.getElem_cons_zero, List.getElem_cons_succ, List.setIfInBounds_toArray, List.set_cons_zero, List.set_cons_succ]
      refine wpAnyH_take (i := 7) (v := .slice (some ⟨gi, oi, none⟩) j ci) rfl (by kernel_rfl) (by kernel_rfl) (by kernel_rfl) (fun _ _ _ h => h) (Or.inl ⟨by kernel_rfl, fun w hSw => by (go_simp; first | done | with_reducible rfl)⟩) hHeld ?_
      simp only [Act.put, List.getElem_toArray, List.getElem_cons_zero, List.getElem_cons_succ, List.setIfInBounds_toArray, List.set_cons_zero, List.set_cons_succ]
      refine wpAnyH_take (i := 9) (v := .slice (some ad) N c0) rfl (by kernel_rfl) (by kernel_rfl) (by kernel_rfl) (fun _ _ _ h => h) (Or.inl ⟨by kernel_rfl, fun w hSw => by (go_simp; first | done | with_reducible rfl)⟩) hHeld ?_
      simp only [Act.put, List.getElem_toArray, List.getElem_cons_zero, List.getElem_cons_succ, List.setIfInBounds_toArray, List.set_cons_zero, List.set_cons_succ]
      refine wpAnyH_take (i := 10) (v := .int .i64 (i : Int)) rfl (by kernel_rfl) (by kernel_rfl) (by kernel_rfl) (fun _ _ _ h => h) (Or.inl ⟨by kernel_rfl, fun w hSw => by (go_simp; first | done | with_reducible rfl)⟩) hHeld ?_
      simp only [Act.put, List.getElem_toArray, List.getElem_cons_zero, List.getElem_cons_succ, List.setIfInBounds_toArray, List.set_cons_zero, List.set_cons_succ]
      refine wpAnyH_take (i := 11) (v := .pointer (some (ad.add i))) rfl (by kernel_rfl) (by kernel_rfl) (by kernel_rfl) (fun _ _ _ h => h) (Or.inl ⟨by kernel_rfl, fun w hSw => by (go_simp; first | done | with_reducible rfl)⟩) hHeld ?_
      simp only [Act.put, List.getElem_toArray, List.getElem_cons_zero, List.getElem_cons_succ, List.setIfInBounds_toArray, List.set_cons_zero, List.set_cons_succ]
      refine wpAnyH_take (i := 12) (v := .slice (some ⟨gi, oi, none⟩) ri.length ci) rfl (by kernel_rfl) (by kernel_rfl) (by kernel_rfl) (fun _ _ _ h => h) (Or.inl ⟨by kernel_rfl, fun w hSw => by (have hBw : Below wj.heap.size wj w := hSw; have f0 := (hBw.cell (World.block_lt_of_cell? _ _ ecj)).trans ecj; go_simp; first | done | with_reducible rfl)⟩) hHeld ?_
      simp only [Act.put, List.getElem_toArray, List.getElem_cons_zero, List.getElem_cons_succ, List.setIfInBounds_toArray, List.set_cons_zero, List.set_cons_succ]
      refine wpAnyH_take (i := 13) (v := .int .i64 (j : Int)) rfl (by kernel_rfl) (by kernel_rfl) (by kernel_rfl) (fun _ _ _ h => h) (Or.inl ⟨by kernel_rfl, fun w hSw => by (go_simp; first | done | with_reducible rfl)⟩) hHeld ?_
      simp only [Act.put, List.getElem_toArray, List.getElem_cons_zero, List.getElem_cons_succ, List.setIfInBounds_toArray, List.set_cons_zero, List.set_cons_succ]
      refine wpAnyH_take (i := 14) (v := .int .i64 (J1 : Int)) rfl (by kernel_rfl) (by kernel_rfl) (by kernel_rfl) (fun _ _ _ h => h) (Or.inl ⟨by kernel_rfl, fun w hSw => by (go_simp; first | done | with_reducible rfl)⟩) hHeld ?_
      simp only [Act.put, List.getElem_toArray, List.getElem_cons_zero, List.getElem_cons_succ, List.setIfInBounds_toArray, List.set_cons_zero, List.set_cons_succ]
      refine wpAnyH_take (i := 15) (v := .slice A2 (ri.length - J1) (ci - J1)) rfl (by kernel_rfl) (by kernel_rfl) (by kernel_rfl) (fun _ _ _ h => h) (Or.inl ⟨by kernel_rfl, fun w hSw => by (go_simp; first | done | with_reducible rfl)⟩) hHeld ?_
      simp only [Act.put, List.getElem_toArray, List.getElem_cons_zero, List.getElem_cons_succ, List.setIfInBounds_toArray, List.set_cons_zero, List.set_cons_succ]
      refine wpAnyH_ready (rs := [1]) (by kernel_rfl) (by simp) ?_
      refine AllReadyH.cons rfl (fun K hK => ?_) AllReadyH.nil
      go_simp
      refine hK.out _ _ (by exact baL) (fun hHeld => ?_)
      clear hK K
      try simp only [Act.put, List.getElem_toArray, List.getElem_cons_zero, List.getElem_cons_succ, List.setIfInBounds_toArray, List.set_cons_zero, List.set_cons_succ]
      refine wpAnyH_ready (rs := [8]) (by kernel_rfl) (by simp) ?_
      refine AllReadyH.cons rfl (fun K hK => ?_) AllReadyH.nil
      refine step_append_P rfl (.tmp 27) (.tmp 33) rfl Try.underlying43 info_zdoc rfl RL rfl (VTo.below baL) hone1 hlen1 baL0.size ?_
      intro v8 w8 RF8 HG8 HK8
      have b8 := RL.bel HG8.out baL0.size
      have b08 := baL.trans (b8.mono HBd0.out.size)
      refine hK.out _ _ (by exact b08) (fun hHeld => ?_)
      clear hK K
      try simp only [Act.put, List.getElem_toArray, List.getElem_cons_zero, List.getElem_cons_succ, List.setIfInBounds_toArray, List.set_cons_zero, List.set_cons_succ]
      refine wpAnyH_ready (rs := [16]) (by kernel_rfl) (by simp) ?_
      refine AllReadyH.cons rfl (fun K hK => ?_) AllReadyH.nil
      refine step_append_P rfl (.tmp 34) (.tmp 41) rfl Try.underlying43 info_zdoc rfl RF8 rfl (VFrom.below b08) hone2 hlen2 (Nat.le_trans baL0.size b8.size) ?_
      intro v9 w9 RF9 HG9 HK9
      have b9 := RF8.bel HG9.out (Nat.le_trans baL0.size b8.size)
      have b09 := b08.trans (b9.mono HBd0.out.size)
      obtain ⟨A9, c9, rfl⟩ := RF9.slice
      obtain ⟨m9, hm9⟩ : ∃ m9, m9 = (([] ++ psi.take j) ++ psi.drop J1).length := ⟨_, rfl⟩
      rw [← hm9] at RF9 ⊢
      clear hm9
      refine hK.out _ _ (by exact b09) (fun hHeld => ?_)
      clear hK K
      try simp only [Act.put, List.getElem_toArray, List.getElem_cons_zero, List.getElem_cons_succ, List.setIfInBounds_toArray, List.set_cons_zero, List.set_cons_succ]
      obtain ⟨w9', hw9⟩ : ∃ w9', w9' = w9 := ⟨_, rfl⟩
      subst hw9
      have SR : SlZ .i64 10000 w9' (.slice A9 m9 c9) (minRZ ri j) := by
       have h := RF9.slP.sl (k := .i64) (B := 10000) (by
        rw [List.nil_append]
        exact (((HIE.out.take j).below b09).append ((HIE.out.drop J1).below b09)))
       rw [List.nil_append, List.map_append, List.map_take, List.map_drop, HRI.out.2, HJ1.out] at h
       exact h
      have bi9 : Below wi.heap.size wi w9' := ((bdi.trans (baL0.mono bdi.size)).trans (b8.mono bdi.size)).trans (b9.mono bdi.size)
      have TG9 := TG.below bi9
      have ba10 := below_alloc (w := w9') (Nat.le_refl _) (.cells #[.slice A9 m9 c9] 43)
      have TG10 := TG9.below ba10
      have SR10 := SR.below ba10
      have hone10 := cell_one_new w9' (.slice A9 m9 c9) 43
      have b010 := b09.trans (ba10.mono b09.size)
      have hlu : us.length + 1 ≤ 1000000000 := by
       have h1 := TG10.len
       rw [List.length_take] at h1
       omega
      have HTK : Hid ((minTZ T j).take (i + 1 - 1) = (minTZ T j).take (i - 1) ++ [minRZ ri j]) := by
       show _ = _
       rw [show i + 1 - 1 = (i - 1) + 1 by omega]
       exact take_nextD (minTZ_at (by rw [show i - 1 + 1 = i by omega]; exact HRI.out.1))
      clear RF9 RF8 HK8 HK9 HG8 HG9 SR TG9 TG RL
      refine wpAnyH_ready (rs := [17]) (by kernel_rfl) (by simp) ?_
      refine AllReadyH.cons rfl (fun K hK => ?_) AllReadyH.nil
      go_simp
      refine hK.out _ _ (by exact b010) (fun hHeld => ?_)
      clear hK K
      try simp only [Act.put, List.getElem_toArray, List.getElem_cons_zero, List.getElem_cons_succ, List.setIfInBounds_toArray, List.set_cons_zero, List.set_cons_succ]
      refine wpAnyH_ready (rs := [18]) (by kernel_rfl) (by simp) ?_
      refine AllReadyH.cons rfl (fun K hK => ?_) AllReadyH.nil
      refine step_append_S rfl (.tmp 26) (.tmp 43) rfl Try.underlying23 info_zdocs rfl TG10.row rfl rfl (by decide) hone10 (fun u hu => by (obtain rfl := List.mem_singleton.1 hu; exact ⟨_, _, _, rfl⟩)) hlu b010.size ?_
      intro v11 w11 RX11 HG11 HX11
      have b011 := b010.grown HG11.out b010.size (fun g hg => TG10.row.1.base_le g hg)
      have TG11 := TG10.snoc RX11 HG11.out SR10
      obtain ⟨A11, c11, e11⟩ := RowV.slice TG11.row.1
      subst e11
      obtain ⟨m11, hm11⟩ : ∃ m11, m11 = (us ++ [Value.slice A9 m9 c9]).length := ⟨_, rfl⟩
      rw [← hm11] at TG11 ⊢
      clear hm11
      refine hK.out _ _ (by exact b011) (fun hHeld => ?_)
      clear hK K
      try simp only [Act.put, List.getElem_toArray, List.getElem_cons_zero, List.getElem_cons_succ, List.setIfInBounds_toArray, List.set_cons_zero, List.set_cons_succ]
      refine wpAnyH_take (i := 19) (v := .slice A11 m11 c11) rfl (by kernel_rfl) (by kernel_rfl) (by kernel_rfl) (fun _ _ _ h => h) (Or.inl ⟨by kernel_rfl, fun w hSw => by (go_simp; first | done | with_reducible rfl)⟩) hHeld ?_
      simp only [Act.put, List.getElem_toArray, List.getElem_cons_zero, List.getElem_cons_succ, List.setIfInBounds_toArray, List.set_cons_zero, List.set_cons_succ]
      refine wpAnyH_done (by kernel_rfl) ?_ _
      go_wp2
      go_roundw
      case rel => exact ⟨i + 1, us ++ [_], by omega, by omega, by rw [HTK.out]; exact TG11, b011, by go_num⟩
      case measure => simp [intOf]; omega
     ·have hsm : SlW .i64 10000 wi (.slice A5 us.length c5) (minTZ T j) := by
       have h := TG.slW
       rwa [List.take_of_length_le (by rw [minTZ_len]; have := HN.out.1; omega)] at h
      have hjn : j < n + 1 := by have := HN.out.2; omega
      obtain ⟨D, hD⟩ : ∃ D, D = detI n (minJ (entI T) j) := ⟨_, rfl⟩
      have hlD : lenZ D ≤ 13 := by
       rw [hD]
       exact Nat.le_trans (lenZ_det (S := 2) n (M := minJ (entI T) j) (fun i j hi hj => entI_len HS.out HL.out (by omega) (skipN_lt hj))) HDZ.out
      have CD : ∀ w' V, SlW .i64 10000 w' V (minTZ T j) → Calls Try.prog 14 #[V] w' (RetR D w') := fun w' V h => by rw [hD, ← detI_min HS.out hjn]; exact ih V (minTZ T j) w' h (minTZ_sh HS.out hjn) (lenI_min HL.out)
      have HBw : Hid (Below w.heap.size w wi) := HB.out.trans (HBi.out.mono HB.out.size)
      obtain ⟨r0, hr0, hr0l, hq⟩ := entI_at HS.out (show 0 < n + 1 by omega) hjn
      obtain ⟨q, hqe⟩ : ∃ q, q = entI T 0 j := ⟨_, rfl⟩
      rw [← hqe] at hq
      obtain ⟨Ar, cr, hN0, ec0, sr⟩ := (HST.out.below HBw.out).at2 hr0
      obtain ⟨gr, or, uq, rfl, hia, k0, k1, sq⟩ := sr.at_ hq
      obtain ⟨Aq, cq, rfl, _⟩ := id sq
      have kq : IsR wi (.agg #[.bool (ngB q), .slice Aq (digs 10000 q.natAbs).length cq]) q := ⟨_, rfl, sq⟩
      have hlq : lenZ q ≤ 2 := by rw [hqe]; exact entI_len HS.out HL.out (by omega) hjn
      obtain ⟨X, hX⟩ : ∃ X, X = q * D := ⟨_, rfl⟩
      have CM : ∀ w a b, IsR w a q → IsR w b D → Calls Try.prog 32 #[a, b] w (RetR X w) := fun w a b h1 h2 => by rw [hX]; exact rmul_any a q b D w h1 h2 (by omega) (by omega)
      have BP6 := BP.below HBi.out
      have su6 := su.below HBi.out
      have BR6 := BR.below HBi.out
      have HXE := Lib.hid (And.intro hX (And.intro hD hqe))
      have hgP : w2.heap.size < wi.heap.size := BP6.lt
      clear BP su BR TG HBi hX hD sr hlq hlD hqe hr0 hr0l hq
      go_upto_region 12 with (fail)
      go_cut [7] from 45 to 53 (fun s7 wx => ∃ (g7 : Nat) (u7 : Value), s7 = .pointer (some ⟨g7, 0, none⟩) ∧ wi.heap.size ≤ g7 ∧ Blk wx g7 41 #[.bool (ngB X), u7] ∧ IsS wx .i64 u7 (digs 10000 X.natAbs) ∧ Hid (Below wi.heap.size wi wx))
      case first =>
       refine flow 10 [Pd.eq (.slice (some ad) N c0), Pd.eq (.pointer (some (ad.add 0))), Pd.eq (.slice (some ⟨gr, or, none⟩) r0.length cr), Pd.eq (.int .i64 (j : Int)), Pd.eq (.pointer (some ⟨gr, or + j * 2, none⟩)), Pd.eq (.agg #[.bool (ngB q), .slice Aq (digs 10000 q.natAbs).length cq]), Pd.eq (.slice A5 us.length c5), pr D, pr X, pn 41 #[.bool false, .slice none 0 0] wi.heap.size] (by kernel_rfl) (by kernel_rfl) ?ob1 ?done1
       case ob1 =>
        refine And.intro (ob_move rfl (wt_none rfl) (ev_far rfl rfl) (fun _ _ h => h)) ?_
        refine And.intro (ob_indexAddr rfl (wt_none rfl) (ev_dep (j := 0) (by kernel_rfl) rfl rfl) (ev_const _) (fun _ _ _ hx hy => ⟨_, by rw [hx, hy]; exact index1_any (k := 0) Try.underlying23 (by kernel_rfl) ad hN0 _, rfl⟩)) ?_
        refine And.intro (ob_load rfl (wt_none rfl) (ev_dep (j := 1) (by kernel_rfl) rfl rfl) (fun w2 hb => run_load1 Try.underlying43 rfl ((hb.cell (World.block_lt_of_cell? wi _ ec0)).trans ec0)) (fun _ _ => rfl)) ?_
        refine And.intro (ob_move rfl (wt_none rfl) (ev_far rfl rfl) (fun _ _ h => h)) ?_
        refine And.intro (ob_indexAddr rfl (wt_none rfl) (ev_dep (j := 2) (by kernel_rfl) rfl rfl) (ev_dep (j := 3) (by kernel_rfl) rfl rfl) (fun _ _ _ hx hy => ⟨_, by rw [hx, hy]; exact index2 Try.underlying43 (by kernel_rfl) hia _, rfl⟩)) ?_
        refine And.intro (ob_load rfl (wt_none rfl) (ev_dep (j := 4) (by kernel_rfl) rfl rfl) (fun w2 hb => load2 Try.underlying41 rfl (by kernel_rfl) ((hb.cell (World.block_lt_of_cell? wi _ k0)).trans k0) ((hb.cell (World.block_lt_of_cell? wi _ k1)).trans k1)) (fun _ _ => rfl)) ?_
        refine And.intro (ob_move rfl (wt_none rfl) (ev_far rfl rfl) (fun _ _ h => h)) ?_
        refine And.intro (ob_call1 rfl Try.func14 (by kernel_rfl) (wt_none rfl) (ev_dep (j := 6) (by kernel_rfl) rfl rfl) (fun w2 u0 hb h0 => by obtain rfl := h0; exact (CD w2 _ (hsm.drew.below hb)).mono fun e w3 h => RetR.pd h)) ?_
        refine And.intro (ob_call2 rfl Try.func32 (by kernel_rfl) (wt_none rfl) (ev_dep (j := 5) (by kernel_rfl) rfl rfl) (ev_dep (j := 7) (by kernel_rfl) rfl rfl) (fun w2 u0 u1 hb h0 h1 => by obtain rfl := h0; exact (CM w2 _ _ (kq.drew.below hb) h1).mono fun e w3 h => RetR.pd h)) ?_
        refine And.intro (ob_alloc (z := .agg #[.bool false, .slice none 0 0]) rfl rfl (fun _ => by kernel_rfl) (fun _ _ hB h => ⟨_, rfl, hB, h⟩)) ?_
        trivial
       case done1 =>
        refine fun w7 hb7 v0 h0 v1 h1 v2 h2 v3 h3 v4 h4 v5 h5 v6 h6 v7 h7 v8 h8 v9 h9 d9 b hbf => ?_
        obtain rfl := h0; obtain rfl := h1; obtain rfl := h2; obtain rfl := h3; obtain rfl := h4; obtain rfl := h5; obtain rfl := h6
        obtain ⟨u8, rfl, s8⟩ := h8
        obtain ⟨g9, rfl, hg9, B9⟩ := h9
        simp only [Act.put, List.setIfInBounds_toArray, List.set_cons_zero, List.set_cons_succ] at hbf
        subst hbf
        have bw7 : Below wi.heap.size wi w7 := (Below.refl wi.heap.size wi).trans (hb7.mono (Nat.le_refl _))
        obtain ⟨A8, c8, rfl, _⟩ := id s8
        refine any_store (i := 10) (by kernel_rfl) rfl rfl rfl rfl rfl rfl (cells := [.bool (ngB X), .slice A8 (digs 10000 X.natAbs).length c8]) rfl B9 rfl (by kernel_rfl) (one2 rfl rfl) fun w10 hg10 BN => ?_
        have s10 := Go.Proofs.Yteijlcfhenlanaa.flow.off s8 B9 no_ints2 hg10
        have bw10 := bw7.grown hg10 bw7.size (fun k e => by injection e with e; omega)
        have HC := Lib.hid (And.intro bw10 s10)
        clear s8 B9 bw7 bw10 s10 BP6 su6 BR6 k0 k1 sq kq ec0 hsm CD CM h7
        refine any_done (by kernel_rfl) ?_
        go_wp2
        go_meet
        exact ⟨g9, _, rfl, hg9, BN, HC.out.2, HC.out.1⟩
      case rest =>
       obtain ⟨g7, u7, rfl, hg7, BX, sX, HBX⟩ := hcut
       obtain ⟨w7, hw7⟩ : ∃ w7, w7 = wc := ⟨_, rfl⟩
       subst hw7
       obtain ⟨A7, c7, rfl, _⟩ := id sX
       have BP7 := BP6.below HBX.out
       have su7 := su6.below HBX.out
       have BR7 := BR6.below HBX.out
       have HB7 : Hid (Below w.heap.size w w7) := HBw.out.trans (HBX.out.mono HBw.out.size)
       have hg7w : w2.heap.size < g7 := by omega
       clear BP6 su6 BR6 k0 k1 sq kq ec0 hsm CD CM
       go_upto_if 56 with (fail)
       obtain ⟨B56, hB⟩ : ∃ B, B = (((j : Int) % 2) == 1) := ⟨_, rfl⟩
       rw [← hB]
       have HB56 := Lib.hid hB
       clear hB
       go_cut [] from 57 to 58 (fun wx => ∃ (Y : Int) (u : Value), Blk wx g7 41 #[.bool (ngB Y), u] ∧ IsS wx .i64 u (digs 10000 Y.natAbs) ∧ Hid (Y = sgI j * X) ∧ Blk wx w2.heap.size 41 #[.bool (ngB s), .slice Au (digs 10000 s.natAbs).length cu] ∧ IsS wx .i64 (.slice Au (digs 10000 s.natAbs).length cu) (digs 10000 s.natAbs) ∧ Blk wx w.heap.size 41 #[.bool false, .slice none 0 0] ∧ Hid (Below w.heap.size w wx))
       case first =>
        by_cases hp : (j : Int) % 2 = 1
        ·obtain rfl : B56 = true := by rw [HB56.out, beq_iff_eq]; exact hp
         obtain ⟨V0, V1, F0, F1⟩ := Blk.two BX
         obtain ⟨Y, hY⟩ : ∃ Y, Y = -X := ⟨_, rfl⟩
         have CG : ∀ w a, IsR w a X → Calls Try.prog 33 #[a] w (RetR Y w) := fun w a h => by rw [hY]; exact rneg_any a X w h
         have HY : Hid (Y = sgI j * X) := by
          show _ = _
          rw [hY]
          unfold sgI
          rw [if_neg (by omega)]
          omega
         clear hY hp
         go_wp2_with fail
         refine (CG _ _ ⟨_, rfl, sX⟩).mono ?_
         rintro e w8 ⟨v8, rfl, k8, b8⟩
         obtain ⟨u8, rfl, s8⟩ := k8
         obtain ⟨A8, c8, rfl, _⟩ := id s8
         have BX8 := BX.below b8
         obtain ⟨X0, X1, F3, F4⟩ := Blk.two BX8
         have G9 := grown_set2 w8 g7 (.bool (ngB Y)) (.slice A8 (digs 10000 Y.natAbs).length c8)
         have B9 := blk_set2 BX8 (.bool (ngB Y)) (.slice A8 (digs 10000 Y.natAbs).length c8)
         have s9 := Go.Proofs.Yteijlcfhenlanaa.flow.off s8 BX8 no_ints2 G9
         have BP9 := Blk.grown (BP7.below b8) G9 (by omega)
         have su9 := Go.Proofs.Yteijlcfhenlanaa.flow.off (su7.below b8) BX8 no_ints2 G9
         have BR9 := Blk.grown (BR7.below b8) G9 (by omega)
         have b08 := HB7.out.trans (b8.mono HB7.out.size)
         have HB9 : Hid (Below w.heap.size w _) := b08.grown G9 b08.size (fun k e => by injection e with e; omega)
         clear BX sX BP7 su7 BR7 HB7 b8 s8 BX8 b08 V0 V1 F0 F1
         go_wp2
         go_meet
         exact ⟨Y, _, B9, s9, HY, BP9, su9, BR9, HB9.out⟩
        ·obtain rfl : B56 = false := by rw [HB56.out, beq_eq_false_iff_ne]; exact hp
         have HY : Hid (X = sgI j * X) := by
          show _ = _
          unfold sgI
          rw [if_pos (by omega), Int.one_mul]
         go_wp2
         go_meet
         exact ⟨X, _, BX, sX, HY, BP7, su7, BR7, HB7.out⟩
       case rest =>
        obtain ⟨Y, u8, BY, sY, HY, BP8, su8, BR8, HB8⟩ := hcut
        obtain ⟨w8, hw8⟩ : ∃ w8, w8 = wc := ⟨_, rfl⟩
        subst hw8
        clear BX sX BP7 su7 BR7 HB7
        obtain ⟨A8, c8, rfl, _⟩ := id sY
        obtain ⟨V0, V1, F0, F1⟩ := Blk.two BY
        obtain ⟨U0, U1, G0, G1⟩ := Blk.two BP8
        have hYF : Y = F j := by
         rw [HY.out, HXE.out.1, HF.out, HXE.out.2.1, HXE.out.2.2]
         exact (Int.mul_assoc _ _ _).symm
        have hlY : lenZ Y ≤ 15 := by rw [hYF]; exact HFL.out j hlt
        have hls : lenZ s ≤ 15 + j := by
         rw [HSU.out]
         exact lenZ_sumI (L := 15) j (fun c hc => HFL.out c (by omega))
        obtain ⟨Z2, hZ2⟩ : ∃ Z2, Z2 = s + Y := ⟨_, rfl⟩
        have CA : ∀ w a b, IsR w a s → IsR w b Y → Calls Try.prog 34 #[a, b] w (RetR Z2 w) := fun w a b h1 h2 => by rw [hZ2]; exact radd_any a s b Y w h1 h2 (by omega) (by omega)
        have HS2 : Hid (Z2 = sumI (j + 1) F) := by
         show _ = sumI j F + F j
         rw [hZ2, hYF, ← HSU.out]
        clear hYF hlY hls hZ2
        go_wp2_with fail
        refine (CA _ _ _ ⟨_, rfl, su8⟩ ⟨_, rfl, sY⟩).mono ?_
        rintro e w9 ⟨v9, rfl, k9, b9⟩
        obtain ⟨u9, rfl, s9⟩ := k9
        obtain ⟨A9, c9, rfl, _⟩ := id s9
        have BP9 := BP8.below b9
        obtain ⟨X0, X1, F3, F4⟩ := Blk.two BP9
        have G10 := grown_set2 w9 w2.heap.size (.bool (ngB Z2)) (.slice A9 (digs 10000 Z2.natAbs).length c9)
        have B10 := blk_set2 BP9 (.bool (ngB Z2)) (.slice A9 (digs 10000 Z2.natAbs).length c9)
        have s10 := Go.Proofs.Yteijlcfhenlanaa.flow.off s9 BP9 no_ints2 G10
        have BR10 := Blk.grown (BR8.below b9) G10 (by omega)
        have b09 := HB8.out.trans (b9.mono HB8.out.size)
        have HB10 : Hid (Below w.heap.size w _) := b09.grown G10 b09.size (fun k e => by injection e with e; omega)
        clear BY sY BP8 su8 BR8 HB8 b9 s9 BP9 b09 V0 V1 F0 F1 U0 U1 G0 G1 CA
        go_wp2
        go_roundw
        case rel => exact ⟨j + 1, Z2, _, by omega, HS2, B10, s10, BR10, HB10, by go_num⟩
        case measure => simp [intOf]; omega
  ·have e : j = N := by omega
   have HV : Hid (s = detI (n + 1) (entI T)) := by
    show _ = _
    rw [HSU.out, e, HN.out.2, HF.out]
    rfl
   obtain ⟨V0, V1, _, _⟩ := Blk.two BP
   obtain ⟨X0, X1, F0, F1⟩ := Blk.two BR
   have G7 := grown_set2 wj w.heap.size (.bool (ngB s)) (.slice Au (digs 10000 s.natAbs).length cu)
   have B7 := blk_set2 BR (.bool (ngB s)) (.slice Au (digs 10000 s.natAbs).length cu)
   have s7 := Go.Proofs.Yteijlcfhenlanaa.flow.off su BR no_ints2 G7
   have b27 := HB.out.grown G7 HB.out.size (fun k e => by cases e; exact Nat.le_refl _)
   obtain ⟨C0, C1, _, _⟩ := Blk.two B7
   clear su BP BR e
   go_wp2
   refine bodyPost_ret (v := .agg #[.bool (ngB s), .slice Au (digs 10000 s.natAbs).length cu]) (by simp [results, Try.results14, go_sem, C0, C1]) rfl ?_
   rw [← HV.out]
   exact ⟨_, rfl, ⟨_, rfl, s7⟩, b27⟩
theorem rdet15_any (a0 : Value) (T : List (List Int)) (w : World) (h0 : SlW .i64 10000 w a0 T) (hn : T.length ≤ 4) (hs : ∀ r ∈ T, r.length = T.length) (hl : lenI T 2) : Calls Try.prog 14 #[a0] w (RetR (detI T.length (entI T)) w) := by
 have key : ∀ n, n ≤ 4 → DetJ n := by
  intro n
  induction n with
  | zero => exact fun _ => detJ_zero
  | succ n ih => exact fun h => detJ_succ n (by omega) (ih (by omega))
 exact key T.length hn a0 T w h0 ⟨rfl, hs⟩ hl
end Go.Proofs.Yteijlcfhenlanaa.rat
