/- MatrixTurns: tables turned, laid side by side. Condition: the arguments can be read as data. -/
import Derived.Test.YtekpnbgchoccmaaGreatKB5
import Derived.Deep.Cut
import Derived.OpenShut
import Derived.LaidMore
import Derived.Lay
import Derived.Stop.Joined
namespace Go.Proofs.YtekpnbgchoccmaaGreat.matrixTurns
open Go.ChangeShapes Go.WideShapes Go.ChangeAt Go.RowKit Go.Proofs.YtekpnbgchoccmaaGreat.num Go.Proofs.YtekpnbgchoccmaaGreat.mem Go.Proofs.YtekpnbgchoccmaaGreat.nat Go.Proofs.YtekpnbgchoccmaaGreat.txt Go.Proofs.YtekpnbgchoccmaaGreat.str Go.Proofs.YtekpnbgchoccmaaGreat.flow Go.Proofs.YtekpnbgchoccmaaGreat.whl Go.Proofs.YtekpnbgchoccmaaGreat.rat
set_option linter.unusedVariables false
theorem own : ownKnob Tryz.prog.godebug = none := by kernel_rfl
theorem laidOut : laidOutB Tryz.prog = true := by kernel_rfl
theorem cells_u : Tryz.prog.cellsOf 76 = 1 := by kernel_rfl
set_option maxHeartbeats 6400000 in
set_option maxRecDepth 100000 in
/-- The walk: the Go text returns true; what was there is as it was. -/
theorem walk (v0 : Value) (v1 : Value) (w : World) (h0 : ArgT w v0) (h1 : ArgT w v1) :
    Calls Tryz.prog 5 #[v0, v1] w (RetV (.bool true) w) := by
  obtain ⟨A0, n0, c0, rfl, -, -⟩ := h0.shape
  obtain ⟨A1, n1, c1, rfl, -, -⟩ := h1.shape
  go_enter Tryz.func5, Tryz.ntmps5
  go_wp2_with fail
  refine (fewt_any _ 5 _ h0 (by omega)).mono ?_
  rintro e w1 ⟨V, U, p, rfl, hV, hU, hpl, hpr, hpx, b1⟩
  obtain ⟨AV, cV, rfl, -, -⟩ := hV.shape
  obtain ⟨AU, cU, rfl, -, -⟩ := hU.shape
  have hA1 := h1.below b1
  go_wp2_with fail
  refine (fewt_any _ 5 _ hA1 (by omega)).mono ?_
  rintro e w2 ⟨W, X, q, rfl, hW, hX, hql, hqr, hqx, b2⟩
  obtain ⟨AW, cW, rfl, -, -⟩ := hW.shape
  obtain ⟨AX, cX, rfl, -, -⟩ := hX.shape
  have bb2 := b1.trans (b2.mono b1.size)
  have hV2 := hV.below b2
  have hU2 := hU.below b2
  have HPX := Lib.hid hpx
  have HQX := Lib.hid hqx
  have HPR := Lib.hid hpr
  have HQR := Lib.hid hqr
  have HPL := Lib.hid hpl
  have HQL := Lib.hid hql
  have wide5 : ∀ t : List (List Rat), (∀ r ∈ t, r.length ≤ 5) → wideq t ≤ 5 := fun t h => by
    by_cases hn : t = []
    · rw [hn]; exact Nat.zero_le _
    · obtain ⟨r, hr⟩ : ∃ r, t[0]? = some r := ⟨_, List.getElem?_eq_getElem (List.length_pos_iff.2 hn)⟩
      rw [wideq_at hr]; exact h r (List.mem_of_getElem? hr)
  have HPW : Hid (wideq p ≤ 5) := wide5 p hpr
  have HQW : Hid (wideq q ≤ 5) := wide5 q hqr
  have HPM : Hid (mayq p ↔ evenq p) := ⟨fun h => h.2.2, fun h => ⟨by omega, by have := HPW.out; omega, h⟩⟩
  have HQM : Hid (mayq q ↔ evenq q) := ⟨fun h => h.2.2, fun h => ⟨by omega, by have := HQW.out; omega, h⟩⟩
  clear hV hU b1 b2 hA1 hpx hqx hpr hqr hpl hql wide5
  go_wp2_with fail
  refine (mturn_any _ p _ hV2 (HPX.out.mono (by decide))).mono ?_
  rintro e w3 h3
  obtain ⟨TT, E1, hcase, VT, rfl, ST, b3⟩ : ∃ (TT : List (List Rat)) (E1 : Int), ((evenq p ∧ TT = turnq p ∧ E1 = 0) ∨ (¬ evenq p ∧ TT = [] ∧ E1 = 8)) ∧ ∃ VT, e = .returned (.tuple #[VT, .int .i64 E1]) ∧ SlT .u64 4294967296 w3 VT TT ∧ Below w2.heap.size w2 w3 := by
    rcases h3 with ⟨hm, V', he, hs, hb⟩ | ⟨hm, V', he, hs, hb⟩
    · exact ⟨_, _, .inl ⟨HPM.out.1 hm, rfl, rfl⟩, V', he, by rw [if_pos rfl] at hs; exact hs, hb⟩
    · exact ⟨_, _, .inr ⟨fun k => hm (HPM.out.2 k), rfl, rfl⟩, V', he, by rw [if_neg (by decide)] at hs; exact hs, hb⟩
  have HT := Lib.hid hcase
  obtain ⟨AT, cT, rfl, -, -⟩ := ST.shape
  have hV3 := hV2.below b3
  have hU3 := hU2.below b3
  have hW3 := hW.below b3
  have hX3 := hX.below b3
  have bb3 := bb2.trans (b3.mono bb2.size)
  clear hV2 hU2 hW hX b3 bb2 hcase h3
  have ba := below_alloc (w := w3) (Nat.le_refl _) (.cells #[.slice AV p.length cV, .slice AW q.length cW] 22)
  have HLa := listT_two (isV_lit w3 22 [.slice AV p.length cV, .slice AW q.length cW]) (hV3.below ba) (hW3.below ba)
  have HLB : Hid (([p, q] : List (List (List Rat))).length ≤ 3 ∧ (([p, q] : List (List (List Rat))).map wideq).sum ≤ 200 ∧ (∀ t ∈ [p, q], lenT t 100000) ∧ p.length ≤ 200) := ⟨by simp, by
    have h1 := HPW.out
    have h2 := HQW.out
    simp
    omega, fun t ht => by
    simp at ht
    rcases ht with rfl | rfl
    · exact HPX.out.mono (by decide)
    · exact HQX.out.mono (by decide), by have := HPL.out; omega⟩
  have HBE : Hid (besides p.length [p, q] ↔ (evenq p ∧ evenq q ∧ p.length = q.length)) := by
    show _ ↔ _
    refine ⟨fun h => ⟨HPM.out.1 (h p (by simp)).1, HQM.out.1 (h q (by simp)).1, (h q (by simp)).2.symm⟩, fun h t ht => ?_⟩
    simp at ht
    rcases ht with rfl | rfl
    · exact ⟨HPM.out.2 h.1, rfl⟩
    · exact ⟨HQM.out.2 h.2.1, h.2.2.symm⟩
  have HBT : Hid (besideT p.length [p, q] = joinq p q) := by
    show joinq (joinq (List.replicate p.length []) p) q = _
    rw [joinq_nil]
  go_wp2_with fail
  refine (mbeside_any _ [p, q] p _ HLa rfl HLB.out).mono ?_
  rintro e w4 h4
  obtain ⟨BB, E2, hcase, VB, rfl, SB, b4⟩ : ∃ (BB : List (List Rat)) (E2 : Int), (((evenq p ∧ evenq q ∧ p.length = q.length) ∧ BB = joinq p q ∧ E2 = 0) ∨ (¬ (evenq p ∧ evenq q ∧ p.length = q.length) ∧ BB = [] ∧ E2 = 8)) ∧ ∃ VB, e = .returned (.tuple #[VB, .int .i64 E2]) ∧ SlT .u64 4294967296 w4 VB BB ∧ Below (w3.alloc (.cells #[.slice AV p.length cV, .slice AW q.length cW] 22)).heap.size (w3.alloc (.cells #[.slice AV p.length cV, .slice AW q.length cW] 22)) w4 := by
    rcases h4 with ⟨hm, V', he, hs, hb⟩ | ⟨hm, V', he, hs, hb⟩
    · exact ⟨_, _, .inl ⟨HBE.out.1 hm, rfl, rfl⟩, V', he, by rw [if_pos rfl, HBT.out] at hs; exact hs, hb⟩
    · exact ⟨_, _, .inr ⟨fun k => hm (HBE.out.2 k), rfl, rfl⟩, V', he, by rw [if_neg (by decide)] at hs; exact hs, hb⟩
  have HB := Lib.hid hcase
  obtain ⟨AB, cB, rfl, -, -⟩ := SB.shape
  have b34 := ba.trans (b4.mono ba.size)
  have hU4 := hU3.below b34
  have hX4 := hX3.below b34
  have ST4 := ST.below b34
  have bb4 := bb3.trans (b34.mono bb3.size)
  clear hV3 hW3 hU3 hX3 ba b4 bb3 hcase h4 HLa b34 ST
  go_wp2_with fail
  refine (mbeside_none _).mono ?_
  rintro e w5 ⟨VN, rfl, SN, b5⟩
  rw [if_pos rfl] at SN
  obtain ⟨AN, cN, eN, -, -⟩ := SN.shape
  have eN2 : VN = .slice AN 0 cN := eN
  subst eN2
  have hU5 := hU4.below b5
  have hX5 := hX4.below b5
  have ST5 := ST4.below b5
  have SB5 := SB.below b5
  have bb5 := bb4.trans (b5.mono bb4.size)
  clear hU4 hX4 ST4 SB b5 bb4 SN eN
  obtain ⟨EP, hEP⟩ : ∃ EP, EP = decide (evenq p) := ⟨_, rfl⟩
  obtain ⟨EQ, hEQ⟩ : ∃ EQ, EQ = decide (evenq q) := ⟨_, rfl⟩
  have HEP := Lib.hid hEP
  have HEQ := Lib.hid hEQ
  go_wp2_with fail
  refine (evn_any _ p EP _ hU5 hEP).mono ?_
  rintro e w6 ⟨rfl, b6⟩
  have hU6 := hU5.below b6
  have hX6 := hX5.below b6
  have ST6 := ST5.below b6
  have SB6 := SB5.below b6
  have bb6 := bb5.trans (b6.mono bb5.size)
  clear hU5 hX5 ST5 SB5 b6 bb5 hEP hEQ
  by_cases he : evenq p
  · have heb : EP = true := by rw [HEP.out]; exact decide_eq_true he
    obtain ⟨hT1, hT2⟩ : TT = turnq p ∧ E1 = 0 := by
      rcases HT.out with ⟨_, h⟩ | ⟨h, _⟩
      · exact h
      · exact absurd he h
    subst hT2
    subst heb
    have HTT := Lib.hid hT1
    have HE := Lib.hid he
    clear hT1 he
    have HLT : Hid (lenT TT 30000) := by show lenT _ _; rw [HTT.out]; exact (lenT_turn HPX.out (Nat.le_refl _)).mono (by decide)
    go_wp2_with fail
    refine (rturn_any _ p _ hU6 ⟨by have := HPL.out; omega, by have := HPW.out; omega, HE.out⟩).mono ?_
    rintro e w7 ⟨VR, rfl, SR, b7⟩
    rw [← HTT.out] at SR
    obtain ⟨AR, cR, rfl, -, -⟩ := SR.shape
    have ST7 := ST6.below b7
    go_wp2_with fail
    refine (ist_any _ _ TT TT 1 _ ST7 SR HLT.out (if_pos rfl).symm).mono ?_
    rintro e w8 ⟨rfl, b8⟩
    have b68 := b7.trans (b8.mono b7.size)
    have hU8 := hU6.below b68
    have hX8 := hX6.below b68
    have SB8 := SB6.below b68
    have bb8 := bb6.trans (b68.mono bb6.size)
    clear hU6 hX6 ST6 ST7 SB6 SR b7 b8 b68 bb6
    go_wp2_with fail
    refine (evn_any _ p true _ hU8 HEP.out).mono ?_
    rintro e w9 ⟨rfl, b9⟩
    have hU9 := hU8.below b9
    have hX9 := hX8.below b9
    have SB9 := SB8.below b9
    have bb9 := bb8.trans (b9.mono bb8.size)
    clear hU8 hX8 SB8 b9 bb8
    go_wp2_with fail
    refine (evn_any _ q EQ _ hX9 HEQ.out).mono ?_
    rintro e w10 ⟨rfl, b10⟩
    have hU10 := hU9.below b10
    have hX10 := hX9.below b10
    have SB10 := SB9.below b10
    have bb10 := bb9.trans (b10.mono bb9.size)
    clear hU9 hX9 SB9 b10 bb9
    by_cases hq : evenq q ∧ p.length = q.length
    · obtain ⟨hq1, hq2⟩ := hq
      have hqb : EQ = true := by rw [HEQ.out]; exact decide_eq_true hq1
      obtain ⟨hB1, hB2⟩ : BB = joinq p q ∧ E2 = 0 := by
        rcases HB.out with ⟨_, h⟩ | ⟨h, _⟩
        · exact h
        · exact absurd ⟨HE.out, hq1, hq2⟩ h
      subst hB2
      subst hqb
      have hneb : (((p.length : Nat) : Int) != ((q.length : Nat) : Int)) = false := by rw [bne_eq_false_iff_eq, hq2]
      have HLQ := Lib.hid hq2
      have HBB := Lib.hid hB1
      clear hq1 hq2 hB1
      have HJL : Hid ((joinq p q).length = p.length) := joinq_len HLQ.out
      have hp5 : p.length ≤ 5 := HPL.out
      go_wp2
      go_loopw [15, 16] (fun v15 v16 wr => ∃ (k : Nat) (us : List Value), k ≤ p.length ∧ RowV wr w10.heap.size 48 v15 us ∧ TabF .i64 10000 wr v15 us ((joinq p q).take k) ∧ Below w10.heap.size w10 wr ∧ v16 = .int .i64 (k : Int)) (fun _ v16 _ => p.length - (intOf v16).toNat)
      case atStart => exact ⟨0, [], by omega, rowV_lit0 _ _ _ (Nat.le_refl _), TabF.nil _ _ _ _, below_alloc (Nat.le_refl _) _, rfl⟩
      case round =>
        obtain ⟨k, us, hk, hR, hT, bw, rfl⟩ := hrel
        obtain ⟨A15, c15, e15⟩ := RowV.slice hR
        subst e15
        by_cases hlt : k < p.length
        · have hlt2 : k < q.length := by have := HLQ.out; omega
          have hnp : p ≠ [] := List.length_pos_iff.1 (by omega)
          have hnq : q ≠ [] := List.length_pos_iff.1 (by omega)
          obtain ⟨x, hx⟩ : ∃ x, p[k]? = some x := ⟨_, List.getElem?_eq_getElem hlt⟩
          obtain ⟨y, hy⟩ : ∃ y, q[k]? = some y := ⟨_, List.getElem?_eq_getElem hlt2⟩
          obtain ⟨adU, rfl⟩ := hU10.place hnp
          obtain ⟨adX, rfl⟩ := hX10.place hnq
          obtain ⟨Ax, cx, hix, ewx, srx⟩ := hU10.at2 hx
          obtain ⟨Ay, cy, hiy, ewy, sry⟩ := hX10.at2 hy
          have HUL : Hid (us.length ≤ 1000000000) := by
            have h1 := hT.1
            rw [List.length_take, HJL.out] at h1
            have h2 := HPL.out
            show _ ≤ _
            omega
          have HAT : Hid ((joinq p q).take (k + 1) = (joinq p q).take k ++ [x ++ y]) := take_succ_of (by unfold joinq; rw [List.getElem?_zipWith, hx, hy])
          obtain ⟨ps, hpm, hpv, hpe⟩ := srx
          obtain ⟨qs, hqm, hqv, hqe⟩ := sry
          have hone : ∀ {l : List Elt}, (∀ e ∈ l, IsE .i64 10000 w10 e) → ∀ e ∈ l, e.2.1.oneCell' = true ∧ e.2.2.oneCell' = true := fun h e he => by
            obtain ⟨a1, a2⟩ := h e he
            obtain ⟨_, _, e1, _⟩ := a1
            obtain ⟨_, _, e2, _⟩ := a2
            rw [e1, e2]
            exact ⟨rfl, rfl⟩
          have hpl : ps.length ≤ 1000000000 := by
            have h1 := congrArg List.length hpm
            rw [List.length_map] at h1
            have h2 := HPR.out x (List.mem_of_getElem? hx)
            omega
          have hql : qs.length ≤ 1000000000 := by
            have h1 := congrArg List.length hqm
            rw [List.length_map] at h1
            have h2 := HQR.out y (List.mem_of_getElem? hy)
            omega
          have HPE := Lib.hid (show (∀ e ∈ ps, e.2.1.oneCell' = true ∧ e.2.2.oneCell' = true) ∧ ps.length ≤ 1000000000 from ⟨hone hpe, hpl⟩)
          have HQE := Lib.hid (show (∀ e ∈ qs, e.2.1.oneCell' = true ∧ e.2.2.oneCell' = true) ∧ qs.length ≤ 1000000000 from ⟨hone hqe, hql⟩)
          have HM := Lib.hid (show ps.map (·.1) = x ∧ qs.map (·.1) = y from ⟨hpm, hqm⟩)
          have HEE := Lib.hid (show (∀ e ∈ ps, IsE .i64 10000 w10 e) ∧ ∀ e ∈ qs, IsE .i64 10000 w10 e from ⟨hpe, hqe⟩)
          have bd := bw.drew
          have b01 := (below_alloc (w := wr) (Nat.le_refl _) (.cells #[] 63)).drew
          have bd1 := bw.trans (b01.mono bw.size)
          have ecx0 := (bd.cell (World.block_lt_of_cell? _ _ ewx)).trans ewx
          have ecy0 := (bd.cell (World.block_lt_of_cell? _ _ ewy)).trans ewy
          have ecx1 := (bd1.cell (World.block_lt_of_cell? _ _ ewx)).trans ewx
          have ecy1 := (bd1.cell (World.block_lt_of_cell? _ _ ewy)).trans ewy
          have r1 : RowF 63 (wr.alloc (.cells #[] 63)).drew wr.heap.size (.slice (some ⟨wr.heap.size, 0, none⟩) 0 0) [] := (rowF_lit0 63 wr wr.heap.size (Nat.le_refl _)).below (Below.refl _ _).drew
          have hpv1 := hpv.below bd1
          clear hx hy hpm hqm hpe hqe hone hpl hql
          go_upto_region 19 with (fail)
          go_region_law (first
            | (refine step_append_qs rfl (.tmp 97) (.tmp 101) rfl Tryz.underlying48 info_q (v := .slice (some ⟨wr.heap.size, 0, none⟩) 0 0) (u := .slice Ax x.length cx) (ps := []) (qs := ps) (by rfl) (by exact r1) (by rfl) (by exact hpv1) HPE.out.1 (by simp) HPE.out.2 (by exact b01.size) ?_; intro v2 w2_ row2 bb2_ HK2; have bd2 := bd1.trans (bb2_.mono bd.size); have ecy2 := (bd2.cell (World.block_lt_of_cell? _ _ ewy)).trans ewy; have hqv2 := hqv.below bd2; have hs2 := Nat.le_trans b01.size bb2_.size; obtain ⟨A2, c2, e2, -⟩ := row2.isVF; subst e2)
            | (refine step_append_w rfl (.tmp 96) (.tmp 108) rfl Tryz.underlying23 info_veq (v := .slice A15 us.length c15) (u := .slice A3 (ps.length + qs.length) c3) (vs := us) (by rfl) (by exact hR4) (ad := ⟨w3_.heap.size, 0, none⟩) (c := 1) (by rfl) (by exact hc3) rfl HUL.out (by exact hs4) ?_; intro v4 w4_ row4 bb4_ HK4)
            | (refine step_append_qs rfl (.tmp 102) (.tmp 106) rfl Tryz.underlying48 info_q (u := .slice Ay y.length cy) (ps := [] ++ ps) (qs := qs) (by rfl) (by exact row2) (by rfl) (by exact hqv2) HQE.out.1 HPE.out.2 HQE.out.2 (by exact hs2) ?_; intro v3 w3_ row3 bb3_ HK3; have bd3 := bd2.trans (bb3_.mono bd.size); have hs3 := Nat.le_trans hs2 bb3_.size; obtain ⟨A3, c3, e3, -⟩ := row3.isVF; rw [show List.length (([] : List Elt) ++ ps ++ qs) = ps.length + qs.length from by simp] at e3; subst e3; have b3a := below_alloc (w := w3_) (Nat.le_refl _) (.cells #[.slice A3 (ps.length + qs.length) c3] 48); have hc3 : (w3_.alloc (.cells #[.slice A3 (ps.length + qs.length) c3] 48)).cell? ((⟨w3_.heap.size, 0, none⟩ : Addr).add 0) = some (.slice A3 (ps.length + qs.length) c3) := (Blk.new w3_ 48 #[.slice A3 (ps.length + qs.length) c3]).cell 0; have bwa : Below wr.heap.size wr (w3_.alloc (.cells #[.slice A3 (ps.length + qs.length) c3] 48)) := ((b01.trans bb2_).trans bb3_).trans (b3a.mono hs3); have hR4 := hR.below bwa; have hs4 := Nat.le_trans bd.size (Nat.le_trans hs3 b3a.size)))
          all_goals
            have row3' : RowF 63 w3_ wr.heap.size (.slice A3 (ps.length + qs.length) c3) (ps ++ qs) := row3
            have hbl := hR.base_le
            have hS : FarS .i64 10000 w3_ (.slice A15 us.length c15) (.slice A3 (ps.length + qs.length) c3) (x ++ y) := ⟨ps ++ qs, by rw [List.map_append, HM.out.1, HM.out.2], row3'.isVF, fun e he => by
              have ie : IsE .i64 10000 w10 e := by
                rcases List.mem_append.1 he with he | he
                · exact HEE.out.1 e he
                · exact HEE.out.2 e he
              exact ⟨ie.below bd3, ie.1.farOld hbl, ie.2.farOld hbl⟩, fun g hg => ⟨row3'.under g hg, fun e => by have h1 := hR.under g e; have h2 := row3'.base_le g hg; omega⟩⟩
            have hT4 := hT.below bwa
            have T7 := hT4.snoc HK4.out (hS.below b3a)
            rw [← HAT.out] at T7
            have b8 := ((bd3.trans (b3a.mono (Nat.le_trans bd.size hs3))).trans bb4_)
            have hsk : p.length - (k + 1) < p.length - k := by omega
            clear hT hT4 hS row3 row3' HK2 HK3 HK4 hR hR4 r1 row2 hpv hqv hpv1 hqv2 ecx0 ecy0 ecx1 ecy1 ecy2 hc3 hs2 hs3 hs4 hbl hix hiy HPE HQE HM HEE HAT b3a bwa bd2 bd3 bb2_ bb3_ bb4_ bd bd1 b01
            go_wp2
            go_roundw
            case rel => exact ⟨k + 1, _, hlt, row4, T7, b8, by go_num⟩
            case measure => simp [intOf]; first | exact hsk | exact hlt | omega
        · have hS := RowV.tab hR hT
          rw [List.take_of_length_le (by rw [HJL.out]; omega), ← HBB.out] at hS
          have HLB2 : Hid (lenT BB 30000) := by
            show lenT _ _
            rw [HBB.out]
            intro r hr z hz
            obtain ⟨a, ha, b, hb, rfl⟩ := mem_joinq hr
            rcases List.mem_append.1 hz with hz | hz
            · exact (HPX.out a ha z hz).mono (by decide)
            · exact (HQX.out b hb z hz).mono (by decide)
          have SBr := SB10.below bw
          have bbr := bb10.trans (bw.mono bb10.size)
          clear hR hT
          go_wp2_with fail
          refine (ist_any _ _ BB BB 1 _ SBr hS HLB2.out (if_pos rfl).symm).mono ?_
          rintro e w12 ⟨rfl, b12⟩
          have bb12 := bbr.trans (b12.mono bbr.size)
          go_wp2_with fail
          refine (works12_any _).mono ?_
          rintro e w13 ⟨rfl, b13⟩
          have bb13 := bb12.trans (b13.mono bb12.size)
          go_wp2
          go_ret
          exact ⟨rfl, bb13⟩
    · obtain ⟨hB1, hB2⟩ : BB = [] ∧ E2 = 8 := by
        rcases HB.out with ⟨h, _⟩ | ⟨_, h⟩
        · exact absurd h.2 hq
        · exact h
      subst hB1
      subst hB2
      have HQ := Lib.hid hq
      clear hq
      by_cases hq1 : evenq q
      · have hqb : EQ = true := by rw [HEQ.out]; exact decide_eq_true hq1
        subst hqb
        have hneb : (((p.length : Nat) : Int) != ((q.length : Nat) : Int)) = true := by rw [bne_iff_ne]; exact fun h => HQ.out ⟨hq1, by omega⟩
        clear hq1
        go_wp2_with fail
        refine (works12_any _).mono ?_
        rintro e w11 ⟨rfl, b11⟩
        have bb11 := bb10.trans (b11.mono bb10.size)
        go_wp2
        go_ret
        exact ⟨rfl, bb11⟩
      · have hqb : EQ = false := by rw [HEQ.out]; exact decide_eq_false hq1
        subst hqb
        clear hq1
        go_wp2_with fail
        refine (works12_any _).mono ?_
        rintro e w11 ⟨rfl, b11⟩
        have bb11 := bb10.trans (b11.mono bb10.size)
        go_wp2
        go_ret
        exact ⟨rfl, bb11⟩
  · have heb : EP = false := by rw [HEP.out]; exact decide_eq_false he
    obtain ⟨hT1, hT2⟩ : TT = [] ∧ E1 = 8 := by
      rcases HT.out with ⟨h, _⟩ | ⟨_, h⟩
      · exact absurd h he
      · exact h
    obtain ⟨hB1, hB2⟩ : BB = [] ∧ E2 = 8 := by
      rcases HB.out with ⟨h, _⟩ | ⟨_, h⟩
      · exact absurd h.1 he
      · exact h
    subst hT2
    subst hB1
    subst hB2
    subst heb
    have HE := Lib.hid he
    clear he hT1
    go_wp2_with fail
    refine (evn_any _ p false _ hU6 HEP.out).mono ?_
    rintro e w9 ⟨rfl, b9⟩
    have bb9 := bb6.trans (b9.mono bb6.size)
    go_wp2_with fail
    refine (works12_any _).mono ?_
    rintro e w11 ⟨rfl, b11⟩
    have bb11 := bb9.trans (b11.mono bb9.size)
    go_wp2
    go_ret
    exact ⟨rfl, bb11⟩
set_option maxRecDepth 100000 in
theorem lifted (os : Os) (started : os.Started) (H : Type) (enc : TypeId × Value → H) :
    ReturnsInHanded {} Tryz.checked os 5 .any (Rows.matrixTurnsSpec.pre6 enc Tryz.prog Tryz.f5 Rows.matrixTurnsRow.domain false) (Rows.matrixTurnsSpec.post enc Tryz.prog Tryz.f5 false true false false) := by
  refine returnsInHanded_of_change (C := Tryz.checked) own started (by kernel_rfl) Tryz.func5
    (ChangeSpec.witness6 (enc := enc) (C := Tryz.checked) false ⟨#[], #[.slice none 0 0, .slice none 0 0], []⟩ 8 (by kernel_rfl) (by kernel_rfl) (by kernel_rfl) (by kernel_rfl)) ?_
  intro W base args ds gs before hval0 hW hcnd _
  have hval : ∀ (j : Nat) t v, Tryz.f5.params[j]? = some t → args[j]? = some v → Value.okWide Tryz.prog W .any base t v := hval0
  have hW' := hW
  obtain ⟨p, q, hA0, hV, rfl, hfz, hnd⟩ := hW
  have hA : DataW.TrodAll enc Tryz.prog W 0 (fun _ => true) true Tryz.f5.params.toList args.toList ds p := hA0
  rw [Tryz.params5] at hA hval
  obtain ⟨v0, vs0, d0, ds0, p0, q0, hargs, rfl, rfl, t0, r0⟩ := trodAll_cons hA
  obtain ⟨v1, vs1, d1, ds1, p1, q1, rfl, rfl, rfl, t1, r1⟩ := trodAll_cons r0
  obtain ⟨rfl, rfl, rfl⟩ := trodAll_nil r1
  obtain rfl : args = #[v0, v1] := by cases args; simp_all
  obtain ⟨rfl, rfl⟩ := trodVars_none hV
  have hs0 := arg_t Tryz.underlying22 (by kernel_rfl) Tryz.underlying39 Tryz.underlying46 (by kernel_rfl) (by kernel_rfl) Tryz.underlying44 (by kernel_rfl) Tryz.underlying4 Tryz.underlying42 Tryz.underlying42 Tryz.underlying76 cells_u (hval 0 22 v0 rfl rfl) t0
  have hs1 := arg_t Tryz.underlying22 (by kernel_rfl) Tryz.underlying39 Tryz.underlying46 (by kernel_rfl) (by kernel_rfl) Tryz.underlying44 (by kernel_rfl) Tryz.underlying4 Tryz.underlying42 Tryz.underlying42 Tryz.underlying76 cells_u (hval 1 22 v1 rfl rfl) t1
  clear hA0 hval0
  simp only [List.append_nil] at hW'
  have hlt0 : ∀ x ∈ p0, x.block < W.heap.size := fun x hx => hW'.lt x (List.mem_append_left _ hx)
  have hlt1 : ∀ x ∈ p1, x.block < W.heap.size := fun x hx => hW'.lt x (List.mem_append_right _ (hx))
  refine (walk v0 v1 W hs0 hs1).mono fun e W' ⟨he, hb⟩ => ?_
  subst he
  have s0 := Below.trod laidOut (by kernel_rfl) (of_decide_eq_true (by kernel_rfl)) t0 hb hlt0
  have s1 := Below.trod laidOut (by kernel_rfl) (of_decide_eq_true (by kernel_rfl)) t1 hb hlt1
  exact ⟨_, rfl, _, _, _, [] ++ [], _, [], hW', trodAll_cons_mk (shut_bool Tryz.underlying4 _) trodAll_mk0, trodAll_cons_mk s0 (trodAll_cons_mk s1 (trodAll_mk0)), rfl, hb.frame _, fun h => by cases h⟩
theorem over : Rows.matrixTurnsRow.holds Tryz.pinned (OpenSpec.ofChange Rows.matrixTurnsSpec) :=
  OpenClaim.holds_of_wide 5 Tryz.f5 rfl rfl rfl rfl rfl rfl rfl ⟨rfl, rfl, rfl, rfl, rfl⟩ rfl rfl rfl rfl rfl (by kernel_rfl) Tryz.func5 (by kernel_rfl)
    (of_decide_eq_true (by kernel_rfl)) (by unfold Func.isWrapper; first | (rw [if_pos (by decide +kernel)]; kernel_rfl) | (rw [if_neg (by decide +kernel)]; exact ⟨rfl, rfl⟩))
    (fun os started H enc _ => lifted os started H enc)
/-- The statement. -/
theorem proved : Rows.MatrixTurnsSaid := over
end Go.Proofs.YtekpnbgchoccmaaGreat.matrixTurns
