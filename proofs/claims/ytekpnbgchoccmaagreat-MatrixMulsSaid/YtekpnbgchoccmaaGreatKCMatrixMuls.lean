/- MatrixMuls: tables multiplied, added, applied. Condition: the arguments can be read as data. -/
import Derived.Test.YtekpnbgchoccmaaGreatKC6
import Derived.Deep.CutRange
import Derived.OpenShut
import Derived.LaidMore
import Derived.Lay
import Derived.Stop.Joined
namespace Go.Proofs.YtekpnbgchoccmaaGreat.matrixMuls
open Go.ChangeShapes Go.WideShapes Go.ChangeAt Go.RowKit Go.Proofs.YtekpnbgchoccmaaGreat.num Go.Proofs.YtekpnbgchoccmaaGreat.mem Go.Proofs.YtekpnbgchoccmaaGreat.nat Go.Proofs.YtekpnbgchoccmaaGreat.txt Go.Proofs.YtekpnbgchoccmaaGreat.str Go.Proofs.YtekpnbgchoccmaaGreat.flow Go.Proofs.YtekpnbgchoccmaaGreat.whl Go.Proofs.YtekpnbgchoccmaaGreat.rat
set_option linter.unusedVariables false
theorem own : ownKnob Tryz.prog.godebug = none := by kernel_rfl
theorem laidOut : laidOutB Tryz.prog = true := by kernel_rfl
theorem cells_u : Tryz.prog.cellsOf 76 = 1 := by kernel_rfl
set_option maxHeartbeats 6400000 in
set_option maxRecDepth 100000 in
/-- The walk: the Go text returns true; what was there is as it was. -/
theorem walk (v0 : Value) (v1 : Value) (v2 : Value) (w : World) (h0 : ArgT w v0) (h1 : ArgT w v1) (h2 : ArgQs w v2) :
    Calls Tryz.prog 4 #[v0, v1, v2] w (RetV (.bool true) w) := by
  obtain ⟨A0, n0, c0, rfl, -, -⟩ := h0.shape
  obtain ⟨A1, n1, c1, rfl, -, -⟩ := h1.shape
  obtain ⟨A2, n2, c2, rfl, -⟩ := id h2
  go_enter Tryz.func4, Tryz.ntmps4
  go_wp2_with fail
  refine (fewt_any _ 4 _ h0 (by omega)).mono ?_
  rintro e w1 ⟨V, U, p, rfl, hV, hU, hpl, hpr, hpx, b1⟩
  obtain ⟨AV, cV, rfl, -, -⟩ := hV.shape
  obtain ⟨AU, cU, rfl, -, -⟩ := hU.shape
  have hA1 := h1.below b1
  go_wp2_with fail
  refine (fewt_any _ 4 _ hA1 (by omega)).mono ?_
  rintro e w2 ⟨W, X, q, rfl, hW, hX, hql, hqr, hqx, b2⟩
  obtain ⟨AW, cW, rfl, -, -⟩ := hW.shape
  obtain ⟨AX, cX, rfl, -, -⟩ := hX.shape
  have bb2 := b1.trans (b2.mono b1.size)
  have hA2 := ArgQs.below h2 bb2
  go_wp2_with fail
  refine (few11_any A2 n2 c2 4 _ hA2 (by omega)).mono ?_
  rintro e w3 ⟨VR, UR, r, rfl, hVR, hUR, hrl, hrx, b3, _, _⟩
  obtain ⟨AR, cR, rfl, -, -⟩ := hVR.shape
  obtain ⟨AQ, cQ, rfl, -, -⟩ := hUR.shape
  have hrl4 : r.length ≤ 4 := by omega
  have bb3 := bb2.trans (b3.mono bb2.size)
  have hV3 := (hV.below b2).below b3
  have hU3 := (hU.below b2).below b3
  have hW3 := hW.below b3
  have hX3 := hX.below b3
  have HPX := Lib.hid hpx
  have HQX := Lib.hid hqx
  have HPR := Lib.hid hpr
  have HQR := Lib.hid hqr
  have HPL := Lib.hid hpl
  have HQL := Lib.hid hql
  have HRX := Lib.hid hrx
  have HRL := Lib.hid hrl4
  have wide4 : ∀ t : List (List Rat), (∀ r ∈ t, r.length ≤ 4) → wideq t ≤ 4 := fun t h => by
    by_cases hn : t = []
    · rw [hn]; exact Nat.zero_le _
    · obtain ⟨r, hr⟩ : ∃ r, t[0]? = some r := ⟨_, List.getElem?_eq_getElem (List.length_pos_iff.2 hn)⟩
      rw [wideq_at hr]; exact h r (List.mem_of_getElem? hr)
  have HPW : Hid (wideq p ≤ 4) := wide4 p hpr
  have HQW : Hid (wideq q ≤ 4) := wide4 q hqr
  have HPM : Hid (mayq p ↔ evenq p) := ⟨fun h => h.2.2, fun h => ⟨by omega, by have := HPW.out; omega, h⟩⟩
  have HQM : Hid (mayq q ↔ evenq q) := ⟨fun h => h.2.2, fun h => ⟨by omega, by have := HQW.out; omega, h⟩⟩
  clear hV hU hW hX b1 b2 hA1 hA2 hpx hqx hpr hqr hpl hql wide4 hrl hrx hrl4 b3 bb2
  have ba := below_alloc (w := w3) (Nat.le_refl _) (.cells #[.slice AV p.length cV, .slice AW q.length cW] 22)
  have HLa := listT_two (isV_lit w3 22 [.slice AV p.length cV, .slice AW q.length cW]) (hV3.below ba) (hW3.below ba)
  have HLB : Hid (([p, q] : List (List (List Rat))).length ≤ 3 ∧ ∀ t ∈ [p, q], t.length ≤ 4 ∧ (∀ r ∈ t, r.length ≤ 4) ∧ lenT t 10) := ⟨by simp, fun t ht => by
    simp at ht
    rcases ht with rfl | rfl
    · exact ⟨HPL.out, HPR.out, HPX.out.mono (by decide)⟩
    · exact ⟨HQL.out, HQR.out, HQX.out.mono (by decide)⟩⟩
  have HFI : Hid (fitsq [p, q] ↔ (evenq p ∧ evenq q ∧ wideq p = q.length)) := by
    show _ ↔ _
    refine ⟨fun h => ⟨HPM.out.1 (h.2 0 p rfl).1, HQM.out.1 (h.2 1 q rfl).1, (h.2 1 q rfl).2 p (by omega) rfl⟩, fun h => ⟨by simp, fun i t ht => ?_⟩⟩
    rcases i with _ | _ | i
    · obtain rfl : p = t := by simpa using ht
      exact ⟨HPM.out.2 h.1, fun s h0 => by omega⟩
    · obtain rfl : q = t := by simpa using ht
      exact ⟨HQM.out.2 h.2.1, fun s _ hs => by obtain rfl : p = s := by simpa using hs; ; exact h.2.2⟩
    · simp at ht
  go_wp2_with fail
  refine (mmul_any _ [p, q] _ HLa HLB.out).mono ?_
  rintro e w4 h4
  obtain ⟨MM, E1, hcase, VM, rfl, SM, b4⟩ : ∃ (MM : List (List Rat)) (E1 : Int), (((evenq p ∧ evenq q ∧ wideq p = q.length) ∧ MM = mulq p q ∧ E1 = 0) ∨ (¬ (evenq p ∧ evenq q ∧ wideq p = q.length) ∧ MM = [] ∧ E1 = 8)) ∧ ∃ VM, e = .returned (.tuple #[VM, .int .i64 E1]) ∧ SlT .u64 4294967296 w4 VM MM ∧ Below (w3.alloc (.cells #[.slice AV p.length cV, .slice AW q.length cW] 22)).heap.size (w3.alloc (.cells #[.slice AV p.length cV, .slice AW q.length cW] 22)) w4 := by
    rcases h4 with ⟨hm, V', he, hs, hb⟩ | ⟨hm, V', he, hs, hb⟩
    · exact ⟨_, _, .inl ⟨HFI.out.1 hm, rfl, rfl⟩, V', he, by rw [if_pos rfl] at hs; exact hs, hb⟩
    · exact ⟨_, _, .inr ⟨fun k => hm (HFI.out.2 k), rfl, rfl⟩, V', he, by rw [if_neg (by decide)] at hs; exact hs, hb⟩
  have H1 := Lib.hid hcase
  obtain ⟨AM, cM, rfl, -, -⟩ := SM.shape
  have b34 := ba.trans (b4.mono ba.size)
  have hV4 := hV3.below b34
  have hW4 := hW3.below b34
  have bb4 := bb3.trans (b34.mono bb3.size)
  clear ba b4 hcase h4 HLa
  have HAD : Hid (addsq p q ↔ (evenq p ∧ evenq q ∧ p.length = q.length ∧ wideq p = wideq q)) := ⟨fun h => ⟨HPM.out.1 h.1, HQM.out.1 h.2.1, h.2.2⟩, fun h => ⟨HPM.out.2 h.1, HQM.out.2 h.2.1, h.2.2⟩⟩
  go_wp2_with fail
  refine (madd_any _ _ p q 1 _ hV4 hW4 ⟨HPX.out, HQX.out, by omega⟩).mono ?_
  rintro e w5 h5
  obtain ⟨SS, E2, hcase, VS, rfl, SA, b5⟩ : ∃ (SS : List (List Rat)) (E2 : Int), (((evenq p ∧ evenq q ∧ p.length = q.length ∧ wideq p = wideq q) ∧ SS = addT p q ∧ E2 = 0) ∨ (¬ (evenq p ∧ evenq q ∧ p.length = q.length ∧ wideq p = wideq q) ∧ SS = [] ∧ E2 = 8)) ∧ ∃ VS, e = .returned (.tuple #[VS, .int .i64 E2]) ∧ SlT .u64 4294967296 w5 VS SS ∧ Below w4.heap.size w4 w5 := by
    rcases h5 with ⟨hm, V', he, hs, hb⟩ | ⟨hm, V', he, hs, hb⟩
    · exact ⟨_, _, .inl ⟨HAD.out.1 hm, rfl, rfl⟩, V', he, by rw [if_pos rfl] at hs; exact hs, hb⟩
    · exact ⟨_, _, .inr ⟨fun k => hm (HAD.out.2 k), rfl, rfl⟩, V', he, by rw [if_neg (by decide)] at hs; exact hs, hb⟩
  have H2 := Lib.hid hcase
  obtain ⟨AS, cS, rfl, -, -⟩ := SA.shape
  have b35 := b34.trans (b5.mono b34.size)
  have bb5 := bb3.trans (b35.mono bb3.size)
  have hV5 := hV3.below b35
  have hVR5 := hVR.below b35
  have SM5 := SM.below b5
  clear b5 hcase h5 hV4 hW4 b34 bb4 SM
  have HAP : Hid ((mayq p ∧ wideq p = r.length) ↔ (evenq p ∧ wideq p = r.length)) := ⟨fun h => ⟨HPM.out.1 h.1, h.2⟩, fun h => ⟨HPM.out.2 h.1, h.2⟩⟩
  go_wp2_with fail
  refine (mapply_any _ _ p r 1 1 _ hV5 hVR5 ⟨HPX.out, HRX.out, by have := HRL.out; omega⟩).mono ?_
  rintro e w6 h6
  obtain ⟨XX, E3, hcase, VX, rfl, SX, b6⟩ : ∃ (XX : List Rat) (E3 : Int), (((evenq p ∧ wideq p = r.length) ∧ XX = dotsq p r ∧ E3 = 0) ∨ (¬ (evenq p ∧ wideq p = r.length) ∧ XX = [] ∧ E3 = 8)) ∧ ∃ VX, e = .returned (.tuple #[VX, .int .i64 E3]) ∧ SlF .u64 4294967296 w6 VX XX ∧ Below w5.heap.size w5 w6 := by
    rcases h6 with ⟨hm, V', he, hs, hb⟩ | ⟨hm, V', he, hs, hb⟩
    · exact ⟨_, _, .inl ⟨HAP.out.1 hm, rfl, rfl⟩, V', he, by rw [if_pos rfl] at hs; exact hs, hb⟩
    · exact ⟨_, _, .inr ⟨fun k => hm (HAP.out.2 k), rfl, rfl⟩, V', he, by rw [if_neg (by decide)] at hs; exact hs, hb⟩
  have H3 := Lib.hid hcase
  obtain ⟨AXX, cXX, rfl, -, -⟩ := SX.shape
  clear hcase h6 hV5 hVR5
  go_wp2_with fail
  refine (mmul_any _ [] _ (listT_nil _) ⟨by simp, fun t ht => by simp at ht⟩).mono ?_
  rintro e w9 h9
  obtain ⟨VN, rfl, b9⟩ : ∃ VN, e = .returned (.tuple #[VN, .int .i64 8]) ∧ Below w6.heap.size w6 w9 := by
    rcases h9 with ⟨h, _⟩ | ⟨_, V', he, _, hb⟩
    · exact absurd rfl h.1
    · exact ⟨V', he, hb⟩
  have b59 := b6.trans (b9.mono b6.size)
  have b39 := b35.trans (b59.mono b35.size)
  have bb9 := bb3.trans (b39.mono bb3.size)
  have hV9 := hV3.below b39
  have hU9 := hU3.below b39
  have hW9 := hW3.below b39
  have hX9 := hX3.below b39
  have hR9 := hUR.below b39
  have SM9 := SM5.below b59
  have SA9 := SA.below b59
  have SX9 := SX.below b9
  clear h9 b9 b59 b39 b35 b6 bb3 bb5 hV3 hU3 hW3 hX3 hUR hVR SM5 SA SX
  obtain ⟨B1, hB1⟩ : ∃ B1, B1 = decide (evenq p ∧ evenq q ∧ wideq p = q.length) := ⟨_, rfl⟩
  obtain ⟨B2, hB2⟩ : ∃ B2, B2 = decide (evenq p ∧ evenq q ∧ p.length = q.length ∧ wideq p = wideq q) := ⟨_, rfl⟩
  obtain ⟨B3, hB3⟩ : ∃ B3, B3 = decide (evenq p ∧ wideq p = r.length) := ⟨_, rfl⟩
  obtain ⟨EP, hEP⟩ : ∃ EP, EP = decide (evenq p) := ⟨_, rfl⟩
  obtain ⟨EQ, hEQ⟩ : ∃ EQ, EQ = decide (evenq q) := ⟨_, rfl⟩
  have HB1 := Lib.hid hB1
  have HB2 := Lib.hid hB2
  have HB3 := Lib.hid hB3
  have HEP := Lib.hid hEP
  have HEQ := Lib.hid hEQ
  clear hB1 hB2 hB3 hEP hEQ
  go_upto_region 10 with (fail)
  go_cut [81] from 67 to 81 (fun s81 wx => s81 = .bool (!B1) ∧ Below w9.heap.size w9 wx)
  case first =>
    go_wp2_with fail
    refine (evn_any _ p EP _ hU9 HEP.out).mono ?_
    rintro e w10 ⟨rfl, b10⟩
    by_cases he : evenq p
    · have heb : EP = true := by rw [HEP.out]; exact decide_eq_true he
      subst heb
      have hX10 := hX9.below b10
      have hE := Lib.hid he
      clear he
      go_wp2_with fail
      refine (evn_any _ q EQ _ hX10 HEQ.out).mono ?_
      rintro e w11 ⟨rfl, b11⟩
      have b91 := b10.trans (b11.mono b10.size)
      by_cases hq : evenq q
      · have hqb : EQ = true := by rw [HEQ.out]; exact decide_eq_true hq
        subst hqb
        have hQ := Lib.hid hq
        have hU11 := hU9.below b91
        clear hq
        go_wp2_with fail
        refine (rwide_any _ p _ hU11).mono ?_
        rintro e w12 ⟨rfl, b12⟩
        have b92 := b91.trans (b12.mono b91.size)
        by_cases hw : wideq p = q.length
        · have hb : (!B1) = false := by rw [HB1.out, decide_eq_true ⟨hE.out, hQ.out, hw⟩]; rfl
          have hn : (((wideq p : Nat) : Int) != ((q.length : Nat) : Int)) = false := by rw [bne_eq_false_iff_eq, hw]
          clear hw
          go_wp2_with fail
          go_meet
          exact ⟨by rw [hb], b92⟩
        · have hb : (!B1) = true := by rw [HB1.out, decide_eq_false (fun h => hw h.2.2)]; rfl
          have hn : (((wideq p : Nat) : Int) != ((q.length : Nat) : Int)) = true := by rw [bne_iff_ne]; omega
          clear hw
          go_wp2_with fail
          go_meet
          exact ⟨by rw [hb], b92⟩
      · have hqb : EQ = false := by rw [HEQ.out]; exact decide_eq_false hq
        subst hqb
        have hb : (!B1) = true := by rw [HB1.out, decide_eq_false (fun h => hq h.2.1)]; rfl
        clear hq
        go_wp2_with fail
        go_meet
        exact ⟨by rw [hb], b91⟩
    · have heb : EP = false := by rw [HEP.out]; exact decide_eq_false he
      subst heb
      have hb : (!B1) = true := by rw [HB1.out, decide_eq_false (fun h => he h.1)]; rfl
      clear he
      go_wp2_with fail
      go_meet
      exact ⟨by rw [hb], b10⟩
  case rest =>
    obtain ⟨rfl, b9c⟩ := hcut
    obtain ⟨w10, hw10⟩ : ∃ w10, w10 = wc := ⟨_, rfl⟩
    subst hw10
    go_upto_if 81 with (fail)
    go_cut [] from 82 to 93 (fun wx => Below w9.heap.size w9 wx)
    case first =>
      by_cases hc : evenq p ∧ evenq q ∧ wideq p = q.length
      · obtain ⟨hM, hE1⟩ : MM = mulq p q ∧ E1 = 0 := by
          rcases H1.out with ⟨_, h⟩ | ⟨h, _⟩
          · exact h
          · exact absurd hc h
        have hb : B1 = true := by rw [HB1.out]; exact decide_eq_true hc
        subst hb
        subst hE1
        have HC := Lib.hid hc
        have HMM := Lib.hid hM
        have HLT : Hid (lenT MM 30000) := by
          show lenT _ _
          rw [HMM.out]
          exact (lenT_mul HPX.out HQX.out (Nat.le_refl _) (fun r hr => by rw [hc.1 r hr, hc.2.2]) HQL.out).mono (by decide)
        have HMB : Hid ((∀ r ∈ p, r.length = q.length) ∧ p.length ≤ 1000 ∧ q.length ≤ 1000 ∧ wideq q ≤ 1000 ∧ evenq q ∧ lenT p 1 ∧ lenT q 1 ∧ 1 ≤ 1 ∧ (1 + 1 + 1) * q.length + 1 ≤ 4000) := ⟨fun r hr => by rw [hc.1 r hr, hc.2.2], by have := HPL.out; omega, by have := HQL.out; omega, by have := HQW.out; omega, hc.2.1, HPX.out, HQX.out, by omega, by have := HQL.out; omega⟩
        have hU10 := hU9.below b9c
        have hX10 := hX9.below b9c
        have SM10 := SM9.below b9c
        clear hc hM
        go_wp2_with fail
        refine (rmulT_any _ _ p q 1 _ hU10 hX10 HMB.out.1 HMB.out.2).mono ?_
        rintro e w11 ⟨VQ, rfl, SQ, b11⟩
        rw [← HMM.out] at SQ
        obtain ⟨AMQ, cMQ, rfl, -, -⟩ := SQ.shape
        have SM11 := SM10.below b11
        go_wp2_with fail
        refine (ist_any _ _ MM MM 1 _ SM11 SQ HLT.out (if_pos rfl).symm).mono ?_
        rintro e w12 ⟨rfl, b12⟩
        have b912 := b9c.trans ((b11.trans (b12.mono b11.size)).mono b9c.size)
        go_wp2_with fail
        go_meet
        exact b912
      · obtain ⟨hM, hE1⟩ : MM = [] ∧ E1 = 8 := by
          rcases H1.out with ⟨h, _⟩ | ⟨_, h⟩
          · exact absurd h hc
          · exact h
        have hb : B1 = false := by rw [HB1.out]; exact decide_eq_false hc
        subst hb
        subst hE1
        clear hc hM
        go_wp2_with fail
        go_meet
        exact b9c
    case rest =>
      have b911 := hcut
      clear hcut b9c
      obtain ⟨w11, hw11⟩ : ∃ w11, w11 = wc := ⟨_, rfl⟩
      subst hw11
      go_upto_region 15 with (fail)
      go_cut [115] from 94 to 115 (fun s115 wx => s115 = .bool (!B2) ∧ Below w9.heap.size w9 wx)
      case first =>
        have hU11 := hU9.below b911
        go_wp2_with fail
        refine (evn_any _ p EP _ hU11 HEP.out).mono ?_
        rintro e w12 ⟨rfl, b12⟩
        have b912 := b911.trans (b12.mono b911.size)
        by_cases he : evenq p
        · have heb : EP = true := by rw [HEP.out]; exact decide_eq_true he
          subst heb
          have hX12 := hX9.below b912
          have hE := Lib.hid he
          clear he
          go_wp2_with fail
          refine (evn_any _ q EQ _ hX12 HEQ.out).mono ?_
          rintro e w13 ⟨rfl, b13⟩
          have b913 := b912.trans (b13.mono b912.size)
          by_cases hq : evenq q
          · have hqb : EQ = true := by rw [HEQ.out]; exact decide_eq_true hq
            subst hqb
            have hQ := Lib.hid hq
            clear hq
            by_cases hl : p.length = q.length
            · have hn : (((p.length : Nat) : Int) != ((q.length : Nat) : Int)) = false := by rw [bne_eq_false_iff_eq, hl]
              have hL := Lib.hid hl
              have hU13 := hU9.below b913
              clear hl
              go_wp2_with fail
              refine (rwide_any _ p _ hU13).mono ?_
              rintro e w14 ⟨rfl, b14⟩
              have b914 := b913.trans (b14.mono b913.size)
              have hX14 := hX9.below b914
              go_wp2_with fail
              refine (rwide_any _ q _ hX14).mono ?_
              rintro e w15 ⟨rfl, b15⟩
              have b915 := b914.trans (b15.mono b914.size)
              by_cases hw : wideq p = wideq q
              · have hb : (!B2) = false := by rw [HB2.out, decide_eq_true ⟨hE.out, hQ.out, hL.out, hw⟩]; rfl
                have hn2 : (((wideq p : Nat) : Int) != ((wideq q : Nat) : Int)) = false := by rw [bne_eq_false_iff_eq, hw]
                clear hw
                go_wp2_with fail
                go_meet
                exact ⟨by rw [hb], b915⟩
              · have hb : (!B2) = true := by rw [HB2.out, decide_eq_false (fun h => hw h.2.2.2)]; rfl
                have hn2 : (((wideq p : Nat) : Int) != ((wideq q : Nat) : Int)) = true := by rw [bne_iff_ne]; omega
                clear hw
                go_wp2_with fail
                go_meet
                exact ⟨by rw [hb], b915⟩
            · have hn : (((p.length : Nat) : Int) != ((q.length : Nat) : Int)) = true := by rw [bne_iff_ne]; omega
              have hb : (!B2) = true := by rw [HB2.out, decide_eq_false (fun h => hl h.2.2.1)]; rfl
              clear hl
              go_wp2_with fail
              go_meet
              exact ⟨by rw [hb], b913⟩
          · have hqb : EQ = false := by rw [HEQ.out]; exact decide_eq_false hq
            subst hqb
            have hb : (!B2) = true := by rw [HB2.out, decide_eq_false (fun h => hq h.2.1)]; rfl
            clear hq
            go_wp2_with fail
            go_meet
            exact ⟨by rw [hb], b913⟩
        · have heb : EP = false := by rw [HEP.out]; exact decide_eq_false he
          subst heb
          have hb : (!B2) = true := by rw [HB2.out, decide_eq_false (fun h => he h.1)]; rfl
          clear he
          go_wp2_with fail
          go_meet
          exact ⟨by rw [hb], b912⟩
      case rest =>
        obtain ⟨rfl, b9c⟩ := hcut
        clear b911
        obtain ⟨w12, hw12⟩ : ∃ w12, w12 = wc := ⟨_, rfl⟩
        subst hw12
        go_upto_if 115 with (fail)
        go_cut [] from 116 to 158 (fun wx => Below w9.heap.size w9 wx)
        case first =>
          by_cases hc : evenq p ∧ evenq q ∧ p.length = q.length ∧ wideq p = wideq q
          · obtain ⟨hM, hE2⟩ : SS = addT p q ∧ E2 = 0 := by
              rcases H2.out with ⟨_, h⟩ | ⟨h, _⟩
              · exact h
              · exact absurd hc h
            have hb : B2 = true := by rw [HB2.out]; exact decide_eq_true hc
            subst hb
            subst hE2
            have HC := Lib.hid hc
            have HSS := Lib.hid hM
            have HSL : Hid (SS.length = p.length) := by show _ = _; rw [HSS.out]; exact addT_len HC.out.2.2.1
            have hp4 : p.length ≤ 4 := HPL.out
            clear hc hM
            go_wp2
            go_loopw [20] (fun v20 wr => ∃ k : Nat, k ≤ p.length ∧ Below w9.heap.size w9 wr ∧ v20 = .int .i64 (k : Int)) (fun v20 _ => p.length - (intOf v20).toNat)
            case atStart => exact ⟨0, by omega, b9c, rfl⟩
            case round =>
              obtain ⟨k, hk, bw, rfl⟩ := hrel
              by_cases hlt : k < p.length
              · have hlt2 : k < q.length := by have := HC.out.2.2.1; omega
                have hlt3 : k < SS.length := by have := HSL.out; omega
                obtain ⟨x, hx⟩ : ∃ x, p[k]? = some x := ⟨_, List.getElem?_eq_getElem hlt⟩
                obtain ⟨y, hy⟩ : ∃ y, q[k]? = some y := ⟨_, List.getElem?_eq_getElem hlt2⟩
                have HXY : Hid (x.length = y.length) := by
                  show _ = _
                  rw [HC.out.1 x (List.mem_of_getElem? hx), HC.out.2.1 y (List.mem_of_getElem? hy), HC.out.2.2.2]
                have HB : Hid (x.length ≤ 200 ∧ (∀ z ∈ x, lenQ z 1) ∧ (∀ z ∈ y, lenQ z 1) ∧ 1 ≤ 900) := ⟨by have := HPR.out x (List.mem_of_getElem? hx); omega, HPX.out x (List.mem_of_getElem? hx), HQX.out y (List.mem_of_getElem? hy), by omega⟩
                have HAT : Hid (SS[k]? = some (addq x y)) := by show _ = _; rw [HSS.out]; exact addT_at hx hy
                obtain ⟨adV, rfl⟩ := hV9.place (List.length_pos_iff.1 (by omega))
                obtain ⟨adW, rfl⟩ := hW9.place (List.length_pos_iff.1 (by omega))
                obtain ⟨adS, rfl⟩ := SA9.place (List.length_pos_iff.1 (by omega))
                obtain ⟨Ax, cx, hix, ewx, srx⟩ := hV9.at2 hx
                obtain ⟨Ay, cy, hiy, ewy, sry⟩ := hW9.at2 hy
                have bd := bw.drew
                have ecx := (bd.cell (World.block_lt_of_cell? _ _ ewx)).trans ewx
                have ecy := (bd.cell (World.block_lt_of_cell? _ _ ewy)).trans ewy
                have ba := (below_alloc (w := wr) (Nat.le_refl _) (.cells #[.slice Ax x.length cx, .slice Ay y.length cy] 39)).drew
                have bda := bw.trans (ba.mono bw.size)
                have HTW : Hid (Two (wr.alloc (.cells #[.slice Ax x.length cx, .slice Ay y.length cy] 39)).drew (.slice (some ⟨wr.heap.size, 0, none⟩) 2 2) x y) := ⟨_, _, (isV_lit wr 39 [.slice Ax x.length cx, .slice Ay y.length cy]).below (Below.refl _ _).drew, srx.below bda, sry.below bda⟩
                clear hx hy srx sry ba ewx ewy
                go_upto_region 21 with (fail)
                go_region_law (first
                  | (go_simp; go_at_call 24; refine (fvadd_gen _ x y 1 _ HTW.out HB.out).mono ?_; rintro e w21 h21; obtain ⟨R, rfl, sR, b21⟩ : RetQLE (addq x y) 0 _ e w21 := (by rcases h21 with ⟨_, h21⟩ | ⟨h21, _⟩; exact h21; exact absurd HXY.out h21); rw [if_pos rfl] at sR; obtain ⟨AZ, cZ, rfl, -, -⟩ := sR.shape))
                all_goals
                  have b921 := bda.trans (b21.mono bda.size)
                  obtain ⟨AY, cY, hiz, ecz, srz⟩ := (SA9.below b921).at2 HAT.out
                  have hn : (((SS.length : Nat) : Int) != ((p.length : Nat) : Int)) = false := by rw [bne_eq_false_iff_eq, HSL.out]
                  clear b21 bda bd ecx ecy HTW
                  go_wp2_with fail
                  refine (fvsame_gen _ _ (addq x y) (addq x y) true _ srz sR (decide_eq_true rfl).symm).mono ?_
                  rintro e w22 ⟨rfl, b22⟩
                  have b922 := b921.trans (b22.mono b921.size)
                  have hsk : p.length - (k + 1) < p.length - k := by omega
                  clear ecz srz sR b22 hn
                  go_wp2
                  go_roundw
                  case rel => exact ⟨k + 1, by omega, b922, by go_num⟩
                  case measure => simp [intOf]; omega
              · go_wp2_with fail
                go_meet
                exact bw
          · obtain ⟨hM, hE2⟩ : SS = [] ∧ E2 = 8 := by
              rcases H2.out with ⟨h, _⟩ | ⟨_, h⟩
              · exact absurd h hc
              · exact h
            have hb : B2 = false := by rw [HB2.out]; exact decide_eq_false hc
            subst hb
            subst hE2
            clear hc hM
            go_wp2_with fail
            go_meet
            exact b9c
        case rest =>
          have b912 := hcut
          clear hcut b9c
          obtain ⟨w13, hw13⟩ : ∃ w13, w13 = wc := ⟨_, rfl⟩
          subst hw13
          go_upto_region 24 with (fail)
          go_cut [168] from 159 to 168 (fun s168 wx => s168 = .bool (!B3) ∧ Below w9.heap.size w9 wx)
          case first =>
            have hU12 := hU9.below b912
            go_wp2_with fail
            refine (evn_any _ p EP _ hU12 HEP.out).mono ?_
            rintro e w14 ⟨rfl, b14⟩
            have b914 := b912.trans (b14.mono b912.size)
            by_cases he : evenq p
            · have heb : EP = true := by rw [HEP.out]; exact decide_eq_true he
              subst heb
              have hU14 := hU9.below b914
              have hE := Lib.hid he
              clear he
              go_wp2_with fail
              refine (rwide_any _ p _ hU14).mono ?_
              rintro e w15 ⟨rfl, b15⟩
              have b915 := b914.trans (b15.mono b914.size)
              by_cases hw : wideq p = r.length
              · have hb : (!B3) = false := by rw [HB3.out, decide_eq_true ⟨hE.out, hw⟩]; rfl
                have hn2 : (((wideq p : Nat) : Int) != ((r.length : Nat) : Int)) = false := by rw [bne_eq_false_iff_eq, hw]
                clear hw
                go_wp2_with fail
                go_meet
                exact ⟨by rw [hb], b915⟩
              · have hb : (!B3) = true := by rw [HB3.out, decide_eq_false (fun h => hw h.2)]; rfl
                have hn2 : (((wideq p : Nat) : Int) != ((r.length : Nat) : Int)) = true := by rw [bne_iff_ne]; omega
                clear hw
                go_wp2_with fail
                go_meet
                exact ⟨by rw [hb], b915⟩
            · have heb : EP = false := by rw [HEP.out]; exact decide_eq_false he
              subst heb
              have hb : (!B3) = true := by rw [HB3.out, decide_eq_false (fun h => he h.1)]; rfl
              clear he
              go_wp2_with fail
              go_meet
              exact ⟨by rw [hb], b914⟩
          case rest =>
            obtain ⟨rfl, b9c⟩ := hcut
            clear b912
            obtain ⟨w14, hw14⟩ : ∃ w14, w14 = wc := ⟨_, rfl⟩
            subst hw14
            by_cases hc : evenq p ∧ wideq p = r.length
            · obtain ⟨hM, hE3⟩ : XX = dotsq p r ∧ E3 = 0 := by
                rcases H3.out with ⟨_, h⟩ | ⟨h, _⟩
                · exact h
                · exact absurd hc h
              have hb : B3 = true := by rw [HB3.out]; exact decide_eq_true hc
              subst hb
              subst hE3
              have HC := Lib.hid hc
              have HXX := Lib.hid hM
              have hr4 : r.length ≤ 4 := HRL.out
              have hp4 : p.length ≤ 4 := HPL.out
              have HCTL : Hid ((colT r).length = r.length) := colT_len r
              clear hc hM
              go_wp2
              go_loopw [23, 24] (fun v23 v24 wr => ∃ (k : Nat) (us : List Value), k ≤ r.length ∧ RowV wr w14.heap.size 48 v23 us ∧ TabF .i64 10000 wr v23 us ((colT r).take k) ∧ Below w14.heap.size w14 wr ∧ v24 = .int .i64 (k : Int)) (fun _ v24 _ => r.length - (intOf v24).toNat)
              case atStart => exact ⟨0, [], by omega, rowV_lit0 _ _ _ (Nat.le_refl _), TabF.nil _ _ _ _, below_alloc (Nat.le_refl _) _, rfl⟩
              case round =>
                obtain ⟨k, us, hk, hR, hT, bw, rfl⟩ := hrel
                obtain ⟨A23, c23, e23⟩ := RowV.slice hR
                subst e23
                have b9r := b9c.trans (bw.mono b9c.size)
                by_cases hlt : k < r.length
                · obtain ⟨x, hx⟩ : ∃ x, r[k]? = some x := ⟨_, List.getElem?_eq_getElem hlt⟩
                  obtain ⟨gy, oy, uy, ty, hAy, hkl, y0, y1, y2, ys, yd⟩ := hR9.at_ hx
                  subst hAy
                  obtain ⟨Ay, cy, rfl, -⟩ := id ys
                  obtain ⟨Dy, ey, rfl, -⟩ := id yd
                  have z0 := (b9r.cell (World.block_lt_of_cell? _ _ y0)).trans y0
                  have z1 := (b9r.cell (World.block_lt_of_cell? _ _ y1)).trans y1
                  have z2 := (b9r.cell (World.block_lt_of_cell? _ _ y2)).trans y2
                  have HUL : Hid (us.length ≤ 1000000000) := by
                    have h1 := hT.1
                    rw [List.length_take, HCTL.out] at h1
                    show _ ≤ _
                    omega
                  have HAT : Hid ((colT r).take (k + 1) = (colT r).take k ++ [[x]]) := take_succ_of (colT_at hx)
                  have hbl := fun g h => Nat.le_trans b9c.size (hR.base_le g h)
                  have hS := farS_lit1 (T := 63) (ys.below b9r) (yd.below b9r) (ys.farOld hbl) (yd.farOld hbl) hR.under
                  have ba := below_alloc (w := wr) (Nat.le_refl _) (.cells #[.bool (ngB x.num), .slice Ay (digs 10000 x.num.natAbs).length cy, .slice Dy (digs 10000 x.den).length ey] 63)
                  have hRa := hR.below ba
                  have hTa := hT.below ba
                  have hsa := Nat.le_trans bw.size ba.size
                  have hs1 : (wr.alloc (.cells #[.bool (ngB x.num), .slice Ay (digs 10000 x.num.natAbs).length cy, .slice Dy (digs 10000 x.den).length ey] 63)).heap.size = wr.heap.size + 1 := by simp
                  have HS1 := Lib.hid hs1
                  clear hx hR hT y0 y1 y2 hs1
                  go_wp2_with (at_builtin; refine wpList_append_w rfl (.tmp 186) (.tmp 192) rfl Tryz.underlying23 info_veq (v := .slice A23 us.length c23) (u := .slice (some ⟨wr.heap.size, 0, none⟩) 1 1) (by rfl) hRa (by rw [HS1.out]; rfl) rfl HUL.out hsa ?_; intro v7 w7 row7 bb7 HK7)
                  have T7 := hTa.snoc HK7.out hS
                  rw [← HAT.out] at T7
                  have b7 := (bw.trans (ba.mono bw.size)).trans bb7
                  have hsk : r.length - (k + 1) < r.length - k := by omega
                  clear hTa hRa hS HK7 ba z0 z1 z2 bb7 hbl
                  go_wp2
                  go_roundw
                  case rel => exact ⟨k + 1, _, by omega, row7, T7, b7, by go_num⟩
                  case measure => simp [intOf]; omega
                · have hS := RowV.tab hR hT
                  rw [List.take_of_length_le (by rw [HCTL.out]; omega)] at hS
                  have HMB : Hid ((∀ x ∈ p, x.length = (colT r).length) ∧ p.length ≤ 1000 ∧ (colT r).length ≤ 1000 ∧ wideq (colT r) ≤ 1000 ∧ evenq (colT r) ∧ lenT p 1 ∧ lenT (colT r) 1 ∧ 1 ≤ 1 ∧ (1 + 1 + 1) * (colT r).length + 1 ≤ 4000) := by
                    have hro : ∀ x ∈ colT r, x.length = 1 := fun x hx => by obtain ⟨z, _, rfl⟩ := List.mem_map.1 hx; rfl
                    refine ⟨fun x hx => by rw [HCTL.out, HC.out.1 x hx, HC.out.2], by omega, by rw [HCTL.out]; omega, ?_, evenq_of hro, HPX.out, fun x hx z hz => ?_, by omega, by rw [HCTL.out]; omega⟩
                    · by_cases hn : colT r = []
                      · rw [hn]; exact Nat.zero_le _
                      · rw [wideq_of hn hro]; omega
                    · obtain ⟨y, hy, rfl⟩ := List.mem_map.1 hx
                      rw [List.mem_singleton.1 hz]
                      exact HRX.out y hy
                  have hUr := hU9.below b9r
                  clear hR hT
                  go_wp2_with fail
                  refine (rmulT_any _ _ p (colT r) 1 _ hUr hS HMB.out.1 HMB.out.2).mono ?_
                  rintro e w15 ⟨VW, rfl, SW, b15⟩
                  obtain ⟨AWW, cWW, rfl, -, -⟩ := SW.shape
                  have b915 := b9r.trans (b15.mono b9r.size)
                  have HMP : Hid ((mulq p (colT r)).length = p.length) := mulq_len _ _
                  go_upto_if 199 with (fail)
                  go_cut [25] from 200 to 210 (fun s25 wx => SlT .i64 10000 wx s25 (colT (dotsq p r)) ∧ Below w9.heap.size w9 wx)
                  case first =>
                    by_cases hn : r = []
                    · have hrl0 : (((r.length : Nat) : Int) == 0) = true := by rw [hn]; rfl
                      have HN := Lib.hid hn
                      have HTG : Hid (colT (dotsq p r) = p.map fun _ => [0]) := by show _ = _; rw [hn]; exact colT_dots0 p
                      have HTL : Hid ((colT (dotsq p r)).length = p.length) := by show _ = _; rw [colT_len, dotsq_len]
                      clear hn SW
                      go_wp2
                      clear hrl0
                      try clear ‹(((r.length : Nat) : Int) == 0) = true›
                      try clear ‹(!true) = false›
                      go_loopw [25, 26] (fun v25 v26 wr => ∃ (k : Nat) (us : List Value), k ≤ p.length ∧ RowV wr w15.heap.size 48 v25 us ∧ TabF .i64 10000 wr v25 us ((colT (dotsq p r)).take k) ∧ Below w15.heap.size w15 wr ∧ v26 = .int .i64 (k : Int)) (fun _ v26 _ => p.length - (intOf v26).toNat)
                      case atStart => exact ⟨0, [], by omega, World.ownsRow_nil _ _ _ _, TabF.nil _ _ _ _, Below.refl _ _, rfl⟩
                      case round =>
                        obtain ⟨k, us, hk, hR, hT, bw, rfl⟩ := hrel
                        obtain ⟨A25, c25, e25⟩ := RowV.slice hR
                        subst e25
                        by_cases hlt : k < p.length
                        · have HUL : Hid (us.length ≤ 1000000000) := by
                            have h1 := hT.1
                            rw [List.length_take, HTL.out] at h1
                            show _ ≤ _
                            omega
                          have HAT : Hid ((colT (dotsq p r)).take (k + 1) = (colT (dotsq p r)).take k ++ [[0]]) := take_succ_of (by rw [HTG.out, List.getElem?_map, List.getElem?_eq_getElem hlt]; rfl)
                          have C0 : Calls Tryz.prog 26 #[.int .i64 0, .int .i64 1] wr (RetPF (0 : Rat) wr) := (qnum_any 0 1 _ 1 rfl (by omega) (by omega) (by omega) (by omega)).mono fun e w3 h => ((show mkRat 0 1 = (0 : Rat) by decide +kernel) ▸ h)
                          go_wp2_with fail
                          refine C0.mono ?_
                          rintro e w17 ⟨v0, rfl, k0, f0, b17⟩
                          obtain ⟨O, hO⟩ : ∃ O : Rat, O = 0 := ⟨_, rfl⟩
                          rw [← hO] at k0
                          have HO := Lib.hid hO
                          obtain ⟨u0, t0, rfl, q0, d0⟩ := k0
                          obtain ⟨Ay, cy, rfl, -⟩ := id q0
                          obtain ⟨Dy, ey, rfl, -⟩ := id d0
                          have hS := farS_lit1 (T := 63) q0 d0 ((f0 _ _ _ rfl).1.far hR.under) ((f0 _ _ _ rfl).2.far hR.under) (hR.below b17).under
                          have ba := below_alloc (w := w17) (Nat.le_refl _) (.cells #[.bool (ngB O.num), .slice Ay (digs 10000 O.num.natAbs).length cy, .slice Dy (digs 10000 O.den).length ey] 63)
                          have hRa := (hR.below b17).below ba
                          have hTa := (hT.below b17).below ba
                          have hsa := Nat.le_trans bw.size (Nat.le_trans b17.size ba.size)
                          have hs1 : (w17.alloc (.cells #[.bool (ngB O.num), .slice Ay (digs 10000 O.num.natAbs).length cy, .slice Dy (digs 10000 O.den).length ey] 63)).heap.size = w17.heap.size + 1 := by simp
                          have HS1 := Lib.hid hs1
                          clear hR hT hs1 C0 hO
                          go_wp2_with (at_builtin; refine wpList_append_w rfl (.tmp 206) (.tmp 209) rfl Tryz.underlying23 info_veq (v := .slice A25 us.length c25) (u := .slice (some ⟨w17.heap.size, 0, none⟩) 1 1) (by rfl) hRa (by rw [HS1.out]; rfl) rfl HUL.out hsa ?_; intro v7 w7 row7 bb7 HK7)
                          have T7 := hTa.snoc HK7.out hS
                          rw [HO.out, ← HAT.out] at T7
                          have b7 := ((bw.trans (b17.mono bw.size)).trans (ba.mono (Nat.le_trans bw.size b17.size))).trans bb7
                          have hsk : p.length - (k + 1) < p.length - k := by omega
                          clear hTa hRa hS HK7 ba bb7 b17
                          go_wp2
                          go_roundw
                          case rel => exact ⟨k + 1, _, by omega, row7, T7, b7, by go_num⟩
                          case measure => simp [intOf]; omega
                        · have hS := RowV.tab hR hT
                          rw [List.take_of_length_le (by rw [HTL.out]; omega)] at hS
                          have b9e := b915.trans (bw.mono b915.size)
                          clear hR hT
                          go_wp2_with fail
                          go_meet
                          exact ⟨hS, b9e⟩
                    · have hrl0 : (((r.length : Nat) : Int) == 0) = false := by rw [beq_eq_false_iff_ne]; have := List.length_pos_iff.2 hn; omega
                      have hSW : SlT .i64 10000 w15 (.slice AWW (mulq p (colT r)).length cWW) (colT (dotsq p r)) := by rw [colT_dots hn]; exact SW
                      clear hn
                      go_wp2_with fail
                      go_meet
                      exact ⟨hSW, b915⟩
                  case rest =>
                    obtain ⟨hSW, b9w⟩ := hcut
                    clear b915 SW
                    obtain ⟨AZW, cZW, eZW, -, -⟩ := hSW.shape
                    subst eZW
                    obtain ⟨w16, hw16⟩ : ∃ w16, w16 = wc := ⟨_, rfl⟩
                    subst hw16
                    have SX16 := SX9.below b9w
                    have HXL : Hid (XX.length ≤ 1000 ∧ ∀ x ∈ XX, lenQ x 100000) := by
                      show _ ∧ _
                      rw [HXX.out]
                      refine ⟨by rw [dotsq_len]; omega, fun x hx => ?_⟩
                      obtain ⟨y, hy, rfl⟩ := List.mem_map.1 hx
                      exact (lenQ_dotq (HPX.out y hy) HRX.out (by rw [HC.out.1 y hy, HC.out.2])).mono (by have := HPR.out y hy; omega)
                    have HZL : Hid (lenT (colT (dotsq p r)) 30000) := by
                      show lenT _ _
                      intro z hz x hx
                      obtain ⟨y, hy, rfl⟩ := List.mem_map.1 hz
                      rw [List.mem_singleton.1 hx]
                      obtain ⟨y2, hy2, rfl⟩ := List.mem_map.1 hy
                      exact (lenQ_dotq (HPX.out y2 hy2) HRX.out (by rw [HC.out.1 y2 hy2, HC.out.2])).mono (by have := HPR.out y2 hy2; omega)
                    have HZE : Hid ((1 : Int) = if colT XX = colT (dotsq p r) then 1 else 0) := by show _ = _; rw [HXX.out, if_pos rfl]
                    go_wp2_with fail
                    refine (mcolumn_any _ XX _ SX16 HXL.out).mono ?_
                    rintro e w17 ⟨VC, rfl, SC, b17⟩
                    obtain ⟨ACC, cCC, rfl, -, -⟩ := SC.shape
                    have hSW17 := hSW.below b17
                    have b917 := b9w.trans (b17.mono b9w.size)
                    go_wp2_with fail
                    refine (ist_any _ _ (colT XX) (colT (dotsq p r)) 1 _ SC hSW17 HZL.out HZE.out).mono ?_
                    rintro e w18 ⟨rfl, b18⟩
                    have b918 := b917.trans (b18.mono b917.size)
                    have bb18 := bb9.trans (b918.mono bb9.size)
                    go_wp2_with fail
                    refine (works12_any _).mono ?_
                    rintro e w19 ⟨rfl, b19⟩
                    have bb19 := bb18.trans (b19.mono bb18.size)
                    go_wp2
                    go_ret
                    exact ⟨rfl, bb19⟩
            · obtain ⟨hM, hE3⟩ : XX = [] ∧ E3 = 8 := by
                rcases H3.out with ⟨h, _⟩ | ⟨_, h⟩
                · exact absurd h hc
                · exact h
              have hb : B3 = false := by rw [HB3.out]; exact decide_eq_false hc
              subst hb
              subst hE3
              subst hM
              clear hc
              have bbc := bb9.trans (b9c.mono bb9.size)
              go_wp2_with fail
              refine (works12_any _).mono ?_
              rintro e w15 ⟨rfl, b15⟩
              have bb15 := bbc.trans (b15.mono bbc.size)
              go_wp2
              go_ret
              exact ⟨rfl, bb15⟩
set_option maxRecDepth 100000 in
theorem lifted (os : Os) (started : os.Started) (H : Type) (enc : TypeId × Value → H) :
    ReturnsInHanded {} Tryz.checked os 4 .any (Rows.matrixMulsSpec.pre6 enc Tryz.prog Tryz.f4 Rows.matrixMulsRow.domain false) (Rows.matrixMulsSpec.post enc Tryz.prog Tryz.f4 false true false false) := by
  refine returnsInHanded_of_change (C := Tryz.checked) own started (by kernel_rfl) Tryz.func4
    (ChangeSpec.witness6 (enc := enc) (C := Tryz.checked) false ⟨#[], #[.slice none 0 0, .slice none 0 0, .slice none 0 0], []⟩ 8 (by kernel_rfl) (by kernel_rfl) (by kernel_rfl) (by kernel_rfl)) ?_
  intro W base args ds gs before hval0 hW hcnd _
  have hval : ∀ (j : Nat) t v, Tryz.f4.params[j]? = some t → args[j]? = some v → Value.okWide Tryz.prog W .any base t v := hval0
  have hW' := hW
  obtain ⟨p, q, hA0, hV, rfl, hfz, hnd⟩ := hW
  have hA : DataW.TrodAll enc Tryz.prog W 0 (fun _ => true) true Tryz.f4.params.toList args.toList ds p := hA0
  rw [Tryz.params4] at hA hval
  obtain ⟨v0, vs0, d0, ds0, p0, q0, hargs, rfl, rfl, t0, r0⟩ := trodAll_cons hA
  obtain ⟨v1, vs1, d1, ds1, p1, q1, rfl, rfl, rfl, t1, r1⟩ := trodAll_cons r0
  obtain ⟨v2, vs2, d2, ds2, p2, q2, rfl, rfl, rfl, t2, r2⟩ := trodAll_cons r1
  obtain ⟨rfl, rfl, rfl⟩ := trodAll_nil r2
  obtain rfl : args = #[v0, v1, v2] := by cases args; simp_all
  obtain ⟨rfl, rfl⟩ := trodVars_none hV
  have hs0 := arg_t Tryz.underlying22 (by kernel_rfl) Tryz.underlying39 Tryz.underlying46 (by kernel_rfl) (by kernel_rfl) Tryz.underlying44 (by kernel_rfl) Tryz.underlying4 Tryz.underlying42 Tryz.underlying42 Tryz.underlying76 cells_u (hval 0 22 v0 rfl rfl) t0
  have hs1 := arg_t Tryz.underlying22 (by kernel_rfl) Tryz.underlying39 Tryz.underlying46 (by kernel_rfl) (by kernel_rfl) Tryz.underlying44 (by kernel_rfl) Tryz.underlying4 Tryz.underlying42 Tryz.underlying42 Tryz.underlying76 cells_u (hval 1 22 v1 rfl rfl) t1
  have hs2 := arg_qs Tryz.underlying39 Tryz.underlying46 (by kernel_rfl) (by kernel_rfl) Tryz.underlying44 (by kernel_rfl) Tryz.underlying4 Tryz.underlying42 Tryz.underlying42 Tryz.underlying76 cells_u (hval 2 39 v2 rfl rfl) t2
  clear hA0 hval0
  simp only [List.append_nil] at hW'
  have hlt0 : ∀ x ∈ p0, x.block < W.heap.size := fun x hx => hW'.lt x (List.mem_append_left _ hx)
  have hlt1 : ∀ x ∈ p1, x.block < W.heap.size := fun x hx => hW'.lt x (List.mem_append_right _ (List.mem_append_left _ hx))
  have hlt2 : ∀ x ∈ p2, x.block < W.heap.size := fun x hx => hW'.lt x (List.mem_append_right _ (List.mem_append_right _ (hx)))
  refine (walk v0 v1 v2 W hs0 hs1 hs2).mono fun e W' ⟨he, hb⟩ => ?_
  subst he
  have s0 := Below.trod laidOut (by kernel_rfl) (of_decide_eq_true (by kernel_rfl)) t0 hb hlt0
  have s1 := Below.trod laidOut (by kernel_rfl) (of_decide_eq_true (by kernel_rfl)) t1 hb hlt1
  have s2 := Below.trod laidOut (by kernel_rfl) (of_decide_eq_true (by kernel_rfl)) t2 hb hlt2
  exact ⟨_, rfl, _, _, _, [] ++ [], _, [], hW', trodAll_cons_mk (shut_bool Tryz.underlying4 _) trodAll_mk0, trodAll_cons_mk s0 (trodAll_cons_mk s1 (trodAll_cons_mk s2 (trodAll_mk0))), rfl, hb.frame _, fun h => by cases h⟩
theorem over : Rows.matrixMulsRow.holds Tryz.pinned (OpenSpec.ofChange Rows.matrixMulsSpec) :=
  OpenClaim.holds_of_wide 4 Tryz.f4 rfl rfl rfl rfl rfl rfl rfl ⟨rfl, rfl, rfl, rfl, rfl⟩ rfl rfl rfl rfl rfl (by kernel_rfl) Tryz.func4 (by kernel_rfl)
    (of_decide_eq_true (by kernel_rfl)) (by unfold Func.isWrapper; first | (rw [if_pos (by decide +kernel)]; kernel_rfl) | (rw [if_neg (by decide +kernel)]; exact ⟨rfl, rfl⟩))
    (fun os started H enc _ => lifted os started H enc)
/-- The statement. -/
theorem proved : Rows.MatrixMulsSaid := over
end Go.Proofs.YtekpnbgchoccmaaGreat.matrixMuls
