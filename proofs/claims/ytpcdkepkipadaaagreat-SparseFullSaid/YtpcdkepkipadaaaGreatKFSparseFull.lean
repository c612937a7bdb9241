/- SparseFull: any table made sparse, and full again. Condition: the arguments can be read as data. -/
import Derived.Test.YtpcdkepkipadaaaGreatKF5
import Derived.Deep.CutRange
import Derived.OpenShut
import Derived.LaidMore
import Derived.Lay
import Derived.Stop.Joined
namespace Go.Proofs.YtpcdkepkipadaaaGreat.sparseFull
open Go.ChangeShapes Go.WideShapes Go.ChangeAt Go.RowKit Go.Proofs.YtpcdkepkipadaaaGreat.num Go.Proofs.YtpcdkepkipadaaaGreat.mem Go.Proofs.YtpcdkepkipadaaaGreat.nat Go.Proofs.YtpcdkepkipadaaaGreat.txt Go.Proofs.YtpcdkepkipadaaaGreat.str Go.Proofs.YtpcdkepkipadaaaGreat.flow Go.Proofs.YtpcdkepkipadaaaGreat.whl Go.Proofs.YtpcdkepkipadaaaGreat.rat
set_option linter.unusedVariables false
theorem own : ownKnob Tryz.prog.godebug = none := by kernel_rfl
theorem laidOut : laidOutB Tryz.prog = true := by kernel_rfl
theorem cells_u : Tryz.prog.cellsOf 78 = 1 := by kernel_rfl
set_option maxHeartbeats 6400000 in
set_option maxRecDepth 100000 in
/-- The walk: the Go text returns true; what was there is as it was. -/
theorem walk (v0 : Value) (v1 : Value) (w : World) (h0 : ArgT w v0) (h1 : ArgQs w v1) :
    Calls Tryz.prog 4 #[v0, v1] w (RetV (.bool true) w) := by
  obtain ⟨A0, n0, c0, rfl, -, -⟩ := h0.shape
  obtain ⟨A1, n1, c1, rfl, -⟩ := id h1
  go_enter Tryz.func4, Tryz.ntmps4
  go_wp2_with fail
  refine (works13_any _).mono ?_
  rintro e w0 ⟨rfl, b0⟩
  have hA0 := h0.below b0
  go_wp2_with fail
  refine (fewt_any _ 5 _ hA0 (by omega)).mono ?_
  rintro e w1 ⟨V, U, p, rfl, hV, hU, hpl, hpr, hpx, b1⟩
  obtain ⟨AV, cV, rfl, -, -⟩ := hV.shape
  obtain ⟨AU, cU, rfl, -, -⟩ := hU.shape
  have bb1 := b0.trans (b1.mono b0.size)
  have hA1 := ArgQs.below h1 bb1
  go_wp2_with fail
  refine (few11_any A1 n1 c1 5 _ hA1 (by omega)).mono ?_
  rintro e w2 ⟨VR, UR, r, rfl, hVR, hUR, hrl, hrx, b2, _, _⟩
  obtain ⟨AR, cR, rfl, -, -⟩ := hVR.shape
  obtain ⟨AQ, cQ, rfl, -, -⟩ := hUR.shape
  have bb2 := bb1.trans (b2.mono bb1.size)
  have hV2 := hV.below b2
  have HRL : Hid (r.length ≤ 5) := by show _ ≤ _; omega
  have HRX := Lib.hid hrx
  have HPX := Lib.hid hpx
  have HPL := Lib.hid hpl
  have HPR := Lib.hid hpr
  clear hV hU hUR hrl hrx hpx hpl hpr b0 b1 b2 bb1 hA0 hA1
  by_cases hm : mayq p
  · have HM := Lib.hid hm
    have hs := shp_may hm
    have hwl : wideq p ≤ 5 := by
      by_cases hn : p = []
      · rw [hn]; exact Nat.zero_le _
      · obtain ⟨x, hx⟩ : ∃ x, p[0]? = some x := ⟨_, List.getElem?_eq_getElem (List.length_pos_iff.2 hn)⟩
        rw [wideq_at hx]; exact HPR.out x (List.mem_of_getElem? hx)
    have HW := Lib.hid hwl
    have HLS : Hid (lenS p 1) := fun i j q hq => by
      obtain ⟨x, h1, h2⟩ := cellq_inv hq
      exact HPX.out x (List.mem_of_getElem? h1) q (List.mem_of_getElem? h2)
    clear hm hs hwl
    go_wp2_with fail
    refine (sfrom_ok _ p _ hV2 HM.out (HPX.out.mono (by decide))).mono ?_
    rintro e w3 ⟨g, b, rfl, S3, hg3, hb3, b3⟩
    have bb3 := bb2.trans (b3.mono bb2.size)
    have hV3 := hV2.below b3
    have hR3 := hVR.below b3
    clear hV2 hVR hg3 hb3 b3 bb2
    go_wp2_with fail
    refine (mcheck_any _ p 0 _ hV3 (by rw [if_pos HM.out])).mono ?_
    rintro e w4 ⟨rfl, b4⟩
    have bb4 := bb3.trans (b4.mono bb3.size)
    have S4 := S3.below b4
    have hV4 := hV3.below b4
    have hR4 := hR3.below b4
    clear S3 hV3 hR3 b4 bb3
    go_wp2_with fail
    refine (sfull_any g b _ _ p _ S4 (HLS.out.mono (by omega))).mono ?_
    rintro e w5 ⟨VB, rfl, hB, b5⟩
    obtain ⟨AB, cB, rfl, -, -⟩ := hB.shape
    have bb5 := bb4.trans (b5.mono bb4.size)
    have S5 := S4.below b5
    have hV5 := hV4.below b5
    have hR5 := hR4.below b5
    clear S4 hV4 hR4 b5 bb4
    go_wp2_with fail
    refine (sfrom_ok _ p _ hB HM.out (HPX.out.mono (by decide))).mono ?_
    rintro e w6 ⟨g6, b6', rfl, U6, hg6, hb6, b6⟩
    have bb6 := bb5.trans (b6.mono bb5.size)
    have S6 := S5.below b6
    have hV6 := hV5.below b6
    have hR6 := hR5.below b6
    have hB6 := hB.below b6
    clear S5 hV5 hR5 hB b6 bb5 hg6 hb6
    have APX : ∀ w0, Spt w0 g b p.length (wideq p) p → SlF .u64 4294967296 w0 (.slice AR r.length cR) r → Calls Tryz.prog 22 #[.pointer (some ⟨g, 0, none⟩), .slice AR r.length cR] w0 (fun e w' => ((wideq p = r.length) ∧ RetQLE (dotsq p r) 0 w0 e w') ∨ (¬ (wideq p = r.length) ∧ RetQLE [] 8 w0 e w')) := fun w0 hS hr => by
      have hw0 : (if p.length = 0 then 0 else wideq p) = wideq p := by
        by_cases hn : p.length = 0
        · rw [if_pos hn, List.length_eq_zero_iff.1 hn]; rfl
        · rw [if_neg hn]
      by_cases hf : wideq p = r.length
      · exact (sapply_ok g b _ _ p _ r 1 1 w0 hS hr (by rw [hw0, hf]) (by omega) ⟨HLS.out, HRX.out, by have := HW.out; omega⟩).mono fun e w' h => .inl ⟨hf, h⟩
      · exact (sapply_no g b _ _ p _ r w0 hS hr (by rw [hw0]; exact fun e => hf e.symm)).mono fun e w' h => .inr ⟨hf, _, h.1, by rw [if_neg (by decide)]; exact slF_nil _ _ _, h.2⟩
    go_wp2_with fail
    refine (APX _ S6 hR6).mono ?_
    rintro e w7 h7
    obtain ⟨XX, E7, hcase, VX, rfl, SX, b7⟩ : ∃ (XX : List Rat) (E7 : Int), ((wideq p = r.length ∧ XX = dotsq p r ∧ E7 = 0) ∨ (¬ (wideq p = r.length) ∧ XX = [] ∧ E7 = 8)) ∧ ∃ VX, e = .returned (.tuple #[VX, .int .i64 E7]) ∧ SlF .u64 4294967296 w7 VX XX ∧ Below w6.heap.size w6 w7 := by
      rcases h7 with ⟨hf, V', he, hs, hb⟩ | ⟨hf, V', he, hs, hb⟩
      · exact ⟨_, _, .inl ⟨hf, rfl, rfl⟩, V', he, by rw [if_pos rfl] at hs; exact hs, hb⟩
      · exact ⟨_, _, .inr ⟨hf, rfl, rfl⟩, V', he, by rw [if_neg (by decide)] at hs; exact hs, hb⟩
    have HC := Lib.hid hcase
    obtain ⟨AX, cX, rfl, -, -⟩ := SX.shape
    have bb7 := bb6.trans (b7.mono bb6.size)
    have S7 := S6.below b7
    have U7 := U6.below b7
    have hV7 := hV6.below b7
    have hR7 := hR6.below b7
    have hB7 := hB6.below b7
    clear S6 U6 hV6 hR6 hB6 b7 bb6 h7 APX hcase
    have APY : ∀ w0, SlT .u64 4294967296 w0 (.slice AV p.length cV) p → SlF .u64 4294967296 w0 (.slice AR r.length cR) r → Calls Tryz.prog 23 #[.slice AV p.length cV, .slice AR r.length cR] w0 (fun e w' => ∃ VY, e = .returned (.tuple #[VY, .int .i64 E7]) ∧ SlF .u64 4294967296 w' VY XX ∧ Below w0.heap.size w0 w') := fun w0 hv hr =>
      (mapply_any _ _ p r 1 1 _ hv hr ⟨HPX.out, HRX.out, by have := HRL.out; omega⟩).mono fun e w' h => by
        rcases h with ⟨hm, V', he, hs, hb⟩ | ⟨hm, V', he, hs, hb⟩
        · rcases HC.out with ⟨hf, rfl, rfl⟩ | ⟨hf, rfl, rfl⟩
          · exact ⟨V', he, by rw [if_pos rfl] at hs; exact hs, hb⟩
          · exact absurd hm.2 hf
        · rcases HC.out with ⟨hf, rfl, rfl⟩ | ⟨hf, rfl, rfl⟩
          · exact absurd ⟨HM.out, hf⟩ hm
          · exact ⟨V', he, by rw [if_neg (by decide)] at hs; exact hs, hb⟩
    go_wp2_with fail
    refine (APY _ hV7 hR7).mono ?_
    rintro e w8 ⟨VY, rfl, SY, b8⟩
    obtain ⟨AY, cY, rfl, -, -⟩ := SY.shape
    have bb8 := bb7.trans (b8.mono bb7.size)
    have S8 := S7.below b8
    have U8 := U7.below b8
    have hV8 := hV7.below b8
    have hB8 := hB7.below b8
    have SX8 := SX.below b8
    clear S7 U7 hV7 hR7 hB7 b8 bb7 APY SX
    go_wp2_with fail
    refine (msize_any _ p _ hV8).mono ?_
    rintro e w9 ⟨rfl, b9⟩
    have bb9 := bb8.trans (b9.mono bb8.size)
    have S9 := S8.below b9
    have U9 := U8.below b9
    have hV9 := hV8.below b9
    have hB9 := hB8.below b9
    have SX9 := SX8.below b9
    have SY9 := SY.below b9
    clear S8 U8 hV8 hB8 SX8 SY b9 bb8
    go_wp2_with fail
    refine (ssize_any _ _ _ _ _ _ S9).mono ?_
    rintro e w10 ⟨rfl, b10⟩
    have bb10 := bb9.trans (b10.mono bb9.size)
    have S10 := S9.below b10
    have U10 := U9.below b10
    have hV10 := hV9.below b10
    have hB10 := hB9.below b10
    have SX10 := SX9.below b10
    have SY10 := SY9.below b10
    clear S9 U9 hV9 hB9 SX9 SY9 b10 bb9
    have HXL : Hid (XX.length ≤ 1000 ∧ ∀ x ∈ XX, lenQ x 100000) := by
      rcases HC.out with ⟨hf, rfl, rfl⟩ | ⟨hf, rfl, rfl⟩
      · refine ⟨by rw [dotsq_len]; have := HPL.out; omega, fun x hx => ?_⟩
        obtain ⟨y, hy, rfl⟩ := List.mem_map.1 hx
        have hyl : y.length = r.length := (HM.out.2.2 y hy).trans hf
        exact (lenQ_dotq (HPX.out y hy) HRX.out hyl).mono (by have := HRL.out; omega)
      · exact ⟨by simp, fun x hx => by simp at hx⟩
    have hcc : ((cntT p : Int) == (cntT p : Int)) = true := beq_self_eq_true _
    have hee : (E7 == E7) = true := beq_self_eq_true _
    have hp1 : (((p.length : Nat) : Int) == ((p.length : Nat) : Int)) = true := beq_self_eq_true _
    have hp2 : (((wideq p : Nat) : Int) == ((wideq p : Nat) : Int)) = true := beq_self_eq_true _
    go_wp2_with fail
    refine (msame_any _ _ p p true _ hB10 hV10 (decide_eq_true rfl).symm).mono ?_
    rintro e w11 ⟨rfl, b11⟩
    have bb11 := bb10.trans (b11.mono bb10.size)
    have S11 := S10.below b11
    have U11 := U10.below b11
    have SX11 := SX10.below b11
    have SY11 := SY10.below b11
    clear S10 U10 hV10 hB10 SX10 SY10 b11 bb10
    go_wp2_with fail
    refine (scount_any _ _ _ _ _ _ U11).mono ?_
    rintro e w12 ⟨rfl, b12⟩
    go_wp2_with fail
    refine (scount_any _ _ _ _ _ _ (S11.below b12)).mono ?_
    rintro e w13 ⟨rfl, b13⟩
    have b123 := b12.trans (b13.mono b12.size)
    have bb13 := bb11.trans (b123.mono bb11.size)
    have SX13 := SX11.below b123
    have SY13 := SY11.below b123
    clear S11 U11 SX11 SY11 b12 b13 b123 bb11
    go_wp2_with fail
    refine (mcolumn_any _ XX _ SX13 HXL.out).mono ?_
    rintro e w14 ⟨VC, rfl, C14, b14⟩
    obtain ⟨AC, cC, rfl, -, -⟩ := C14.shape
    have SY14 := SY13.below b14
    have bb14 := bb13.trans (b14.mono bb13.size)
    clear SX13 SY13 b14 bb13
    go_wp2_with fail
    refine (mcolumn_any _ XX _ SY14 HXL.out).mono ?_
    rintro e w15 ⟨VD, rfl, D15, b15⟩
    obtain ⟨AD, cD, rfl, -, -⟩ := D15.shape
    have C15 := C14.below b15
    have bb15 := bb14.trans (b15.mono bb14.size)
    clear C14 SY14 b15 bb14
    go_wp2_with fail
    refine (msame_any _ _ (colT XX) (colT XX) true _ C15 D15 (decide_eq_true rfl).symm).mono ?_
    rintro e w16 ⟨rfl, b16⟩
    have bb16 := bb15.trans (b16.mono bb15.size)
    go_wp2
    go_ret
    exact ⟨rfl, bb16⟩
  · have HM := Lib.hid hm
    clear hm
    go_wp2_with fail
    refine (sfrom_no _ p _ hV2 HM.out).mono ?_
    rintro e w3 ⟨rfl, b3⟩
    have bb3 := bb2.trans (b3.mono bb2.size)
    have hV3 := hV2.below b3
    go_wp2_with fail
    refine (mcheck_any _ p 8 _ hV3 (by rw [if_neg HM.out])).mono ?_
    rintro e w4 ⟨rfl, b4⟩
    have bb4 := bb3.trans (b4.mono bb3.size)
    go_wp2
    go_ret
    exact ⟨rfl, bb4⟩
set_option maxRecDepth 100000 in
theorem lifted (os : Os) (started : os.Started) (H : Type) (enc : TypeId × Value → H) :
    ReturnsInHanded {} Tryz.checked os 4 .any (Rows.sparseFullSpec.pre6 enc Tryz.prog Tryz.f4 Rows.sparseFullRow.domain false) (Rows.sparseFullSpec.post enc Tryz.prog Tryz.f4 false true false false) := by
  refine returnsInHanded_of_change (C := Tryz.checked) own started (by kernel_rfl) Tryz.func4
    (ChangeSpec.witness6 (enc := enc) (C := Tryz.checked) false ⟨#[], #[.slice none 0 0, .slice none 0 0], []⟩ 8 (by kernel_rfl) (by kernel_rfl) (by kernel_rfl) (by kernel_rfl)) ?_
  intro W base args ds gs before hval0 hW hcnd _
  have hval : ∀ (j : Nat) t v, Tryz.f4.params[j]? = some t → args[j]? = some v → Value.okWide Tryz.prog W .any base t v := hval0
  have hW' := hW
  obtain ⟨p, q, hA0, hV, rfl, hfz, hnd⟩ := hW
  have hA : DataW.TrodAll enc Tryz.prog W 0 (fun _ => true) true Tryz.f4.params.toList args.toList ds p := hA0
  rw [Tryz.params4] at hA hval
  obtain ⟨v0, vs0, d0, ds0, p0, q0, hargs, rfl, rfl, t0, r0⟩ := trodAll_cons hA
  obtain ⟨v1, vs1, d1, ds1, p1, q1, rfl, rfl, rfl, t1, r1⟩ := trodAll_cons r0
  obtain ⟨rfl, rfl, rfl⟩ := trodAll_nil r1
  obtain rfl : args = #[v0, v1] := by cases args; simp_all
  obtain ⟨rfl, rfl⟩ := trodVars_none hV
  have hs0 := arg_t Tryz.underlying52 (by kernel_rfl) Tryz.underlying53 Tryz.underlying36 (by kernel_rfl) (by kernel_rfl) Tryz.underlying34 (by kernel_rfl) Tryz.underlying4 Tryz.underlying32 Tryz.underlying32 Tryz.underlying78 cells_u (hval 0 52 v0 rfl rfl) t0
  have hs1 := arg_qs Tryz.underlying53 Tryz.underlying36 (by kernel_rfl) (by kernel_rfl) Tryz.underlying34 (by kernel_rfl) Tryz.underlying4 Tryz.underlying32 Tryz.underlying32 Tryz.underlying78 cells_u (hval 1 53 v1 rfl rfl) t1
  clear hA0 hval0
  simp only [List.append_nil] at hW'
  have hlt0 : ∀ x ∈ p0, x.block < W.heap.size := fun x hx => hW'.lt x (List.mem_append_left _ hx)
  have hlt1 : ∀ x ∈ p1, x.block < W.heap.size := fun x hx => hW'.lt x (List.mem_append_right _ (hx))
  refine (walk v0 v1 W hs0 hs1).mono fun e W' ⟨he, hb⟩ => ?_
  subst he
  have s0 := Below.trod laidOut (by kernel_rfl) (of_decide_eq_true (by kernel_rfl)) t0 hb hlt0
  have s1 := Below.trod laidOut (by kernel_rfl) (of_decide_eq_true (by kernel_rfl)) t1 hb hlt1
  exact ⟨_, rfl, _, _, _, [] ++ [], _, [], hW', trodAll_cons_mk (shut_bool Tryz.underlying4 _) trodAll_mk0, trodAll_cons_mk s0 (trodAll_cons_mk s1 (trodAll_mk0)), rfl, hb.frame _, fun h => by cases h⟩
theorem over : Rows.sparseFullRow.holds Tryz.pinned (OpenSpec.ofChange Rows.sparseFullSpec) :=
  OpenClaim.holds_of_wide 4 Tryz.f4 rfl rfl rfl rfl rfl rfl rfl ⟨rfl, rfl, rfl, rfl, rfl⟩ rfl rfl rfl rfl rfl (by kernel_rfl) Tryz.func4 (by kernel_rfl)
    (of_decide_eq_true (by kernel_rfl)) (by unfold Func.isWrapper; first | (rw [if_pos (by decide +kernel)]; kernel_rfl) | (rw [if_neg (by decide +kernel)]; exact ⟨rfl, rfl⟩))
    (fun os started H enc _ => lifted os started H enc)
/-- The statement. -/
theorem proved : Rows.SparseFullSaid := over
end Go.Proofs.YtpcdkepkipadaaaGreat.sparseFull
