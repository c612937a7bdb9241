/- SolveSolved: a times the solution is b. Condition: the arguments can be read as data. -/
import Derived.Test.YtbfflcpmagjlnaaGreatKE8
import Derived.Deep.CutRange
import Derived.OpenShut
import Derived.LaidMore
import Derived.Lay
import Derived.Stop.Joined
set_option linter.unusedVariables false
set_option linter.unusedSimpArgs false
set_option maxRecDepth 100000
set_option maxHeartbeats 6400000
open And renaming intro -> zA
open Nat renaming le_refl -> zB3
namespace Go.Proofs.YtbfflcpmagjlnaaGreat.solveSolved
open Go.ChangeShapes Go.WideShapes Go.ChangeAt Go.RowKit num mem nat txt str flow whl rat
theorem own : ownKnob Tryz.prog.godebug = none := by kernel_rfl
theorem laidOut : laidOutB Tryz.prog = true := by kernel_rfl
theorem cells_u : Tryz.prog.cellsOf 75 = 1 := by kernel_rfl
/-- The walk: the Go text returns true; what was there is as it was. -/
theorem walk (v0 : Value) (v1 : Value) (w : World) (h0 : zT5 w v0) (h1 : zT5 w v1) :
    Calls Tryz.prog 3 #[v0, v1] w (zE1 (.bool true) w) := by
  go_enter Tryz.func3, Tryz.ntmps3
  go_wp2_with fail
  refine (jT7 _).mono ?_
  rintro e w1 ⟨rfl, b1⟩
  have h0' := h0.bQ b1
  have h1' := h1.bQ b1
  go_wp2_with fail
  refine (yU5 _ 5 _ h0' (by omega)).mono ?_
  rintro e w2 ⟨V0, U0, A, rfl, sa, eva, ha5, hwa, hla, b2⟩
  obtain ⟨AV, cV, rfl, -, -⟩ := id sa.shape
  have h1'' := h1'.bQ b2
  have B2 := b1.trans (b2.mono b1.size)
  clear h0' h1'
  go_wp2_with fail
  refine (yU5 _ 5 _ h1'' (by omega)).mono ?_
  rintro e w3 ⟨V1, U1, B, rfl, sb, evb, hb5, hwb, hlb, b3⟩
  obtain ⟨BV, dV, rfl, -, -⟩ := id sb.shape
  have HSA := Lib.hid (sa.bQ b3)
  have HSB := Lib.hid sb
  have HFA := Lib.hid (zA eva (zA ha5 (zA hwa hla)))
  have HFB := Lib.hid (zA evb (zA hb5 (zA hwb hlb)))
  have HB3 : Hid (Below w.heap.size w w3) := B2.trans (b3.mono B2.size)
  clear h1'' B2 b1 b2 b3 sa sb eva evb hla hlb
  obtain ⟨C, hC⟩ : ∃ C, C = zC A := ⟨_, rfl⟩
  have CZ := zR _ A w3 HSA.out
  rw [<- hC] at CZ
  have HC := Lib.hid hC
  have hn5 : A.length <= 5 := ha5
  clear hC ha5 hwa hb5 hwb
  go_wp2_with fail
  refine CZ.mono ?_
  rintro e w4 ⟨rfl, b4⟩
  have HB4 : Hid (Below w.heap.size w w4) := HB3.out.trans (b4.mono HB3.out.size)
  have HSA4 := Lib.hid (HSA.out.bQ b4)
  have HSB4 := Lib.hid (HSB.out.bQ b4)
  clear CZ b4
  by_cases hsq : A.length = C
  · by_cases hbl : B.length = A.length
    · have HOK : Hid (okq A B) := ⟨by rw [<- HC.out]; exact hsq, ⟨by have := HFA.out.2.1; omega, by have := HFA.out.2.2.1; omega, HFA.out.1⟩, ⟨by have := HFB.out.2.1; omega, by have := HFB.out.2.2.1; omega, HFB.out.1⟩, hbl.symm⟩
      have HEX : Hid (ExInL A B 1 100) := by
        have h1 := HFB.out.2.2.1
        have h2 := HFA.out.2.1
        have hx : 2 ^ A.length <= 2 ^ 5 := Nat.pow_le_pow_right (by omega) h2
        have h4 : (1 + (1 + 1 * (A.length + zC B)) + 1) * 2 ^ A.length <= 13 * 2 ^ 5 := Nat.mul_le_mul (by omega) hx
        exact ⟨by omega, HFA.out.2.2.2, HFB.out.2.2.2, by omega, by omega, by have := dZ_le (S := 1 + (1 + 1 * (A.length + zC B))) (n := A.length) (by omega); omega, by omega⟩
      have H5A : Hid (Few5 A) := ⟨HFA.out.2.1, fun r hr => by rw [HFA.out.1 r hr]; exact HFA.out.2.2.1, HFA.out.2.2.2⟩
      have H5B : Hid (Few5 B) := ⟨HFB.out.2.1, fun r hr => by rw [HFB.out.1 r hr]; exact HFB.out.2.2.1, HFB.out.2.2.2⟩
      have CX := jV8 _ _ A B 1 100 w4 HSA4.out HSB4.out HEX
      have CY := fun w b => jV7 _ _ A B w (HSA4.out.bQ b) (HSB4.out.bQ b) H5A H5B
      obtain ⟨n, hn⟩ : ∃ n, n = A.length := ⟨_, rfl⟩
      have HN : Hid (n = A.length /\ C = n) := ⟨hn, by rw [hn]; exact hsq.symm⟩
      have HA : Hid (shp A n n) := ⟨hn.symm, fun r hr => by rw [HFA.out.1 r hr, <- HC.out, HN.out.2]⟩
      have HB : Hid (shp B n (zC B)) := ⟨by rw [hbl, hn], fun r hr => HFB.out.1 r hr⟩
      have HWA : Hid (zC A = n) := by show _ = _; rw [<- HC.out, HN.out.2]
      rw [hbl]
      rw [hbl] at CX CY
      subst hsq
      rw [<- hn]
      rw [<- hn] at CX CY hn5
      clear hbl hn
      go_wp2_with fail
      refine CX.mono ?_
      rintro e w5 (⟨-, b5, (⟨hd, V5, X, rfl, s5, hX, lX⟩ | ⟨hd, rfl⟩)⟩ | ⟨hno, _⟩)
      · obtain ⟨AX, cX, rfl, -, -⟩ := id s5.shape
        have HB5 : Hid (Below w.heap.size w w5) := HB4.out.trans (b5.mono HB4.out.size)
        have CY' := CY _ b5
        have HX := Lib.hid (zA hd (zA hX lX))
        have HSX := Lib.hid s5
        have HSA5 := Lib.hid (HSA4.out.bQ b5)
        have HSB5 := Lib.hid (HSB4.out.bQ b5)
        clear CX hd hX lX s5 b5 CY
        go_wp2_with fail
        refine CY'.mono ?_
        rintro e w6 ⟨b6, (⟨-, v6, T, ps, b, rfl, pv6, sT, hE, hR, hK, hb⟩ | ⟨hnw, -⟩)⟩
        · rw [HWA.out] at pv6 hE hK hb
          rw [<- HN.out.1] at hE hR hK hb
          have hr : ps.length = n := (yU hE hR hK).1 (by rw [HN.out.1]; exact HX.out.1)
          have hfs : (zI7 n ps).length = 0 := by have := qZ1 hE; omega
          have HBF : Hid (b = false) := Bool.eq_false_iff.2 fun h => hb.1 h (yT6 HA.out hE hR hK hr)
          obtain ⟨A6, c6, rfl, -⟩ := id pv6
          rw [hr, hfs]
          obtain ⟨wS, hS, bS, BS, hSs⟩ := zL1 w6 34 #[.int .i64 ((n : Nat) : Int), .slice A6 0 c6, .bool b]
          have V0 := BS.cell 0
          have V1 := BS.cell 1
          have V2 := BS.cell 2
          have c5S := b6.trans (bS.mono b6.size)
          have BSS := HB5.out.trans (c5S.mono HB5.out.size)
          have hLt := qY 22 (HSA5.out.bQ c5S) (HSX.out.bQ c5S)
          rw [<- HN.out.1] at hLt
          obtain ⟨w7, hw7⟩ : ∃ w7, w7 = wS.alloc (.cells #[.slice AV n cV, .slice AX X.length cX] 22) := ⟨_, rfl⟩
          have hb7 := zC9 (w := wS) (zB3 _) (.cells #[.slice AV n cV, .slice AX X.length cX] 22)
          rw [<- hw7] at hLt hb7
          have HB7 : Hid (Below w.heap.size w w7) := BSS.trans (hb7.mono BSS.size)
          have HSB7 := Lib.hid (HSB5.out.bQ (c5S.trans (hb7.mono c5S.size)))
          have BS7 := BS.bQ hb7
          have HXS : Hid (shp X n (zC B)) := by rw [HN.out.1]; exact HX.out.2.1.sh
          have CM := yT9 _ [A, X] 5 100 w7 ⟨by omega, by omega, by omega, by omega, by omega⟩ hLt ⟨by simp, fun t ht => by
            rcases List.mem_cons.1 ht with rfl | ht
            · exact ⟨HFA.out.2.1, fun r hr => by rw [HFA.out.1 r hr]; exact HFA.out.2.2.1, fun r hr x hx => (HFA.out.2.2.2 r hr x hx).mono (by omega)⟩
            · rw [List.mem_singleton.1 ht]
              exact ⟨by rw [HXS.out.1]; exact hn5, fun r hr => by rw [HXS.out.2 r hr]; exact HFB.out.2.2.1, HX.out.2.2⟩⟩
          clear pv6 sT hE hR hK hb hr hfs b6 bS BS c5S BSS hLt hb7 CY' hSs
          go_wp2_with fail
          rw [<- hw7]
          clear hw7
          refine CM.mono ?_
          rintro e w8 (⟨-, V8, rfl, s8, b8⟩ | ⟨hnf, _⟩)
          · rw [if_pos rfl] at s8
            have s8' : SlT .u64 4294967296 w8 V8 B := by
              rw [<- jW HA.out HB.out rfl HX.out.2.1]
              exact s8
            obtain ⟨A8, c8, rfl, -, -⟩ := id s8'.shape
            have HB8 : Hid (Below w.heap.size w w8) := HB7.out.trans (b8.mono HB7.out.size)
            have BS8 := BS7.bQ b8
            have HSB8 := Lib.hid (HSB7.out.bQ b8)
            have HS8 := Lib.hid s8'
            clear V0 V1 V2 s8 s8' b8 BS7 CM hS
            have V2 : w8.cell? ⟨w6.heap.size, 2, none⟩ = some (.bool false) := by rw [<- HBF.out]; exact BS8.cell 2
            by_cases hn0 : n = 0
            · have hz0 : (((n : Nat) : Int) == 0) = true := by rw [beq_iff_eq]; omega
              clear hn0
              go_wp2
              go_ret
              exact ⟨rfl, HB8.out⟩
            · have hz0 : (((n : Nat) : Int) == 0) = false := by rw [beq_eq_false_iff_ne]; omega
              have hz1 : ¬ ((n : Nat) : Int) = 0 := by omega
              clear hn0
              have CQ := yK4 _ (.slice BV n dV) B B true _ HS8.out (by have h := HSB8.out; rw [HB.out.1] at h; exact h) (by simp)
              go_wp2_with fail
              refine CQ.mono ?_
              rintro e w9 ⟨rfl, b9⟩
              have BS9 := BS8.bQ b9
              have HB9 : Hid (Below w.heap.size w w9) := HB8.out.trans (b9.mono HB8.out.size)
              clear V2 BS8 b9 CQ
              have V2 : w9.cell? ⟨w6.heap.size, 2, none⟩ = some (.bool false) := by rw [<- HBF.out]; exact BS9.cell 2
              go_wp2
              go_ret
              exact ⟨rfl, HB9.out⟩
          · exact absurd (jW0 HA.out HXS.out (by omega) (by have := HFB.out.2.2.1; omega)) hnf
        · exact absurd ⟨HOK.out.2.1, HOK.out.2.2.1, HOK.out.2.2.2⟩ hnw
      · have HB5 : Hid (Below w.heap.size w w5) := HB4.out.trans (b5.mono HB4.out.size)
        have CY' := CY _ b5
        have HD := Lib.hid hd
        clear CX hd b5 CY
        go_wp2_with fail
        refine CY'.mono ?_
        rintro e w6 ⟨b6, (⟨-, v6, T, ps, b, rfl, pv6, sT, hE, hR, hK, hb⟩ | ⟨hnw, -⟩)⟩
        · rw [HWA.out] at pv6 hE hK hb
          rw [<- HN.out.1] at hE hR hK hb
          have hr : ¬ ps.length = n := fun h => (yU hE hR hK).2 h (by rw [HN.out.1]; exact HD.out)
          have hfs := qZ1 hE
          obtain ⟨A6, c6, rfl, -⟩ := id pv6
          obtain ⟨fl, hfl⟩ : ∃ fl, fl = (zI7 n ps).length := ⟨_, rfl⟩
          obtain ⟨rk, hrk⟩ : ∃ rk, rk = ps.length := ⟨_, rfl⟩
          rw [<- hfl, <- hrk]
          rw [<- hfl, <- hrk] at hfs
          have hf0 : ¬ ((fl : Nat) : Int) = 0 := by omega
          have hf1 : (((fl : Nat) : Int) == 0) = false := by rw [beq_eq_false_iff_ne]; exact hf0
          have hf2 : (((rk : Nat) : Int) + ((fl : Nat) : Int) == ((n : Nat) : Int)) = true := by rw [beq_iff_eq]; omega
          have hf3 : ((rk : Nat) : Int) + ((fl : Nat) : Int) = ((n : Nat) : Int) := by omega
          obtain ⟨wS, hS, bS, BS, hSs⟩ := zL1 w6 34 #[.int .i64 ((rk : Nat) : Int), .slice A6 fl c6, .bool b]
          have V0 := BS.cell 0
          have V1 := BS.cell 1
          have V2 := BS.cell 2
          have c5S := b6.trans (bS.mono b6.size)
          have HBS := Lib.hid (HB5.out.trans (c5S.mono HB5.out.size))
          clear pv6 sT hE hR hK hb hr hfs b6 bS BS c5S CY' hSs hfl hrk
          go_wp2
          go_ret
          exact ⟨rfl, HBS.out⟩
        · exact absurd ⟨HOK.out.2.1, HOK.out.2.2.1, HOK.out.2.2.2⟩ hnw
      · exact absurd HOK.out hno
    · have hne : ¬ ((B.length : Nat) : Int) = ((A.length : Nat) : Int) := by omega
      have hz2 : (((B.length : Nat) : Int) == ((A.length : Nat) : Int)) = false := by rw [beq_eq_false_iff_ne]; exact hne
      subst hsq
      go_wp2
      go_ret
      exact ⟨rfl, HB4.out⟩
  · have hz : (((A.length : Nat) : Int) == ((C : Nat) : Int)) = false := by rw [beq_eq_false_iff_ne]; omega
    clear hsq
    go_wp2
    go_ret
    exact ⟨rfl, HB4.out⟩
theorem lifted (os : Os) (started : os.Started) (H : Type) (enc : TypeId × Value -> H) :
  ReturnsInHanded {} Tryz.checked os 3 .any (Rows.solveSolvedSpec.pre6 enc Tryz.prog Tryz.f3 Rows.solveSolvedRow.domain false) (Rows.solveSolvedSpec.post enc Tryz.prog Tryz.f3 false true false false) := by
 refine returnsInHanded_of_change (C := Tryz.checked) own started (by kernel_rfl) Tryz.func3
  (ChangeSpec.witness6 (enc := enc) (C := Tryz.checked) false ⟨#[], #[.slice none 0 0, .slice none 0 0], []⟩ 8 (by kernel_rfl) (by kernel_rfl) (by kernel_rfl) (by kernel_rfl)) ?_
 intro W base args ds gs before hval0 hW hcnd _
 have hval : ∀ (j : Nat) t v, Tryz.f3.params[j]? = some t -> args[j]? = some v -> Value.okWide Tryz.prog W .any base t v := hval0
 have hW' := hW
 obtain ⟨p, q, hA0, hV, rfl, hfz, hnd⟩ := hW
 have hA : DataW.TrodAll enc Tryz.prog W 0 (fun _ => true) true Tryz.f3.params.toList args.toList ds p := hA0
 rw [Tryz.params3] at hA hval
 obtain ⟨v0, vs0, d0, ds0, p0, q0, hargs, rfl, rfl, t0, r0⟩ := trodAll_cons hA
 obtain ⟨v1, vs1, d1, ds1, p1, q1, rfl, rfl, rfl, t1, r1⟩ := trodAll_cons r0
 obtain ⟨rfl, rfl, rfl⟩ := trodAll_nil r1
 obtain rfl : args = #[v0, v1] := by cases args; simp_all
 obtain ⟨rfl, rfl⟩ := trodVars_none hV
 have hs0 := arg_t Tryz.underlying22 (by kernel_rfl) Tryz.underlying46 Tryz.underlying44 (by kernel_rfl) (by kernel_rfl) Tryz.underlying42 (by kernel_rfl) Tryz.underlying4 Tryz.underlying40 Tryz.underlying40 Tryz.underlying75 cells_u (hval 0 22 v0 rfl rfl) t0
 have hs1 := arg_t Tryz.underlying22 (by kernel_rfl) Tryz.underlying46 Tryz.underlying44 (by kernel_rfl) (by kernel_rfl) Tryz.underlying42 (by kernel_rfl) Tryz.underlying4 Tryz.underlying40 Tryz.underlying40 Tryz.underlying75 cells_u (hval 1 22 v1 rfl rfl) t1
 clear hA0 hval0
 simp only [List.append_nil] at hW'
 have hlt0 : ∀ x ∈ p0, x.block < W.heap.size := fun x hx => hW'.lt x (List.mem_append_left _ hx)
 have hlt1 : ∀ x ∈ p1, x.block < W.heap.size := fun x hx => hW'.lt x (List.mem_append_right _ (hx))
 refine (walk v0 v1 W hs0 hs1).mono fun e W' ⟨he, hb⟩ => ?_
 subst he
 have s0 := Below.trod laidOut (by kernel_rfl) (of_decide_eq_true (by kernel_rfl)) t0 hb hlt0
 have s1 := Below.trod laidOut (by kernel_rfl) (of_decide_eq_true (by kernel_rfl)) t1 hb hlt1
 exact ⟨_, rfl, _, _, _, [] ++ [], _, [], hW', trodAll_cons_mk (shut_bool Tryz.underlying4 _) trodAll_mk0, trodAll_cons_mk s0 (trodAll_cons_mk s1 (trodAll_mk0)), rfl, hb.frame _, fun h => by cases h⟩
theorem over : Rows.solveSolvedRow.holds Tryz.pinned (OpenSpec.ofChange Rows.solveSolvedSpec) :=
 OpenClaim.holds_of_wide 3 Tryz.f3 rfl rfl rfl rfl rfl rfl rfl ⟨rfl, rfl, rfl, rfl, rfl⟩ rfl rfl rfl rfl rfl (by kernel_rfl) Tryz.func3 (by kernel_rfl)
  (of_decide_eq_true (by kernel_rfl)) (by unfold Func.isWrapper; first | (rw [if_pos (by decide +kernel)]; kernel_rfl) | (rw [if_neg (by decide +kernel)]; exact ⟨rfl, rfl⟩))
  (fun os started H enc _ => lifted os started H enc)
/-- The statement. -/
theorem proved : Rows.SolveSolvedSaid := over
end Go.Proofs.YtbfflcpmagjlnaaGreat.solveSolved
