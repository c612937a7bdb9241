/- GaussProducts: steps of steps, determinants of products. Condition: the arguments can be read as data. -/
import Derived.Test.YtfnohdgnhdfpaaaGreatKP6
import Derived.Deep.CutRange
import Derived.OpenShut
import Derived.LaidMore
import Derived.Lay
import Derived.Stop.Joined
namespace Go.Proofs.YtfnohdgnhdfpaaaGreat.gaussProducts
open Go.ChangeShapes Go.WideShapes Go.ChangeAt Go.RowKit Go.Proofs.YtfnohdgnhdfpaaaGreat.num Go.Proofs.YtfnohdgnhdfpaaaGreat.mem Go.Proofs.YtfnohdgnhdfpaaaGreat.nat Go.Proofs.YtfnohdgnhdfpaaaGreat.txt Go.Proofs.YtfnohdgnhdfpaaaGreat.str Go.Proofs.YtfnohdgnhdfpaaaGreat.flow Go.Proofs.YtfnohdgnhdfpaaaGreat.whl Go.Proofs.YtfnohdgnhdfpaaaGreat.rat
set_option linter.unusedVariables false
set_option linter.unusedSimpArgs false
theorem own : ownKnob Tryz.prog.godebug = none := by kernel_rfl
theorem laidOut : laidOutB Tryz.prog = true := by kernel_rfl
theorem cells_u : Tryz.prog.cellsOf 116 = 1 := by kernel_rfl
set_option maxHeartbeats 6400000 in
set_option maxRecDepth 100000 in
/-- The walk: the Go text returns true; what was there is as it was. -/
theorem walk (v0 : Value) (v1 : Value) (w : World) (h0 : ArgT w v0) (h1 : ArgT w v1) :
    Calls Tryz.prog 6 #[v0, v1] w (RetV (.bool true) w) := by
  obtain ⟨A0, n0, c0, rfl, -, -⟩ := h0.shape
  obtain ⟨A1, n1, c1, rfl, -, -⟩ := h1.shape
  have even_any : ∀ (a0 : Value) (w : World), ArgT w a0 → Calls Tryz.prog 34 #[a0, .int .i64 3] w (RetEven 3 w) := fun a0 w h => even_any a0 3 w h (by omega)
  go_enter Tryz.func6, Tryz.ntmps6
  go_wp2_with fail
  refine (works14_any _).mono ?_
  rintro e w0 ⟨rfl, b0⟩
  have hA0 := h0.below b0
  go_wp2_with fail
  refine (even_any _ _ hA0).mono ?_
  rintro e w1 ⟨V, U1, p, rfl, hV, hp1, hp2, hp3, hp4, b1⟩
  obtain ⟨AV, cV, rfl, -, -⟩ := hV.shape
  have HP : Hid (few3 p) := ⟨hp1, hp2, hp3, hp4⟩
  have bb1 := b0.trans (b1.mono b0.size)
  have hA1 := h1.below bb1
  clear hp1 hp2 hp3 hp4 hA0 b1
  go_wp2_with fail
  refine (even_any _ _ hA1).mono ?_
  rintro e w2 ⟨W, U2, q, rfl, hW, hp1, hp2, hp3, hp4, b2⟩
  obtain ⟨AW, cW, rfl, -, -⟩ := hW.shape
  have HQ : Hid (few3 q) := ⟨hp1, hp2, hp3, hp4⟩
  have bb2 := bb1.trans (b2.mono bb1.size)
  have hV2 := hV.below b2
  clear hp1 hp2 hp3 hp4 hA1 b2 hV even_any b0 bb1
  go_wp2_with fail
  refine (greduce_any _ p 4 _ hV2 HP.out.gss).mono ?_
  rintro e w3 (⟨hm, g, v, T, us, ps, rfl, hR⟩ | ⟨hm, rfl, b3⟩)
  · obtain ⟨hT1, hT2, hT3⟩ := hR.gss HP.out
    have HT := Lib.hid (And.intro hT1 (And.intro hT2 hT3))
    have hTl : T.length = p.length := hR.sh.1
    have sT := hR.tab.slT hTl (by have := HP.out.2.1; omega)
    obtain ⟨Av, cv, ev⟩ := RowV.slice hR.piv.1
    rw [pI_len] at ev
    subst ev
    have pv0 := hR.piv.pvI
    have b3 := hR.bel
    have HRR := Lib.hid hR
    have hpl : ps.length ≤ 3 := by have := hR.ech.le; have := HP.out.2.1; omega
    have bb3 := bb2.trans (b3.mono bb2.size)
    have hV3 := hV2.below b3
    have hW3 := hW.below b3
    have HTL := Lib.hid hTl
    clear hR hT1 hT2 hT3 hm b3 hTl hV2 hW bb2
    go_wp2_with fail
    refine (greduce_any _ T 79 _ sT HT.out.2.2).mono ?_
    rintro e w4 (⟨hm, g2, v2, T2, us2, qs, rfl, hR⟩ | ⟨hm, rfl, b4⟩)
    · obtain ⟨e1, e2⟩ := HRR.out.again HT.out.1 hR
      subst e1
      subst e2
      rw [HTL.out]
      have sT2 := hR.tab.slT HTL.out (by have := HP.out.2.1; omega)
      obtain ⟨Av2, cv2, ev⟩ := RowV.slice hR.piv.1
      rw [pI_len] at ev
      subst ev
      have pv2 := hR.piv.pvI
      have b4 := hR.bel
      have pv04 := pv0.below b4
      have sT4 := sT.below b4
      have bb4 := bb3.trans (b4.mono bb3.size)
      have hV4 := hV3.below b4
      have hW4 := hW3.below b4
      clear hR hm b4 pv0 sT bb3 hV3 hW3 HRR
      go_wp2_with fail
      refine (msame_any _ _ T2 T2 true _ sT2 sT4 (decide_eq_true rfl).symm).mono ?_
      rintro e w5 ⟨rfl, b5⟩
      have pv05 := pv04.below b5
      have pv25 := pv2.below b5
      have bb5 := bb4.trans (b5.mono bb4.size)
      have hV5 := hV4.below b5
      have hW5 := hW4.below b5
      clear pv04 pv2 sT2 sT4 b5 bb4 hV4 hW4
      have HPL : Hid (qs.length ≤ 1000) := by show _ ≤ _; omega
      clear hpl
      go_wp2_with fail
      refine (sameints_self _ _ qs _ pv05 pv25 HPL.out).mono ?_
      rintro e w6 ⟨rfl, b6⟩
      have bb6 := bb5.trans (b6.mono bb5.size)
      have hV6 := hV5.below b6
      have hW6 := hW5.below b6
      clear pv05 pv25 b6 bb5 hV5 hW5
      go_wp2_with fail
      refine (gdet_any _ p 4 _ hV6 HP.out.gss).mono ?_
      rintro e w7 (⟨hs, ⟨v7, rfl, k7, b7⟩, hl7, hf7⟩ | ⟨hs, rfl, b7⟩)
      · obtain ⟨u7, t7, rfl, s7, d7⟩ := k7
        obtain ⟨Dp, hDp⟩ : ∃ Dp, Dp = detF p.length (entF p) := ⟨_, rfl⟩
        have HSA := Lib.hid (And.intro hs (And.intro hDp (And.intro hl7 hf7)))
        rw [← hDp] at s7 d7 hl7 ⊢
        obtain ⟨A7, c7, rfl, _⟩ := id s7
        obtain ⟨D7, e7, rfl, _⟩ := id d7
        clear hs hDp hf7
        have ba7 := below_alloc (w := w7) (Nat.le_refl _) (.cells #[.bool (ngB Dp.num), .slice A7 (digs 4294967296 Dp.num.natAbs).length c7, .slice D7 (digs 4294967296 Dp.den).length e7] 44)
        have bb7 := bb6.trans (b7.mono bb6.size)
        have bb7a := bb7.trans (ba7.mono bb7.size)
        have hV7 := (hV6.below b7).below ba7
        have hW7 := (hW6.below b7).below ba7
        have BA7 := Blk.new w7 44 #[.bool (ngB Dp.num), .slice A7 (digs 4294967296 Dp.num.natAbs).length c7, .slice D7 (digs 4294967296 Dp.den).length e7]
        have sA7 := s7.below ba7
        have dA7 := d7.below ba7
        clear s7 d7
        clear hV6 hW6 b7 bb6 bb7 ba7
        go_wp2_with fail
        refine (gdet_any _ q 4 _ hW7 HQ.out.gss).mono ?_
        rintro e w8 (⟨hs, ⟨v8, rfl, k8, b8⟩, hl8, hf8⟩ | ⟨hs, rfl, b8⟩)
        · obtain ⟨u8, t8, rfl, s8, d8⟩ := k8
          obtain ⟨Dq, hDq⟩ : ∃ Dq, Dq = detF q.length (entF q) := ⟨_, rfl⟩
          rw [← hDq] at s8 d8 hl8 ⊢
          obtain ⟨A8, c8, rfl, _⟩ := id s8
          obtain ⟨D8, e8, rfl, _⟩ := id d8
          have HSB := Lib.hid (And.intro hs hDq)
          have HLN := Lib.hid (And.intro hl7 hl8)
          clear hs hDq hl8 hf8 hl7
          have ba8 := below_alloc (w := w8) (Nat.le_refl _) (.cells #[.bool (ngB Dq.num), .slice A8 (digs 4294967296 Dq.num.natAbs).length c8, .slice D8 (digs 4294967296 Dq.den).length e8] 44)
          have bb8 := bb7a.trans (b8.mono bb7a.size)
          have bb9 := bb8.trans (ba8.mono bb8.size)
          have hV9 := (hV7.below b8).below ba8
          have hW9 := (hW7.below b8).below ba8
          have BB9 := Blk.new w8 44 #[.bool (ngB Dq.num), .slice A8 (digs 4294967296 Dq.num.natAbs).length c8, .slice D8 (digs 4294967296 Dq.den).length e8]
          have BA9 := (BA7.below b8).below ba8
          have sA9 := (sA7.below b8).below ba8
          have dA9 := (dA7.below b8).below ba8
          have sB9 := s8.below ba8
          have dB9 := d8.below ba8
          clear BA7 sA7 dA7 s8 d8
          clear hV7 hW7 b8 bb7a bb8 ba8
          have ba := below_alloc (w := (w8.alloc (.cells #[.bool (ngB Dq.num), .slice A8 (digs 4294967296 Dq.num.natAbs).length c8, .slice D8 (digs 4294967296 Dq.den).length e8] 44))) (Nat.le_refl _) (.cells #[.slice AV p.length cV, .slice AW q.length cW] 22)
          have HLa := listT_two (isV_lit (w8.alloc (.cells #[.bool (ngB Dq.num), .slice A8 (digs 4294967296 Dq.num.natAbs).length c8, .slice D8 (digs 4294967296 Dq.den).length e8] 44)) 22 [.slice AV p.length cV, .slice AW q.length cW]) (hV9.below ba) (hW9.below ba)
          rw [World.size_alloc] at HLa
          go_wp2_with fail
          refine (mul2_any _ p q _ HLa HP.out HQ.out).mono ?_
          rintro e w10 ⟨MM, E1, hm, AM, cM, rfl, SM, b10⟩
          have b910 := ba.trans (b10.mono ba.size)
          have bb10 := bb9.trans (b910.mono bb9.size)
          have BA10 := BA9.below b910
          have BB10 := BB9.below b910
          have kA10 := sA9.below b910
          have lA10 := dA9.below b910
          have kB10 := sB9.below b910
          have lB10 := dB9.below b910
          clear ba HLa hV9 hW9 b910 BA9 BB9 sA9 dA9 sB9 dB9 b10 bb9
          rcases hm with ⟨hc, rfl, rfl⟩ | ⟨hc, rfl, rfl⟩
          · have HC := Lib.hid hc
            clear hc
            go_wp2_with fail
            refine (gdet_any _ (mulq p q) 31 _ SM (HP.out.mulGss HQ.out HC.out)).mono ?_
            rintro e w11 (⟨hs, ⟨v11, rfl, k11, b11⟩, hl11, hf11⟩ | ⟨hs, rfl, b11⟩)
            · obtain ⟨u11, t11, rfl, s11, d11⟩ := k11
              have hml : (mulq p q).length = p.length := mulq_len p q
              have HDV : Hid (detF (mulq p q).length (entF (mulq p q)) = Dp * Dq) := by
                show _ = _
                have e1 := HSA.out.1.2
                have e2 := HSB.out.1.2
                have e3 := HC.out
                rw [hml, HSA.out.2.1, HSB.out.2, show q.length = p.length by omega]
                exact det_mul ⟨rfl, fun r hr => by rw [e1]; exact HP.out.1 r hr⟩ (by omega) (by omega) HSA.out.2.2.2
              obtain ⟨X, hX⟩ : ∃ X, X = detF (mulq p q).length (entF (mulq p q)) := ⟨_, rfl⟩
              rw [← hX] at s11 d11 HDV ⊢
              obtain ⟨A11, c11, rfl, _⟩ := id s11
              obtain ⟨D11, e11, rfl, _⟩ := id d11
              clear hl11 hf11 hs hX hml
              have bb11 := bb10.trans (b11.mono bb10.size)
              have bx := below_alloc (w := w11) (Nat.le_refl _) (.cells #[.bool (ngB X.num), .slice A11 (digs 4294967296 X.num.natAbs).length c11, .slice D11 (digs 4294967296 X.den).length e11] 44)
              have BX := Blk.new w11 44 #[.bool (ngB X.num), .slice A11 (digs 4294967296 X.num.natAbs).length c11, .slice D11 (digs 4294967296 X.den).length e11]
              have BA12 := (BA10.below b11).below bx
              have BB12 := (BB10.below b11).below bx
              have kA12 := (kA10.below b11).below bx
              have lA12 := (lA10.below b11).below bx
              have kB12 := (kB10.below b11).below bx
              have lB12 := (lB10.below b11).below bx
              have kX12 := s11.below bx
              have lX12 := d11.below bx
              have bb12 := bb11.trans (bx.mono bb11.size)
              clear BA10 BB10 kA10 lA10 kB10 lB10 s11 d11 b11 bb10 bb11 bx SM
              go_upto_region 15 with (fail)
              obtain ⟨w12, hw12⟩ : ∃ w12, w11.alloc (.cells #[.bool (ngB X.num), .slice A11 (digs 4294967296 X.num.natAbs).length c11, .slice D11 (digs 4294967296 X.den).length e11] 44) = w12 := ⟨_, rfl⟩
              rw [hw12] at BX BA12 BB12 kA12 lA12 kB12 lB12 kX12 lX12 bb12 ⊢
              clear hw12
              have bd := (Below.refl w12.heap.size w12).drew
              have bbd := bb12.trans (bd.mono bb12.size)
              have kd1 : IsQ w12.drew (.agg #[.bool (ngB Dp.num), .slice A7 (digs 4294967296 Dp.num.natAbs).length c7, .slice D7 (digs 4294967296 Dp.den).length e7]) Dp := ⟨_, _, rfl, kA12.below bd, lA12.below bd⟩
              have kd2 : IsQ w12.drew (.agg #[.bool (ngB Dq.num), .slice A8 (digs 4294967296 Dq.num.natAbs).length c8, .slice D8 (digs 4294967296 Dq.den).length e8]) Dq := ⟨_, _, rfl, kB12.below bd, lB12.below bd⟩
              have kd3 : IsQ w12.drew (.agg #[.bool (ngB X.num), .slice A11 (digs 4294967296 X.num.natAbs).length c11, .slice D11 (digs 4294967296 X.den).length e11]) X := ⟨_, _, rfl, kX12.below bd, lX12.below bd⟩
              obtain ⟨x0, x1, x2, _, _, _⟩ := three (BA12.below bd)
              obtain ⟨y0, y1, y2, _, _, _⟩ := three (BB12.below bd)
              have BXd := BX.below bd
              obtain ⟨z0, z1, z2, _, _, _⟩ := three BXd
              obtain ⟨Y, hY⟩ : ∃ Y, Y = Dp * Dq := ⟨_, rfl⟩
              have CM : Calls Tryz.prog 35 #[.agg #[.bool (ngB Dp.num), .slice A7 (digs 4294967296 Dp.num.natAbs).length c7, .slice D7 (digs 4294967296 Dp.den).length e7], .agg #[.bool (ngB Dq.num), .slice A8 (digs 4294967296 Dq.num.natAbs).length c8, .slice D8 (digs 4294967296 Dq.den).length e8]] w12.drew (RetQ Y w12.drew) := by rw [hY]; exact mul8_any _ Dp _ Dq _ kd1 kd2 (HLN.out.1.mono (by omega)) (HLN.out.2.mono (by omega))
              have HXY : Hid (true = decide (X = Y)) := by show _ = _; rw [hY]; exact (decide_eq_true HDV.out).symm
              clear BX BA12 BB12 kA12 lA12 kB12 lB12 kX12 lX12 hY kd1 kd2 bb12
              go_region_law (first
                | (go_simp; go_at_call 35; refine CM.mono ?_; rintro e w13 ⟨v13, rfl, k13, -, b13⟩; have kd13 := kd3.below b13; obtain ⟨z0', z1', z2', _, _, _⟩ := three (BXd.below b13); obtain ⟨u13, t13, rfl, s13, d13⟩ := k13; obtain ⟨A13, c13, rfl, _⟩ := id s13; obtain ⟨D13, e13, rfl, _⟩ := id d13)
                | (go_simp; go_at_call 31; refine (same8_any _ _ X Y true _ kd13 ⟨_, _, rfl, s13, d13⟩ HXY.out).mono ?_; rintro e w14 ⟨rfl, b14⟩))
              all_goals
                have be := (bbd.trans (b13.mono bbd.size)).trans (b14.mono (bbd.trans (b13.mono bbd.size)).size)
                go_wp2
                go_ret
                exact ⟨rfl, be⟩
            · exact absurd ⟨(HP.out.mul HQ.out HC.out).2.1, by rw [mulq_len, (HP.out.mul HQ.out HC.out).2.2, HSA.out.1.2, HC.out, HSB.out.1.2]⟩ hs
          · clear hc
            go_wp2
            go_ret
            exact ⟨rfl, bb10⟩
        · have ba8 := below_alloc (w := w8) (Nat.le_refl _) (.cells #[.bool false, .slice none 0 0, .slice none 0 0] 44)
          have bb8 := bb7a.trans (b8.mono bb7a.size)
          have bb9 := bb8.trans (ba8.mono bb8.size)
          have hV9 := (hV7.below b8).below ba8
          have hW9 := (hW7.below b8).below ba8
          clear hV7 hW7 b8 bb7a bb8 ba8
          have ba := below_alloc (w := (w8.alloc (.cells #[.bool false, .slice none 0 0, .slice none 0 0] 44))) (Nat.le_refl _) (.cells #[.slice AV p.length cV, .slice AW q.length cW] 22)
          have HLa := listT_two (isV_lit (w8.alloc (.cells #[.bool false, .slice none 0 0, .slice none 0 0] 44)) 22 [.slice AV p.length cV, .slice AW q.length cW]) (hV9.below ba) (hW9.below ba)
          rw [World.size_alloc] at HLa
          go_wp2_with fail
          refine (mul2_any _ p q _ HLa HP.out HQ.out).mono ?_
          rintro e w10 ⟨MM, E1, hm, AM, cM, rfl, SM, b10⟩
          have b910 := ba.trans (b10.mono ba.size)
          have bb10 := bb9.trans (b910.mono bb9.size)
          rcases hm with ⟨hc, rfl, rfl⟩ | ⟨hc, rfl, rfl⟩
          · clear hc
            go_wp2
            go_ret
            exact ⟨rfl, bb10⟩
          · clear hc
            go_wp2
            go_ret
            exact ⟨rfl, bb10⟩
      · have ba7 := below_alloc (w := w7) (Nat.le_refl _) (.cells #[.bool false, .slice none 0 0, .slice none 0 0] 44)
        have bb7 := bb6.trans (b7.mono bb6.size)
        have bb7a := bb7.trans (ba7.mono bb7.size)
        have hV7 := (hV6.below b7).below ba7
        have hW7 := (hW6.below b7).below ba7
        clear hV6 hW6 b7 bb6 bb7 ba7
        go_wp2_with fail
        refine (gdet_any _ q 4 _ hW7 HQ.out.gss).mono ?_
        rintro e w8 (⟨hs, ⟨v8, rfl, k8, b8⟩, hl8, hf8⟩ | ⟨hs, rfl, b8⟩)
        · obtain ⟨u8, t8, rfl, s8, d8⟩ := k8
          obtain ⟨Dq, hDq⟩ : ∃ Dq, Dq = detF q.length (entF q) := ⟨_, rfl⟩
          rw [← hDq] at s8 d8 hl8 ⊢
          obtain ⟨A8, c8, rfl, _⟩ := id s8
          obtain ⟨D8, e8, rfl, _⟩ := id d8
          have HSB := Lib.hid (And.intro hs hDq)
          clear hs hDq hl8 hf8
          have ba8 := below_alloc (w := w8) (Nat.le_refl _) (.cells #[.bool (ngB Dq.num), .slice A8 (digs 4294967296 Dq.num.natAbs).length c8, .slice D8 (digs 4294967296 Dq.den).length e8] 44)
          have bb8 := bb7a.trans (b8.mono bb7a.size)
          have bb9 := bb8.trans (ba8.mono bb8.size)
          have hV9 := (hV7.below b8).below ba8
          have hW9 := (hW7.below b8).below ba8
          clear hV7 hW7 b8 bb7a bb8 ba8
          have ba := below_alloc (w := (w8.alloc (.cells #[.bool (ngB Dq.num), .slice A8 (digs 4294967296 Dq.num.natAbs).length c8, .slice D8 (digs 4294967296 Dq.den).length e8] 44))) (Nat.le_refl _) (.cells #[.slice AV p.length cV, .slice AW q.length cW] 22)
          have HLa := listT_two (isV_lit (w8.alloc (.cells #[.bool (ngB Dq.num), .slice A8 (digs 4294967296 Dq.num.natAbs).length c8, .slice D8 (digs 4294967296 Dq.den).length e8] 44)) 22 [.slice AV p.length cV, .slice AW q.length cW]) (hV9.below ba) (hW9.below ba)
          rw [World.size_alloc] at HLa
          go_wp2_with fail
          refine (mul2_any _ p q _ HLa HP.out HQ.out).mono ?_
          rintro e w10 ⟨MM, E1, hm, AM, cM, rfl, SM, b10⟩
          have b910 := ba.trans (b10.mono ba.size)
          have bb10 := bb9.trans (b910.mono bb9.size)
          rcases hm with ⟨hc, rfl, rfl⟩ | ⟨hc, rfl, rfl⟩
          · clear hc
            go_wp2
            go_ret
            exact ⟨rfl, bb10⟩
          · clear hc
            go_wp2
            go_ret
            exact ⟨rfl, bb10⟩
        · have ba8 := below_alloc (w := w8) (Nat.le_refl _) (.cells #[.bool false, .slice none 0 0, .slice none 0 0] 44)
          have bb8 := bb7a.trans (b8.mono bb7a.size)
          have bb9 := bb8.trans (ba8.mono bb8.size)
          have hV9 := (hV7.below b8).below ba8
          have hW9 := (hW7.below b8).below ba8
          clear hV7 hW7 b8 bb7a bb8 ba8
          have ba := below_alloc (w := (w8.alloc (.cells #[.bool false, .slice none 0 0, .slice none 0 0] 44))) (Nat.le_refl _) (.cells #[.slice AV p.length cV, .slice AW q.length cW] 22)
          have HLa := listT_two (isV_lit (w8.alloc (.cells #[.bool false, .slice none 0 0, .slice none 0 0] 44)) 22 [.slice AV p.length cV, .slice AW q.length cW]) (hV9.below ba) (hW9.below ba)
          rw [World.size_alloc] at HLa
          go_wp2_with fail
          refine (mul2_any _ p q _ HLa HP.out HQ.out).mono ?_
          rintro e w10 ⟨MM, E1, hm, AM, cM, rfl, SM, b10⟩
          have b910 := ba.trans (b10.mono ba.size)
          have bb10 := bb9.trans (b910.mono bb9.size)
          rcases hm with ⟨hc, rfl, rfl⟩ | ⟨hc, rfl, rfl⟩
          · clear hc
            go_wp2
            go_ret
            exact ⟨rfl, bb10⟩
          · clear hc
            go_wp2
            go_ret
            exact ⟨rfl, bb10⟩
    · exact absurd HT.out.2.1 hm
  · exact absurd HP.out.may hm
set_option maxRecDepth 100000 in
theorem lifted (os : Os) (started : os.Started) (H : Type) (enc : TypeId × Value → H) :
    ReturnsInHanded {} Tryz.checked os 6 .any (Rows.gaussProductsSpec.pre6 enc Tryz.prog Tryz.f6 Rows.gaussProductsRow.domain false) (Rows.gaussProductsSpec.post enc Tryz.prog Tryz.f6 false true false false) := by
  refine returnsInHanded_of_change (C := Tryz.checked) own started (by kernel_rfl) Tryz.func6
    (ChangeSpec.witness6 (enc := enc) (C := Tryz.checked) false ⟨#[], #[.slice none 0 0, .slice none 0 0], []⟩ 8 (by kernel_rfl) (by kernel_rfl) (by kernel_rfl) (by kernel_rfl)) ?_
  intro W base args ds gs before hval0 hW hcnd _
  have hval : ∀ (j : Nat) t v, Tryz.f6.params[j]? = some t → args[j]? = some v → Value.okWide Tryz.prog W .any base t v := hval0
  have hW' := hW
  obtain ⟨p, q, hA0, hV, rfl, hfz, hnd⟩ := hW
  have hA : DataW.TrodAll enc Tryz.prog W 0 (fun _ => true) true Tryz.f6.params.toList args.toList ds p := hA0
  rw [Tryz.params6] at hA hval
  obtain ⟨v0, vs0, d0, ds0, p0, q0, hargs, rfl, rfl, t0, r0⟩ := trodAll_cons hA
  obtain ⟨v1, vs1, d1, ds1, p1, q1, rfl, rfl, rfl, t1, r1⟩ := trodAll_cons r0
  obtain ⟨rfl, rfl, rfl⟩ := trodAll_nil r1
  obtain rfl : args = #[v0, v1] := by cases args; simp_all
  obtain ⟨rfl, rfl⟩ := trodVars_none hV
  have hs0 := arg_t Tryz.underlying22 (by kernel_rfl) Tryz.underlying64 Tryz.underlying44 (by kernel_rfl) (by kernel_rfl) Tryz.underlying42 (by kernel_rfl) Tryz.underlying4 Tryz.underlying40 Tryz.underlying40 Tryz.underlying116 cells_u (hval 0 22 v0 rfl rfl) t0
  have hs1 := arg_t Tryz.underlying22 (by kernel_rfl) Tryz.underlying64 Tryz.underlying44 (by kernel_rfl) (by kernel_rfl) Tryz.underlying42 (by kernel_rfl) Tryz.underlying4 Tryz.underlying40 Tryz.underlying40 Tryz.underlying116 cells_u (hval 1 22 v1 rfl rfl) t1
  clear hA0 hval0
  simp only [List.append_nil] at hW'
  have hlt0 : ∀ x ∈ p0, x.block < W.heap.size := fun x hx => hW'.lt x (List.mem_append_left _ hx)
  have hlt1 : ∀ x ∈ p1, x.block < W.heap.size := fun x hx => hW'.lt x (List.mem_append_right _ (hx))
  refine (walk v0 v1 W hs0 hs1).mono fun e W' ⟨he, hb⟩ => ?_
  subst he
  have s0 := Below.trod laidOut (by kernel_rfl) (of_decide_eq_true (by kernel_rfl)) t0 hb hlt0
  have s1 := Below.trod laidOut (by kernel_rfl) (of_decide_eq_true (by kernel_rfl)) t1 hb hlt1
  exact ⟨_, rfl, _, _, _, [] ++ [], _, [], hW', trodAll_cons_mk (shut_bool Tryz.underlying4 _) trodAll_mk0, trodAll_cons_mk s0 (trodAll_cons_mk s1 (trodAll_mk0)), rfl, hb.frame _, fun h => by cases h⟩
theorem over : Rows.gaussProductsRow.holds Tryz.pinned (OpenSpec.ofChange Rows.gaussProductsSpec) :=
  OpenClaim.holds_of_wide 6 Tryz.f6 rfl rfl rfl rfl rfl rfl rfl ⟨rfl, rfl, rfl, rfl, rfl⟩ rfl rfl rfl rfl rfl (by kernel_rfl) Tryz.func6 (by kernel_rfl)
    (of_decide_eq_true (by kernel_rfl)) (by unfold Func.isWrapper; first | (rw [if_pos (by decide +kernel)]; kernel_rfl) | (rw [if_neg (by decide +kernel)]; exact ⟨rfl, rfl⟩))
    (fun os started H enc _ => lifted os started H enc)
/-- The statement. -/
theorem proved : Rows.GaussProductsSaid := over
end Go.Proofs.YtfnohdgnhdfpaaaGreat.gaussProducts
