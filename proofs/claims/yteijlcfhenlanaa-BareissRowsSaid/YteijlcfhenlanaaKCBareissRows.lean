/- BareissRows: rows changed about, rows added. Condition: the arguments can be read as data. -/
import Derived.Test.YteijlcfhenlanaaKC4
import Derived.Deep.CutRange
import Derived.OpenShut
import Derived.LaidMore
import Derived.Lay
import Derived.Stop.Joined
namespace Go.Proofs.Yteijlcfhenlanaa.bareissRows
open Go.ChangeShapes Go.WideShapes Go.ChangeAt Go.RowKit Go.Proofs.Yteijlcfhenlanaa.num Go.Proofs.Yteijlcfhenlanaa.mem Go.Proofs.Yteijlcfhenlanaa.nat Go.Proofs.Yteijlcfhenlanaa.txt Go.Proofs.Yteijlcfhenlanaa.str Go.Proofs.Yteijlcfhenlanaa.flow Go.Proofs.Yteijlcfhenlanaa.whl Go.Proofs.Yteijlcfhenlanaa.rat
set_option linter.unusedVariables false
set_option linter.unusedSimpArgs false
theorem own : ownKnob Try.prog.godebug = none := by kernel_rfl
theorem laidOut : laidOutB Try.prog = true := by kernel_rfl
theorem cells_u : Try.prog.cellsOf 64 = 1 := by kernel_rfl
set_option maxHeartbeats 6400000 in
set_option maxRecDepth 100000 in
/-- The walk: the Go text returns true; what was there is as it was. -/
theorem walk (v0 : Value) (a1 : Int) (a2 : Int) (w : World) (h0 : ArgW w v0) (wf1 : (Lit.int .i64 a1).wf = true) (wf2 : (Lit.int .i64 a2).wf = true) :
    Calls Try.prog 6 #[v0, .int .i64 a1, .int .i64 a2] w (RetV (.bool true) w) := by
  obtain ⟨A0, n0, c0, rfl, -, -⟩ := h0.shape
  have CF : ∀ (a : Value) (w : World), ArgW w a → Calls Try.prog 7 #[a, .int .i64 5] w (RetFewI 5 w) := fun a w h => few15_any a 5 w h (by omega)
  go_enter Try.func6, Try.ntmps6
  go_wp2_with fail
  refine (works15_any _).mono ?_
  rintro e w1 ⟨rfl, b1⟩
  have hA1 := h0.below b1
  clear h0
  go_wp2_with fail
  refine (CF _ _ hA1).mono ?_
  rintro e w2 ⟨V, U, T, rfl, hV, hU, hT1, hT2, hT3, b2⟩
  obtain ⟨n, hn⟩ : ∃ n, n = T.length := ⟨_, rfl⟩
  obtain ⟨AV, cV, rfl, -, -⟩ := hV.shape
  obtain ⟨AU, cU, rfl, -, -⟩ := hU.shape
  rw [← hn] at hV hU ⊢
  have HT : Hid (n = T.length ∧ T.length ≤ 5 ∧ lenI T 2) := ⟨hn, hT1, hT3⟩
  have bb2 := b1.trans (b2.mono b1.size)
  have HC : Hid (lenI T 2 ∧ (2 + 1) * 2 ^ T.length ≤ 5001) := ⟨hT3, pow_lens (n := 5) hT1 (by omega)⟩
  have hn5 : n ≤ 5 := by omega
  clear hn hT1 hT2 hT3 b1 b2 hA1 hU CF
  go_wp2_with fail
  refine (bdet_any _ T 2 _ hV HC).mono ?_
  rintro e w3 ⟨b3, (⟨hS, v3, d, rfl, k3, hl3, hd3⟩ | ⟨hS, rfl⟩)⟩
  · obtain ⟨u3, rfl, s3⟩ := k3
    obtain ⟨Ad, cd, rfl, _⟩ := id s3
    have HS : Hid (squareI T ∧ lenZ d ≤ 5000 ∧ (d : Rat) = detF T.length (qF (entI T))) := ⟨hS, hl3, hd3⟩
    clear hS hl3 hd3
    by_cases hn2 : n < 2
    · clear s3
      have bbx := bb2.trans (b3.mono bb2.size)
      have bbe := bbx.trans ((below_alloc (w := w3) (Nat.le_refl _) (.cells #[.bool (ngB d), .slice Ad (digs 4294967296 d.natAbs).length cd] 29)).mono bbx.size)
      clear bbx
      go_wp2
      go_ret
      exact ⟨rfl, bbe⟩
    · have ba := below_alloc (w := w3) (Nat.le_refl _) (.cells #[.bool (ngB d), .slice Ad (digs 4294967296 d.natAbs).length cd] 29)
      have BD0 := Blk.new w3 29 #[.bool (ngB d), .slice Ad (digs 4294967296 d.natAbs).length cd]
      have sd0 := s3.below ba
      have bx := bb2.trans (b3.mono bb2.size)
      have bb3 := bx.trans (ba.mono bx.size)
      have hV3 := (hV.below b3).below ba
      clear bx bb2 b3 ba hV s3
      go_wp2_with fail
      refine (among_any _ _ n _ rfl (by omega)).mono ?_
      rintro e w4 ⟨i, rfl, hin, b4⟩
      go_wp2_with fail
      refine (among_any _ _ n _ rfl (by omega)).mono ?_
      rintro e w5 ⟨j, rfl, hjn, b5⟩
      have bb4 := bb3.trans (b4.mono bb3.size)
      have bb5 := bb4.trans (b5.mono bb4.size)
      have BD5 := (BD0.below b4).below b5
      have sd5 := (sd0.below b4).below b5
      have hV5 := (hV3.below b4).below b5
      clear bb3 bb4 b4 b5 BD0 sd0 hV3
      by_cases hij : i = j
      · subst hij
        go_wp2
        go_ret
        exact ⟨rfl, bb5⟩
      · obtain ⟨ri, hri⟩ : ∃ ri, T[i]? = some ri := ⟨_, List.getElem?_eq_getElem (by rw [← HT.out.1]; exact hin)⟩
        obtain ⟨rj, hrj⟩ : ∃ rj, T[j]? = some rj := ⟨_, List.getElem?_eq_getElem (by rw [← HT.out.1]; exact hjn)⟩
        have HRI : Hid (T[i]? = some ri ∧ T[j]? = some rj ∧ i ≠ j ∧ ri.length = n ∧ rj.length = n) := ⟨hri, hrj, hij, by rw [HS.out.1.2 ri (List.mem_of_getElem? hri), HT.out.1], by rw [HS.out.1.2 rj (List.mem_of_getElem? hrj), HT.out.1]⟩
        obtain ⟨adA, us, rfl, hnu, hul, hcu, hsu, hzu⟩ := hV5.rows (fun e => by have := HT.out.1; rw [e] at this; simp at this; omega)
        have HU : Hid (n = us.length ∧ us.length = T.length ∧ (∀ u ∈ us, isSl u) ∧ ∀ (i : Nat) (u : Value) (r : List Int), us[i]? = some u → T[i]? = some r → SlZ .u64 4294967296 w5 u r) := ⟨hnu, hul, hsu, hzu⟩
        have HV := Lib.hid hV5
        have HBD := Lib.hid BD5
        have HSD := Lib.hid sd5
        have HB5 := Lib.hid bb5
        have hne : ((i : Int) == (j : Int)) = false := by rw [beq_eq_false_iff_ne]; omega
        have HUC : Hid (∀ (i : Nat) (u : Value), us[i]? = some u → w5.cell? (adA.add i) = some u) := hcu
        clear hri hrj hul hsu hzu hV5 BD5 sd5 bb5 hcu hnu
        have R0 := rowX_lit0 isSl w5 w5.heap.size 51 (Nat.le_refl _)
        have ba5 := below_alloc (w := w5) (Nat.le_refl _) (.cells #[] 51)
        have hcu5 : ∀ (i : Nat) (u : Value), us[i]? = some u → (w5.alloc (.cells #[] 51)).cell? (adA.add i) = some u := fun i u h => (ba5.cell (World.block_lt_of_cell? w5 _ (HUC.out i u h))).trans (HUC.out i u h)
        have hlu : ([] : List Value).length + n ≤ 1000000000 := by simp; omega
        have hn0 : 0 < n := by omega
        have hsu5 := HU.out.2.2.1
        go_wp2_with (at_builtin; refine wpList_append_S rfl (.tmp 54) (.tmp 55) rfl Try.underlying22 info_ints (news := us) rfl R0 rfl HU.out.1 hn0 hcu5 hsu5 hlu ba5.size ?_; intro Vb w6 RXb Gb Ob)
        rw [List.nil_append] at RXb
        have b06 := ba5.grown Gb.out ba5.size (fun g hg => R0.1.base_le g hg)
        have TB : TabZI .u64 4294967296 51 w6 w5.heap.size Vb us T := ⟨RXb, HU.out.2.1, fun l u r hu hr => (HU.out.2.2.2 l u r hu hr).below b06⟩
        obtain ⟨Ab, cb, eb⟩ := RowV.slice TB.row.1
        subst eb
        rw [← HU.out.1] at TB ⊢
        have hAb : ∃ gb, Ab = some ⟨gb, 0, none⟩ := by
          rcases TB.row.1.2 with ⟨e1, h0⟩ | ⟨g, cap, cur, e1, _⟩
          · have := HU.out.1; omega
          · injection e1 with e1; exact ⟨g, e1⟩
        obtain ⟨gb, rfl⟩ := hAb
        clear R0 ba5 hcu5 hlu hsu5 RXb Gb Ob
        have hVw := HV.out.below b06
        obtain ⟨Aj, cj, hjx, ecj, srj⟩ := hVw.at2 HRI.out.2.1
        obtain ⟨Ai, ci, hix, eci, sri⟩ := hVw.at2 HRI.out.1
        obtain ⟨Abi, cbi, hubi, -, -⟩ := TB.at_ HRI.out.1
        obtain ⟨Abj, cbj, hubj, -, -⟩ := TB.at_ HRI.out.2.1
        obtain ⟨xbi, fbi⟩ := TB.row.cellAt hubi
        obtain ⟨xbj, fbj⟩ := TB.row.cellAt hubj
        have hgb : w5.heap.size ≤ gb := TB.row.1.base_le gb rfl
        clear hubi hubj hVw
        go_upto_region 11 with (fail)
        go_region
        all_goals
          have TB1 := TB.set i srj
          have sri1 := TB.row.keepZ (grown_set w6 gb i (.slice Aj rj.length cj)) sri
          have TB2 := TB1.set j sri1
          have TB3 := TB2.below (Below.refl _ _).drew
          have G2 := (grown_set w6 gb i (.slice Aj rj.length cj)).trans (grown_set _ gb j (.slice Ai ri.length ci))
          have b07 := (b06.grown G2 b06.size (fun g e => by injection e with e; omega)).drew
          clear TB TB1 TB2 sri1 G2 xbi xbj fbi fbj ecj eci srj sri b06
          obtain ⟨w7, hw7⟩ : ∃ w7, ((w6.setCell ⟨gb, i, none⟩ (.slice Aj rj.length cj)).setCell ⟨gb, j, none⟩ (.slice Ai ri.length ci)).drew = w7 := ⟨_, rfl⟩
          rw [hw7] at TB3 b07 ⊢
          clear hw7
          have HTB := Lib.hid TB3
          have HB7 := Lib.hid b07
          clear TB3 b07
          have R0 := rowX_lit0 isSl w7 w7.heap.size 51 (Nat.le_refl _)
          have ba7 := below_alloc (w := w7) (Nat.le_refl _) (.cells #[] 51)
          have hcu7 : ∀ (i : Nat) (u : Value), us[i]? = some u → (w7.alloc (.cells #[] 51)).cell? (adA.add i) = some u := fun i u h => (ba7.cell (World.block_lt_of_cell? w7 _ ((HB7.out.cell (World.block_lt_of_cell? w5 _ (HUC.out i u h))).trans (HUC.out i u h)))).trans ((HB7.out.cell (World.block_lt_of_cell? w5 _ (HUC.out i u h))).trans (HUC.out i u h))
          have hlu : ([] : List Value).length + n ≤ 1000000000 := by simp; omega
          have hsu5 := HU.out.2.2.1
          go_wp2_with (at_builtin; refine wpList_append_S rfl (.tmp 71) (.tmp 72) rfl Try.underlying22 info_ints (news := us) rfl R0 rfl HU.out.1 hn0 hcu7 hsu5 hlu ba7.size ?_; intro Vc w8 RXc Gc Oc)
          rw [List.nil_append] at RXc
          have b08 := ba7.grown Gc.out ba7.size (fun g hg => R0.1.base_le g hg)
          have TC : TabZI .u64 4294967296 51 w8 w7.heap.size Vc us T := ⟨RXc, HU.out.2.1, fun l u r hu hr => ((HU.out.2.2.2 l u r hu hr).below HB7.out).below b08⟩
          obtain ⟨Ac, cc, ec⟩ := RowV.slice TC.row.1
          subst ec
          rw [← HU.out.1] at TC ⊢
          have hAc : ∃ gc, Ac = some ⟨gc, 0, none⟩ := by
            rcases TC.row.1.2 with ⟨e1, h0⟩ | ⟨g, cap, cur, e1, _⟩
            · have := HU.out.1; omega
            · injection e1 with e1; exact ⟨g, e1⟩
          obtain ⟨gc, rfl⟩ := hAc
          have hgc : w7.heap.size ≤ gc := TC.row.1.base_le gc rfl
          clear R0 ba7 hcu7 hlu hsu5 RXc Gc Oc
          obtain ⟨Aci, cci, huci, -, -⟩ := TC.at_ HRI.out.1
          obtain ⟨xci, fci⟩ := TC.row.cellAt huci
          have hil : i < us.length := (List.getElem?_eq_some_iff.1 huci).1
          have hgcl : gc < w8.heap.size := by obtain ⟨cs, h1, _⟩ := TC.row.2 gc rfl; exact (Array.getElem?_eq_some_iff.1 h1).1
          obtain ⟨v0, hv0⟩ : ∃ v0, v0 = Value.slice (some ⟨w8.heap.size, 0, none⟩) 0 0 := ⟨_, rfl⟩
          have GS0 := grown_set w8 gc i v0
          have hsz : (w8.setCell ⟨gc, i, none⟩ v0).heap.size = w8.heap.size := by simp [World.setCell]
          have RXs : RowX isSl _ w7.heap.size 51 _ _ := TC.row.set i (u := v0) (by rw [hv0]; exact ⟨_, _, _, rfl⟩)
          have ba8 := below_alloc (w := w8.setCell ⟨gc, i, none⟩ v0) (Nat.le_refl _) (.cells #[] 29)
          have RX0 := RXs.below ba8
          have RB1 := rowB_lit0 29 (w8.setCell ⟨gc, i, none⟩ v0) w8.heap.size (by rw [hsz]; exact Nat.le_refl _)
          rw [hsz, ← hv0] at RB1
          have HG0 : Hid (w8.grownBy _ (some gc)) := below_grown GS0 ba8
          have HTC := Lib.hid TC
          have hu0 : (us.set i v0)[i]? = some v0 := List.getElem?_set_self hil
          have HO0 : Hid (∀ l, l ≠ i → (us.set i v0)[l]? = us[l]?) := fun l hl => List.getElem?_set_ne (fun e => hl e.symm)
          have HP0 : Hid (([] : List (Int × Value)).map (·.1) = (addR ri rj).take 0) := by show _ = _; simp
          have HN0 : Hid (NumP .u64 4294967296 ((w8.setCell ⟨gc, i, none⟩ v0).alloc (.cells #[] 29)) []) := NumP.nil
          have HB8 := Lib.hid b08
          rw [hv0] at RX0 RB1 HG0 hu0 HO0 HN0
          clear TC RXs GS0 b08 huci ba8 hv0 hsz
          have hixc : ∀ w, (Instr.indexAt 22 (.slice (some ⟨gc, 0, none⟩) n cc) (.int .i64 (i : Int))).run Try.prog w = .ok (.pointer (some ⟨gc, i, none⟩)) w := fun w => by
            rw [← addr_zero gc i]
            exact index1_any Try.underlying22 (by kernel_rfl) ⟨gc, 0, none⟩ hin w
          go_wp2
          simp only [hixc, Result.andThen_ok]
          go_wp2
          go_loopw [13] (fun v13 wr => ∃ (k : Nat) (v : Value) (ps : List (Int × Value)) (uc : List Value), k ≤ n ∧ RowX isSl wr w7.heap.size 51 (.slice (some ⟨gc, 0, none⟩) n cc) uc ∧ uc[i]? = some v ∧ Hid (uc.length = us.length ∧ ∀ l, l ≠ i → uc[l]? = us[l]?) ∧ RowB 29 wr w8.heap.size v ps ∧ Hid (ps.map (·.1) = (addR ri rj).take k) ∧ Hid (NumP .u64 4294967296 wr ps) ∧ Hid (w8.grownBy wr (some gc)) ∧ v13 = .int .i64 (k : Int)) (fun v13 _ => n - (intOf v13).toNat)
          case atStart => exact ⟨0, _, [], _, by omega, RX0, hu0, ⟨by rw [List.length_set], HO0.out⟩, RB1, HP0, HN0, HG0, rfl⟩
          case round =>
            clear RX0 hu0 HO0 RB1 HP0 HN0 HG0 xci fci
            obtain ⟨k, v, ps, uc, hk, RX, huc, HUL, RB, HPS, HNP, HG, rfl⟩ := hrel
            obtain ⟨wi, hwi⟩ : ∃ wi, wi = wr := ⟨_, rfl⟩
            subst hwi
            have BI : Below w7.heap.size w7 wi := HB8.out.grown HG.out HB8.out.size (fun g e => by injection e with e; omega)
            have BI5 : Below w5.heap.size w5 wi := HB7.out.trans (BI.mono HB7.out.size)
            by_cases hkn : k < n
            · have hpl : ps.length = k := by have h1 := congrArg List.length HPS.out; rw [List.length_map, List.length_take, addR_len, HRI.out.2.2.2.1] at h1; omega
              obtain ⟨Av, cv, ev⟩ := RB.slice
              subst ev
              rw [hpl] at RB huc
              have HPL := Lib.hid hpl
              have bd := (Below.refl wi.heap.size wi).drew
              have BId := BI.drew
              have hVd := HV.out.below HB7.out
              obtain ⟨Ai, ci2, hix2, eci, sri⟩ := hVd.at2 HRI.out.1
              obtain ⟨Aj, cj2, hjx2, ecj, srj⟩ := hVd.at2 HRI.out.2.1
              rw [HRI.out.2.2.2.1] at eci sri
              rw [HRI.out.2.2.2.2] at ecj srj
              obtain ⟨x, hx⟩ : ∃ x, ri[k]? = some x := ⟨_, List.getElem?_eq_getElem (by rw [HRI.out.2.2.2.1]; exact hkn)⟩
              obtain ⟨y, hy⟩ : ∃ y, rj[k]? = some y := ⟨_, List.getElem?_eq_getElem (by rw [HRI.out.2.2.2.2]; exact hkn)⟩
              obtain ⟨gi, oi, ux, rfl, hia, p0, p1, sx⟩ := sri.at_ hx
              obtain ⟨gj, oj, uy, rfl, hib, q0, q1, sy⟩ := srj.at_ hy
              obtain ⟨Ax, cx, rfl, _⟩ := id sx
              obtain ⟨Ay, cy, rfl, _⟩ := id sy
              have hi1 := fun w => index2 (P := Try.prog) Try.underlying51 (by kernel_rfl) (g := gi) (o := oi) (c := ci2) hia w
              have hi2 := fun w => index2 (P := Try.prog) Try.underlying51 (by kernel_rfl) (g := gj) (o := oj) (c := cj2) hib w
              have kx : IsZ wi.drew (.agg #[.bool (ngB x), .slice Ax (digs 4294967296 x.natAbs).length cx]) x := ⟨_, rfl, sx.below BId⟩
              have ky : IsZ wi.drew (.agg #[.bool (ngB y), .slice Ay (digs 4294967296 y.natAbs).length cy]) y := ⟨_, rfl, sy.below BId⟩
              have hlx : lenZ x ≤ 2 := HT.out.2.2 ri (List.mem_of_getElem? HRI.out.1) x (List.mem_of_getElem? hx)
              have hly : lenZ y ≤ 2 := HT.out.2.2 rj (List.mem_of_getElem? HRI.out.2.1) y (List.mem_of_getElem? hy)
              obtain ⟨Z, hZ⟩ : ∃ Z, Z = x + y := ⟨_, rfl⟩
              have CA : ∀ w a b, IsZ w a x → IsZ w b y → Calls Try.prog 22 #[a, b] w (RetZ Z w) := fun w a b h1 h2 => by rw [hZ]; exact zadd_any a x b y w h1 h2 (by omega) (by omega)
              have HTK : Hid ((addR ri rj).take (k + 1) = (addR ri rj).take k ++ [Z]) := take_nextD (by rw [addR_at (by rw [HRI.out.2.2.2.1]; exact hkn), hZ, List.getD_eq_getElem?_getD, List.getD_eq_getElem?_getD, hx, hy]; rfl)
              have RXd := RX.below bd
              have RBd := RB.below bd
              obtain ⟨xc, fc⟩ := RXd.cellAt huc
              have HNd : Hid (NumP .u64 4294967296 wi.drew ps) := HNP.out.below bd
              have HGd : Hid (w8.grownBy wi.drew (some gc)) := below_grown HG.out bd
              have HUC2 := Lib.hid huc
              have hgd : w8.heap.size ≤ wi.drew.heap.size := HGd.out.size
              have hlen : ps.length + 1 ≤ 1000000000 := by omega
              clear hx hy hlx hly hZ sri srj hVd RX RB HNP HG bd hpl huc
              go_upto_region 17 with (fail)
              refine wp_region_any (by kernel_rfl) (show wpAny _ _ _ _ _ _ _ wi.drew from ?_)
              refine any_cut_at 23 [false, false, false, false, false, false, false, false, false, false, false, false, false, false, false, false, false, false, false, false, false, false, false] [false, false] 23 2 (by kernel_rfl) (by kernel_rfl) (by kernel_rfl) (by kernel_rfl) ?_
              simp only [List.take_succ_cons, List.take_zero]
              have hHeld : (fun w' : World => Below w7.heap.size w7 w' ∧ w'.cell? ⟨gc, i, none⟩ = some (.slice Av k cv)) wi.drew := ⟨BId, xc⟩
              refine wpAny_of_held (S := fun w' : World => Below w7.heap.size w7 w' ∧ w'.cell? ⟨gc, i, none⟩ = some (.slice Av k cv)) _ _ _ _ ?_
              refine wpAnyH_take (i := 0) (v := .slice (some ⟨gc, 0, none⟩) n cc) rfl (by kernel_rfl) (by kernel_rfl) (by kernel_rfl) (fun _ _ _ h => h) (Or.inl ⟨by kernel_rfl, fun w hSw => by (obtain ⟨hBw, hS2⟩ := hSw; go_simp; first | done | with_reducible rfl)⟩) hHeld ?_
              simp only [Act.put, List.getElem_toArray, List.getElem_cons_zero, List.getElem_cons_succ, List.setIfInBounds_toArray, List.set_cons_zero, List.set_cons_succ]
              refine wpAnyH_take (i := 1) (v := .int .i64 (i : Int)) rfl (by kernel_rfl) (by kernel_rfl) (by kernel_rfl) (fun _ _ _ h => h) (Or.inl ⟨by kernel_rfl, fun w hSw => by (obtain ⟨hBw, hS2⟩ := hSw; go_simp; first | done | with_reducible rfl)⟩) hHeld ?_
              simp only [Act.put, List.getElem_toArray, List.getElem_cons_zero, List.getElem_cons_succ, List.setIfInBounds_toArray, List.set_cons_zero, List.set_cons_succ]
              refine wpAnyH_take (i := 2) (v := .slice (some ⟨gc, 0, none⟩) n cc) rfl (by kernel_rfl) (by kernel_rfl) (by kernel_rfl) (fun _ _ _ h => h) (Or.inl ⟨by kernel_rfl, fun w hSw => by (obtain ⟨hBw, hS2⟩ := hSw; go_simp; first | done | with_reducible rfl)⟩) hHeld ?_
              simp only [Act.put, List.getElem_toArray, List.getElem_cons_zero, List.getElem_cons_succ, List.setIfInBounds_toArray, List.set_cons_zero, List.set_cons_succ]
              refine wpAnyH_take (i := 3) (v := .int .i64 (i : Int)) rfl (by kernel_rfl) (by kernel_rfl) (by kernel_rfl) (fun _ _ _ h => h) (Or.inl ⟨by kernel_rfl, fun w hSw => by (obtain ⟨hBw, hS2⟩ := hSw; go_simp; first | done | with_reducible rfl)⟩) hHeld ?_
              simp only [Act.put, List.getElem_toArray, List.getElem_cons_zero, List.getElem_cons_succ, List.setIfInBounds_toArray, List.set_cons_zero, List.set_cons_succ]
              refine wpAnyH_take (i := 4) (v := .pointer (some ⟨gc, i, none⟩)) rfl (by kernel_rfl) (by kernel_rfl) (by kernel_rfl) (fun _ _ _ h => h) (Or.inl ⟨by kernel_rfl, fun w hSw => by (obtain ⟨hBw, hS2⟩ := hSw; go_simp; first | done | with_reducible rfl)⟩) hHeld ?_
              simp only [Act.put, List.getElem_toArray, List.getElem_cons_zero, List.getElem_cons_succ, List.setIfInBounds_toArray, List.set_cons_zero, List.set_cons_succ]
              refine wpAnyH_take (i := 5) (v := .slice Av k cv) rfl (by kernel_rfl) (by kernel_rfl) (by kernel_rfl) (fun _ _ _ h => h) (Or.inl ⟨by kernel_rfl, fun w hSw => by (obtain ⟨hBw, hS2⟩ := hSw; go_simp; first | done | with_reducible rfl)⟩) hHeld ?_
              simp only [Act.put, List.getElem_toArray, List.getElem_cons_zero, List.getElem_cons_succ, List.setIfInBounds_toArray, List.set_cons_zero, List.set_cons_succ]
              refine wpAnyH_take (i := 6) (v := .slice (some adA) n cV) rfl (by kernel_rfl) (by kernel_rfl) (by kernel_rfl) (fun _ _ _ h => h) (Or.inl ⟨by kernel_rfl, fun w hSw => by (obtain ⟨hBw, hS2⟩ := hSw; go_simp; first | done | with_reducible rfl)⟩) hHeld ?_
              simp only [Act.put, List.getElem_toArray, List.getElem_cons_zero, List.getElem_cons_succ, List.setIfInBounds_toArray, List.set_cons_zero, List.set_cons_succ]
              refine wpAnyH_take (i := 7) (v := .int .i64 (i : Int)) rfl (by kernel_rfl) (by kernel_rfl) (by kernel_rfl) (fun _ _ _ h => h) (Or.inl ⟨by kernel_rfl, fun w hSw => by (obtain ⟨hBw, hS2⟩ := hSw; go_simp; first | done | with_reducible rfl)⟩) hHeld ?_
              simp only [Act.put, List.getElem_toArray, List.getElem_cons_zero, List.getElem_cons_succ, List.setIfInBounds_toArray, List.set_cons_zero, List.set_cons_succ]
              refine wpAnyH_take (i := 8) (v := .pointer (some (adA.add i))) rfl (by kernel_rfl) (by kernel_rfl) (by kernel_rfl) (fun _ _ _ h => h) (Or.inl ⟨by kernel_rfl, fun w hSw => by (obtain ⟨hBw, hS2⟩ := hSw; go_simp; first | done | with_reducible rfl)⟩) hHeld ?_
              simp only [Act.put, List.getElem_toArray, List.getElem_cons_zero, List.getElem_cons_succ, List.setIfInBounds_toArray, List.set_cons_zero, List.set_cons_succ]
              refine wpAnyH_take (i := 9) (v := .slice (some ⟨gi, oi, none⟩) n ci2) rfl (by kernel_rfl) (by kernel_rfl) (by kernel_rfl) (fun _ _ _ h => h) (Or.inl ⟨by kernel_rfl, fun w hSw => by (obtain ⟨hBw, hS2⟩ := hSw; have f0 := (hBw.cell (World.block_lt_of_cell? _ _ eci)).trans eci; go_simp; first | done | with_reducible rfl)⟩) hHeld ?_
              simp only [Act.put, List.getElem_toArray, List.getElem_cons_zero, List.getElem_cons_succ, List.setIfInBounds_toArray, List.set_cons_zero, List.set_cons_succ]
              refine wpAnyH_take (i := 10) (v := .int .i64 (k : Int)) rfl (by kernel_rfl) (by kernel_rfl) (by kernel_rfl) (fun _ _ _ h => h) (Or.inl ⟨by kernel_rfl, fun w hSw => by (obtain ⟨hBw, hS2⟩ := hSw; go_simp; first | done | with_reducible rfl)⟩) hHeld ?_
              simp only [Act.put, List.getElem_toArray, List.getElem_cons_zero, List.getElem_cons_succ, List.setIfInBounds_toArray, List.set_cons_zero, List.set_cons_succ]
              refine wpAnyH_take (i := 11) (v := .pointer (some ⟨gi, oi + k * 2, none⟩)) rfl (by kernel_rfl) (by kernel_rfl) (by kernel_rfl) (fun _ _ _ h => h) (Or.inl ⟨by kernel_rfl, fun w hSw => by (obtain ⟨hBw, hS2⟩ := hSw; go_simp; first | done | with_reducible rfl)⟩) hHeld ?_
              simp only [Act.put, List.getElem_toArray, List.getElem_cons_zero, List.getElem_cons_succ, List.setIfInBounds_toArray, List.set_cons_zero, List.set_cons_succ]
              refine wpAnyH_take (i := 12) (v := .agg #[.bool (ngB x), .slice Ax (digs 4294967296 x.natAbs).length cx]) rfl (by kernel_rfl) (by kernel_rfl) (by kernel_rfl) (fun _ _ _ h => h) (Or.inl ⟨by kernel_rfl, fun w hSw => by (obtain ⟨hBw, hS2⟩ := hSw; have f0 := (hBw.cell (World.block_lt_of_cell? _ _ p0)).trans p0; have f1 := (hBw.cell (World.block_lt_of_cell? _ _ p1)).trans p1; go_simp; first | done | with_reducible rfl)⟩) hHeld ?_
              simp only [Act.put, List.getElem_toArray, List.getElem_cons_zero, List.getElem_cons_succ, List.setIfInBounds_toArray, List.set_cons_zero, List.set_cons_succ]
              refine wpAnyH_take (i := 13) (v := .slice (some adA) n cV) rfl (by kernel_rfl) (by kernel_rfl) (by kernel_rfl) (fun _ _ _ h => h) (Or.inl ⟨by kernel_rfl, fun w hSw => by (obtain ⟨hBw, hS2⟩ := hSw; go_simp; first | done | with_reducible rfl)⟩) hHeld ?_
              simp only [Act.put, List.getElem_toArray, List.getElem_cons_zero, List.getElem_cons_succ, List.setIfInBounds_toArray, List.set_cons_zero, List.set_cons_succ]
              refine wpAnyH_take (i := 14) (v := .int .i64 (j : Int)) rfl (by kernel_rfl) (by kernel_rfl) (by kernel_rfl) (fun _ _ _ h => h) (Or.inl ⟨by kernel_rfl, fun w hSw => by (obtain ⟨hBw, hS2⟩ := hSw; go_simp; first | done | with_reducible rfl)⟩) hHeld ?_
              simp only [Act.put, List.getElem_toArray, List.getElem_cons_zero, List.getElem_cons_succ, List.setIfInBounds_toArray, List.set_cons_zero, List.set_cons_succ]
              refine wpAnyH_take (i := 15) (v := .pointer (some (adA.add j))) rfl (by kernel_rfl) (by kernel_rfl) (by kernel_rfl) (fun _ _ _ h => h) (Or.inl ⟨by kernel_rfl, fun w hSw => by (obtain ⟨hBw, hS2⟩ := hSw; go_simp; first | done | with_reducible rfl)⟩) hHeld ?_
              simp only [Act.put, List.getElem_toArray, List.getElem_cons_zero, List.getElem_cons_succ, List.setIfInBounds_toArray, List.set_cons_zero, List.set_cons_succ]
              refine wpAnyH_take (i := 16) (v := .slice (some ⟨gj, oj, none⟩) n cj2) rfl (by kernel_rfl) (by kernel_rfl) (by kernel_rfl) (fun _ _ _ h => h) (Or.inl ⟨by kernel_rfl, fun w hSw => by (obtain ⟨hBw, hS2⟩ := hSw; have f0 := (hBw.cell (World.block_lt_of_cell? _ _ ecj)).trans ecj; go_simp; first | done | with_reducible rfl)⟩) hHeld ?_
              simp only [Act.put, List.getElem_toArray, List.getElem_cons_zero, List.getElem_cons_succ, List.setIfInBounds_toArray, List.set_cons_zero, List.set_cons_succ]
              refine wpAnyH_take (i := 17) (v := .int .i64 (k : Int)) rfl (by kernel_rfl) (by kernel_rfl) (by kernel_rfl) (fun _ _ _ h => h) (Or.inl ⟨by kernel_rfl, fun w hSw => by (obtain ⟨hBw, hS2⟩ := hSw; go_simp; first | done | with_reducible rfl)⟩) hHeld ?_
              simp only [Act.put, List.getElem_toArray, List.getElem_cons_zero, List.getElem_cons_succ, List.setIfInBounds_toArray, List.set_cons_zero, List.set_cons_succ]
              refine wpAnyH_take (i := 18) (v := .pointer (some ⟨gj, oj + k * 2, none⟩)) rfl (by kernel_rfl) (by kernel_rfl) (by kernel_rfl) (fun _ _ _ h => h) (Or.inl ⟨by kernel_rfl, fun w hSw => by (obtain ⟨hBw, hS2⟩ := hSw; go_simp; first | done | with_reducible rfl)⟩) hHeld ?_
              simp only [Act.put, List.getElem_toArray, List.getElem_cons_zero, List.getElem_cons_succ, List.setIfInBounds_toArray, List.set_cons_zero, List.set_cons_succ]
              refine wpAnyH_take (i := 19) (v := .agg #[.bool (ngB y), .slice Ay (digs 4294967296 y.natAbs).length cy]) rfl (by kernel_rfl) (by kernel_rfl) (by kernel_rfl) (fun _ _ _ h => h) (Or.inl ⟨by kernel_rfl, fun w hSw => by (obtain ⟨hBw, hS2⟩ := hSw; have f0 := (hBw.cell (World.block_lt_of_cell? _ _ q0)).trans q0; have f1 := (hBw.cell (World.block_lt_of_cell? _ _ q1)).trans q1; go_simp; first | done | with_reducible rfl)⟩) hHeld ?_
              simp only [Act.put, List.getElem_toArray, List.getElem_cons_zero, List.getElem_cons_succ, List.setIfInBounds_toArray, List.set_cons_zero, List.set_cons_succ]
              refine wpAnyH_ready (rs := [20]) (by kernel_rfl) (by simp) ?_
              refine AllReadyH.cons rfl (fun K hK => ?_) AllReadyH.nil
              go_simp
              go_at_call 22
              refine (CA _ _ _ kx ky).mono ?_
              rintro e w9 ⟨v9, rfl, k9, -, b9⟩
              obtain ⟨u9, rfl, s9⟩ := k9
              obtain ⟨A9, c9, rfl, _⟩ := id s9
              have RX9 := RXd.below b9
              obtain ⟨xc9, fc9⟩ := RX9.cellAt HUC2.out
              have BI9 := BId.trans (b9.mono BId.size)
              refine hK.out _ _ (by exact ⟨BI9, xc9⟩) (fun hHeld => ?_)
              clear hK K
              try simp only [Act.put, List.getElem_toArray, List.getElem_cons_zero, List.getElem_cons_succ, List.setIfInBounds_toArray, List.set_cons_zero, List.set_cons_succ]
              have bC := below_alloc (w := w9) (Nat.le_refl _) (.cells #[.bool (ngB Z), .slice A9 (digs 4294967296 Z.natAbs).length c9] 29)
              have RXC := RX9.below bC
              have RBC := (RBd.below b9).below bC
              obtain ⟨xcC, fcC⟩ := RXC.cellAt HUC2.out
              have sC := s9.below bC
              obtain ⟨cC0, cC1⟩ := new_cells2 w9 29 (.bool (ngB Z)) (.slice A9 (digs 4294967296 Z.natAbs).length c9)
              have hszC := Nat.le_trans hgd (Nat.le_trans b9.size bC.size)
              have BIC := BI9.trans (bC.mono BI9.size)
              refine wpAnyH_ready (rs := [21]) (by kernel_rfl) (by simp) ?_
              refine AllReadyH.cons rfl (fun K hK => ?_) AllReadyH.nil
              go_simp
              refine hK.out _ _ (by exact ⟨BIC, xcC⟩) (fun hHeld => ?_)
              clear hK K
              try simp only [Act.put, List.getElem_toArray, List.getElem_cons_zero, List.getElem_cons_succ, List.setIfInBounds_toArray, List.set_cons_zero, List.set_cons_succ]
              refine wpAnyH_ready (rs := [22]) (by kernel_rfl) (by simp) ?_
              refine AllReadyH.cons rfl (fun K hK => ?_) AllReadyH.nil
              refine step_append_B rfl (.tmp 89) (.tmp 105) rfl Try.underlying51 Go.Proofs.Yteijlcfhenlanaa.whl.info_int (v := .slice Av k cv) (p := (Z, .slice A9 (digs 4294967296 Z.natAbs).length c9)) (ps := ps) (by rfl) (by exact RBC) (ad := ⟨w9.heap.size, 0, none⟩) (c := 1) (by rfl) (by exact cC0) (by exact cC1) ⟨_, _, _, rfl⟩ hlen (by exact hszC) ?_
              intro V10 w10 RB10 G10 O10
              obtain ⟨A10, c10, e10⟩ := RB10.slice
              subst e10
              obtain ⟨m10, hm10⟩ : ∃ m10, m10 = (ps ++ [(Z, Value.slice A9 (digs 4294967296 Z.natAbs).length c9)]).length := ⟨_, rfl⟩
              rw [← hm10] at RB10 ⊢
              clear hm10
              have RX10 := RXC.grown G10.out (fun g e e2 => RowX.notRowB RXC RBC (by decide) g e e2)
              obtain ⟨xc10, fc10⟩ := RX10.cellAt HUC2.out
              have BI10 := BIC.trans ((RBC.bel G10.out hszC).mono HB8.out.size)
              refine hK.out _ _ (by exact ⟨BI10, xc10⟩) (fun hHeld => ?_)
              clear hK K
              try simp only [Act.put, List.getElem_toArray, List.getElem_cons_zero, List.getElem_cons_succ, List.setIfInBounds_toArray, List.set_cons_zero, List.set_cons_succ]
              refine wpAnyH_done (by kernel_rfl) ?_ _
              dsimp only [Behind]
              refine wpAny_take (i := 23) (v := .pointer (some ⟨gc, i, none⟩)) rfl (by kernel_rfl) (by kernel_rfl) (by kernel_rfl) (fun _ _ _ h => h) (Or.inl ⟨by kernel_rfl, fun w => by (go_simp; first | done | with_reducible rfl)⟩) ?_
              simp only [Act.put, List.getElem_toArray, List.getElem_cons_zero, List.getElem_cons_succ, List.setIfInBounds_toArray, List.set_cons_zero, List.set_cons_succ]
              refine wpAny_ready (rs := [24]) (by kernel_rfl) (by simp) ?_
              refine AllReady.cons rfl (fun K hK => ?_) AllReady.nil
              go_simp
              refine hK _ _ ?_
              clear hK K
              simp only [Act.put, List.getElem_toArray, List.getElem_cons_zero, List.getElem_cons_succ, List.setIfInBounds_toArray, List.set_cons_zero, List.set_cons_succ]
              refine wpAny_done (by kernel_rfl) ?_ _
              have HN10 : NumP .u64 4294967296 w10 (ps ++ [(Z, .slice A9 (digs 4294967296 Z.natAbs).length c9)]) := by
                refine (RBC.keepN G10.out ((HNd.out.below b9).below bC)).append fun q hq => ?_
                obtain rfl := List.mem_singleton.1 hq
                exact RBC.keepS G10.out sC
              have GS := grown_set w10 gc i (.slice A10 m10 c10)
              have RX11 := RX10.set i (u := .slice A10 m10 c10) ⟨_, _, _, rfl⟩
              have hgx : some gc = (Value.slice (some ⟨gc, 0, none⟩) n cc).ownBlock := rfl
              have RB11 := RB10.grown GS (fun g hg e => by
                injection e with e
                subst e
                exact RowX.notRowB RX10 RB10 (by decide) gc rfl hg)
              have HN11 : Hid (NumP .u64 4294967296 (w10.setCell ⟨gc, i, none⟩ (.slice A10 m10 c10)) (ps ++ [(Z, .slice A9 (digs 4294967296 Z.natAbs).length c9)])) := fun q hq => by
                obtain ⟨cs, h1, h2⟩ := RX10.2 gc rfl
                exact Go.Proofs.Yteijlcfhenlanaa.flow.off (HN10 q hq) h1 (fun c hc n => by obtain ⟨A, m, d, rfl⟩ := h2 c hc; simp) GS
              have HG11 : Hid (w8.grownBy (w10.setCell ⟨gc, i, none⟩ (.slice A10 m10 c10)) (some gc)) := by
                have h1 := below_grown HGd.out (b9.trans (bC.mono b9.size))
                exact (grown_own h1 G10.out (fun g hg => (RBC.under g hg).1)).trans GS
              have HL11 : Hid ((uc.set i (.slice A10 m10 c10)).length = us.length ∧ ∀ l, l ≠ i → (uc.set i (.slice A10 m10 c10))[l]? = us[l]?) := ⟨by rw [List.length_set]; exact HUL.out.1, fun l hl => by rw [List.getElem?_set_ne (fun e => hl e.symm)]; exact HUL.out.2 l hl⟩
              have hu11 : (uc.set i (.slice A10 m10 c10))[i]? = some (.slice A10 m10 c10) := List.getElem?_set_self (by rw [HUL.out.1]; exact hil)
              have HP11 : Hid ((ps ++ [(Z, Value.slice A9 (digs 4294967296 Z.natAbs).length c9)]).map (·.1) = (addR ri rj).take (k + 1)) := by show _ = _; rw [List.map_append, HPS.out, HTK.out]; rfl
              clear hHeld BId BI9 BIC BI10 RXd RBd xc fc RX9 xc9 fc9 bC RXC RBC xcC fcC sC cC0 cC1 RX10 xc10 fc10 RB10 G10 O10 HN10 GS s9 b9 kx ky CA p0 p1 q0 q1 sx sy eci ecj HNd HGd HUL HPS hi1 hi2
              go_wp2
              go_roundw
              case rel => exact ⟨k + 1, _, _, _, by omega, RX11, hu11, HL11, RB11, HP11, HN11, HG11, by go_num⟩
              case measure => simp [intOf]; omega
            · have hkn2 : k = n := by omega
              have sv : SlZ .u64 4294967296 wi v (addR ri rj) := by
                have h := RB.slP.sl HNP.out
                rw [HPS.out, List.take_of_length_le (by rw [addR_len, HRI.out.2.2.2.1]; omega)] at h
                exact h
              have TCn : TabZI .u64 4294967296 51 wi w7.heap.size (.slice (some ⟨gc, 0, none⟩) n cc) uc (T.set i (addR ri rj)) := by
                refine ⟨RX, by rw [HUL.out.1, List.length_set]; exact HU.out.2.1, fun l u r hu hr => ?_⟩
                by_cases hl : l = i
                · subst hl
                  rw [huc] at hu
                  injection hu with hu
                  subst hu
                  rw [List.getElem?_set_self (by rw [← HT.out.1]; exact hin)] at hr
                  injection hr with hr
                  subst hr
                  exact sv
                · rw [HUL.out.2 l hl] at hu
                  rw [List.getElem?_set_ne (fun e => hl e.symm)] at hr
                  exact HTC.out.row.keepZ HG.out (HTC.out.own l u r hu hr)
              have sC := TCn.slW
              have sB := (HTB.out.below BI).slW
              have HCB : Hid (lenI ((T.set i rj).set j ri) 2 ∧ (2 + 1) * 2 ^ ((T.set i rj).set j ri).length ≤ 5001) := ⟨lenI_set (lenI_set HT.out.2.2 (HT.out.2.2 rj (List.mem_of_getElem? HRI.out.2.1))) (HT.out.2.2 ri (List.mem_of_getElem? HRI.out.1)), by rw [List.length_set, List.length_set]; exact HC.out.2⟩
              have HCC : Hid (lenI (T.set i (addR ri rj)) 3 ∧ (3 + 1) * 2 ^ (T.set i (addR ri rj)).length ≤ 5001) := ⟨lenI_set (lenI_mono HT.out.2.2 (by omega)) (addR_lens (HT.out.2.2 ri (List.mem_of_getElem? HRI.out.1)) (HT.out.2.2 rj (List.mem_of_getElem? HRI.out.2.1))), by rw [List.length_set]; exact pow_lens (n := 5) HT.out.2.1 (by omega)⟩
              have HSB : Hid (squareI ((T.set i rj).set j ri)) := squareI_set (squareI_set HS.out.1 (by rw [HRI.out.2.2.2.2, HT.out.1])) (by rw [List.length_set, HRI.out.2.2.2.1, HT.out.1])
              have HSC : Hid (squareI (T.set i (addR ri rj))) := squareI_set HS.out.1 (by rw [addR_len, HRI.out.2.2.2.1, HT.out.1])
              have hsh : shI T T.length T.length := ⟨rfl, HS.out.1.2⟩
              have HDB : Hid (detF ((T.set i rj).set j ri).length (qF (entI ((T.set i rj).set j ri))) = - (d : Rat)) := by show _ = _; rw [List.length_set, List.length_set, det_swapI hsh HRI.out.1 HRI.out.2.1 HRI.out.2.2.1, HS.out.2.2]
              have HDC : Hid (detF (T.set i (addR ri rj)).length (qF (entI (T.set i (addR ri rj)))) = (d : Rat)) := by show _ = _; rw [List.length_set, det_addI hsh HRI.out.1 HRI.out.2.1 HRI.out.2.2.1, HS.out.2.2]
              have BD := HBD.out.below BI5
              have sd := HSD.out.below BI5
              have bb := HB5.out.trans (BI5.mono HB5.out.size)
              have hulen : uc.length = n := by rw [HUL.out.1, ← HU.out.1]
              clear hkn2 sv TCn RX huc RB HPS HNP HG BI BI5 HUL hsh hulen
              go_wp2_with fail
              refine (bdet_any _ _ 2 _ sB HCB).mono ?_
              rintro e w9 ⟨b9, (⟨-, v9, x, rfl, k9, hlx, hdx⟩ | ⟨hq, rfl⟩)⟩
              · obtain ⟨u9, rfl, s9⟩ := k9
                obtain ⟨Ax, cx, rfl, _⟩ := id s9
                have HX : Hid (x = -d) := Rat.intCast_inj.1 (by rw [hdx, HDB.out, Rat.intCast_neg])
                have ba := below_alloc (w := w9) (Nat.le_refl _) (.cells #[.bool (ngB x), .slice Ax (digs 4294967296 x.natAbs).length cx] 29)
                have BX0 := Blk.new w9 29 #[.bool (ngB x), .slice Ax (digs 4294967296 x.natAbs).length cx]
                have sx0 := s9.below ba
                have sC9 := (sC.below b9).below ba
                have BD9 := (BD.below b9).below ba
                have sd9 := (sd.below b9).below ba
                have bx := bb.trans (b9.mono bb.size)
                have bb9 := bx.trans (ba.mono bx.size)
                clear bx bb b9 ba sC sB BD sd s9 hlx hdx
                go_wp2_with fail
                refine (bdet_any _ _ 3 _ sC9 HCC).mono ?_
                rintro e w10 ⟨b10, (⟨-, v10, y, rfl, k10, hly, hdy⟩ | ⟨hq, rfl⟩)⟩
                · obtain ⟨u10, rfl, s10⟩ := k10
                  obtain ⟨Ay, cy, rfl, _⟩ := id s10
                  have HY : Hid (y = d) := Rat.intCast_inj.1 (by rw [hdy, HDC.out])
                  have ba := below_alloc (w := w10) (Nat.le_refl _) (.cells #[.bool (ngB y), .slice Ay (digs 4294967296 y.natAbs).length cy] 29)
                  have BY0 := Blk.new w10 29 #[.bool (ngB y), .slice Ay (digs 4294967296 y.natAbs).length cy]
                  have sy0 := s10.below ba
                  have BX1 := (BX0.below b10).below ba
                  have sx1 := (sx0.below b10).below ba
                  have BD1 := (BD9.below b10).below ba
                  have sd1 := (sd9.below b10).below ba
                  have bx := bb9.trans (b10.mono bb9.size)
                  have bb1 := bx.trans (ba.mono bx.size)
                  clear bx bb9 b10 ba sC9 BD9 sd9 BX0 sx0 s10 hly hdy
                  go_upto_region 20 with (fail)
                  obtain ⟨w11, hw11⟩ : ∃ w11, w10.alloc (.cells #[.bool (ngB y), .slice Ay (digs 4294967296 y.natAbs).length cy] 29) = w11 := ⟨_, rfl⟩
                  rw [hw11] at BY0 sy0 BX1 sx1 BD1 sd1 bb1 ⊢
                  clear hw11
                  obtain ⟨D2, hD2⟩ : ∃ D2, D2 = -d := ⟨_, rfl⟩
                  have CN : ∀ w a, IsZ w a d → Calls Try.prog 23 #[a] w (RetZ D2 w) := fun w a h => by rw [hD2]; exact zneg_any a d w h (by have := HS.out.2.1; omega)
                  have HO1 : Hid (0 = ordz x D2) := by show _ = _; rw [HX.out, hD2]; simp [ordz]
                  have HO2 : Hid (0 = ordz y d) := by show _ = _; rw [HY.out]; simp [ordz]
                  have bd := (Below.refl w11.heap.size w11).drew
                  have bbd := bb1.trans (bd.mono bb1.size)
                  have kX : IsZ w11.drew (.agg #[.bool (ngB x), .slice Ax (digs 4294967296 x.natAbs).length cx]) x := ⟨_, rfl, sx1.below bd⟩
                  have kY : IsZ w11.drew (.agg #[.bool (ngB y), .slice Ay (digs 4294967296 y.natAbs).length cy]) y := ⟨_, rfl, sy0.below bd⟩
                  have kD : IsZ w11.drew (.agg #[.bool (ngB d), .slice Ad (digs 4294967296 d.natAbs).length cd]) d := ⟨_, rfl, sd1.below bd⟩
                  obtain ⟨x0, x1, _, _⟩ := Blk.two (BX1.below bd)
                  obtain ⟨y0, y1, _, _⟩ := Blk.two (BY0.below bd)
                  obtain ⟨d0, d1, _, _⟩ := Blk.two (BD1.below bd)
                  clear hD2 bd bb1 BX1 BY0 BD1 sx1 sy0 sd1
                  refine wp_region_held_drew (S := fun w' : World => Below w11.drew.heap.size w11.drew w') (by kernel_rfl) (Below.refl _ _) (fun hHeld => ?_)
                  refine wpAnyH_take (i := 0) (v := .int .i64 0) rfl (by kernel_rfl) (by kernel_rfl) (by kernel_rfl) (fun _ _ _ h => h) (Or.inl ⟨by kernel_rfl, fun w hSw => by (go_simp; first | done | with_reducible rfl)⟩) hHeld ?_
                  simp only [Act.put, List.getElem_toArray, List.getElem_cons_zero, List.getElem_cons_succ, List.setIfInBounds_toArray, List.set_cons_zero, List.set_cons_succ]
                  refine wpAnyH_take (i := 1) (v := .bool true) rfl (by kernel_rfl) (by kernel_rfl) (by kernel_rfl) (fun _ _ _ h => h) (Or.inl ⟨by kernel_rfl, fun w hSw => by (go_simp; first | done | with_reducible rfl)⟩) hHeld ?_
                  simp only [Act.put, List.getElem_toArray, List.getElem_cons_zero, List.getElem_cons_succ, List.setIfInBounds_toArray, List.set_cons_zero, List.set_cons_succ]
                  refine wpAnyH_take (i := 2) (v := .bool true) rfl (by kernel_rfl) (by kernel_rfl) (by kernel_rfl) (fun _ _ _ h => h) (Or.inl ⟨by kernel_rfl, fun w hSw => by (go_simp; first | done | with_reducible rfl)⟩) hHeld ?_
                  simp only [Act.put, List.getElem_toArray, List.getElem_cons_zero, List.getElem_cons_succ, List.setIfInBounds_toArray, List.set_cons_zero, List.set_cons_succ]
                  refine wpAnyH_take (i := 3) (v := .int .i64 0) rfl (by kernel_rfl) (by kernel_rfl) (by kernel_rfl) (fun _ _ _ h => h) (Or.inl ⟨by kernel_rfl, fun w hSw => by (go_simp; first | done | with_reducible rfl)⟩) hHeld ?_
                  simp only [Act.put, List.getElem_toArray, List.getElem_cons_zero, List.getElem_cons_succ, List.setIfInBounds_toArray, List.set_cons_zero, List.set_cons_succ]
                  refine wpAnyH_take (i := 4) (v := .bool true) rfl (by kernel_rfl) (by kernel_rfl) (by kernel_rfl) (fun _ _ _ h => h) (Or.inl ⟨by kernel_rfl, fun w hSw => by (go_simp; first | done | with_reducible rfl)⟩) hHeld ?_
                  simp only [Act.put, List.getElem_toArray, List.getElem_cons_zero, List.getElem_cons_succ, List.setIfInBounds_toArray, List.set_cons_zero, List.set_cons_succ]
                  refine wpAnyH_take (i := 5) (v := .bool true) rfl (by kernel_rfl) (by kernel_rfl) (by kernel_rfl) (fun _ _ _ h => h) (Or.inl ⟨by kernel_rfl, fun w hSw => by (go_simp; first | done | with_reducible rfl)⟩) hHeld ?_
                  simp only [Act.put, List.getElem_toArray, List.getElem_cons_zero, List.getElem_cons_succ, List.setIfInBounds_toArray, List.set_cons_zero, List.set_cons_succ]
                  refine wpAnyH_take (i := 6) (v := .bool true) rfl (by kernel_rfl) (by kernel_rfl) (by kernel_rfl) (fun _ _ _ h => h) (Or.inl ⟨by kernel_rfl, fun w hSw => by (go_simp; first | done | with_reducible rfl)⟩) hHeld ?_
                  simp only [Act.put, List.getElem_toArray, List.getElem_cons_zero, List.getElem_cons_succ, List.setIfInBounds_toArray, List.set_cons_zero, List.set_cons_succ]
                  refine wpAnyH_take (i := 7) (v := .agg #[.bool (ngB x), .slice Ax (digs 4294967296 x.natAbs).length cx]) rfl (by kernel_rfl) (by kernel_rfl) (by kernel_rfl) (fun _ _ _ h => h) (Or.inl ⟨by kernel_rfl, fun w hSw => by (have hBw : Below w11.drew.heap.size w11.drew w := hSw; have f0 := (hBw.cell (World.block_lt_of_cell? _ _ x0)).trans x0; have f1 := (hBw.cell (World.block_lt_of_cell? _ _ x1)).trans x1; go_simp; first | done | with_reducible rfl)⟩) hHeld ?_
                  simp only [Act.put, List.getElem_toArray, List.getElem_cons_zero, List.getElem_cons_succ, List.setIfInBounds_toArray, List.set_cons_zero, List.set_cons_succ]
                  refine wpAnyH_take (i := 8) (v := .agg #[.bool (ngB d), .slice Ad (digs 4294967296 d.natAbs).length cd]) rfl (by kernel_rfl) (by kernel_rfl) (by kernel_rfl) (fun _ _ _ h => h) (Or.inl ⟨by kernel_rfl, fun w hSw => by (have hBw : Below w11.drew.heap.size w11.drew w := hSw; have f0 := (hBw.cell (World.block_lt_of_cell? _ _ d0)).trans d0; have f1 := (hBw.cell (World.block_lt_of_cell? _ _ d1)).trans d1; go_simp; first | done | with_reducible rfl)⟩) hHeld ?_
                  simp only [Act.put, List.getElem_toArray, List.getElem_cons_zero, List.getElem_cons_succ, List.setIfInBounds_toArray, List.set_cons_zero, List.set_cons_succ]
                  refine wpAnyH_ready (rs := [9]) (by kernel_rfl) (by simp) ?_
                  refine AllReadyH.cons rfl (fun K hK => ?_) AllReadyH.nil
                  go_simp
                  go_at_call 23
                  refine (CN _ _ kD).mono ?_
                  rintro e w12 ⟨v12, rfl, k12, -, b12⟩; obtain ⟨u12, rfl, s12⟩ := k12; obtain ⟨A12, c12, rfl, _⟩ := id s12
                  have bT := b12
                  refine hK.out _ _ (by exact bT) (fun hHeld => ?_)
                  clear hK K
                  try simp only [Act.put, List.getElem_toArray, List.getElem_cons_zero, List.getElem_cons_succ, List.setIfInBounds_toArray, List.set_cons_zero, List.set_cons_succ]
                  refine wpAnyH_ready (rs := [10]) (by kernel_rfl) (by simp) ?_
                  refine AllReadyH.cons rfl (fun K hK => ?_) AllReadyH.nil
                  go_simp
                  go_at_call 16
                  refine (zcmp_any _ x _ D2 0 _ (kX.below bT) ⟨_, rfl, s12⟩ HO1.out).mono ?_
                  rintro e w13 ⟨rfl, b13⟩
                  have bT := bT.trans (b13.mono bT.size)
                  refine hK.out _ _ (by exact bT) (fun hHeld => ?_)
                  clear hK K
                  try simp only [Act.put, List.getElem_toArray, List.getElem_cons_zero, List.getElem_cons_succ, List.setIfInBounds_toArray, List.set_cons_zero, List.set_cons_succ]
                  refine wpAnyH_take (i := 11) (v := .bool true) rfl (by kernel_rfl) (by kernel_rfl) (by kernel_rfl) (fun _ _ _ h => h) (Or.inl ⟨by kernel_rfl, fun w hSw => by (go_simp; first | done | with_reducible rfl)⟩) hHeld ?_
                  simp only [Act.put, List.getElem_toArray, List.getElem_cons_zero, List.getElem_cons_succ, List.setIfInBounds_toArray, List.set_cons_zero, List.set_cons_succ]
                  refine wpAnyH_take (i := 12) (v := .bool true) rfl (by kernel_rfl) (by kernel_rfl) (by kernel_rfl) (fun _ _ _ h => h) (Or.inl ⟨by kernel_rfl, fun w hSw => by (go_simp; first | done | with_reducible rfl)⟩) hHeld ?_
                  simp only [Act.put, List.getElem_toArray, List.getElem_cons_zero, List.getElem_cons_succ, List.setIfInBounds_toArray, List.set_cons_zero, List.set_cons_succ]
                  refine wpAnyH_take (i := 13) (v := .bool true) rfl (by kernel_rfl) (by kernel_rfl) (by kernel_rfl) (fun _ _ _ h => h) (Or.inl ⟨by kernel_rfl, fun w hSw => by (go_simp; first | done | with_reducible rfl)⟩) hHeld ?_
                  simp only [Act.put, List.getElem_toArray, List.getElem_cons_zero, List.getElem_cons_succ, List.setIfInBounds_toArray, List.set_cons_zero, List.set_cons_succ]
                  refine wpAnyH_take (i := 14) (v := .agg #[.bool (ngB y), .slice Ay (digs 4294967296 y.natAbs).length cy]) rfl (by kernel_rfl) (by kernel_rfl) (by kernel_rfl) (fun _ _ _ h => h) (Or.inl ⟨by kernel_rfl, fun w hSw => by (have hBw : Below w11.drew.heap.size w11.drew w := hSw; have f0 := (hBw.cell (World.block_lt_of_cell? _ _ y0)).trans y0; have f1 := (hBw.cell (World.block_lt_of_cell? _ _ y1)).trans y1; go_simp; first | done | with_reducible rfl)⟩) hHeld ?_
                  simp only [Act.put, List.getElem_toArray, List.getElem_cons_zero, List.getElem_cons_succ, List.setIfInBounds_toArray, List.set_cons_zero, List.set_cons_succ]
                  refine wpAnyH_take (i := 15) (v := .agg #[.bool (ngB d), .slice Ad (digs 4294967296 d.natAbs).length cd]) rfl (by kernel_rfl) (by kernel_rfl) (by kernel_rfl) (fun _ _ _ h => h) (Or.inl ⟨by kernel_rfl, fun w hSw => by (have hBw : Below w11.drew.heap.size w11.drew w := hSw; have f0 := (hBw.cell (World.block_lt_of_cell? _ _ d0)).trans d0; have f1 := (hBw.cell (World.block_lt_of_cell? _ _ d1)).trans d1; go_simp; first | done | with_reducible rfl)⟩) hHeld ?_
                  simp only [Act.put, List.getElem_toArray, List.getElem_cons_zero, List.getElem_cons_succ, List.setIfInBounds_toArray, List.set_cons_zero, List.set_cons_succ]
                  refine wpAnyH_ready (rs := [16]) (by kernel_rfl) (by simp) ?_
                  refine AllReadyH.cons rfl (fun K hK => ?_) AllReadyH.nil
                  go_simp
                  go_at_call 16
                  refine (zcmp_any _ y _ d 0 _ (kY.below bT) (kD.below bT) HO2.out).mono ?_
                  rintro e w14 ⟨rfl, b14⟩
                  have bT := bT.trans (b14.mono bT.size)
                  refine hK.out _ _ (by exact bT) (fun hHeld => ?_)
                  clear hK K
                  try simp only [Act.put, List.getElem_toArray, List.getElem_cons_zero, List.getElem_cons_succ, List.setIfInBounds_toArray, List.set_cons_zero, List.set_cons_succ]
                  refine wpAnyH_take (i := 17) (v := .bool true) rfl (by kernel_rfl) (by kernel_rfl) (by kernel_rfl) (fun _ _ _ h => h) (Or.inl ⟨by kernel_rfl, fun w hSw => by (go_simp; first | done | with_reducible rfl)⟩) hHeld ?_
                  simp only [Act.put, List.getElem_toArray, List.getElem_cons_zero, List.getElem_cons_succ, List.setIfInBounds_toArray, List.set_cons_zero, List.set_cons_succ]
                  refine wpAnyH_take (i := 18) (v := .bool true) rfl (by kernel_rfl) (by kernel_rfl) (by kernel_rfl) (fun _ _ _ h => h) (Or.inl ⟨by kernel_rfl, fun w hSw => by (go_simp; first | done | with_reducible rfl)⟩) hHeld ?_
                  simp only [Act.put, List.getElem_toArray, List.getElem_cons_zero, List.getElem_cons_succ, List.setIfInBounds_toArray, List.set_cons_zero, List.set_cons_succ]
                  refine wpAnyH_take (i := 19) (v := .bool true) rfl (by kernel_rfl) (by kernel_rfl) (by kernel_rfl) (fun _ _ _ h => h) (Or.inl ⟨by kernel_rfl, fun w hSw => by (go_simp; first | done | with_reducible rfl)⟩) hHeld ?_
                  simp only [Act.put, List.getElem_toArray, List.getElem_cons_zero, List.getElem_cons_succ, List.setIfInBounds_toArray, List.set_cons_zero, List.set_cons_succ]
                  refine wpAnyH_done (by kernel_rfl) ?_ _
                  have bbe := bbd.trans (bT.mono bbd.size)
                  go_wp2
                  go_ret
                  exact ⟨rfl, bbe⟩
                · exact absurd HSC.out hq
              · exact absurd HSB.out hq
  · clear hS
    have bbx := bb2.trans (b3.mono bb2.size)
    have bbe := bbx.trans ((below_alloc (w := w3) (Nat.le_refl _) (.cells #[.bool false, .slice none 0 0] 29)).mono bbx.size)
    clear bbx
    go_wp2
    go_ret
    exact ⟨rfl, bbe⟩
set_option maxRecDepth 100000 in
theorem lifted (os : Os) (started : os.Started) (H : Type) (enc : TypeId × Value → H) :
  ReturnsInHanded {} Try.checked os 6 .any (Rows.bareissRowsSpec.pre6 enc Try.prog Try.f6 Rows.bareissRowsRow.domain false) (Rows.bareissRowsSpec.post enc Try.prog Try.f6 false true false false) := by
 refine returnsInHanded_of_change (C := Try.checked) own started (by kernel_rfl) Try.func6
  (ChangeSpec.witness6 (enc := enc) (C := Try.checked) false ⟨#[], #[.slice none 0 0, .int .i64 0, .int .i64 0], []⟩ 8 (by kernel_rfl) (by kernel_rfl) (by kernel_rfl) (by kernel_rfl)) ?_
 intro W base args ds gs before hval0 hW hcnd _
 have hval : ∀ (j : Nat) t v, Try.f6.params[j]? = some t → args[j]? = some v → Value.okWide Try.prog W .any base t v := hval0
 have hW' := hW
 obtain ⟨p, q, hA0, hV, rfl, hfz, hnd⟩ := hW
 have hA : DataW.TrodAll enc Try.prog W 0 (fun _ => true) true Try.f6.params.toList args.toList ds p := hA0
 rw [Try.params6] at hA hval
 obtain ⟨v0, vs0, d0, ds0, p0, q0, hargs, rfl, rfl, t0, r0⟩ := trodAll_cons hA
 obtain ⟨v1, vs1, d1, ds1, p1, q1, rfl, rfl, rfl, t1, r1⟩ := trodAll_cons r0
 obtain ⟨v2, vs2, d2, ds2, p2, q2, rfl, rfl, rfl, t2, r2⟩ := trodAll_cons r1
 obtain ⟨rfl, rfl, rfl⟩ := trodAll_nil r2
 obtain rfl : args = #[v0, v1, v2] := by cases args; simp_all
 obtain ⟨rfl, rfl⟩ := trodVars_none hV
 have hs0 := arg_w Try.underlying22 (by kernel_rfl) Try.underlying51 Try.underlying29 (by kernel_rfl) (by kernel_rfl) Try.underlying4 Try.underlying27 Try.underlying64 cells_u (hval 0 22 v0 rfl rfl) t0
 obtain ⟨a1, rfl, hd1, hp1, wf1⟩ := open_int Try.underlying3 (hval 1 3 v1 rfl rfl) t1
 obtain ⟨a2, rfl, hd2, hp2, wf2⟩ := open_int Try.underlying3 (hval 2 3 v2 rfl rfl) t2
 clear hA0 hval0
 simp only [List.append_nil] at hW'
 have hlt0 : ∀ x ∈ p0, x.block < W.heap.size := fun x hx => hW'.lt x (List.mem_append_left _ hx)
 have hlt1 : ∀ x ∈ p1, x.block < W.heap.size := fun x hx => hW'.lt x (List.mem_append_right _ (List.mem_append_left _ hx))
 have hlt2 : ∀ x ∈ p2, x.block < W.heap.size := fun x hx => hW'.lt x (List.mem_append_right _ (List.mem_append_right _ (hx)))
 refine (walk v0 a1 a2 W hs0 wf1 wf2).mono fun e W' ⟨he, hb⟩ => ?_
 subst he
 have s0 := Below.trod laidOut (by kernel_rfl) (of_decide_eq_true (by kernel_rfl)) t0 hb hlt0
 have s1 := Below.trod laidOut (by kernel_rfl) (of_decide_eq_true (by kernel_rfl)) t1 hb hlt1
 have s2 := Below.trod laidOut (by kernel_rfl) (of_decide_eq_true (by kernel_rfl)) t2 hb hlt2
 exact ⟨_, rfl, _, _, _, [] ++ [], _, [], hW', trodAll_cons_mk (shut_bool Try.underlying4 _) trodAll_mk0, trodAll_cons_mk s0 (trodAll_cons_mk s1 (trodAll_cons_mk s2 (trodAll_mk0))), rfl, hb.frame _, fun h => by cases h⟩
theorem over : Rows.bareissRowsRow.holds Try.pinned (OpenSpec.ofChange Rows.bareissRowsSpec) :=
 OpenClaim.holds_of_wide 6 Try.f6 rfl rfl rfl rfl rfl rfl rfl ⟨rfl, rfl, rfl, rfl, rfl⟩ rfl rfl rfl rfl rfl (by kernel_rfl) Try.func6 (by kernel_rfl)
  (of_decide_eq_true (by kernel_rfl)) (by unfold Func.isWrapper; first | (rw [if_pos (by decide +kernel)]; kernel_rfl) | (rw [if_neg (by decide +kernel)]; exact ⟨rfl, rfl⟩))
  (fun os started H enc _ => lifted os started H enc)
/-- The statement. -/
theorem proved : Rows.BareissRowsSaid := over
end Go.Proofs.Yteijlcfhenlanaa.bareissRows
