/- SolveWhy: why equations have no one solution. Condition: the arguments can be read as data. -/
import Derived.Test.YtagaabooccnamaaGreatKC8
import Derived.Deep.CutRange
import Derived.OpenShut
import Derived.LaidMore
import Derived.Lay
import Derived.Stop.Joined
set_option linter.unusedVariables false
set_option linter.unusedSimpArgs false
set_option maxRecDepth 100000
set_option maxHeartbeats 6400000
open And renaming intro -> zA
namespace Go.Proofs.YtagaabooccnamaaGreat.solveWhy
open Go.ChangeShapes Go.WideShapes Go.ChangeAt Go.RowKit num mem nat txt str flow whl rat
theorem own : ownKnob Tryz.prog.godebug = none := by kernel_rfl
theorem laidOut : laidOutB Tryz.prog = true := by kernel_rfl
theorem cells_u : Tryz.prog.cellsOf 98 = 1 := by kernel_rfl
/-- The walk: the Go text returns true; what was there is as it was. -/
theorem walk (v0 : Value) (v1 : Value) (w : World) (h0 : zT0 w v0) (h1 : zT0 w v1) :
  Calls Tryz.prog 4 #[v0, v1] w (zD3 (.bool true) w) := by
 go_enter Tryz.func4, Tryz.ntmps4
 go_wp2_with fail
 refine (yJ1 _ 4 _ h0 (by omega)).mono ?_
 rintro e w1 ⟨V0, U0, A, rfl, sa, ua, ha4, hra, hla, b1⟩
 obtain ⟨AV, cV, rfl, -, -⟩ := id sa.shape
 obtain ⟨AU, cU, rfl, -, -⟩ := id ua.shape
 have h1' := h1.bQ b1
 go_wp2_with fail
 refine (yJ1 _ 4 _ h1' (by omega)).mono ?_
 rintro e w2 ⟨V1, U1, B, rfl, sb, ub, hb4, hrb, hlb, b2⟩
 obtain ⟨BV, dV, rfl, -, -⟩ := id sb.shape
 obtain ⟨BU, dU, rfl, -, -⟩ := id ub.shape
 have HFA : Hid (Few4 A) := ⟨ha4, hra, hla⟩
 have HFB : Hid (Few4 B) := ⟨hb4, hrb, hlb⟩
 have HSA := Lib.hid (sa.bQ b2)
 have HSB := Lib.hid sb
 have HUA := Lib.hid (ua.bQ b2)
 have HUB := Lib.hid ub
 have HB2 : Hid (Below w.heap.size w w2) := b1.trans (b2.mono b1.size)
 have CS := why_any _ _ A B w2 HSA.out HSB.out HFA HFB
 clear sa ua sb ub hra hla hrb hlb h1' b1 b2
 by_cases ok : zR1 A B
 ·have OK := Lib.hid ok
  have hz2 : (((B.length : Nat) : Int) == ((A.length : Nat) : Int)) = true := by rw [beq_iff_eq, ok.2.2]
  have CCA := fun w b => zW8 (.slice AV A.length cV) A 0 w (HSA.out.bQ b) (by rw [if_pos OK.out.1])
  have CCB := fun w b => zW8 (.slice BV B.length dV) B 0 w (HSB.out.bQ b) (by rw [if_pos OK.out.2.1])
  have CR := fun w b => jP8 (.slice AU A.length cU) (.slice BU B.length dU) A B 9 w (HUA.out.bQ b) (HUB.out.bQ b) (few_why HFA.out HFB.out OK.out)
  clear ok
  go_wp2_with fail
  refine CS.mono ?_
  rintro e w3 ⟨b3, (⟨-, v3, T, ps, b, rfl, pv3, sT, hE, hR, hK, hb⟩ | ⟨hn, -⟩)⟩
  ·have HT := Lib.hid (zA sT (zA hE (zA hR (zA hK hb))))
   obtain ⟨A3, c3, rfl, -⟩ := id pv3
   obtain ⟨fs, hfs⟩ : ∃ fs, fs = zH2 (zC A) ps := ⟨_, rfl⟩
   rw [<- hfs] at pv3
   rw [<- hfs]
   have HFS := Lib.hid hfs
   have HFL : Hid (fs.length <= 1000) := by
    have h1 := qX3 (zC A) ps
    have h2 := HFA.out.wide
    show _ <= _
    rw [hfs]
    omega
   obtain ⟨wS, hS, bS, BS, hSs⟩ := zK4 w3 38 #[.int .i64 ((ps.length : Nat) : Int), .slice A3 fs.length c3, .bool b]
   have B3 := b3.trans (bS.mono b3.size)
   have HPS := Lib.hid (pv3.bQ bS)
   clear sT hE hR hK hb pv3 b3 bS CS hfs
   go_wp2_with fail
   refine (CCA _ B3).mono ?_
   rintro e w4 ⟨rfl, b4⟩
   have B4 := B3.trans (b4.mono B3.size)
   have BS4 := BS.bQ b4
   have HP4 := Lib.hid (HPS.out.bQ b4)
   clear CCA B3 BS b4 HPS hS hSs
   go_wp2_with fail
   refine (CCB _ B4).mono ?_
   rintro e w5 ⟨rfl, b5⟩
   have B5 := B4.trans (b5.mono B4.size)
   have BS5 := BS4.bQ b5
   have HP5 := Lib.hid (HP4.out.bQ b5)
   clear CCB B4 BS4 b5 HP4
   go_wp2_with fail
   refine (CR _ B5).mono ?_
   rintro e w6 ⟨v6, U, qs, d, rfl, pv6, sU, hE', hR', hK', hd, b6⟩
   obtain ⟨e1, e2⟩ := jC8 HT.out.1 HT.out.2.1 HT.out.2.2.1 HT.out.2.2.2.1 sU hE' hR' hK'
   subst e1
   subst e2
   obtain rfl : b = d := by
    have h1 := HT.out.2.2.2.2
    have h2 := h1.trans hd.symm
    cases b <;> cases d <;> simp_all
   rw [<- HFS.out] at pv6
   obtain ⟨A6, c6, rfl, -⟩ := id pv6
   have B6 := B5.trans (b6.mono B5.size)
   have BS6 := BS5.bQ b6
   have HP6 := Lib.hid (HP5.out.bQ b6)
   have HQ6 := Lib.hid pv6
   clear CR B5 BS5 b6 HP5 sU hE' hR' hK' hd pv6 HT HFS
   have V0 := BS6.cell 0
   have V1 := BS6.cell 1
   have V2 := BS6.cell 2
   go_wp2_with fail
   refine (jJ1 _ _ fs _ HP6.out HQ6.out HFL.out).mono ?_
   rintro e w7 ⟨rfl, b7⟩
   have B7 := B6.trans (b7.mono B6.size)
   have BS7 := BS6.bQ b7
   clear V0 V1 V2 B6 BS6 b7
   have V0 := BS7.cell 0
   have V1 := BS7.cell 1
   have V2 := BS7.cell 2
   have hbb : (b == b) = true := by cases b <;> rfl
   go_wp2_with fail
   refine (qQ0 _).mono ?_
   rintro e w8 ⟨rfl, b8⟩
   have B8 := HB2.out.trans ((B7.trans (b8.mono B7.size)).mono HB2.out.size)
   go_wp2
   go_ret
   exact ⟨rfl, B8⟩
  ·exact absurd OK.out hn
 ·have NO := Lib.hid ok
  have CCA := fun n w b => zW8 (.slice AV A.length cV) A n w (HSA.out.bQ b)
  have CCB := fun n w b => zW8 (.slice BV B.length dV) B n w (HSB.out.bQ b)
  go_wp2_with fail
  refine CS.mono ?_
  rintro e w3 ⟨b3, (⟨hy, -⟩ | ⟨-, rfl⟩)⟩
  ·exact absurd hy ok
  ·clear ok CS
   obtain ⟨wS, hS, bS, BS, hSs⟩ := zK4 w3 38 #[.int .i64 0, .slice none 0 0, .bool false]
   have V0 := BS.cell 0
   have V1 := BS.cell 1
   have V2 := BS.cell 2
   have F0 := BS.frozen 0
   have F1 := BS.frozen 1
   have F2 := BS.frozen 2
   have G9 := qC wS w3.heap.size (.int .i64 0) (.slice none 0 0) (.bool false)
   have BY := zZ1 BS (.int .i64 0) (.slice none 0 0) (.bool false)
   have BS3 := b3.trans (bS.mono b3.size)
   have B3 := BS3.grown G9 BS3.size (fun k e => by injection e with e; have := b3.size; omega)
   obtain ⟨wT, hT⟩ : ∃ x, ((wS.setCell ⟨w3.heap.size, 0, none⟩ (.int .i64 0)).setCell ⟨w3.heap.size, 1, none⟩ (.slice none 0 0)).setCell ⟨w3.heap.size, 2, none⟩ (.bool false) = x := ⟨_, rfl⟩
   rw [hT] at B3 BY
   clear b3 bS G9 BS3 BS
   by_cases ma : zF5 A
   ·have CCA' := fun w b => CCA 0 w b (by rw [if_pos ma])
    have MA := Lib.hid ma
    clear ma CCA
    go_wp2_with fail
    refine (CCA' _ B3).mono ?_
    rintro e w4 ⟨rfl, b4⟩
    have B4 := B3.trans (b4.mono B3.size)
    have BS4 := BY.bQ b4
    clear CCA' B3 BY b4 hS hSs hT V0 V1 V2 F0 F1 F2
    by_cases mb : zF5 B
    ·have CCB' := fun w b => CCB 0 w b (by rw [if_pos mb])
     have MB := Lib.hid mb
     clear mb CCB
     go_wp2_with fail
     refine (CCB' _ B4).mono ?_
     rintro e w5 ⟨rfl, b5⟩
     have B5 := B4.trans (b5.mono B4.size)
     have BS5 := BS4.bQ b5
     clear CCB' B4 BS4 b5
     have hne : ¬ B.length = A.length := fun e => NO.out ⟨MA.out, MB.out, e.symm⟩
     have hz2 : (((B.length : Nat) : Int) == ((A.length : Nat) : Int)) = false := by rw [beq_eq_false_iff_ne]; omega
     have hz3 : ¬ ((B.length : Nat) : Int) = ((A.length : Nat) : Int) := by omega
     have V0 := BS5.cell 0
     have V1 := BS5.cell 1
     have V2 := BS5.cell 2
     go_wp2_with fail
     refine (qQ0 _).mono ?_
     rintro e w8 ⟨rfl, b8⟩
     have B8 := HB2.out.trans ((B5.trans (b8.mono B5.size)).mono HB2.out.size)
     go_wp2
     go_ret
     exact ⟨rfl, B8⟩
    ·have CCB' := fun w b => CCB 8 w b (by rw [if_neg mb])
     clear mb CCB
     go_wp2_with fail
     refine (CCB' _ B4).mono ?_
     rintro e w5 ⟨rfl, b5⟩
     have B5 := B4.trans (b5.mono B4.size)
     have BS5 := BS4.bQ b5
     clear CCB' B4 BS4 b5
     have V0 := BS5.cell 0
     have V1 := BS5.cell 1
     have V2 := BS5.cell 2
     go_wp2_with fail
     refine (qQ0 _).mono ?_
     rintro e w8 ⟨rfl, b8⟩
     have B8 := HB2.out.trans ((B5.trans (b8.mono B5.size)).mono HB2.out.size)
     go_wp2
     go_ret
     exact ⟨rfl, B8⟩
   ·have CCA' := fun w b => CCA 8 w b (by rw [if_neg ma])
    clear ma CCA
    go_wp2_with fail
    refine (CCA' _ B3).mono ?_
    rintro e w5 ⟨rfl, b5⟩
    have B5 := B3.trans (b5.mono B3.size)
    have BS5 := BY.bQ b5
    clear CCA' B3 BY b5 hS hSs hT V0 V1 V2 F0 F1 F2
    have V0 := BS5.cell 0
    have V1 := BS5.cell 1
    have V2 := BS5.cell 2
    go_wp2_with fail
    refine (qQ0 _).mono ?_
    rintro e w8 ⟨rfl, b8⟩
    have B8 := HB2.out.trans ((B5.trans (b8.mono B5.size)).mono HB2.out.size)
    go_wp2
    go_ret
    exact ⟨rfl, B8⟩
theorem lifted (os : Os) (started : os.Started) (H : Type) (enc : TypeId × Value -> H) :
  ReturnsInHanded {} Tryz.checked os 4 .any (Rows.solveWhySpec.pre6 enc Tryz.prog Tryz.f4 Rows.solveWhyRow.domain false) (Rows.solveWhySpec.post enc Tryz.prog Tryz.f4 false true false false) := by
 refine returnsInHanded_of_change (C := Tryz.checked) own started (by kernel_rfl) Tryz.func4
  (ChangeSpec.witness6 (enc := enc) (C := Tryz.checked) false ⟨#[], #[.slice none 0 0, .slice none 0 0], []⟩ 8 (by kernel_rfl) (by kernel_rfl) (by kernel_rfl) (by kernel_rfl)) ?_
 intro W base args ds gs before hval0 hW hcnd _
 have hval : ∀ (j : Nat) t v, Tryz.f4.params[j]? = some t -> args[j]? = some v -> Value.okWide Tryz.prog W .any base t v := hval0
 have hW' := hW
 obtain ⟨p, q, hA0, hV, rfl, hfz, hnd⟩ := hW
 have hA : DataW.TrodAll enc Tryz.prog W 0 (fun _ => true) true Tryz.f4.params.toList args.toList ds p := hA0
 rw [Tryz.params4] at hA hval
 obtain ⟨v0, vs0, d0, ds0, p0, q0, hargs, rfl, rfl, t0, r0⟩ := trodAll_cons hA
 obtain ⟨v1, vs1, d1, ds1, p1, q1, rfl, rfl, rfl, t1, r1⟩ := trodAll_cons r0
 obtain ⟨rfl, rfl, rfl⟩ := trodAll_nil r1
 obtain rfl : args = #[v0, v1] := by cases args; simp_all
 obtain ⟨rfl, rfl⟩ := trodVars_none hV
 have hs0 := arg_t Tryz.underlying22 (by kernel_rfl) Tryz.underlying44 Tryz.underlying83 (by kernel_rfl) (by kernel_rfl) Tryz.underlying60 (by kernel_rfl) Tryz.underlying4 Tryz.underlying50 Tryz.underlying50 Tryz.underlying98 cells_u (hval 0 22 v0 rfl rfl) t0
 have hs1 := arg_t Tryz.underlying22 (by kernel_rfl) Tryz.underlying44 Tryz.underlying83 (by kernel_rfl) (by kernel_rfl) Tryz.underlying60 (by kernel_rfl) Tryz.underlying4 Tryz.underlying50 Tryz.underlying50 Tryz.underlying98 cells_u (hval 1 22 v1 rfl rfl) t1
 clear hA0 hval0
 simp only [List.append_nil] at hW'
 have hlt0 : ∀ x ∈ p0, x.block < W.heap.size := fun x hx => hW'.lt x (List.mem_append_left _ hx)
 have hlt1 : ∀ x ∈ p1, x.block < W.heap.size := fun x hx => hW'.lt x (List.mem_append_right _ (hx))
 refine (walk v0 v1 W hs0 hs1).mono fun e W' ⟨he, hb⟩ => ?_
 subst he
 have s0 := Below.trod laidOut (by kernel_rfl) (of_decide_eq_true (by kernel_rfl)) t0 hb hlt0
 have s1 := Below.trod laidOut (by kernel_rfl) (of_decide_eq_true (by kernel_rfl)) t1 hb hlt1
 exact ⟨_, rfl, _, _, _, [] ++ [], _, [], hW', trodAll_cons_mk (shut_bool Tryz.underlying4 _) trodAll_mk0, trodAll_cons_mk s0 (trodAll_cons_mk s1 (trodAll_mk0)), rfl, hb.frame _, fun h => by cases h⟩
theorem over : Rows.solveWhyRow.holds Tryz.pinned (OpenSpec.ofChange Rows.solveWhySpec) :=
 OpenClaim.holds_of_wide 4 Tryz.f4 rfl rfl rfl rfl rfl rfl rfl ⟨rfl, rfl, rfl, rfl, rfl⟩ rfl rfl rfl rfl rfl (by kernel_rfl) Tryz.func4 (by kernel_rfl)
  (of_decide_eq_true (by kernel_rfl)) (by unfold Func.isWrapper; first | (rw [if_pos (by decide +kernel)]; kernel_rfl) | (rw [if_neg (by decide +kernel)]; exact ⟨rfl, rfl⟩))
  (fun os started H enc _ => lifted os started H enc)
/-- The statement. -/
theorem proved : Rows.SolveWhySaid := over
end Go.Proofs.YtagaabooccnamaaGreat.solveWhy
