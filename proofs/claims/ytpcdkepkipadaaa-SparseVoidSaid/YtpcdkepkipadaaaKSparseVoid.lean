/- SparseVoid: a sparse table that is none has and does nothing. Condition: the arguments can be read as data. -/
import Derived.Test.YtpcdkepkipadaaaK3
import Derived.OpenShut
import Derived.LaidMore
import Derived.Lay
import Derived.Stop.Joined
namespace Go.Proofs.Ytpcdkepkipadaaa.sparseVoid
open Go.ChangeShapes Go.WideShapes Go.ChangeAt Go.RowKit Go.Proofs.Ytpcdkepkipadaaa.num Go.Proofs.Ytpcdkepkipadaaa.mem Go.Proofs.Ytpcdkepkipadaaa.nat Go.Proofs.Ytpcdkepkipadaaa.txt Go.Proofs.Ytpcdkepkipadaaa.str Go.Proofs.Ytpcdkepkipadaaa.flow Go.Proofs.Ytpcdkepkipadaaa.whl Go.Proofs.Ytpcdkepkipadaaa.rat
set_option linter.unusedVariables false
theorem own : ownKnob Try.prog.godebug = none := by kernel_rfl
theorem laidOut : laidOutB Try.prog = true := by kernel_rfl
theorem cells_u : Try.prog.cellsOf 58 = 1 := by kernel_rfl
set_option maxHeartbeats 6400000 in
set_option maxRecDepth 100000 in
/-- The walk: the Go text returns true; what was there is as it was. -/
theorem walk (a0 : Int) (a1 : Int) (w : World) (wf0 : (Lit.int .i64 a0).wf = true) (wf1 : (Lit.int .i64 a1).wf = true) :
    Calls Try.prog 3 #[.int .i64 a0, .int .i64 a1] w (RetV (.bool true) w) := by
  have i0 := i64_wf wf0
  have i1 := i64_wf wf1
  obtain ⟨O, hO⟩ : ∃ O : Rat, O = ((1 : Int) : Rat) := ⟨_, rfl⟩
  have C1 : ∀ w, Calls Try.prog 8 #[.int .i64 1] w (RetQ O w) := fun w => by rw [hO]; exact of8_any 1 w (by omega) (by omega)
  have hOl : lenQ O 1000 := by rw [hO]; exact lenQ.mono (m := 1) ⟨digs_len_le (k := 1) (by omega) (by decide +kernel), digs_len_le (k := 1) (by omega) (by decide +kernel)⟩ (by omega)
  obtain ⟨Z, hZ⟩ : ∃ Z : Rat, Z = 0 := ⟨_, rfl⟩
  have C0 : ∀ w, Calls Try.prog 8 #[.int .i64 0] w (RetQ Z w) := fun w => by rw [hZ]; exact RatS_of0 w
  have GN : ∀ w, Calls Try.prog 14 #[.pointer none, .int .i64 a0, .int .i64 a1] w (RetQ Z w) := fun w => by rw [hZ]; exact sget_nil _ _ w i0 i1
  clear hO hZ
  go_enter Try.func3, Try.ntmps3
  go_wp2_with fail
  refine (works13_any _).mono ?_
  rintro e w1 ⟨rfl, b1⟩
  go_wp2_with fail
  refine (ssize_nil _).mono ?_
  rintro e w2 ⟨rfl, b2⟩
  have bb := b1.trans (b2.mono b1.size)
  go_wp2_with fail
  refine (sapply_nil _ _ _ _).mono ?_
  rintro e w3 ⟨rfl, b3⟩
  have bb := bb.trans (b3.mono bb.size)
  go_wp2_with fail
  refine (C1 _).mono ?_
  rintro e w4 ⟨v4, rfl, k4, f4, b4⟩
  have bb := bb.trans (b4.mono bb.size)
  have kk4 := k4
  obtain ⟨u4, t4, rfl, s4, d4⟩ := k4
  obtain ⟨A4, c4, rfl, _⟩ := id s4
  obtain ⟨D4, e4, rfl, _⟩ := id d4
  go_wp2_with fail
  refine (sput_nil _ _ _ O _ kk4).mono ?_
  rintro e w5 ⟨rfl, b5⟩
  have bb := bb.trans (b5.mono bb.size)
  clear kk4 s4 d4
  go_wp2_with fail
  refine (C1 _).mono ?_
  rintro e w6 ⟨v6, rfl, k6, f6, b6⟩
  have bb := bb.trans (b6.mono bb.size)
  have kk6 := k6
  obtain ⟨u6, t6, rfl, s6, d6⟩ := k6
  obtain ⟨A6, c6, rfl, _⟩ := id s6
  obtain ⟨D6, e6, rfl, _⟩ := id d6
  go_wp2_with fail
  refine (smore_nil _ _ _ O _ i0 i1 kk6 hOl).mono ?_
  rintro e w7 ⟨rfl, b7⟩
  have bb := bb.trans (b7.mono bb.size)
  clear kk6 s6 d6
  go_wp2_with fail
  refine (scount_nil _).mono ?_
  rintro e w8 ⟨rfl, b8⟩
  have bb := bb.trans (b8.mono bb.size)
  go_wp2_with fail
  refine (srow_nil _ _).mono ?_
  rintro e w9 ⟨rfl, b9⟩
  have bb := bb.trans (b9.mono bb.size)
  go_wp2_with fail
  refine (sfull_nil _).mono ?_
  rintro e w10 ⟨A10, c10, rfl, b10⟩
  have bb := bb.trans (b10.mono bb.size)
  go_wp2_with fail
  refine (GN _).mono ?_
  rintro e w11 ⟨v11, rfl, k11, f11, b11⟩
  have bb := bb.trans (b11.mono bb.size)
  have kk11 := k11
  obtain ⟨u11, t11, rfl, s11, d11⟩ := k11
  obtain ⟨A11, c11, rfl, _⟩ := id s11
  obtain ⟨D11, e11, rfl, _⟩ := id d11
  go_wp2_with fail
  refine (C0 _).mono ?_
  rintro e w12 ⟨v12, rfl, k12, f12, b12⟩
  have bb := bb.trans (b12.mono bb.size)
  have kk11 := kk11.below b12
  have kk12 := k12
  obtain ⟨u12, t12, rfl, s12, d12⟩ := k12
  obtain ⟨A12, c12, rfl, _⟩ := id s12
  obtain ⟨D12, e12, rfl, _⟩ := id d12
  go_wp2_with fail
  refine (same8_any _ _ Z Z true _ kk11 kk12 (decide_eq_true rfl).symm).mono ?_
  rintro e w13 ⟨rfl, b13⟩
  have bb := bb.trans (b13.mono bb.size)
  go_wp2
  go_ret
  exact ⟨rfl, bb⟩
set_option maxRecDepth 100000 in
theorem lifted (os : Os) (started : os.Started) (H : Type) (enc : TypeId × Value → H) :
    ReturnsInHanded {} Try.checked os 3 .any (Rows.sparseVoidSpec.pre6 enc Try.prog Try.f3 Rows.sparseVoidRow.domain false) (Rows.sparseVoidSpec.post enc Try.prog Try.f3 false true false false) := by
  refine returnsInHanded_of_change (C := Try.checked) own started (by kernel_rfl) Try.func3
    (ChangeSpec.witness6 (enc := enc) (C := Try.checked) false ⟨#[], #[.int .i64 0, .int .i64 0], []⟩ 8 (by kernel_rfl) (by kernel_rfl) (by kernel_rfl) (by kernel_rfl)) ?_
  intro W base args ds gs before hval0 hW hcnd _
  have hval : ∀ (j : Nat) t v, Try.f3.params[j]? = some t → args[j]? = some v → Value.okWide Try.prog W .any base t v := hval0
  have hW' := hW
  obtain ⟨p, q, hA0, hV, rfl, hfz, hnd⟩ := hW
  have hA : DataW.TrodAll enc Try.prog W 0 (fun _ => true) true Try.f3.params.toList args.toList ds p := hA0
  rw [Try.params3] at hA hval
  obtain ⟨v0, vs0, d0, ds0, p0, q0, hargs, rfl, rfl, t0, r0⟩ := trodAll_cons hA
  obtain ⟨v1, vs1, d1, ds1, p1, q1, rfl, rfl, rfl, t1, r1⟩ := trodAll_cons r0
  obtain ⟨rfl, rfl, rfl⟩ := trodAll_nil r1
  obtain rfl : args = #[v0, v1] := by cases args; simp_all
  obtain ⟨rfl, rfl⟩ := trodVars_none hV
  obtain ⟨a0, rfl, hd0, hp0, wf0⟩ := open_int Try.underlying3 (hval 0 3 v0 rfl rfl) t0
  obtain ⟨a1, rfl, hd1, hp1, wf1⟩ := open_int Try.underlying3 (hval 1 3 v1 rfl rfl) t1
  clear hA0 hval0
  simp only [List.append_nil] at hW'
  have hlt0 : ∀ x ∈ p0, x.block < W.heap.size := fun x hx => hW'.lt x (List.mem_append_left _ hx)
  have hlt1 : ∀ x ∈ p1, x.block < W.heap.size := fun x hx => hW'.lt x (List.mem_append_right _ (hx))
  refine (walk a0 a1 W wf0 wf1).mono fun e W' ⟨he, hb⟩ => ?_
  subst he
  have s0 := Below.trod laidOut (by kernel_rfl) (of_decide_eq_true (by kernel_rfl)) t0 hb hlt0
  have s1 := Below.trod laidOut (by kernel_rfl) (of_decide_eq_true (by kernel_rfl)) t1 hb hlt1
  exact ⟨_, rfl, _, _, _, [] ++ [], _, [], hW', trodAll_cons_mk (shut_bool Try.underlying4 _) trodAll_mk0, trodAll_cons_mk s0 (trodAll_cons_mk s1 (trodAll_mk0)), rfl, hb.frame _, fun h => by cases h⟩
theorem over : Rows.sparseVoidRow.holds Try.pinned (OpenSpec.ofChange Rows.sparseVoidSpec) :=
  OpenClaim.holds_of_wide 3 Try.f3 rfl rfl rfl rfl rfl rfl rfl ⟨rfl, rfl, rfl, rfl, rfl⟩ rfl rfl rfl rfl rfl (by kernel_rfl) Try.func3 (by kernel_rfl)
    (of_decide_eq_true (by kernel_rfl)) (by unfold Func.isWrapper; first | (rw [if_pos (by decide +kernel)]; kernel_rfl) | (rw [if_neg (by decide +kernel)]; exact ⟨rfl, rfl⟩))
    (fun os started H enc _ => lifted os started H enc)
/-- The statement. -/
theorem proved : Rows.SparseVoidSaid := over
end Go.Proofs.Ytpcdkepkipadaaa.sparseVoid
