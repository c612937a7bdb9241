/- AddrBack: what was printed is read. Condition: the arguments can be read as data. -/
import Derived.Test.YtbfflcpmagjlnaaDoorAdrT
import Derived.Deep.Cut
import Derived.Deep.RegionHeld
import Derived.Deep.RegionLaw
import Derived.Test.YtbfflcpmagjlnaaDoorCards
import Derived.Test.YtbfflcpmagjlnaaDoorTie
import Derived.OpenShut
import Derived.LaidMore
import Derived.MakeChecks
import Derived.Lay
import Derived.SevenTiedAt
import Derived.Stop.Joined
namespace Go.Proofs.YtbfflcpmagjlnaaDoor.addrBack
open Go.ChangeShapes Go.WideShapes Go.ChangeAt Go.RowKit Go.Proofs.YtbfflcpmagjlnaaDoor.num Go.Proofs.YtbfflcpmagjlnaaDoor.mem Go.Proofs.YtbfflcpmagjlnaaDoor.txt Go.Proofs.YtbfflcpmagjlnaaDoor.str Go.Proofs.YtbfflcpmagjlnaaDoor.adr
set_option linter.unusedVariables false
set_option linter.unusedSimpArgs false

theorem own : ownKnob Tryd.prog.godebug = none := by kernel_rfl
theorem laidOut : laidOutB Tryd.prog = true := by kernel_rfl


set_option maxHeartbeats 6400000 in
set_option maxRecDepth 100000 in
/-- The walk: the Go text returns true; what was there is as it was. -/
theorem walk (a0 : Int) (A1 L1 : Int) (w : World) (ht : Tab w) (wf0 : (Lit.int .u32 a0).wf = true) (wA1 : (Lit.int .u32 A1).wf = true) (wL1 : (Lit.int .i64 L1).wf = true) :
    Calls Tryd.prog 5 #[.int .u32 a0, .agg #[.int .u32 A1, .int .i64 L1]] w (RetV (.bool true) w) := by
  obtain ⟨a, rfl, ha⟩ := u32_of wf0
  obtain ⟨A, rfl, hA⟩ := u32_of wA1
  obtain ⟨l0, l1⟩ := i64_of wL1
  have HT := Lib.hid ht
  clear ht wf0 wA1 wL1
  have CB := fun R w hR => parse_any R (txtA a) a 0 w hR (by have := txtA_len a; omega) (adr_back ha)
  have CP := fun w ht => print_any18 a w ha ht
  have CT := fun w ht => text_any18 A L1 w hA l0 l1 ht
  go_enter Tryd.func5, Tryd.ntmps5
  go_upto_region 1 with (fail)
  obtain ⟨w1, hw1, x0, x1, b1, lt1⟩ := pairbox w 24 (.int .u32 (A : Int)) (.int .i64 L1)
  rw [hw1]
  clear hw1
  go_wp2_with fail
  refine (works18_any _ (HT.out.below b1)).mono ?_
  rintro e w2 ⟨rfl, b2⟩
  have y0 := (b2.cell lt1).trans x0
  have y1 := (b2.cell lt1).trans x1
  have lt2 := Nat.lt_of_lt_of_le lt1 b2.size
  have bb2 := b1.trans (b2.mono b1.size)
  clear x0 x1
  go_wp2_with fail
  refine (CP _ (HT.out.below bb2)).mono ?_
  rintro e w3 ⟨R3, rfl, t3, b3⟩
  have bb3 := bb2.trans (b3.mono bb2.size)
  go_wp2_with fail
  refine (CB R3 _ t3).mono ?_
  rintro e w4 ⟨rfl, b4⟩
  have bb34 := b3.trans (b4.mono b3.size)
  have z0 := (bb34.cell lt2).trans y0
  have z1 := (bb34.cell lt2).trans y1
  have lt4 := Nat.lt_of_lt_of_le lt2 bb34.size
  have bb4 := bb2.trans (bb34.mono bb2.size)
  clear y0 y1
  go_wp2_with fail
  refine (CT _ (HT.out.below bb4)).mono ?_
  rintro e w5 ⟨R5, rfl, t5, b5⟩
  have bb5 := bb4.trans (b5.mono bb4.size)
  by_cases hm : mayP A L1
  · have hl5 : (txtP A L1).length ≤ 1000000 := by
      have := txtA_len A
      have h2 := dec_len (n := L1.toNat) (by have := hm.2.1; omega)
      unfold txtP
      rw [if_pos hm, List.length_append, List.length_append, List.length_singleton]
      omega
    have CQ := fun w => prefix_any18 R5 (txtP A L1) A L1.toNat 0 w t5 hl5 (pfx_back hA hm)
    have CY := fun w => may_any18 A L1 true w hA l0 l1 ⟨fun _ => hm, fun _ => rfl⟩
    have hLn : ((L1.toNat : Nat) : Int) = L1 := by have := hm.1; omega
    unfold RetPX at CQ
    rw [hLn] at CQ
    clear hm hl5 hLn
    go_wp2_with fail
    refine (CQ _).mono ?_
    rintro e w6 ⟨rfl, b6⟩
    have b56 := b5.trans (b6.mono b5.size)
    have y0 := (b56.cell lt4).trans z0
    have y1 := (b56.cell lt4).trans z1
    have lt6 := Nat.lt_of_lt_of_le lt4 b56.size
    have bb6 := bb4.trans (b56.mono bb4.size)
    clear z0 z1
    go_upto_region 7 with (fail)
    obtain ⟨w7, hw7, r0, r1, b7, lt7⟩ := pairbox w6 24 (.int .u32 (A : Int)) (.int .i64 L1)
    rw [hw7]
    clear hw7
    have z0 := (b7.cell lt6).trans y0
    have z1 := (b7.cell lt6).trans y1
    have lt67 := Nat.lt_of_lt_of_le lt6 b7.size
    have bb7 := bb6.trans (b7.mono bb6.size)
    clear y0 y1
    go_wp2_with fail
    refine (CY _).mono ?_
    rintro e w8 ⟨rfl, b8⟩
    have y0 := (b8.cell lt67).trans z0
    have y1 := (b8.cell lt67).trans z1
    have s0 := (b8.cell lt7).trans r0
    have s1 := (b8.cell lt7).trans r1
    have bb8 := bb7.trans (b8.mono bb7.size)
    clear z0 z1 r0 r1
    go_wp2
    go_ret
    exact ⟨rfl, bb8⟩
  · have CQ := fun w => prefix_any18 R5 (txtP A L1) 0 0 5 w t5 (by unfold txtP; rw [if_neg hm]; decide) (pfx_none hm)
    have CY := fun w => may_any18 A L1 false w hA l0 l1 ⟨fun h => Bool.noConfusion h, fun h => absurd h hm⟩
    clear hm
    go_wp2_with fail
    refine (CQ _).mono ?_
    rintro e w6 ⟨rfl, b6⟩
    have b56 := b5.trans (b6.mono b5.size)
    have y0 := (b56.cell lt4).trans z0
    have y1 := (b56.cell lt4).trans z1
    have lt6 := Nat.lt_of_lt_of_le lt4 b56.size
    have bb6 := bb4.trans (b56.mono bb4.size)
    clear z0 z1
    go_upto_region 7 with (fail)
    obtain ⟨w7, hw7, r0, r1, b7, lt7⟩ := pairbox w6 24 (.int .u32 0) (.int .i64 0)
    rw [hw7]
    clear hw7
    have z0 := (b7.cell lt6).trans y0
    have z1 := (b7.cell lt6).trans y1
    have bb7 := bb6.trans (b7.mono bb6.size)
    clear y0 y1
    go_wp2_with fail
    refine (CY _).mono ?_
    rintro e w8 ⟨rfl, b8⟩
    have bb8 := bb7.trans (b8.mono bb7.size)
    go_wp2
    go_ret
    exact ⟨rfl, bb8⟩

set_option maxRecDepth 100000 in
theorem lifted (os : Os) (started : os.Started) (H : Type) (enc : TypeId × Value → H) :
    ReturnsInHanded {} Tryd.checked os 5 .any (fun w args => (Rows.addrBackSpec.pre enc Tryd.prog Tryd.f5 Rows.addrBackRow.domain false w args ∧ laidMetH Tryd.prog Rows.addrBackRow.laid w) ∧ sizedMet enc Tryd.prog Tryd.f5 (OpenSpec.ofChange Rows.addrBackSpec) false w args)
      (Rows.addrBackSpec.post enc Tryd.prog Tryd.f5 false true false false) := by
  refine returnsInHanded_of_change_and (C := Tryd.checked) (X := fun w _ => laidMetH Tryd.prog Rows.addrBackRow.laid w) (fun _ _ _ hh h => h.of_heap hh) own started (by kernel_rfl) Tryd.func5
    (ChangeSpec.witness_shaped (enc := enc) (C := Tryd.checked) (os := os) (X := fun w _ => laidMetH Tryd.prog Rows.addrBackRow.laid w) false (World.laidAll Tryd.prog os Rows.addrBackRow.laid) #[.int .u32 0, .agg #[.int .u32 0, .int .i64 0]] 8 (World.laidAll_os _ _ _)
      (World.shaped_of_ZipB (by kernel_rfl) (by kernel_rfl)) (by kernel_rfl) (by kernel_rfl) (by kernel_rfl)
      (by rw [MakeChecks.laidMetH_plain _ _ _ (by kernel_rfl)]; exact laidMet_laidAll _ (by kernel_rfl) (by kernel_rfl))) ?_
  intro W base args ds gs before hval0 hW hcnd _ hL _
  have hval : ∀ (j : Nat) t v, Tryd.f5.params[j]? = some t → args[j]? = some v → Value.okWide Tryd.prog W .any base t v := hval0
  have hW' := hW
  obtain ⟨p, q, hA0, hV, rfl, hfz, hnd⟩ := hW
  have hA : DataW.TrodAll enc Tryd.prog W 0 (fun _ => true) true Tryd.f5.params.toList args.toList ds p := hA0
  rw [Tryd.params5] at hA hval
  obtain ⟨v0, vs0, d0, ds0, p0, q0, hargs, rfl, rfl, t0, r0⟩ := trodAll_cons hA
  obtain ⟨v1, vs1, d1, ds1, p1, q1, rfl, rfl, rfl, t1, r1⟩ := trodAll_cons r0
  obtain ⟨rfl, rfl, rfl⟩ := trodAll_nil r1
  obtain rfl : args = #[v0, v1] := by cases args; simp_all
  obtain ⟨rfl, rfl⟩ := trodVars_none hV
  obtain ⟨a0, rfl, hd0, hp0, wf0⟩ := open_int Tryd.underlying22 (hval 0 22 v0 rfl rfl) t0
  obtain ⟨A1, L1, rfl, wA1, wL1⟩ := arg_px Tryd.underlying24 (by kernel_rfl) (by kernel_rfl) Tryd.underlying22 Tryd.underlying3 (hval 1 24 v1 rfl rfl) t1
  clear hA0 hval0
  simp only [List.append_nil] at hW'
  have hlt0 : ∀ x ∈ p0, x.block < W.heap.size := fun x hx => hW'.lt x (List.mem_append_left _ hx)
  have hlt1 : ∀ x ∈ p1, x.block < W.heap.size := fun x hx => hW'.lt x (List.mem_append_right _ (hx))
  refine (walk a0 A1 L1 W (tab_of W hL) wf0 wA1 wL1).mono fun e W' ⟨he, hb⟩ => ?_
  subst he
  have s0 := Below.trod laidOut (by kernel_rfl) (of_decide_eq_true (by kernel_rfl)) t0 hb hlt0
  have s1 := Below.trod laidOut (by kernel_rfl) (of_decide_eq_true (by kernel_rfl)) t1 hb hlt1
  exact ⟨_, rfl, _, _, _, [] ++ [], _, [], hW', trodAll_cons_mk (shut_bool Tryd.underlying4 _) trodAll_mk0, trodAll_cons_mk s0 (trodAll_cons_mk s1 (trodAll_mk0)), rfl, hb.frame _, fun h => by cases h⟩

theorem over : Rows.addrBackRow.holds Tryd.pinned (OpenSpec.ofChange Rows.addrBackSpec) :=
  OpenClaim.holds_of_wide 5 Tryd.f5 rfl rfl rfl rfl rfl rfl rfl ⟨rfl, rfl, rfl, rfl, rfl⟩ rfl rfl rfl rfl rfl (by kernel_rfl) Tryd.func5 (by kernel_rfl)
    (of_decide_eq_true (by kernel_rfl)) (by unfold Func.isWrapper; first | (rw [if_pos (by decide +kernel)]; kernel_rfl) | (rw [if_neg (by decide +kernel)]; exact ⟨rfl, rfl⟩))
    (fun os started H enc _ => lifted os started H enc)

/-- The statement: the card. -/
theorem proved : Rows.AddrBackCardSaid :=
  Claim7.holds_tied_plain_at .later [] [.data, .data, .data] true _ false over (fun _ h => by cases h) (by kernel_rfl) (fun _ h => by cases h) addrBack_row_tie rfl ⟨rfl, rfl⟩ (by kernel_rfl) rfl
    (fun f fn hf hfn => by
      obtain rfl : f = 5 := Option.some.inj ((show Tryd.prog.funcNamed Rows.addrBackRow.func = some 5 by kernel_rfl).symm.trans hf) |>.symm
      obtain rfl : fn = Tryd.f5 := (Option.some.inj (Tryd.func5.symm.trans hfn)).symm
      exact ⟨by kernel_rfl, fun j t ht => by
        rw [Tryd.params5] at ht
        have hm : t ∈ [22, 24] := by simpa using Array.mem_of_getElem? ht
        have hall : ([22, 24].all fun u => !Tryd.prog.wantsStandIn u) = true := by kernel_rfl
        exact (show Tryd.prog.wantsStandIn t = false by simpa using List.all_eq_true.1 hall t hm)⟩)
    (by kernel_rfl)
end Go.Proofs.YtbfflcpmagjlnaaDoor.addrBack
