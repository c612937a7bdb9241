/- AddrRange: a prefix has just the addresses of its range; of two one is within the other, or they have none together. Condition: the arguments can be read as data. -/
import Derived.Test.YtbfflcpmagjlnaaDoorAdrU
import Derived.Deep.Cut
import Derived.Deep.RegionHeld
import Derived.Deep.RegionLaw
import Derived.Test.YtbfflcpmagjlnaaDoorCards
import Derived.Test.YtbfflcpmagjlnaaDoorTie
import Derived.OpenShut
import Derived.LaidMore
import Derived.MakeChecks
import Derived.Lay
import Derived.SevenTiedAt
import Derived.Stop.Joined
namespace Go.Proofs.YtbfflcpmagjlnaaDoor.addrRange
open Go.ChangeShapes Go.WideShapes Go.ChangeAt Go.RowKit Go.Proofs.YtbfflcpmagjlnaaDoor.num Go.Proofs.YtbfflcpmagjlnaaDoor.mem Go.Proofs.YtbfflcpmagjlnaaDoor.txt Go.Proofs.YtbfflcpmagjlnaaDoor.str Go.Proofs.YtbfflcpmagjlnaaDoor.adr
set_option linter.unusedVariables false
set_option linter.unusedSimpArgs false

theorem own : ownKnob Tryd.prog.godebug = none := by kernel_rfl
theorem laidOut : laidOutB Tryd.prog = true := by kernel_rfl


set_option maxHeartbeats 6400000 in
set_option maxRecDepth 100000 in
/-- The walk: the Go text returns true; what was there is as it was. -/
theorem walk (A0 L0 : Int) (A1 L1 : Int) (a2 : Int) (w : World) (ht : Tab w) (wA0 : (Lit.int .u32 A0).wf = true) (wL0 : (Lit.int .i64 L0).wf = true) (wA1 : (Lit.int .u32 A1).wf = true) (wL1 : (Lit.int .i64 L1).wf = true) (wf2 : (Lit.int .u32 a2).wf = true) :
    Calls Tryd.prog 6 #[.agg #[.int .u32 A0, .int .i64 L0], .agg #[.int .u32 A1, .int .i64 L1], .int .u32 a2] w (RetV (.bool true) w) := by
  obtain ⟨A, rfl, hA⟩ := u32_of wA0
  obtain ⟨B, rfl, hB⟩ := u32_of wA1
  obtain ⟨a, rfl, ha⟩ := u32_of wf2
  obtain ⟨l0, l1⟩ := i64_of wL0
  obtain ⟨m0, m1⟩ := i64_of wL1
  have HT := Lib.hid ht
  clear ht wA0 wA1 wf2 wL0 wL1
  by_cases hp : mayP A L0
  · by_cases hq : mayP B L1
    · obtain ⟨g, hg⟩ : ∃ g, g = A + (2 ^ (32 - L0.toNat) - 1) := ⟨_, rfl⟩
      have CR := fun w => range_any18 A L0 A g w hA l0 l1 (by unfold rngP; rw [if_pos hp, hg])
      have hhr := has_range (a := a) hp hg
      have CYp := fun w => may_any18 A L0 true w hA l0 l1 ⟨fun _ => hp, fun _ => rfl⟩
      have CYq := fun w => may_any18 B L1 true w hB m0 m1 ⟨fun _ => hq, fun _ => rfl⟩
      clear hp hq hg
      by_cases hAa : (A : Int) ≤ (a : Int)
      · by_cases hag : (a : Int) ≤ (g : Int)
        · have hhp : hasP A L0 a := hhr.2 ⟨by omega, by omega⟩
          have CHp := fun w => has_any18 A a L0 true w hA ha l0 l1 ⟨fun _ => hhp, fun _ => rfl⟩
          clear hhr
          go_enter Tryd.func6, Tryd.ntmps6
          go_upto_region 1 with (fail)
          have bb := Below.refl w.heap.size w
          obtain ⟨u1, hu1, x0, x1, c1, _⟩ := pairbox w 24 (.int .u32 (A : Int)) (.int .i64 L0)
          rw [hu1]
          have hsz : u1.heap.size = w.heap.size + 1 := by rw [← hu1, World.size_alloc]
          clear hu1
          replace bb := bb.trans (c1.mono bb.size)
          obtain ⟨u2, hu2, r0, r1, c2, _⟩ := pairbox u1 24 (.int .u32 (B : Int)) (.int .i64 L1)
          rw [hu2]
          clear hu2
          replace x0 := (c2.cell (World.block_lt_of_cell? _ _ x0)).trans x0
          replace x1 := (c2.cell (World.block_lt_of_cell? _ _ x1)).trans x1
          replace bb := bb.trans (c2.mono bb.size)
          rw [hsz] at r0 r1
          clear c1 c2 hsz
          go_wp2_with fail
          refine (works18_any _ (HT.out.below bb)).mono ?_
          rintro e u3 ⟨rfl, c3⟩
          replace x0 := (c3.cell (World.block_lt_of_cell? _ _ x0)).trans x0
          replace x1 := (c3.cell (World.block_lt_of_cell? _ _ x1)).trans x1
          replace r0 := (c3.cell (World.block_lt_of_cell? _ _ r0)).trans r0
          replace r1 := (c3.cell (World.block_lt_of_cell? _ _ r1)).trans r1
          replace bb := bb.trans (c3.mono bb.size)
          clear c3
          go_wp2_with fail
          refine (CYp _).mono ?_
          rintro e u4 ⟨rfl, c4⟩
          replace x0 := (c4.cell (World.block_lt_of_cell? _ _ x0)).trans x0
          replace x1 := (c4.cell (World.block_lt_of_cell? _ _ x1)).trans x1
          replace r0 := (c4.cell (World.block_lt_of_cell? _ _ r0)).trans r0
          replace r1 := (c4.cell (World.block_lt_of_cell? _ _ r1)).trans r1
          replace bb := bb.trans (c4.mono bb.size)
          clear c4
          go_wp2_with fail
          refine (CYq _).mono ?_
          rintro e u5 ⟨rfl, c5⟩
          replace x0 := (c5.cell (World.block_lt_of_cell? _ _ x0)).trans x0
          replace x1 := (c5.cell (World.block_lt_of_cell? _ _ x1)).trans x1
          replace r0 := (c5.cell (World.block_lt_of_cell? _ _ r0)).trans r0
          replace r1 := (c5.cell (World.block_lt_of_cell? _ _ r1)).trans r1
          replace bb := bb.trans (c5.mono bb.size)
          clear c5
          go_wp2_with fail
          refine (CR _).mono ?_
          rintro e u6 ⟨rfl, c6⟩
          replace x0 := (c6.cell (World.block_lt_of_cell? _ _ x0)).trans x0
          replace x1 := (c6.cell (World.block_lt_of_cell? _ _ x1)).trans x1
          replace r0 := (c6.cell (World.block_lt_of_cell? _ _ r0)).trans r0
          replace r1 := (c6.cell (World.block_lt_of_cell? _ _ r1)).trans r1
          replace bb := bb.trans (c6.mono bb.size)
          clear c6
          go_upto_region 6 with (fail)
          obtain ⟨u7, hu7, f0, f1, c7, _⟩ := pairbox u6 35 (.int .u32 (A : Int)) (.int .u32 (g : Int))
          rw [hu7]
          clear hu7
          replace x0 := (c7.cell (World.block_lt_of_cell? _ _ x0)).trans x0
          replace x1 := (c7.cell (World.block_lt_of_cell? _ _ x1)).trans x1
          replace r0 := (c7.cell (World.block_lt_of_cell? _ _ r0)).trans r0
          replace r1 := (c7.cell (World.block_lt_of_cell? _ _ r1)).trans r1
          replace bb := bb.trans (c7.mono bb.size)
          clear c7
          replace x0 := cell_drew x0
          replace x1 := cell_drew x1
          replace r0 := cell_drew r0
          replace r1 := cell_drew r1
          replace f0 := cell_drew f0
          replace f1 := cell_drew f1
          replace bb := bb.drew
          go_region_law (first
            | (go_simp; go_at_call 19; (with_reducible refine (CHp _).mono ?_); rintro e u8 ⟨rfl, c8⟩; have x0n := (c8.cell (World.block_lt_of_cell? _ _ x0)).trans x0; have x1n := (c8.cell (World.block_lt_of_cell? _ _ x1)).trans x1; have r0n := (c8.cell (World.block_lt_of_cell? _ _ r0)).trans r0; have r1n := (c8.cell (World.block_lt_of_cell? _ _ r1)).trans r1; have f0n := (c8.cell (World.block_lt_of_cell? _ _ f0)).trans f0; have f1n := (c8.cell (World.block_lt_of_cell? _ _ f1)).trans f1; have bbn := bb.trans (c8.mono bb.size)))
          all_goals
            clear x0 x1 r0 r1 f0 f1 bb
            have bb := bbn
            clear bbn
            by_cases h1 : withinP A L0 B L1
            · have CW1 := fun w => within_any18 A B L0 L1 true w hA hB l0 l1 m0 m1 ⟨fun _ => h1, fun _ => rfl⟩
              have CHq := fun w => has_any18 B a L1 true w hB ha m0 m1 ⟨fun _ => (within_has h1 hhp), fun _ => rfl⟩
              clear h1 hhp
              go_wp2_with fail
              refine (CW1 _).mono ?_
              rintro e u9 ⟨rfl, c9⟩
              replace x0n := (c9.cell (World.block_lt_of_cell? _ _ x0n)).trans x0n
              replace x1n := (c9.cell (World.block_lt_of_cell? _ _ x1n)).trans x1n
              replace r0n := (c9.cell (World.block_lt_of_cell? _ _ r0n)).trans r0n
              replace r1n := (c9.cell (World.block_lt_of_cell? _ _ r1n)).trans r1n
              replace f0n := (c9.cell (World.block_lt_of_cell? _ _ f0n)).trans f0n
              replace f1n := (c9.cell (World.block_lt_of_cell? _ _ f1n)).trans f1n
              replace bb := bb.trans (c9.mono bb.size)
              clear c9
              go_wp2_with fail
              refine (CHp _).mono ?_
              rintro e u10 ⟨rfl, c10⟩
              replace x0n := (c10.cell (World.block_lt_of_cell? _ _ x0n)).trans x0n
              replace x1n := (c10.cell (World.block_lt_of_cell? _ _ x1n)).trans x1n
              replace r0n := (c10.cell (World.block_lt_of_cell? _ _ r0n)).trans r0n
              replace r1n := (c10.cell (World.block_lt_of_cell? _ _ r1n)).trans r1n
              replace f0n := (c10.cell (World.block_lt_of_cell? _ _ f0n)).trans f0n
              replace f1n := (c10.cell (World.block_lt_of_cell? _ _ f1n)).trans f1n
              replace bb := bb.trans (c10.mono bb.size)
              clear c10
              go_wp2_with fail
              refine (CHq _).mono ?_
              rintro e u11 ⟨rfl, c11⟩
              replace x0n := (c11.cell (World.block_lt_of_cell? _ _ x0n)).trans x0n
              replace x1n := (c11.cell (World.block_lt_of_cell? _ _ x1n)).trans x1n
              replace r0n := (c11.cell (World.block_lt_of_cell? _ _ r0n)).trans r0n
              replace r1n := (c11.cell (World.block_lt_of_cell? _ _ r1n)).trans r1n
              replace f0n := (c11.cell (World.block_lt_of_cell? _ _ f0n)).trans f0n
              replace f1n := (c11.cell (World.block_lt_of_cell? _ _ f1n)).trans f1n
              replace bb := bb.trans (c11.mono bb.size)
              clear c11
              go_wp2_with fail
              refine (CW1 _).mono ?_
              rintro e u12 ⟨rfl, c12⟩
              replace x0n := (c12.cell (World.block_lt_of_cell? _ _ x0n)).trans x0n
              replace x1n := (c12.cell (World.block_lt_of_cell? _ _ x1n)).trans x1n
              replace r0n := (c12.cell (World.block_lt_of_cell? _ _ r0n)).trans r0n
              replace r1n := (c12.cell (World.block_lt_of_cell? _ _ r1n)).trans r1n
              replace f0n := (c12.cell (World.block_lt_of_cell? _ _ f0n)).trans f0n
              replace f1n := (c12.cell (World.block_lt_of_cell? _ _ f1n)).trans f1n
              replace bb := bb.trans (c12.mono bb.size)
              clear c12
              go_wp2
              go_ret
              exact ⟨rfl, bb⟩
            · by_cases h2 : withinP B L1 A L0
              · have CW1 := fun w => within_any18 A B L0 L1 false w hA hB l0 l1 m0 m1 ⟨fun h => Bool.noConfusion h, fun h => absurd h h1⟩
                have CW2 := fun w => within_any18 B A L1 L0 true w hB hA m0 m1 l0 l1 ⟨fun _ => h2, fun _ => rfl⟩
                clear h1 h2 hhp
                go_wp2_with fail
                refine (CW1 _).mono ?_
                rintro e u9 ⟨rfl, c9⟩
                replace x0n := (c9.cell (World.block_lt_of_cell? _ _ x0n)).trans x0n
                replace x1n := (c9.cell (World.block_lt_of_cell? _ _ x1n)).trans x1n
                replace r0n := (c9.cell (World.block_lt_of_cell? _ _ r0n)).trans r0n
                replace r1n := (c9.cell (World.block_lt_of_cell? _ _ r1n)).trans r1n
                replace f0n := (c9.cell (World.block_lt_of_cell? _ _ f0n)).trans f0n
                replace f1n := (c9.cell (World.block_lt_of_cell? _ _ f1n)).trans f1n
                replace bb := bb.trans (c9.mono bb.size)
                clear c9
                go_wp2_with fail
                refine (CW1 _).mono ?_
                rintro e u10 ⟨rfl, c10⟩
                replace x0n := (c10.cell (World.block_lt_of_cell? _ _ x0n)).trans x0n
                replace x1n := (c10.cell (World.block_lt_of_cell? _ _ x1n)).trans x1n
                replace r0n := (c10.cell (World.block_lt_of_cell? _ _ r0n)).trans r0n
                replace r1n := (c10.cell (World.block_lt_of_cell? _ _ r1n)).trans r1n
                replace f0n := (c10.cell (World.block_lt_of_cell? _ _ f0n)).trans f0n
                replace f1n := (c10.cell (World.block_lt_of_cell? _ _ f1n)).trans f1n
                replace bb := bb.trans (c10.mono bb.size)
                clear c10
                go_wp2_with fail
                refine (CW2 _).mono ?_
                rintro e u11 ⟨rfl, c11⟩
                replace x0n := (c11.cell (World.block_lt_of_cell? _ _ x0n)).trans x0n
                replace x1n := (c11.cell (World.block_lt_of_cell? _ _ x1n)).trans x1n
                replace r0n := (c11.cell (World.block_lt_of_cell? _ _ r0n)).trans r0n
                replace r1n := (c11.cell (World.block_lt_of_cell? _ _ r1n)).trans r1n
                replace f0n := (c11.cell (World.block_lt_of_cell? _ _ f0n)).trans f0n
                replace f1n := (c11.cell (World.block_lt_of_cell? _ _ f1n)).trans f1n
                replace bb := bb.trans (c11.mono bb.size)
                clear c11
                go_wp2
                go_ret
                exact ⟨rfl, bb⟩
              · have CW1 := fun w => within_any18 A B L0 L1 false w hA hB l0 l1 m0 m1 ⟨fun h => Bool.noConfusion h, fun h => absurd h h1⟩
                have CW2 := fun w => within_any18 B A L1 L0 false w hB hA m0 m1 l0 l1 ⟨fun h => Bool.noConfusion h, fun h => absurd h h2⟩
                have hnq : ¬ hasP B L1 a := fun h => by rcases has_both hhp h with h | h; exact h1 h; exact h2 h
                have CHq := fun w => has_any18 B a L1 false w hB ha m0 m1 ⟨fun h => Bool.noConfusion h, fun h => absurd h hnq⟩
                clear h1 h2 hhp hnq
                go_wp2_with fail
                refine (CW1 _).mono ?_
                rintro e u9 ⟨rfl, c9⟩
                replace x0n := (c9.cell (World.block_lt_of_cell? _ _ x0n)).trans x0n
                replace x1n := (c9.cell (World.block_lt_of_cell? _ _ x1n)).trans x1n
                replace r0n := (c9.cell (World.block_lt_of_cell? _ _ r0n)).trans r0n
                replace r1n := (c9.cell (World.block_lt_of_cell? _ _ r1n)).trans r1n
                replace f0n := (c9.cell (World.block_lt_of_cell? _ _ f0n)).trans f0n
                replace f1n := (c9.cell (World.block_lt_of_cell? _ _ f1n)).trans f1n
                replace bb := bb.trans (c9.mono bb.size)
                clear c9
                go_wp2_with fail
                refine (CW1 _).mono ?_
                rintro e u10 ⟨rfl, c10⟩
                replace x0n := (c10.cell (World.block_lt_of_cell? _ _ x0n)).trans x0n
                replace x1n := (c10.cell (World.block_lt_of_cell? _ _ x1n)).trans x1n
                replace r0n := (c10.cell (World.block_lt_of_cell? _ _ r0n)).trans r0n
                replace r1n := (c10.cell (World.block_lt_of_cell? _ _ r1n)).trans r1n
                replace f0n := (c10.cell (World.block_lt_of_cell? _ _ f0n)).trans f0n
                replace f1n := (c10.cell (World.block_lt_of_cell? _ _ f1n)).trans f1n
                replace bb := bb.trans (c10.mono bb.size)
                clear c10
                go_wp2_with fail
                refine (CW2 _).mono ?_
                rintro e u11 ⟨rfl, c11⟩
                replace x0n := (c11.cell (World.block_lt_of_cell? _ _ x0n)).trans x0n
                replace x1n := (c11.cell (World.block_lt_of_cell? _ _ x1n)).trans x1n
                replace r0n := (c11.cell (World.block_lt_of_cell? _ _ r0n)).trans r0n
                replace r1n := (c11.cell (World.block_lt_of_cell? _ _ r1n)).trans r1n
                replace f0n := (c11.cell (World.block_lt_of_cell? _ _ f0n)).trans f0n
                replace f1n := (c11.cell (World.block_lt_of_cell? _ _ f1n)).trans f1n
                replace bb := bb.trans (c11.mono bb.size)
                clear c11
                go_wp2_with fail
                refine (CHp _).mono ?_
                rintro e u12 ⟨rfl, c12⟩
                replace x0n := (c12.cell (World.block_lt_of_cell? _ _ x0n)).trans x0n
                replace x1n := (c12.cell (World.block_lt_of_cell? _ _ x1n)).trans x1n
                replace r0n := (c12.cell (World.block_lt_of_cell? _ _ r0n)).trans r0n
                replace r1n := (c12.cell (World.block_lt_of_cell? _ _ r1n)).trans r1n
                replace f0n := (c12.cell (World.block_lt_of_cell? _ _ f0n)).trans f0n
                replace f1n := (c12.cell (World.block_lt_of_cell? _ _ f1n)).trans f1n
                replace bb := bb.trans (c12.mono bb.size)
                clear c12
                go_wp2_with fail
                refine (CHq _).mono ?_
                rintro e u13 ⟨rfl, c13⟩
                replace x0n := (c13.cell (World.block_lt_of_cell? _ _ x0n)).trans x0n
                replace x1n := (c13.cell (World.block_lt_of_cell? _ _ x1n)).trans x1n
                replace r0n := (c13.cell (World.block_lt_of_cell? _ _ r0n)).trans r0n
                replace r1n := (c13.cell (World.block_lt_of_cell? _ _ r1n)).trans r1n
                replace f0n := (c13.cell (World.block_lt_of_cell? _ _ f0n)).trans f0n
                replace f1n := (c13.cell (World.block_lt_of_cell? _ _ f1n)).trans f1n
                replace bb := bb.trans (c13.mono bb.size)
                clear c13
                go_wp2
                go_ret
                exact ⟨rfl, bb⟩
        · have hhp : ¬ hasP A L0 a := fun h => by have := (hhr.1 h).2; omega
          have CHp := fun w => has_any18 A a L0 false w hA ha l0 l1 ⟨fun h => Bool.noConfusion h, fun h => absurd h hhp⟩
          clear hhr
          go_enter Tryd.func6, Tryd.ntmps6
          go_upto_region 1 with (fail)
          have bb := Below.refl w.heap.size w
          obtain ⟨u1, hu1, x0, x1, c1, _⟩ := pairbox w 24 (.int .u32 (A : Int)) (.int .i64 L0)
          rw [hu1]
          have hsz : u1.heap.size = w.heap.size + 1 := by rw [← hu1, World.size_alloc]
          clear hu1
          replace bb := bb.trans (c1.mono bb.size)
          obtain ⟨u2, hu2, r0, r1, c2, _⟩ := pairbox u1 24 (.int .u32 (B : Int)) (.int .i64 L1)
          rw [hu2]
          clear hu2
          replace x0 := (c2.cell (World.block_lt_of_cell? _ _ x0)).trans x0
          replace x1 := (c2.cell (World.block_lt_of_cell? _ _ x1)).trans x1
          replace bb := bb.trans (c2.mono bb.size)
          rw [hsz] at r0 r1
          clear c1 c2 hsz
          go_wp2_with fail
          refine (works18_any _ (HT.out.below bb)).mono ?_
          rintro e u3 ⟨rfl, c3⟩
          replace x0 := (c3.cell (World.block_lt_of_cell? _ _ x0)).trans x0
          replace x1 := (c3.cell (World.block_lt_of_cell? _ _ x1)).trans x1
          replace r0 := (c3.cell (World.block_lt_of_cell? _ _ r0)).trans r0
          replace r1 := (c3.cell (World.block_lt_of_cell? _ _ r1)).trans r1
          replace bb := bb.trans (c3.mono bb.size)
          clear c3
          go_wp2_with fail
          refine (CYp _).mono ?_
          rintro e u4 ⟨rfl, c4⟩
          replace x0 := (c4.cell (World.block_lt_of_cell? _ _ x0)).trans x0
          replace x1 := (c4.cell (World.block_lt_of_cell? _ _ x1)).trans x1
          replace r0 := (c4.cell (World.block_lt_of_cell? _ _ r0)).trans r0
          replace r1 := (c4.cell (World.block_lt_of_cell? _ _ r1)).trans r1
          replace bb := bb.trans (c4.mono bb.size)
          clear c4
          go_wp2_with fail
          refine (CYq _).mono ?_
          rintro e u5 ⟨rfl, c5⟩
          replace x0 := (c5.cell (World.block_lt_of_cell? _ _ x0)).trans x0
          replace x1 := (c5.cell (World.block_lt_of_cell? _ _ x1)).trans x1
          replace r0 := (c5.cell (World.block_lt_of_cell? _ _ r0)).trans r0
          replace r1 := (c5.cell (World.block_lt_of_cell? _ _ r1)).trans r1
          replace bb := bb.trans (c5.mono bb.size)
          clear c5
          go_wp2_with fail
          refine (CR _).mono ?_
          rintro e u6 ⟨rfl, c6⟩
          replace x0 := (c6.cell (World.block_lt_of_cell? _ _ x0)).trans x0
          replace x1 := (c6.cell (World.block_lt_of_cell? _ _ x1)).trans x1
          replace r0 := (c6.cell (World.block_lt_of_cell? _ _ r0)).trans r0
          replace r1 := (c6.cell (World.block_lt_of_cell? _ _ r1)).trans r1
          replace bb := bb.trans (c6.mono bb.size)
          clear c6
          go_upto_region 6 with (fail)
          obtain ⟨u7, hu7, f0, f1, c7, _⟩ := pairbox u6 35 (.int .u32 (A : Int)) (.int .u32 (g : Int))
          rw [hu7]
          clear hu7
          replace x0 := (c7.cell (World.block_lt_of_cell? _ _ x0)).trans x0
          replace x1 := (c7.cell (World.block_lt_of_cell? _ _ x1)).trans x1
          replace r0 := (c7.cell (World.block_lt_of_cell? _ _ r0)).trans r0
          replace r1 := (c7.cell (World.block_lt_of_cell? _ _ r1)).trans r1
          replace bb := bb.trans (c7.mono bb.size)
          clear c7
          replace x0 := cell_drew x0
          replace x1 := cell_drew x1
          replace r0 := cell_drew r0
          replace r1 := cell_drew r1
          replace f0 := cell_drew f0
          replace f1 := cell_drew f1
          replace bb := bb.drew
          go_region_law (first
            | (go_simp; go_at_call 19; (with_reducible refine (CHp _).mono ?_); rintro e u8 ⟨rfl, c8⟩; have x0n := (c8.cell (World.block_lt_of_cell? _ _ x0)).trans x0; have x1n := (c8.cell (World.block_lt_of_cell? _ _ x1)).trans x1; have r0n := (c8.cell (World.block_lt_of_cell? _ _ r0)).trans r0; have r1n := (c8.cell (World.block_lt_of_cell? _ _ r1)).trans r1; have f0n := (c8.cell (World.block_lt_of_cell? _ _ f0)).trans f0; have f1n := (c8.cell (World.block_lt_of_cell? _ _ f1)).trans f1; have bbn := bb.trans (c8.mono bb.size)))
          all_goals
            clear x0 x1 r0 r1 f0 f1 bb
            have bb := bbn
            clear bbn
            by_cases h1 : withinP A L0 B L1
            · have CW1 := fun w => within_any18 A B L0 L1 true w hA hB l0 l1 m0 m1 ⟨fun _ => h1, fun _ => rfl⟩
              clear h1 hhp
              go_wp2_with fail
              refine (CW1 _).mono ?_
              rintro e u9 ⟨rfl, c9⟩
              replace x0n := (c9.cell (World.block_lt_of_cell? _ _ x0n)).trans x0n
              replace x1n := (c9.cell (World.block_lt_of_cell? _ _ x1n)).trans x1n
              replace r0n := (c9.cell (World.block_lt_of_cell? _ _ r0n)).trans r0n
              replace r1n := (c9.cell (World.block_lt_of_cell? _ _ r1n)).trans r1n
              replace f0n := (c9.cell (World.block_lt_of_cell? _ _ f0n)).trans f0n
              replace f1n := (c9.cell (World.block_lt_of_cell? _ _ f1n)).trans f1n
              replace bb := bb.trans (c9.mono bb.size)
              clear c9
              go_wp2_with fail
              refine (CHp _).mono ?_
              rintro e u10 ⟨rfl, c10⟩
              replace x0n := (c10.cell (World.block_lt_of_cell? _ _ x0n)).trans x0n
              replace x1n := (c10.cell (World.block_lt_of_cell? _ _ x1n)).trans x1n
              replace r0n := (c10.cell (World.block_lt_of_cell? _ _ r0n)).trans r0n
              replace r1n := (c10.cell (World.block_lt_of_cell? _ _ r1n)).trans r1n
              replace f0n := (c10.cell (World.block_lt_of_cell? _ _ f0n)).trans f0n
              replace f1n := (c10.cell (World.block_lt_of_cell? _ _ f1n)).trans f1n
              replace bb := bb.trans (c10.mono bb.size)
              clear c10
              go_wp2_with fail
              refine (CW1 _).mono ?_
              rintro e u11 ⟨rfl, c11⟩
              replace x0n := (c11.cell (World.block_lt_of_cell? _ _ x0n)).trans x0n
              replace x1n := (c11.cell (World.block_lt_of_cell? _ _ x1n)).trans x1n
              replace r0n := (c11.cell (World.block_lt_of_cell? _ _ r0n)).trans r0n
              replace r1n := (c11.cell (World.block_lt_of_cell? _ _ r1n)).trans r1n
              replace f0n := (c11.cell (World.block_lt_of_cell? _ _ f0n)).trans f0n
              replace f1n := (c11.cell (World.block_lt_of_cell? _ _ f1n)).trans f1n
              replace bb := bb.trans (c11.mono bb.size)
              clear c11
              go_wp2
              go_ret
              exact ⟨rfl, bb⟩
            · by_cases h2 : withinP B L1 A L0
              · have CW1 := fun w => within_any18 A B L0 L1 false w hA hB l0 l1 m0 m1 ⟨fun h => Bool.noConfusion h, fun h => absurd h h1⟩
                have CW2 := fun w => within_any18 B A L1 L0 true w hB hA m0 m1 l0 l1 ⟨fun _ => h2, fun _ => rfl⟩
                clear h1 h2 hhp
                go_wp2_with fail
                refine (CW1 _).mono ?_
                rintro e u9 ⟨rfl, c9⟩
                replace x0n := (c9.cell (World.block_lt_of_cell? _ _ x0n)).trans x0n
                replace x1n := (c9.cell (World.block_lt_of_cell? _ _ x1n)).trans x1n
                replace r0n := (c9.cell (World.block_lt_of_cell? _ _ r0n)).trans r0n
                replace r1n := (c9.cell (World.block_lt_of_cell? _ _ r1n)).trans r1n
                replace f0n := (c9.cell (World.block_lt_of_cell? _ _ f0n)).trans f0n
                replace f1n := (c9.cell (World.block_lt_of_cell? _ _ f1n)).trans f1n
                replace bb := bb.trans (c9.mono bb.size)
                clear c9
                go_wp2_with fail
                refine (CW1 _).mono ?_
                rintro e u10 ⟨rfl, c10⟩
                replace x0n := (c10.cell (World.block_lt_of_cell? _ _ x0n)).trans x0n
                replace x1n := (c10.cell (World.block_lt_of_cell? _ _ x1n)).trans x1n
                replace r0n := (c10.cell (World.block_lt_of_cell? _ _ r0n)).trans r0n
                replace r1n := (c10.cell (World.block_lt_of_cell? _ _ r1n)).trans r1n
                replace f0n := (c10.cell (World.block_lt_of_cell? _ _ f0n)).trans f0n
                replace f1n := (c10.cell (World.block_lt_of_cell? _ _ f1n)).trans f1n
                replace bb := bb.trans (c10.mono bb.size)
                clear c10
                go_wp2_with fail
                refine (CW2 _).mono ?_
                rintro e u11 ⟨rfl, c11⟩
                replace x0n := (c11.cell (World.block_lt_of_cell? _ _ x0n)).trans x0n
                replace x1n := (c11.cell (World.block_lt_of_cell? _ _ x1n)).trans x1n
                replace r0n := (c11.cell (World.block_lt_of_cell? _ _ r0n)).trans r0n
                replace r1n := (c11.cell (World.block_lt_of_cell? _ _ r1n)).trans r1n
                replace f0n := (c11.cell (World.block_lt_of_cell? _ _ f0n)).trans f0n
                replace f1n := (c11.cell (World.block_lt_of_cell? _ _ f1n)).trans f1n
                replace bb := bb.trans (c11.mono bb.size)
                clear c11
                go_wp2
                go_ret
                exact ⟨rfl, bb⟩
              · have CW1 := fun w => within_any18 A B L0 L1 false w hA hB l0 l1 m0 m1 ⟨fun h => Bool.noConfusion h, fun h => absurd h h1⟩
                have CW2 := fun w => within_any18 B A L1 L0 false w hB hA m0 m1 l0 l1 ⟨fun h => Bool.noConfusion h, fun h => absurd h h2⟩
                clear h1 h2 hhp
                go_wp2_with fail
                refine (CW1 _).mono ?_
                rintro e u9 ⟨rfl, c9⟩
                replace x0n := (c9.cell (World.block_lt_of_cell? _ _ x0n)).trans x0n
                replace x1n := (c9.cell (World.block_lt_of_cell? _ _ x1n)).trans x1n
                replace r0n := (c9.cell (World.block_lt_of_cell? _ _ r0n)).trans r0n
                replace r1n := (c9.cell (World.block_lt_of_cell? _ _ r1n)).trans r1n
                replace f0n := (c9.cell (World.block_lt_of_cell? _ _ f0n)).trans f0n
                replace f1n := (c9.cell (World.block_lt_of_cell? _ _ f1n)).trans f1n
                replace bb := bb.trans (c9.mono bb.size)
                clear c9
                go_wp2_with fail
                refine (CW1 _).mono ?_
                rintro e u10 ⟨rfl, c10⟩
                replace x0n := (c10.cell (World.block_lt_of_cell? _ _ x0n)).trans x0n
                replace x1n := (c10.cell (World.block_lt_of_cell? _ _ x1n)).trans x1n
                replace r0n := (c10.cell (World.block_lt_of_cell? _ _ r0n)).trans r0n
                replace r1n := (c10.cell (World.block_lt_of_cell? _ _ r1n)).trans r1n
                replace f0n := (c10.cell (World.block_lt_of_cell? _ _ f0n)).trans f0n
                replace f1n := (c10.cell (World.block_lt_of_cell? _ _ f1n)).trans f1n
                replace bb := bb.trans (c10.mono bb.size)
                clear c10
                go_wp2_with fail
                refine (CW2 _).mono ?_
                rintro e u11 ⟨rfl, c11⟩
                replace x0n := (c11.cell (World.block_lt_of_cell? _ _ x0n)).trans x0n
                replace x1n := (c11.cell (World.block_lt_of_cell? _ _ x1n)).trans x1n
                replace r0n := (c11.cell (World.block_lt_of_cell? _ _ r0n)).trans r0n
                replace r1n := (c11.cell (World.block_lt_of_cell? _ _ r1n)).trans r1n
                replace f0n := (c11.cell (World.block_lt_of_cell? _ _ f0n)).trans f0n
                replace f1n := (c11.cell (World.block_lt_of_cell? _ _ f1n)).trans f1n
                replace bb := bb.trans (c11.mono bb.size)
                clear c11
                go_wp2_with fail
                refine (CHp _).mono ?_
                rintro e u12 ⟨rfl, c12⟩
                replace x0n := (c12.cell (World.block_lt_of_cell? _ _ x0n)).trans x0n
                replace x1n := (c12.cell (World.block_lt_of_cell? _ _ x1n)).trans x1n
                replace r0n := (c12.cell (World.block_lt_of_cell? _ _ r0n)).trans r0n
                replace r1n := (c12.cell (World.block_lt_of_cell? _ _ r1n)).trans r1n
                replace f0n := (c12.cell (World.block_lt_of_cell? _ _ f0n)).trans f0n
                replace f1n := (c12.cell (World.block_lt_of_cell? _ _ f1n)).trans f1n
                replace bb := bb.trans (c12.mono bb.size)
                clear c12
                go_wp2
                go_ret
                exact ⟨rfl, bb⟩
      · have hhp : ¬ hasP A L0 a := fun h => by have := (hhr.1 h).1; omega
        have hAn : a < A := by omega
        have CHp := fun w => has_any18 A a L0 false w hA ha l0 l1 ⟨fun h => Bool.noConfusion h, fun h => absurd h hhp⟩
        clear hhr
        go_enter Tryd.func6, Tryd.ntmps6
        go_upto_region 1 with (fail)
        have bb := Below.refl w.heap.size w
        obtain ⟨u1, hu1, x0, x1, c1, _⟩ := pairbox w 24 (.int .u32 (A : Int)) (.int .i64 L0)
        rw [hu1]
        have hsz : u1.heap.size = w.heap.size + 1 := by rw [← hu1, World.size_alloc]
        clear hu1
        replace bb := bb.trans (c1.mono bb.size)
        obtain ⟨u2, hu2, r0, r1, c2, _⟩ := pairbox u1 24 (.int .u32 (B : Int)) (.int .i64 L1)
        rw [hu2]
        clear hu2
        replace x0 := (c2.cell (World.block_lt_of_cell? _ _ x0)).trans x0
        replace x1 := (c2.cell (World.block_lt_of_cell? _ _ x1)).trans x1
        replace bb := bb.trans (c2.mono bb.size)
        rw [hsz] at r0 r1
        clear c1 c2 hsz
        go_wp2_with fail
        refine (works18_any _ (HT.out.below bb)).mono ?_
        rintro e u3 ⟨rfl, c3⟩
        replace x0 := (c3.cell (World.block_lt_of_cell? _ _ x0)).trans x0
        replace x1 := (c3.cell (World.block_lt_of_cell? _ _ x1)).trans x1
        replace r0 := (c3.cell (World.block_lt_of_cell? _ _ r0)).trans r0
        replace r1 := (c3.cell (World.block_lt_of_cell? _ _ r1)).trans r1
        replace bb := bb.trans (c3.mono bb.size)
        clear c3
        go_wp2_with fail
        refine (CYp _).mono ?_
        rintro e u4 ⟨rfl, c4⟩
        replace x0 := (c4.cell (World.block_lt_of_cell? _ _ x0)).trans x0
        replace x1 := (c4.cell (World.block_lt_of_cell? _ _ x1)).trans x1
        replace r0 := (c4.cell (World.block_lt_of_cell? _ _ r0)).trans r0
        replace r1 := (c4.cell (World.block_lt_of_cell? _ _ r1)).trans r1
        replace bb := bb.trans (c4.mono bb.size)
        clear c4
        go_wp2_with fail
        refine (CYq _).mono ?_
        rintro e u5 ⟨rfl, c5⟩
        replace x0 := (c5.cell (World.block_lt_of_cell? _ _ x0)).trans x0
        replace x1 := (c5.cell (World.block_lt_of_cell? _ _ x1)).trans x1
        replace r0 := (c5.cell (World.block_lt_of_cell? _ _ r0)).trans r0
        replace r1 := (c5.cell (World.block_lt_of_cell? _ _ r1)).trans r1
        replace bb := bb.trans (c5.mono bb.size)
        clear c5
        go_wp2_with fail
        refine (CR _).mono ?_
        rintro e u6 ⟨rfl, c6⟩
        replace x0 := (c6.cell (World.block_lt_of_cell? _ _ x0)).trans x0
        replace x1 := (c6.cell (World.block_lt_of_cell? _ _ x1)).trans x1
        replace r0 := (c6.cell (World.block_lt_of_cell? _ _ r0)).trans r0
        replace r1 := (c6.cell (World.block_lt_of_cell? _ _ r1)).trans r1
        replace bb := bb.trans (c6.mono bb.size)
        clear c6
        go_upto_region 6 with (fail)
        obtain ⟨u7, hu7, f0, f1, c7, _⟩ := pairbox u6 35 (.int .u32 (A : Int)) (.int .u32 (g : Int))
        rw [hu7]
        clear hu7
        replace x0 := (c7.cell (World.block_lt_of_cell? _ _ x0)).trans x0
        replace x1 := (c7.cell (World.block_lt_of_cell? _ _ x1)).trans x1
        replace r0 := (c7.cell (World.block_lt_of_cell? _ _ r0)).trans r0
        replace r1 := (c7.cell (World.block_lt_of_cell? _ _ r1)).trans r1
        replace bb := bb.trans (c7.mono bb.size)
        clear c7
        replace x0 := cell_drew x0
        replace x1 := cell_drew x1
        replace r0 := cell_drew r0
        replace r1 := cell_drew r1
        replace f0 := cell_drew f0
        replace f1 := cell_drew f1
        replace bb := bb.drew
        refine wp_region_held_drew (S := fun w' : World => Below u7.drew.heap.size u7.drew w') (by kernel_rfl) (Below.refl _ _) (fun hHeld => ?_)
        refine wpAnyH_take (i := 0) (v := .agg #[.int .u32 (A : Int), .int .i64 L0]) rfl (by kernel_rfl) (by kernel_rfl) (by kernel_rfl) (fun _ _ _ h => h) (Or.inl ⟨by kernel_rfl, fun w hSw => by (have hBw : Below u7.drew.heap.size u7.drew w := hSw; have f0 := (hBw.cell (World.block_lt_of_cell? _ _ x0)).trans x0; have f1 := (hBw.cell (World.block_lt_of_cell? _ _ x1)).trans x1; go_simp; first | done | with_reducible rfl | omega)⟩) hHeld ?_
        simp only [Act.put, List.getElem_toArray, List.getElem_cons_zero, List.getElem_cons_succ, List.setIfInBounds_toArray, List.set_cons_zero, List.set_cons_succ]
        refine wpAnyH_take (i := 1) (v := .int .u32 (a : Int)) rfl (by kernel_rfl) (by kernel_rfl) (by kernel_rfl) (fun _ _ _ h => h) (Or.inl ⟨by kernel_rfl, fun w hSw => by (go_simp; first | done | with_reducible rfl | omega)⟩) hHeld ?_
        simp only [Act.put, List.getElem_toArray, List.getElem_cons_zero, List.getElem_cons_succ, List.setIfInBounds_toArray, List.set_cons_zero, List.set_cons_succ]
        refine wpAnyH_take (i := 3) (v := .pointer (some ⟨u6.heap.size, 0, none⟩)) rfl (by kernel_rfl) (by kernel_rfl) (by kernel_rfl) (fun _ _ _ h => h) (Or.inl ⟨by kernel_rfl, fun w hSw => by (go_simp; first | done | with_reducible rfl | omega)⟩) hHeld ?_
        simp only [Act.put, List.getElem_toArray, List.getElem_cons_zero, List.getElem_cons_succ, List.setIfInBounds_toArray, List.set_cons_zero, List.set_cons_succ]
        refine wpAnyH_take (i := 4) (v := .int .u32 (A : Int)) rfl (by kernel_rfl) (by kernel_rfl) (by kernel_rfl) (fun _ _ _ h => h) (Or.inl ⟨by kernel_rfl, fun w hSw => by (have hBw : Below u7.drew.heap.size u7.drew w := hSw; have f0 := (hBw.cell (World.block_lt_of_cell? _ _ f0)).trans f0; go_simp; first | done | with_reducible rfl | omega)⟩) hHeld ?_
        simp only [Act.put, List.getElem_toArray, List.getElem_cons_zero, List.getElem_cons_succ, List.setIfInBounds_toArray, List.set_cons_zero, List.set_cons_succ]
        refine wpAnyH_take (i := 5) (v := .int .u32 (a : Int)) rfl (by kernel_rfl) (by kernel_rfl) (by kernel_rfl) (fun _ _ _ h => h) (Or.inl ⟨by kernel_rfl, fun w hSw => by (go_simp; first | done | with_reducible rfl | omega)⟩) hHeld ?_
        simp only [Act.put, List.getElem_toArray, List.getElem_cons_zero, List.getElem_cons_succ, List.setIfInBounds_toArray, List.set_cons_zero, List.set_cons_succ]
        refine wpAnyH_take (i := 6) (v := .bool false) rfl (by kernel_rfl) (by kernel_rfl) (by kernel_rfl) (fun _ _ _ h => h) (Or.inl ⟨by kernel_rfl, fun w hSw => by (go_simp; first | done | with_reducible rfl | omega)⟩) hHeld ?_
        simp only [Act.put, List.getElem_toArray, List.getElem_cons_zero, List.getElem_cons_succ, List.setIfInBounds_toArray, List.set_cons_zero, List.set_cons_succ]
        refine wpAnyH_ready (rs := [2]) (by kernel_rfl) (by simp) ?_
        refine AllReadyH.cons rfl (fun K hK => ?_) AllReadyH.nil
        go_simp
        go_at_call 19
        refine (CHp _).mono ?_
        rintro e uh ⟨rfl, ch⟩
        have bT := hHeld.trans (ch.mono hHeld.size)
        refine hK.out _ _ (by exact bT) (fun hHeld => ?_)
        clear hK K
        try simp only [Act.put, List.getElem_toArray, List.getElem_cons_zero, List.getElem_cons_succ, List.setIfInBounds_toArray, List.set_cons_zero, List.set_cons_succ]
        refine wpAnyH_take (i := 7) (v := .bool false) rfl (by kernel_rfl) (by kernel_rfl) (by kernel_rfl) (fun _ _ _ h => h) (Or.inl ⟨by kernel_rfl, fun w hSw => by (go_simp; first | done | with_reducible rfl | omega)⟩) hHeld ?_
        simp only [Act.put, List.getElem_toArray, List.getElem_cons_zero, List.getElem_cons_succ, List.setIfInBounds_toArray, List.set_cons_zero, List.set_cons_succ]
        refine wpAnyH_take (i := 8) (v := undef) rfl (by kernel_rfl) (by kernel_rfl) (by kernel_rfl) (fun _ _ _ h => h) (Or.inr ⟨by kernel_rfl, rfl⟩) hHeld ?_
        simp only [Act.put, List.getElem_toArray, List.getElem_cons_zero, List.getElem_cons_succ, List.setIfInBounds_toArray, List.set_cons_zero, List.set_cons_succ]
        refine wpAnyH_take (i := 9) (v := undef) rfl (by kernel_rfl) (by kernel_rfl) (by kernel_rfl) (fun _ _ _ h => h) (Or.inr ⟨by kernel_rfl, rfl⟩) hHeld ?_
        simp only [Act.put, List.getElem_toArray, List.getElem_cons_zero, List.getElem_cons_succ, List.setIfInBounds_toArray, List.set_cons_zero, List.set_cons_succ]
        refine wpAnyH_take (i := 10) (v := undef) rfl (by kernel_rfl) (by kernel_rfl) (by kernel_rfl) (fun _ _ _ h => h) (Or.inr ⟨by kernel_rfl, rfl⟩) hHeld ?_
        simp only [Act.put, List.getElem_toArray, List.getElem_cons_zero, List.getElem_cons_succ, List.setIfInBounds_toArray, List.set_cons_zero, List.set_cons_succ]
        refine wpAnyH_take (i := 11) (v := undef) rfl (by kernel_rfl) (by kernel_rfl) (by kernel_rfl) (fun _ _ _ h => h) (Or.inr ⟨by kernel_rfl, rfl⟩) hHeld ?_
        simp only [Act.put, List.getElem_toArray, List.getElem_cons_zero, List.getElem_cons_succ, List.setIfInBounds_toArray, List.set_cons_zero, List.set_cons_succ]
        refine wpAnyH_take (i := 12) (v := .bool false) rfl (by kernel_rfl) (by kernel_rfl) (by kernel_rfl) (fun _ _ _ h => h) (Or.inl ⟨by kernel_rfl, fun w hSw => by (go_simp; first | done | with_reducible rfl | omega)⟩) hHeld ?_
        simp only [Act.put, List.getElem_toArray, List.getElem_cons_zero, List.getElem_cons_succ, List.setIfInBounds_toArray, List.set_cons_zero, List.set_cons_succ]
        refine wpAnyH_take (i := 13) (v := .bool false) rfl (by kernel_rfl) (by kernel_rfl) (by kernel_rfl) (fun _ _ _ h => h) (Or.inl ⟨by kernel_rfl, fun w hSw => by (go_simp; first | done | with_reducible rfl | omega)⟩) hHeld ?_
        simp only [Act.put, List.getElem_toArray, List.getElem_cons_zero, List.getElem_cons_succ, List.setIfInBounds_toArray, List.set_cons_zero, List.set_cons_succ]
        refine wpAnyH_done (by kernel_rfl) ?_ _
        replace x0 := (hHeld.cell (World.block_lt_of_cell? _ _ x0)).trans x0
        replace x1 := (hHeld.cell (World.block_lt_of_cell? _ _ x1)).trans x1
        replace r0 := (hHeld.cell (World.block_lt_of_cell? _ _ r0)).trans r0
        replace r1 := (hHeld.cell (World.block_lt_of_cell? _ _ r1)).trans r1
        replace f0 := (hHeld.cell (World.block_lt_of_cell? _ _ f0)).trans f0
        replace f1 := (hHeld.cell (World.block_lt_of_cell? _ _ f1)).trans f1
        replace bb := bb.trans (hHeld.mono bb.size)
        by_cases h1 : withinP A L0 B L1
        · have CW1 := fun w => within_any18 A B L0 L1 true w hA hB l0 l1 m0 m1 ⟨fun _ => h1, fun _ => rfl⟩
          clear h1 hhp
          go_wp2_with fail
          refine (CW1 _).mono ?_
          rintro e u8 ⟨rfl, c8⟩
          replace x0 := (c8.cell (World.block_lt_of_cell? _ _ x0)).trans x0
          replace x1 := (c8.cell (World.block_lt_of_cell? _ _ x1)).trans x1
          replace r0 := (c8.cell (World.block_lt_of_cell? _ _ r0)).trans r0
          replace r1 := (c8.cell (World.block_lt_of_cell? _ _ r1)).trans r1
          replace f0 := (c8.cell (World.block_lt_of_cell? _ _ f0)).trans f0
          replace f1 := (c8.cell (World.block_lt_of_cell? _ _ f1)).trans f1
          replace bb := bb.trans (c8.mono bb.size)
          clear c8
          go_wp2_with fail
          refine (CHp _).mono ?_
          rintro e u9 ⟨rfl, c9⟩
          replace x0 := (c9.cell (World.block_lt_of_cell? _ _ x0)).trans x0
          replace x1 := (c9.cell (World.block_lt_of_cell? _ _ x1)).trans x1
          replace r0 := (c9.cell (World.block_lt_of_cell? _ _ r0)).trans r0
          replace r1 := (c9.cell (World.block_lt_of_cell? _ _ r1)).trans r1
          replace f0 := (c9.cell (World.block_lt_of_cell? _ _ f0)).trans f0
          replace f1 := (c9.cell (World.block_lt_of_cell? _ _ f1)).trans f1
          replace bb := bb.trans (c9.mono bb.size)
          clear c9
          go_wp2_with fail
          refine (CW1 _).mono ?_
          rintro e u10 ⟨rfl, c10⟩
          replace x0 := (c10.cell (World.block_lt_of_cell? _ _ x0)).trans x0
          replace x1 := (c10.cell (World.block_lt_of_cell? _ _ x1)).trans x1
          replace r0 := (c10.cell (World.block_lt_of_cell? _ _ r0)).trans r0
          replace r1 := (c10.cell (World.block_lt_of_cell? _ _ r1)).trans r1
          replace f0 := (c10.cell (World.block_lt_of_cell? _ _ f0)).trans f0
          replace f1 := (c10.cell (World.block_lt_of_cell? _ _ f1)).trans f1
          replace bb := bb.trans (c10.mono bb.size)
          clear c10
          go_wp2
          go_ret
          exact ⟨rfl, bb⟩
        · by_cases h2 : withinP B L1 A L0
          · have CW1 := fun w => within_any18 A B L0 L1 false w hA hB l0 l1 m0 m1 ⟨fun h => Bool.noConfusion h, fun h => absurd h h1⟩
            have CW2 := fun w => within_any18 B A L1 L0 true w hB hA m0 m1 l0 l1 ⟨fun _ => h2, fun _ => rfl⟩
            clear h1 h2 hhp
            go_wp2_with fail
            refine (CW1 _).mono ?_
            rintro e u8 ⟨rfl, c8⟩
            replace x0 := (c8.cell (World.block_lt_of_cell? _ _ x0)).trans x0
            replace x1 := (c8.cell (World.block_lt_of_cell? _ _ x1)).trans x1
            replace r0 := (c8.cell (World.block_lt_of_cell? _ _ r0)).trans r0
            replace r1 := (c8.cell (World.block_lt_of_cell? _ _ r1)).trans r1
            replace f0 := (c8.cell (World.block_lt_of_cell? _ _ f0)).trans f0
            replace f1 := (c8.cell (World.block_lt_of_cell? _ _ f1)).trans f1
            replace bb := bb.trans (c8.mono bb.size)
            clear c8
            go_wp2_with fail
            refine (CW1 _).mono ?_
            rintro e u9 ⟨rfl, c9⟩
            replace x0 := (c9.cell (World.block_lt_of_cell? _ _ x0)).trans x0
            replace x1 := (c9.cell (World.block_lt_of_cell? _ _ x1)).trans x1
            replace r0 := (c9.cell (World.block_lt_of_cell? _ _ r0)).trans r0
            replace r1 := (c9.cell (World.block_lt_of_cell? _ _ r1)).trans r1
            replace f0 := (c9.cell (World.block_lt_of_cell? _ _ f0)).trans f0
            replace f1 := (c9.cell (World.block_lt_of_cell? _ _ f1)).trans f1
            replace bb := bb.trans (c9.mono bb.size)
            clear c9
            go_wp2_with fail
            refine (CW2 _).mono ?_
            rintro e u10 ⟨rfl, c10⟩
            replace x0 := (c10.cell (World.block_lt_of_cell? _ _ x0)).trans x0
            replace x1 := (c10.cell (World.block_lt_of_cell? _ _ x1)).trans x1
            replace r0 := (c10.cell (World.block_lt_of_cell? _ _ r0)).trans r0
            replace r1 := (c10.cell (World.block_lt_of_cell? _ _ r1)).trans r1
            replace f0 := (c10.cell (World.block_lt_of_cell? _ _ f0)).trans f0
            replace f1 := (c10.cell (World.block_lt_of_cell? _ _ f1)).trans f1
            replace bb := bb.trans (c10.mono bb.size)
            clear c10
            go_wp2
            go_ret
            exact ⟨rfl, bb⟩
          · have CW1 := fun w => within_any18 A B L0 L1 false w hA hB l0 l1 m0 m1 ⟨fun h => Bool.noConfusion h, fun h => absurd h h1⟩
            have CW2 := fun w => within_any18 B A L1 L0 false w hB hA m0 m1 l0 l1 ⟨fun h => Bool.noConfusion h, fun h => absurd h h2⟩
            clear h1 h2 hhp
            go_wp2_with fail
            refine (CW1 _).mono ?_
            rintro e u8 ⟨rfl, c8⟩
            replace x0 := (c8.cell (World.block_lt_of_cell? _ _ x0)).trans x0
            replace x1 := (c8.cell (World.block_lt_of_cell? _ _ x1)).trans x1
            replace r0 := (c8.cell (World.block_lt_of_cell? _ _ r0)).trans r0
            replace r1 := (c8.cell (World.block_lt_of_cell? _ _ r1)).trans r1
            replace f0 := (c8.cell (World.block_lt_of_cell? _ _ f0)).trans f0
            replace f1 := (c8.cell (World.block_lt_of_cell? _ _ f1)).trans f1
            replace bb := bb.trans (c8.mono bb.size)
            clear c8
            go_wp2_with fail
            refine (CW1 _).mono ?_
            rintro e u9 ⟨rfl, c9⟩
            replace x0 := (c9.cell (World.block_lt_of_cell? _ _ x0)).trans x0
            replace x1 := (c9.cell (World.block_lt_of_cell? _ _ x1)).trans x1
            replace r0 := (c9.cell (World.block_lt_of_cell? _ _ r0)).trans r0
            replace r1 := (c9.cell (World.block_lt_of_cell? _ _ r1)).trans r1
            replace f0 := (c9.cell (World.block_lt_of_cell? _ _ f0)).trans f0
            replace f1 := (c9.cell (World.block_lt_of_cell? _ _ f1)).trans f1
            replace bb := bb.trans (c9.mono bb.size)
            clear c9
            go_wp2_with fail
            refine (CW2 _).mono ?_
            rintro e u10 ⟨rfl, c10⟩
            replace x0 := (c10.cell (World.block_lt_of_cell? _ _ x0)).trans x0
            replace x1 := (c10.cell (World.block_lt_of_cell? _ _ x1)).trans x1
            replace r0 := (c10.cell (World.block_lt_of_cell? _ _ r0)).trans r0
            replace r1 := (c10.cell (World.block_lt_of_cell? _ _ r1)).trans r1
            replace f0 := (c10.cell (World.block_lt_of_cell? _ _ f0)).trans f0
            replace f1 := (c10.cell (World.block_lt_of_cell? _ _ f1)).trans f1
            replace bb := bb.trans (c10.mono bb.size)
            clear c10
            go_wp2_with fail
            refine (CHp _).mono ?_
            rintro e u11 ⟨rfl, c11⟩
            replace x0 := (c11.cell (World.block_lt_of_cell? _ _ x0)).trans x0
            replace x1 := (c11.cell (World.block_lt_of_cell? _ _ x1)).trans x1
            replace r0 := (c11.cell (World.block_lt_of_cell? _ _ r0)).trans r0
            replace r1 := (c11.cell (World.block_lt_of_cell? _ _ r1)).trans r1
            replace f0 := (c11.cell (World.block_lt_of_cell? _ _ f0)).trans f0
            replace f1 := (c11.cell (World.block_lt_of_cell? _ _ f1)).trans f1
            replace bb := bb.trans (c11.mono bb.size)
            clear c11
            go_wp2
            go_ret
            exact ⟨rfl, bb⟩
    · have CYp := fun w => may_any18 A L0 true w hA l0 l1 ⟨fun _ => hp, fun _ => rfl⟩
      have CYq := fun w => may_any18 B L1 false w hB m0 m1 ⟨fun h => Bool.noConfusion h, fun h => absurd h hq⟩
      have CW1 := fun w => within_any18 A B L0 L1 false w hA hB l0 l1 m0 m1 ⟨fun h => Bool.noConfusion h, fun h => absurd h (fun h => hq h.2.2.1)⟩
      go_enter Tryd.func6, Tryd.ntmps6
      go_upto_region 1 with (fail)
      have bb := Below.refl w.heap.size w
      obtain ⟨u1, hu1, x0, x1, c1, _⟩ := pairbox w 24 (.int .u32 (A : Int)) (.int .i64 L0)
      rw [hu1]
      have hsz : u1.heap.size = w.heap.size + 1 := by rw [← hu1, World.size_alloc]
      clear hu1
      replace bb := bb.trans (c1.mono bb.size)
      obtain ⟨u2, hu2, r0, r1, c2, _⟩ := pairbox u1 24 (.int .u32 (B : Int)) (.int .i64 L1)
      rw [hu2]
      clear hu2
      replace x0 := (c2.cell (World.block_lt_of_cell? _ _ x0)).trans x0
      replace x1 := (c2.cell (World.block_lt_of_cell? _ _ x1)).trans x1
      replace bb := bb.trans (c2.mono bb.size)
      rw [hsz] at r0 r1
      clear c1 c2 hsz
      go_wp2_with fail
      refine (works18_any _ (HT.out.below bb)).mono ?_
      rintro e u3 ⟨rfl, c3⟩
      replace x0 := (c3.cell (World.block_lt_of_cell? _ _ x0)).trans x0
      replace x1 := (c3.cell (World.block_lt_of_cell? _ _ x1)).trans x1
      replace r0 := (c3.cell (World.block_lt_of_cell? _ _ r0)).trans r0
      replace r1 := (c3.cell (World.block_lt_of_cell? _ _ r1)).trans r1
      replace bb := bb.trans (c3.mono bb.size)
      clear c3
      go_wp2_with fail
      refine (CYp _).mono ?_
      rintro e u4 ⟨rfl, c4⟩
      replace x0 := (c4.cell (World.block_lt_of_cell? _ _ x0)).trans x0
      replace x1 := (c4.cell (World.block_lt_of_cell? _ _ x1)).trans x1
      replace r0 := (c4.cell (World.block_lt_of_cell? _ _ r0)).trans r0
      replace r1 := (c4.cell (World.block_lt_of_cell? _ _ r1)).trans r1
      replace bb := bb.trans (c4.mono bb.size)
      clear c4
      go_wp2_with fail
      refine (CYq _).mono ?_
      rintro e u5 ⟨rfl, c5⟩
      replace x0 := (c5.cell (World.block_lt_of_cell? _ _ x0)).trans x0
      replace x1 := (c5.cell (World.block_lt_of_cell? _ _ x1)).trans x1
      replace r0 := (c5.cell (World.block_lt_of_cell? _ _ r0)).trans r0
      replace r1 := (c5.cell (World.block_lt_of_cell? _ _ r1)).trans r1
      replace bb := bb.trans (c5.mono bb.size)
      clear c5
      go_wp2_with fail
      refine (CW1 _).mono ?_
      rintro e u6 ⟨rfl, c6⟩
      replace x0 := (c6.cell (World.block_lt_of_cell? _ _ x0)).trans x0
      replace x1 := (c6.cell (World.block_lt_of_cell? _ _ x1)).trans x1
      replace r0 := (c6.cell (World.block_lt_of_cell? _ _ r0)).trans r0
      replace r1 := (c6.cell (World.block_lt_of_cell? _ _ r1)).trans r1
      replace bb := bb.trans (c6.mono bb.size)
      clear c6
      go_wp2
      go_ret
      exact ⟨rfl, bb⟩
  · have CYp := fun w => may_any18 A L0 false w hA l0 l1 ⟨fun h => Bool.noConfusion h, fun h => absurd h hp⟩
    have CW1 := fun w => within_any18 A B L0 L1 false w hA hB l0 l1 m0 m1 ⟨fun h => Bool.noConfusion h, fun h => absurd h (fun h => hp h.1)⟩
    go_enter Tryd.func6, Tryd.ntmps6
    go_upto_region 1 with (fail)
    have bb := Below.refl w.heap.size w
    obtain ⟨u1, hu1, x0, x1, c1, _⟩ := pairbox w 24 (.int .u32 (A : Int)) (.int .i64 L0)
    rw [hu1]
    have hsz : u1.heap.size = w.heap.size + 1 := by rw [← hu1, World.size_alloc]
    clear hu1
    replace bb := bb.trans (c1.mono bb.size)
    obtain ⟨u2, hu2, r0, r1, c2, _⟩ := pairbox u1 24 (.int .u32 (B : Int)) (.int .i64 L1)
    rw [hu2]
    clear hu2
    replace x0 := (c2.cell (World.block_lt_of_cell? _ _ x0)).trans x0
    replace x1 := (c2.cell (World.block_lt_of_cell? _ _ x1)).trans x1
    replace bb := bb.trans (c2.mono bb.size)
    rw [hsz] at r0 r1
    clear c1 c2 hsz
    go_wp2_with fail
    refine (works18_any _ (HT.out.below bb)).mono ?_
    rintro e u3 ⟨rfl, c3⟩
    replace x0 := (c3.cell (World.block_lt_of_cell? _ _ x0)).trans x0
    replace x1 := (c3.cell (World.block_lt_of_cell? _ _ x1)).trans x1
    replace r0 := (c3.cell (World.block_lt_of_cell? _ _ r0)).trans r0
    replace r1 := (c3.cell (World.block_lt_of_cell? _ _ r1)).trans r1
    replace bb := bb.trans (c3.mono bb.size)
    clear c3
    go_wp2_with fail
    refine (CYp _).mono ?_
    rintro e u4 ⟨rfl, c4⟩
    replace x0 := (c4.cell (World.block_lt_of_cell? _ _ x0)).trans x0
    replace x1 := (c4.cell (World.block_lt_of_cell? _ _ x1)).trans x1
    replace r0 := (c4.cell (World.block_lt_of_cell? _ _ r0)).trans r0
    replace r1 := (c4.cell (World.block_lt_of_cell? _ _ r1)).trans r1
    replace bb := bb.trans (c4.mono bb.size)
    clear c4
    go_wp2_with fail
    refine (CW1 _).mono ?_
    rintro e u5 ⟨rfl, c5⟩
    replace x0 := (c5.cell (World.block_lt_of_cell? _ _ x0)).trans x0
    replace x1 := (c5.cell (World.block_lt_of_cell? _ _ x1)).trans x1
    replace r0 := (c5.cell (World.block_lt_of_cell? _ _ r0)).trans r0
    replace r1 := (c5.cell (World.block_lt_of_cell? _ _ r1)).trans r1
    replace bb := bb.trans (c5.mono bb.size)
    clear c5
    go_wp2
    go_ret
    exact ⟨rfl, bb⟩

set_option maxRecDepth 100000 in
theorem lifted (os : Os) (started : os.Started) (H : Type) (enc : TypeId × Value → H) :
    ReturnsInHanded {} Tryd.checked os 6 .any (fun w args => (Rows.addrRangeSpec.pre enc Tryd.prog Tryd.f6 Rows.addrRangeRow.domain false w args ∧ laidMetH Tryd.prog Rows.addrRangeRow.laid w) ∧ sizedMet enc Tryd.prog Tryd.f6 (OpenSpec.ofChange Rows.addrRangeSpec) false w args)
      (Rows.addrRangeSpec.post enc Tryd.prog Tryd.f6 false true false false) := by
  refine returnsInHanded_of_change_and (C := Tryd.checked) (X := fun w _ => laidMetH Tryd.prog Rows.addrRangeRow.laid w) (fun _ _ _ hh h => h.of_heap hh) own started (by kernel_rfl) Tryd.func6
    (ChangeSpec.witness_shaped (enc := enc) (C := Tryd.checked) (os := os) (X := fun w _ => laidMetH Tryd.prog Rows.addrRangeRow.laid w) false (World.laidAll Tryd.prog os Rows.addrRangeRow.laid) #[.agg #[.int .u32 0, .int .i64 0], .agg #[.int .u32 0, .int .i64 0], .int .u32 0] 8 (World.laidAll_os _ _ _)
      (World.shaped_of_ZipB (by kernel_rfl) (by kernel_rfl)) (by kernel_rfl) (by kernel_rfl) (by kernel_rfl)
      (by rw [MakeChecks.laidMetH_plain _ _ _ (by kernel_rfl)]; exact laidMet_laidAll _ (by kernel_rfl) (by kernel_rfl))) ?_
  intro W base args ds gs before hval0 hW hcnd _ hL _
  have hval : ∀ (j : Nat) t v, Tryd.f6.params[j]? = some t → args[j]? = some v → Value.okWide Tryd.prog W .any base t v := hval0
  have hW' := hW
  obtain ⟨p, q, hA0, hV, rfl, hfz, hnd⟩ := hW
  have hA : DataW.TrodAll enc Tryd.prog W 0 (fun _ => true) true Tryd.f6.params.toList args.toList ds p := hA0
  rw [Tryd.params6] at hA hval
  obtain ⟨v0, vs0, d0, ds0, p0, q0, hargs, rfl, rfl, t0, r0⟩ := trodAll_cons hA
  obtain ⟨v1, vs1, d1, ds1, p1, q1, rfl, rfl, rfl, t1, r1⟩ := trodAll_cons r0
  obtain ⟨v2, vs2, d2, ds2, p2, q2, rfl, rfl, rfl, t2, r2⟩ := trodAll_cons r1
  obtain ⟨rfl, rfl, rfl⟩ := trodAll_nil r2
  obtain rfl : args = #[v0, v1, v2] := by cases args; simp_all
  obtain ⟨rfl, rfl⟩ := trodVars_none hV
  obtain ⟨A0, L0, rfl, wA0, wL0⟩ := arg_px Tryd.underlying24 (by kernel_rfl) (by kernel_rfl) Tryd.underlying22 Tryd.underlying3 (hval 0 24 v0 rfl rfl) t0
  obtain ⟨A1, L1, rfl, wA1, wL1⟩ := arg_px Tryd.underlying24 (by kernel_rfl) (by kernel_rfl) Tryd.underlying22 Tryd.underlying3 (hval 1 24 v1 rfl rfl) t1
  obtain ⟨a2, rfl, hd2, hp2, wf2⟩ := open_int Tryd.underlying22 (hval 2 22 v2 rfl rfl) t2
  clear hA0 hval0
  simp only [List.append_nil] at hW'
  have hlt0 : ∀ x ∈ p0, x.block < W.heap.size := fun x hx => hW'.lt x (List.mem_append_left _ hx)
  have hlt1 : ∀ x ∈ p1, x.block < W.heap.size := fun x hx => hW'.lt x (List.mem_append_right _ (List.mem_append_left _ hx))
  have hlt2 : ∀ x ∈ p2, x.block < W.heap.size := fun x hx => hW'.lt x (List.mem_append_right _ (List.mem_append_right _ (hx)))
  refine (walk A0 L0 A1 L1 a2 W (tab_of W hL) wA0 wL0 wA1 wL1 wf2).mono fun e W' ⟨he, hb⟩ => ?_
  subst he
  have s0 := Below.trod laidOut (by kernel_rfl) (of_decide_eq_true (by kernel_rfl)) t0 hb hlt0
  have s1 := Below.trod laidOut (by kernel_rfl) (of_decide_eq_true (by kernel_rfl)) t1 hb hlt1
  have s2 := Below.trod laidOut (by kernel_rfl) (of_decide_eq_true (by kernel_rfl)) t2 hb hlt2
  exact ⟨_, rfl, _, _, _, [] ++ [], _, [], hW', trodAll_cons_mk (shut_bool Tryd.underlying4 _) trodAll_mk0, trodAll_cons_mk s0 (trodAll_cons_mk s1 (trodAll_cons_mk s2 (trodAll_mk0))), rfl, hb.frame _, fun h => by cases h⟩

theorem over : Rows.addrRangeRow.holds Tryd.pinned (OpenSpec.ofChange Rows.addrRangeSpec) :=
  OpenClaim.holds_of_wide 6 Tryd.f6 rfl rfl rfl rfl rfl rfl rfl ⟨rfl, rfl, rfl, rfl, rfl⟩ rfl rfl rfl rfl rfl (by kernel_rfl) Tryd.func6 (by kernel_rfl)
    (of_decide_eq_true (by kernel_rfl)) (by unfold Func.isWrapper; first | (rw [if_pos (by decide +kernel)]; kernel_rfl) | (rw [if_neg (by decide +kernel)]; exact ⟨rfl, rfl⟩))
    (fun os started H enc _ => lifted os started H enc)

/-- The statement: the card. -/
theorem proved : Rows.AddrRangeCardSaid :=
  Claim7.holds_tied_plain_at .later [] [.data, .data, .data] true _ false over (fun _ h => by cases h) (by kernel_rfl) (fun _ h => by cases h) addrRange_row_tie rfl ⟨rfl, rfl⟩ (by kernel_rfl) rfl
    (fun f fn hf hfn => by
      obtain rfl : f = 6 := Option.some.inj ((show Tryd.prog.funcNamed Rows.addrRangeRow.func = some 6 by kernel_rfl).symm.trans hf) |>.symm
      obtain rfl : fn = Tryd.f6 := (Option.some.inj (Tryd.func6.symm.trans hfn)).symm
      exact ⟨by kernel_rfl, fun j t ht => by
        rw [Tryd.params6] at ht
        have hm : t ∈ [24, 24, 22] := by simpa using Array.mem_of_getElem? ht
        have hall : ([24, 24, 22].all fun u => !Tryd.prog.wantsStandIn u) = true := by kernel_rfl
        exact (show Tryd.prog.wantsStandIn t = false by simpa using List.all_eq_true.1 hall t hm)⟩)
    (by kernel_rfl)
end Go.Proofs.YtbfflcpmagjlnaaDoor.addrRange
