/- The example of layer 18; a prefix as an argument; the table of the powers of ten out of the row's list. Condition: as each says. -/
import Derived.Test.YtbfflcpmagjlnaaDoorAdrR
import Derived.OpenShut
import Derived.Lib.SmallJoins
import Derived.ProofKit
import Derived.LaidMore
import Derived.MakeChecks
import Derived.Stop.LaidErr
import Derived.Lib.LaidTab
namespace Go.Proofs.YtbfflcpmagjlnaaDoor.adr
open Go.ChangeShapes Go.WideShapes Go.ChangeAt Go.Joins Go.Deep Go.RowKit Go.Proofs.YtbfflcpmagjlnaaDoor.num Go.Proofs.YtbfflcpmagjlnaaDoor.mem Go.Proofs.YtbfflcpmagjlnaaDoor.txt Go.Proofs.YtbfflcpmagjlnaaDoor.str
set_option linter.unusedVariables false
set_option linter.unusedSimpArgs false
theorem arg_px {H : Type} {enc : TypeId × Value → H} {P : Program} {W : World} {base : Nat} {t : TypeId} {f0 f1 : Field} {v : Value} {d : DataW H} {p : List MemPlace} (hs : P.underlying t = some (.struct #[f0, f1])) (hone : oneCellFields P #[f0, f1] = true) (hC : P.cellsOf t = 2)
    (h0 : P.underlying f0.type = some (.int .u32)) (h1 : P.underlying f1.type = some (.int .i64))
    (hv : Value.okWide P W .any base t v) (h : DataW.Trod enc P W 0 (fun _ => true) true t v d p) : ∃ A L : Int, v = .agg #[.int .u32 A, .int .i64 L] ∧ (Lit.int .u32 A).wf = true ∧ (Lit.int .i64 L).wf = true := by
  obtain ⟨v0, v1, y0, y1, n, rfl, _, _, g0, g1⟩ := open_agg2 hs hone hC hv h
  obtain ⟨A, e0, _, wa⟩ := DataW.trod_int h0 g0
  obtain ⟨L, e1, _, wl⟩ := DataW.trod_int h1 g1
  injection e0 with e0 _
  injection e1 with e1 _
  subst e0
  subst e1
  exact ⟨A, L, rfl, wa, wl⟩
theorem tab_of (W : World) (h : laidMetH Tryd.prog [("math/bits.deBruijn32tab", Rows.laid_math_bits_deBruijn32tab), ("math/bits.deBruijn64tab", Rows.laid_math_bits_deBruijn64tab), ("internal/strconv.uint64pow10", Rows.laid_internal_strconv_uint64pow10)] W) : Tab W := by
  rw [MakeChecks.laidMetH_plain _ _ _ (by kernel_rfl)] at h
  have h2 := h.tail.tail
  exact Lib.tabIs_of_head (g := 1) (t := 83) (e := 55) (n := 20) (by kernel_rfl) (by kernel_rfl) Tryd.underlying83 Tryd.underlying55 (by kernel_rfl) (by kernel_rfl) h2
theorem u32_of {A : Int} (h : (Lit.int .u32 A).wf = true) : ∃ a : Nat, A = (a : Int) ∧ a < 4294967296 := by
  have h1 : 0 ≤ A ∧ A ≤ 4294967295 := by
    have := h
    simp [Lit.wf, IntKind.min, IntKind.max, IntKind.signed, IntKind.bits] at this
    omega
  exact ⟨A.toNat, by omega, by omega⟩
theorem i64_of {L : Int} (h : (Lit.int .i64 L).wf = true) : -9223372036854775808 ≤ L ∧ L ≤ 9223372036854775807 := by
  have := h
  simp [Lit.wf, IntKind.min, IntKind.max, IntKind.signed, IntKind.bits] at this
  omega
def exA : List UInt8 := [49, 48, 46, 48, 46, 48, 46, 48, 47, 56]
def exB : List UInt8 := [49, 48, 46, 49, 46, 50, 46, 51]
def exC : List UInt8 := [49, 48, 46, 48, 46, 48, 46, 49, 47, 56]
theorem exA_is : pfxE exA = (0, 167772160, 8) := by decide +kernel
theorem exB_is : adrE exB 5 22 = (0, 167838211) := by decide +kernel
theorem exC_is : pfxE exC = (22, 0, 0) := by decide +kernel
theorem dec_some : Lib.decDigits 10 = [49, 48] ∧ Lib.decDigits 0 = [48] ∧ Lib.decDigits 1 = [49] ∧ Lib.decDigits 2 = [50] ∧ Lib.decDigits 3 = [51] ∧ Lib.decDigits 8 = [56] :=
  ⟨by rw [Lib.decDigits_two (by omega) (by omega)]; rfl, by rw [Lib.decDigits_one (by omega)]; rfl, by rw [Lib.decDigits_one (by omega)]; rfl, by rw [Lib.decDigits_one (by omega)]; rfl, by rw [Lib.decDigits_one (by omega)]; rfl, by rw [Lib.decDigits_one (by omega)]; rfl⟩
theorem exA_txt : txtP 167772160 8 = exA := by
  obtain ⟨d10, d0, d1, d2, d3, d8⟩ := dec_some
  have hm : mayP 167772160 8 := by decide +kernel
  unfold txtP txtA
  rw [if_pos hm, show byteP 167772160 0 = 10 by decide +kernel, show byteP 167772160 1 = 0 by decide +kernel, show byteP 167772160 2 = 0 by decide +kernel, show byteP 167772160 3 = 0 by decide +kernel, show (8 : Int).toNat = 8 from rfl, d10, d0, d8]
  rfl
theorem exB_txt : txtA 167838211 = exB := by
  obtain ⟨d10, d0, d1, d2, d3, d8⟩ := dec_some
  unfold txtA
  rw [show byteP 167838211 0 = 10 by decide +kernel, show byteP 167838211 1 = 1 by decide +kernel, show byteP 167838211 2 = 2 by decide +kernel, show byteP 167838211 3 = 3 by decide +kernel, d10, d1, d2, d3]
  rfl
theorem exHas : hasP 167772160 8 167838211 := by decide +kernel
set_option maxHeartbeats 3200000 in
set_option maxRecDepth 100000 in
theorem works18_any (w : World) (ht : Tab w) : Calls Tryd.prog 15 #[] w (RetV (.bool true) w) := by
  have HT := Lib.hid ht
  clear ht
  have CA := fun w => prefix_any18 ⟨#[49, 48, 46, 48, 46, 48, 46, 48, 47, 56]⟩ exA 167772160 8 0 w rfl (by decide) exA_is
  have CB := fun w => parse_any ⟨#[49, 48, 46, 49, 46, 50, 46, 51]⟩ exB 167838211 0 w rfl (by decide) exB_is
  have CC := fun w => prefix_any18 ⟨#[49, 48, 46, 48, 46, 48, 46, 49, 47, 56]⟩ exC 0 0 22 w rfl (by decide) exC_is
  have CH := fun w => has_any18 167772160 167838211 8 true w (by decide) (by decide) (by decide) (by decide) ⟨fun _ => exHas, fun _ => rfl⟩
  have CT := fun w ht => text_any18 167772160 8 w (by decide) (by decide) (by decide) ht
  have CP := fun w ht => print_any18 167838211 w (by decide) ht
  rw [exA_txt] at CT
  rw [exB_txt] at CP
  obtain ⟨pA, hpA⟩ : ∃ x : Int, x = ((167772160 : Nat) : Int) := ⟨_, rfl⟩
  obtain ⟨pL, hpL⟩ : ∃ x : Int, x = ((8 : Nat) : Int) := ⟨_, rfl⟩
  have e8 : (8 : Int) = pL := hpL.symm
  obtain ⟨aB, haB⟩ : ∃ x : Int, x = ((167838211 : Nat) : Int) := ⟨_, rfl⟩
  unfold RetPX at CA
  unfold RetAE at CB
  rw [← hpA] at CA CH CT
  rw [← hpL] at CA
  rw [e8] at CH CT
  rw [← haB] at CB CH CP
  clear hpA hpL haB e8
  go_enter Tryd.func15, Tryd.ntmps15
  go_wp2_with fail
  refine (CA _).mono ?_
  rintro e w1 ⟨rfl, b1⟩
  go_upto_region 2 with (fail)
  obtain ⟨w2, hw2, x0, x1, b2, lt2⟩ := pairbox w1 24 (.int .u32 pA) (.int .i64 pL)
  rw [hw2]
  clear hw2
  have bb2 := b1.trans (b2.mono b1.size)
  go_wp2_with fail
  refine (CB _).mono ?_
  rintro e w3 ⟨rfl, b3⟩
  have y0 := (b3.cell lt2).trans x0
  have y1 := (b3.cell lt2).trans x1
  have lt3 := Nat.lt_of_lt_of_le lt2 b3.size
  have bb3 := bb2.trans (b3.mono bb2.size)
  clear x0 x1
  go_wp2_with fail
  refine (CC _).mono ?_
  rintro e w4 ⟨rfl, b4⟩
  have z0 := (b4.cell lt3).trans y0
  have z1 := (b4.cell lt3).trans y1
  have lt4 := Nat.lt_of_lt_of_le lt3 b4.size
  have bb4 := bb3.trans (b4.mono bb3.size)
  clear y0 y1
  go_upto_region 4 with (fail)
  obtain ⟨w5, hw5, _, _, b5, _⟩ := pairbox w4 24 (.int .u32 0) (.int .i64 0)
  rw [hw5]
  clear hw5
  have q0 := (b5.cell lt4).trans z0
  have q1 := (b5.cell lt4).trans z1
  have bb5 := bb4.trans (b5.mono bb4.size)
  have lt5 := Nat.lt_of_lt_of_le lt4 b5.size
  clear z0 z1
  go_wp2_with fail
  refine (CH _).mono ?_
  rintro e w6 ⟨rfl, b6⟩
  have z0 := (b6.cell lt5).trans q0
  have z1 := (b6.cell lt5).trans q1
  have bb6 := bb5.trans (b6.mono bb5.size)
  clear q0 q1
  go_wp2_with fail
  refine (CT _ (HT.out.below bb6)).mono ?_
  rintro e w7 ⟨R7, rfl, t7, b7⟩
  have bb7 := bb6.trans (b7.mono bb6.size)
  have e7 : (R7.toList == [49, 48, 46, 48, 46, 48, 46, 48, 47, 56]) = true := by rw [Lib.toList_data, show R7.data.toList = exA from t7]; rfl
  go_wp2_with fail
  refine (CP _ (HT.out.below bb7)).mono ?_
  rintro e w8 ⟨R8, rfl, t8, b8⟩
  have bb8 := bb7.trans (b8.mono bb7.size)
  have e8 : (R8.toList == [49, 48, 46, 49, 46, 50, 46, 51]) = true := by rw [Lib.toList_data, show R8.data.toList = exB from t8]; rfl
  go_wp2
  go_ret
  exact ⟨rfl, bb8⟩
end Go.Proofs.YtbfflcpmagjlnaaDoor.adr
