/- Package bareiss: Minor, Det. Condition: as each says.
The chapter's example of layer 15. Condition: as each says.
Rows of whole numbers that grow by append, whose whole block holds signs and slices alone: what lies elsewhere stays. Condition: as each says.
Package gauss: up: a range over slices.Backward. Condition: as each says.
Package gauss: square, Det; ints compared. Condition: as each says.
Package gauss: Kernel. Condition: as each says.
Rows of whole numbers that grow: appends in regions; what is kept. An argument as a table of whole numbers. Condition: as each says.
Few of a table of whole numbers: two tables of the call's own that grow side by side. Condition: as each says.
Few of a table of whole numbers. Condition: as it says.
An argument as a table of whole numbers ([][]api.Int): its opening. Condition: as it says.
The document's Square of layer 15. Condition: as it says.
Rows of whole numbers as pairs: a whole row, or a part of one, put behind another one; a number written in place. Condition: as each says.
What Solve's rows hold at the end of Bareiss' way: a times them is b times the last pivot, and each is a determinant (Cramer), but for one sign. Mathematics: no program stands here.
Determinants of whole numbers by the first row, and sums. Mathematics alone: no program stands here.
The document's Reduce. Condition: as each says.
The document's Det. Condition: as each says.
The document's determinant of layer 15, by recursion. Condition: at most four rows, of numbers of at most two limbs.
The library's Grow (of nothing) and Concat, at rows of whole numbers. Condition: as each says.
Layer 15: two tables of whole numbers beside each other; what Solve's answer is. Mathematics, and words of memory. Condition: as each says.
Package bareiss: Solve. Condition: as it says.
Layer 15: a table copied by append and written in place; two rows changed about, a row added to another one: what becomes of the determinant. Condition: as each says.
The statements' own product of tables (triviumlaw15.times). Condition: small tables that fit.
The document's Solve of layer 15: Cramer's way. Condition: small tables that fit. -/
import Derived.Test.YteijlcfhenlanaaKD3
import Derived.RangeFuncFrom
import Derived.RangeFuncCalls
import Derived.RangeFuncLeaves
import Derived.Shelf.Abstract
import Derived.Shelf.RegionOpen
import Derived.WalkKit
import Derived.OwnWalkIn
import Derived.TacticsInMore
import Derived.LoopNIn
import Derived.LoopIn
import Derived.Deep.RegionHeld
import Derived.Lib.AppendZerosOnto
namespace Go.Proofs.Yteijlcfhenlanaa.rat
open Go.RowKit Go.Proofs.Yteijlcfhenlanaa.num Go.Proofs.Yteijlcfhenlanaa.mem Go.Proofs.Yteijlcfhenlanaa.nat Go.Proofs.Yteijlcfhenlanaa.txt Go.Proofs.Yteijlcfhenlanaa.str Go.Proofs.Yteijlcfhenlanaa.flow Go.Proofs.Yteijlcfhenlanaa.whl
set_option linter.unusedVariables false
set_option linter.unusedSimpArgs false
/-- The determinant of the first n rows and places; or refused. -/
def RetMin (T : List (List Int)) (N : Int) (w : World) (e : Ending) (w' : World) : Prop := Below w.heap.size w w' ∧ (((squareI T ∧ 0 ≤ N ∧ N ≤ T.length) ∧ ∃ v z, e = .returned (.tuple #[v, .int .i64 0]) ∧ IsZ w' v z ∧ lenZ z ≤ 5000 ∧ (z : Rat) = detF N.toNat (qF (entI T))) ∨ (¬ (squareI T ∧ 0 ≤ N ∧ N ≤ T.length) ∧ e = .returned (.tuple #[.agg #[.bool false, .slice none 0 0], .int .i64 8])))
theorem lenZ_sgn {b : Bool} {x : Int} {m : Nat} (h : lenZ x ≤ m) : lenZ (sgn b x) ≤ m := by
 unfold sgn
 split
 ·exact lenZ_neg_le h
 ·exact h
set_option maxHeartbeats 6400000 in
set_option maxRecDepth 100000 in
theorem bminor_any (a0 : Value) (T : List (List Int)) (N : Int) (S : Nat) (w : World) (h0 : SlW .u64 4294967296 w a0 T) (hc : Hid (lenI T S ∧ (S + 1) * 2 ^ T.length ≤ 5001)) :
  Calls Try.prog 9 #[a0, .int .i64 N] w (RetMin T N w) := by
 have st0 := h0
 obtain ⟨A0, c0, rfl, hc0, hm0⟩ := h0.shape
 unfold maxLen at hm0
 have ba0 := below_alloc (w := w) (Nat.le_refl _) (.cells #[.bool false, .slice none 0 0] 29)
 have BR0 := Blk.new w 29 #[.bool false, .slice none 0 0]
 have st1 := st0.below ba0
 clear h0
 go_enter Try.func9, Try.ntmps9
 go_wp2_with fail
 refine (bsquare_any _ T _ st1).mono ?_
 rintro e w2 (⟨hS, rfl, b2⟩ | ⟨hS, rfl, b2⟩)
 ·have HS := Lib.hid hS
  have BR2 := BR0.below b2
  have st2 := st1.below b2
  have b02 := ba0.trans (b2.mono ba0.size)
  clear hS BR0 st1 ba0 b2
  by_cases hN0 : N < 0
  ·have HN : Hid (¬ (squareI T ∧ 0 ≤ N ∧ N ≤ T.length)) := fun h => by have := h.2.1; omega
   obtain ⟨V0, V1, F0, F1⟩ := Blk.two BR2
   have G8 := grown_set2 w2 w.heap.size (.bool false) (.slice none 0 0)
   obtain ⟨C0, C1, -, -⟩ := Blk.two (blk_set2 BR2 (.bool false) (.slice none 0 0))
   have HB := Lib.hid (b02.grown G8 b02.size (fun k e => by injection e with e; omega))
   clear G8 BR2 b02
   go_wp2
   refine bodyPost_ret (v := .tuple #[.agg #[.bool false, .slice none 0 0], .int .i64 8]) (by simp [results, Try.results9, go_sem, C0, C1]) rfl ?_
   exact ⟨HB.out, .inr ⟨HN.out, rfl⟩⟩
  ·by_cases hN1 : (T.length : Int) < N
   ·have HN : Hid (¬ (squareI T ∧ 0 ≤ N ∧ N ≤ T.length)) := fun h => by have := h.2.2; omega
    obtain ⟨V0, V1, F0, F1⟩ := Blk.two BR2
    have G8 := grown_set2 w2 w.heap.size (.bool false) (.slice none 0 0)
    obtain ⟨C0, C1, -, -⟩ := Blk.two (blk_set2 BR2 (.bool false) (.slice none 0 0))
    have HB := Lib.hid (b02.grown G8 b02.size (fun k e => by injection e with e; omega))
    clear G8 BR2 b02
    go_wp2
    refine bodyPost_ret (v := .tuple #[.agg #[.bool false, .slice none 0 0], .int .i64 8]) (by simp [results, Try.results9, go_sem, C0, C1]) rfl ?_
    exact ⟨HB.out, .inr ⟨HN.out, rfl⟩⟩
   ·obtain ⟨n, rfl⟩ : ∃ n : Nat, N = (n : Int) := ⟨N.toNat, by omega⟩
    have hn : n ≤ T.length := by omega
    have hn100 : n ≤ 100 := by have := HS.out.1; omega
    have HN : Hid (squareI T ∧ 0 ≤ (n : Int) ∧ (n : Int) ≤ T.length) := ⟨HS.out, by omega, by omega⟩
    obtain ⟨mk, hmk⟩ := Classical.axiomOfChoice (fun w => run_make_v (P := Try.prog) (w := w) Try.underlying22 info_ints n (by omega))
    have hmk1 := fun w => (hmk w).1
    have HMK := Lib.hid (fun w => (hmk w).2)
    clear hmk
    obtain ⟨tb, bm⟩ := HMK.out w2
    obtain ⟨T0, hT0⟩ : ∃ T0, T0 = List.replicate n ([] : List Int) := ⟨_, rfl⟩
    obtain ⟨M, hM⟩ : ∃ M, M = cutI T n := ⟨_, rfl⟩
    have HML : Hid (M.length = T0.length ∧ T0.length = n) := ⟨by rw [hM, hT0, cutI_len hn, List.length_replicate], by rw [hT0, List.length_replicate]⟩
    have TW0 : TabW .u64 4294967296 (mk w2) w2.heap.size 51 (List.replicate n (.slice none 0 0)) (mixT T0 M 0) := by
     rw [mixT_zero, hT0]
     refine ⟨tb, by rw [List.length_replicate, List.length_replicate], fun i u r hu hr => ?_⟩
     obtain rfl := (List.mem_replicate.1 (List.mem_of_getElem? hu)).2
     obtain rfl := (List.mem_replicate.1 (List.mem_of_getElem? hr)).2
     exact slZ_nil _ _ _ (Nat.zero_le _)
    have hg0 : w2.heap.size < (mk w2).heap.size := tb.lt
    have bb0 := b02.trans (bm.mono b02.size)
    have BR3 := BR2.below bm
    have hw2 : w.heap.size < w2.heap.size := BR2.lt
    have HM := Lib.hid hM
    have HST := Lib.hid st2
    have hst : ∀ wr, Below w2.heap.size w2 wr → SlW .u64 4294967296 wr (.slice A0 T.length c0) T := fun wr hb => HST.out.below hb
    have HB0 : Hid (Below w2.heap.size w2 (mk w2)) := bm
    have HB02 := Lib.hid b02
    have HBR := Lib.hid BR2
    have HTL : Hid (T.length = 0 → n = 0) := fun h => by omega
    clear tb bm hT0 hM st2 BR2 bb0 BR3 b02
    go_wp2
    go_loopw [27] (fun v27 wr => ∃ (k : Nat) (us : List Value), k ≤ n ∧ TabW .u64 4294967296 wr w2.heap.size 51 us (mixT T0 M k) ∧ Hid (Below w2.heap.size w2 wr) ∧ v27 = .int .i64 (k : Int)) (fun v27 _ => n - (intOf v27).toNat)
    case atStart => exact ⟨0, _, by omega, TW0, HB0, rfl⟩
    case round =>
     clear TW0 HB0
     obtain ⟨k, us, hk, TW, HBk, rfl⟩ := hrel
     obtain ⟨wi, hwi⟩ : ∃ wi, wi = wr := ⟨_, rfl⟩
     subst hwi
     by_cases hkn : k < n
     ·obtain ⟨r, hr⟩ : ∃ r, T[k]? = some r := ⟨_, List.getElem?_eq_getElem (by omega)⟩
      obtain ⟨ad, rfl⟩ := st0.place (List.length_pos_iff.1 (by omega))
      obtain ⟨Ar, cr, hik, ecr, sr⟩ := (hst wi HBk.out).at2 hr
      have hrl : r.length = T.length := HS.out.2 r (List.mem_of_getElem? hr)
      have hrc : n ≤ cr := by obtain ⟨A', c', e, h1, h2⟩ := sr.shape; injection e with _ _ e; omega
      have sT := sr.take (m := n) (by omega)
      have hMk : M[k]? = some (r.take n) := by rw [HM.out]; exact cutI_at hr hkn
      have hm2 : (mixT T0 M k)[k]? = T0[k]? := mixT_at HML.out.1 (by rw [HML.out.2]; omega)
      obtain ⟨x, hx⟩ : ∃ x, T0[k]? = some x := ⟨_, List.getElem?_eq_getElem (by rw [HML.out.2]; exact hkn)⟩
      rw [hx] at hm2
      obtain ⟨Ax, cx, hux, ecx, -⟩ := TW.at_ hm2
      have fk := TW.1.1.frozen k
      have TW2 := TW.stored k sT
      rw [mixT_set HML.out.1 hMk] at TW2
      have HB2 := Lib.hid (HBk.out.grown (grown_set wi w2.heap.size k (.slice Ar n cr)) HBk.out.size (fun x e => by injection e with e; omega))
      have hrn : ¬ (cr < n) := by omega
      clear hr hrl sr sT hMk hm2 hx TW HBk
      go_wp2
      go_roundw
      case rel => exact ⟨k + 1, _, by omega, TW2, HB2, by go_num⟩
      case measure => simp [intOf]; omega
     ·have TWn : TabW .u64 4294967296 wi w2.heap.size 51 us M := by
       have h1 := mixT_all HML.out.1
       rw [HML.out.2] at h1
       rw [show k = n by omega, h1] at TW
       exact TW
      have HCW : Hid (shI M n n ∧ n ≤ n ∧ n ≤ 100 ∧ n ≤ 200 ∧ lenI M S ∧ (S + 1) * 2 ^ n ≤ 5001) := by
       rw [HM.out]
       exact ⟨cutI_sh HS.out hn, Nat.le_refl n, hn100, by omega, cutI_lens hc.out.1, pow_lens hn hc.out.2⟩
      clear TW
      go_wp2_with fail
      refine (bway_any w2.heap.size n n S us M _ TWn HCW).mono ?_
      rintro e w5 hW
      obtain ⟨hg5, v5, neg, D, rfl, hv5, hl5, hd5⟩ := RetWay.det hW
      obtain ⟨u5, rfl, s5⟩ := hv5
      obtain ⟨A5, c5, rfl, _⟩ := id s5
      have hd6 : ((sgn neg D : Int) : Rat) = detF n (qF (entI T)) := by
       rw [hd5, HM.out]
       refine detF_congr n fun i j hi hj => ?_
       show ((entI (cutI T n) i j : Int) : Rat) = ((entI T i j : Int) : Rat)
       rw [cutI_ent hi hj]
      have b05 := HB02.out.trans (HBk.out.mono HB02.out.size)
      have b06 := b05.grown hg5 b05.size (fun x e => by injection e with e; omega)
      have BR5 := Blk.grown (HBR.out.below HBk.out) hg5 (show w.heap.size ≠ w2.heap.size by omega)
      have ba := below_alloc (w := w5) (Nat.le_refl _) (.cells #[.bool (ngB D), .slice A5 (digs 4294967296 D.natAbs).length c5] 29)
      have B6 := Blk.new w5 29 #[.bool (ngB D), .slice A5 (digs 4294967296 D.natAbs).length c5]
      have s6 := s5.below ba
      have BR6 := BR5.below ba
      have b07 := b06.trans (ba.mono b06.size)
      have HD6 := Lib.hid hd6
      obtain ⟨X, hX⟩ : ∃ X, X = sgn neg D := ⟨_, rfl⟩
      have CG : ∀ w a, IsZ w a D → Calls Try.prog 28 #[.bool neg, a] w (RetZ X w) := fun w a h => by rw [hX]; exact bsigned_any neg a D w h (by omega)
      have HX : Hid (lenZ X ≤ 5000 ∧ (X : Rat) = detF n (qF (entI T))) := ⟨by rw [hX]; exact lenZ_sgn hl5, by rw [hX]; exact hd6⟩
      clear hW hg5 hd5 hd6 b05 b06 BR5 s5 ba TWn hX hl5
      go_wp2_with fail
      refine (CG _ _ ⟨_, rfl, s6⟩).mono ?_
      rintro e w7 ⟨v7, rfl, k7, -, b7⟩
      obtain ⟨u7, rfl, s7⟩ := k7
      obtain ⟨A7, c7, rfl, _⟩ := id s7
      have BR7 := BR6.below b7
      have b08 := b07.trans (b7.mono b07.size)
      obtain ⟨V0, V1, F0, F1⟩ := Blk.two BR7
      have G8 := grown_set2 w7 w.heap.size (.bool (ngB X)) (.slice A7 (digs 4294967296 X.natAbs).length c7)
      obtain ⟨C0, C1, -, -⟩ := Blk.two (blk_set2 BR7 (.bool (ngB X)) (.slice A7 (digs 4294967296 X.natAbs).length c7))
      have s8 := Go.Proofs.Yteijlcfhenlanaa.flow.off s7 BR7 no_ints2 G8
      have HB := Lib.hid (b08.grown G8 b08.size (fun k e => by injection e with e; omega))
      clear G8 BR7 b08 BR6 b07 b7 s7 s6 B6 CG
      go_wp2
      refine bodyPost_ret (v := .tuple #[.agg #[.bool (ngB X), .slice A7 (digs 4294967296 X.natAbs).length c7], .int .i64 0]) (by simp [results, Try.results9, go_sem, C0, C1]) rfl ?_
      exact ⟨HB.out, .inl ⟨HN.out, _, X, rfl, ⟨_, rfl, s8⟩, HX.out.1, HX.out.2⟩⟩
 ·have HN : Hid (¬ (squareI T ∧ 0 ≤ N ∧ N ≤ T.length)) := fun h => hS h.1
  have BR2 := BR0.below b2
  have b02 := ba0.trans (b2.mono ba0.size)
  obtain ⟨V0, V1, F0, F1⟩ := Blk.two BR2
  have G8 := grown_set2 w2 w.heap.size (.bool false) (.slice none 0 0)
  obtain ⟨C0, C1, -, -⟩ := Blk.two (blk_set2 BR2 (.bool false) (.slice none 0 0))
  have HB := Lib.hid (b02.grown G8 b02.size (fun k e => by injection e with e; omega))
  clear hS G8 BR2 b02 BR0 ba0 b2 st1
  go_wp2
  refine bodyPost_ret (v := .tuple #[.agg #[.bool false, .slice none 0 0], .int .i64 8]) (by simp [results, Try.results9, go_sem, C0, C1]) rfl ?_
  exact ⟨HB.out, .inr ⟨HN.out, rfl⟩⟩
/-- The determinant; or refused. -/
def RetDet (T : List (List Int)) (w : World) (e : Ending) (w' : World) : Prop := Below w.heap.size w w' ∧ ((squareI T ∧ ∃ v z, e = .returned (.tuple #[v, .int .i64 0]) ∧ IsZ w' v z ∧ lenZ z ≤ 5000 ∧ (z : Rat) = detF T.length (qF (entI T))) ∨ (¬ squareI T ∧ e = .returned (.tuple #[.agg #[.bool false, .slice none 0 0], .int .i64 8])))
set_option maxHeartbeats 3200000 in
set_option maxRecDepth 100000 in
theorem bdet_any (a0 : Value) (T : List (List Int)) (S : Nat) (w : World) (h0 : SlW .u64 4294967296 w a0 T) (hc : Hid (lenI T S ∧ (S + 1) * 2 ^ T.length ≤ 5001)) :
  Calls Try.prog 8 #[a0] w (RetDet T w) := by
 have st0 := h0
 obtain ⟨A0, c0, rfl, hc0, hm0⟩ := h0.shape
 unfold maxLen at hm0
 have ba0 := below_alloc (w := w) (Nat.le_refl _) (.cells #[.bool false, .slice none 0 0] 29)
 have BR0 := Blk.new w 29 #[.bool false, .slice none 0 0]
 have st1 := st0.below ba0
 clear h0
 go_enter Try.func8, Try.ntmps8
 go_wp2_with fail
 refine (bminor_any _ T _ S _ st1 hc).mono ?_
 rintro e w2 ⟨b2, (⟨hS, v, z, rfl, hv, hl, hd⟩ | ⟨hS, rfl⟩)⟩
 ·have HS := Lib.hid (And.intro hS.1 (And.intro hl hd))
  have b02 := ba0.trans (b2.mono ba0.size)
  have BR2 := BR0.below b2
  obtain ⟨u, rfl, s⟩ := hv
  obtain ⟨Au, cu, rfl, _⟩ := id s
  obtain ⟨V0, V1, F0, F1⟩ := Blk.two BR2
  have G8 := grown_set2 w2 w.heap.size (.bool (ngB z)) (.slice Au (digs 4294967296 z.natAbs).length cu)
  obtain ⟨C0, C1, -, -⟩ := Blk.two (blk_set2 BR2 (.bool (ngB z)) (.slice Au (digs 4294967296 z.natAbs).length cu))
  have s8 := Go.Proofs.Yteijlcfhenlanaa.flow.off s BR2 no_ints2 G8
  have HB := Lib.hid (b02.grown G8 b02.size (fun k e => by injection e with e; omega))
  clear hS hl hd G8 BR2 b02 BR0 ba0 b2 st1 s
  go_wp2
  refine bodyPost_ret (v := .tuple #[.agg #[.bool (ngB z), .slice Au (digs 4294967296 z.natAbs).length cu], .int .i64 0]) (by simp [results, Try.results8, go_sem, C0, C1]) rfl ?_
  exact ⟨HB.out, .inl ⟨HS.out.1, _, z, rfl, ⟨_, rfl, s8⟩, HS.out.2.1, HS.out.2.2⟩⟩
 ·have HS : Hid (¬ squareI T) := fun h => hS ⟨h, by omega, by omega⟩
  have b02 := ba0.trans (b2.mono ba0.size)
  have BR2 := BR0.below b2
  obtain ⟨V0, V1, F0, F1⟩ := Blk.two BR2
  have G8 := grown_set2 w2 w.heap.size (.bool false) (.slice none 0 0)
  obtain ⟨C0, C1, -, -⟩ := Blk.two (blk_set2 BR2 (.bool false) (.slice none 0 0))
  have HB := Lib.hid (b02.grown G8 b02.size (fun k e => by injection e with e; omega))
  clear hS G8 BR2 b02 BR0 ba0 b2 st1
  go_wp2
  refine bodyPost_ret (v := .tuple #[.agg #[.bool false, .slice none 0 0], .int .i64 8]) (by simp [results, Try.results8, go_sem, C0, C1]) rfl ?_
  exact ⟨HB.out, .inr ⟨HS.out, rfl⟩⟩
theorem slZ_lit2 (w : World) (T : TypeId) {x y : Int} {u t : Value} (h1 : IsS w .u64 u (digs 4294967296 x.natAbs)) (h2 : IsS w .u64 t (digs 4294967296 y.natAbs)) :
  SlZ .u64 4294967296 (w.alloc (.cells #[.bool (ngB x), u, .bool (ngB y), t] T)) (.slice (some ⟨w.heap.size, 0, none⟩) 2 2) [x, y] := by
 have hbb := below_alloc (w := w) (Nat.le_refl _) (.cells #[.bool (ngB x), u, .bool (ngB y), t] T)
 have hB := Blk.new w T #[.bool (ngB x), u, .bool (ngB y), t]
 refine ⟨some ⟨w.heap.size, 0, none⟩, 2, rfl, Nat.le_refl _, by unfold maxLen; omega, fun i z hz => ?_⟩
 rcases i with _ | _ | i
 ·obtain rfl : x = z := by simpa using hz
  exact ⟨_, _, _, rfl, hB.cell 0, hB.cell 1, h1.below hbb⟩
 ·obtain rfl : y = z := by simpa using hz
  exact ⟨_, _, _, rfl, hB.cell 2, hB.cell 3, h2.below hbb⟩
 ·simp at hz
theorem slW_two {k : IntKind} {B : Nat} {w : World} {v u0 u1 : Value} {r0 r1 : List Int} (h : IsV w v [u0, u1]) (h0 : SlZ k B w u0 r0) (h1 : SlZ k B w u1 r1) (hc : ∀ A n c, v = .slice A n c → c ≤ maxLen) : SlW k B w v [r0, r1] := by
 obtain ⟨A, c, e, h2, h3⟩ := h
 refine ⟨[u0, u1], rfl, ⟨A, c, e, h2, hc _ _ _ e, h3⟩, fun i x y hx hy => ?_⟩
 rcases i with _ | _ | i
 ·obtain rfl : u0 = x := by simpa using hx
  obtain rfl : r0 = y := by simpa using hy
  exact h0
 ·obtain rfl : u1 = x := by simpa using hx
  obtain rfl : r1 = y := by simpa using hy
  exact h1
 ·simp at hx
theorem ex15 : detF 2 (qF (entI [[2, 1], [1, 1]])) = 1 := by decide +kernel
theorem digs_one : digs 4294967296 1 = [1] := by decide +kernel
set_option maxHeartbeats 6400000 in
set_option maxRecDepth 100000 in
theorem works15_any (w : World) : Calls Try.prog 11 #[] w (RetV (.bool true) w) := by
 obtain ⟨O, hO⟩ : ∃ O : Int, O = 1 := ⟨_, rfl⟩
 obtain ⟨P, hP⟩ : ∃ P : Int, P = 2 := ⟨_, rfl⟩
 have CO : ∀ w, Calls Try.prog 17 #[.int .i64 1] w (RetZ O w) := fun w => by rw [hO]; exact zof_any 1 _ (by omega) (by omega)
 have CP : ∀ w, Calls Try.prog 17 #[.int .i64 2] w (RetZ P w) := fun w => by rw [hP]; exact zof_any 2 _ (by omega) (by omega)
 obtain ⟨T, hT⟩ : ∃ T, T = [[P, O], [O, O]] := ⟨_, rfl⟩
 have eT : T = [[2, 1], [1, 1]] := by rw [hT, hP, hO]
 have HE := Lib.hid (And.intro hT eT)
 clear hO hP hT eT
 go_enter Try.func11, Try.ntmps11
 go_wp2_with fail
 refine (CP _).mono ?_
 rintro e w1 ⟨v0, rfl, k0, -, b1⟩
 obtain ⟨u0, rfl, q0⟩ := k0
 obtain ⟨A0, c0, rfl, _⟩ := id q0
 go_wp2_with fail
 refine (CO _).mono ?_
 rintro e w2 ⟨v1, rfl, k1, -, b2⟩
 obtain ⟨u1, rfl, q1⟩ := k1
 obtain ⟨A1, c1, rfl, _⟩ := id q1
 have s0 := slZ_lit2 w2 29 (q0.below b2) q1
 have ba := below_alloc (w := w2) (Nat.le_refl _) (.cells #[.bool (ngB P), .slice A0 (digs 4294967296 P.natAbs).length c0, .bool (ngB O), .slice A1 (digs 4294967296 O.natAbs).length c1] 29)
 have b12 := b1.trans (b2.mono b1.size)
 have b13 := b12.trans (ba.mono b12.size)
 clear q0 q1 b1 b2 ba b12
 go_wp2_with fail
 refine (CO _).mono ?_
 rintro e w3 ⟨v2, rfl, k2, -, b3⟩
 obtain ⟨u2, rfl, q2⟩ := k2
 obtain ⟨A2, c2, rfl, _⟩ := id q2
 have s03 := s0.below b3
 have b14 := b13.trans (b3.mono b13.size)
 clear s0 b13 b3
 go_wp2_with fail
 refine (CO _).mono ?_
 rintro e w4 ⟨v3, rfl, k3, -, b4⟩
 obtain ⟨u3, rfl, q3⟩ := k3
 obtain ⟨A3, c3, rfl, _⟩ := id q3
 have s1 := slZ_lit2 w4 29 (q2.below b4) q3
 have ba := below_alloc (w := w4) (Nat.le_refl _) (.cells #[.bool (ngB O), .slice A2 (digs 4294967296 O.natAbs).length c2, .bool (ngB O), .slice A3 (digs 4294967296 O.natAbs).length c3] 29)
 have hs1 : (w4.alloc (.cells #[.bool (ngB O), .slice A2 (digs 4294967296 O.natAbs).length c2, .bool (ngB O), .slice A3 (digs 4294967296 O.natAbs).length c3] 29)).heap.size = w4.heap.size + 1 := by simp
 have s04 := (s03.below b4).below ba
 have b15 := b14.trans (b4.mono b14.size)
 have b16 := b15.trans (ba.mono b15.size)
 clear s03 b14 b4 q2 q3 ba b15
 have bt := below_alloc (w := w4.alloc (.cells #[.bool (ngB O), .slice A2 (digs 4294967296 O.natAbs).length c2, .bool (ngB O), .slice A3 (digs 4294967296 O.natAbs).length c3] 29)) (Nat.le_refl _) (.cells #[.slice (some ⟨w2.heap.size, 0, none⟩) 2 2, .slice (some ⟨w4.heap.size, 0, none⟩) 2 2] 51)
 have hv := isV_lit (w4.alloc (.cells #[.bool (ngB O), .slice A2 (digs 4294967296 O.natAbs).length c2, .bool (ngB O), .slice A3 (digs 4294967296 O.natAbs).length c3] 29)) 51 [.slice (some ⟨w2.heap.size, 0, none⟩) 2 2, .slice (some ⟨w4.heap.size, 0, none⟩) 2 2]
 have ST := slW_two hv (s04.below bt) (s1.below bt) (fun A n c e => by injection e with _ _ e3; subst e3; unfold maxLen; simp)
 have b17 := b16.trans (bt.mono b16.size)
 rw [hs1] at ST
 rw [← HE.out.1] at ST
 clear hv bt s04 s1 b16
 have HST := Lib.hid ST
 have HB := Lib.hid b17
 have HOK : Hid (lenI T 1 ∧ (1 + 1) * 2 ^ T.length ≤ 5001) := by
  rw [HE.out.2]
  refine ⟨fun r hr z hz => ?_, by decide⟩
  simp at hr
  rcases hr with rfl | rfl <;> simp at hz <;> rcases hz with rfl | rfl <;> exact digs_len_le (k := 1) (by omega) (by decide +kernel)
 clear ST b17
 go_wp2_with fail
 refine (bdet_any _ T 1 _ HST.out HOK).mono ?_
 rintro e w5 ⟨b5, (⟨hS, v5, z, rfl, k5, -, hd⟩ | ⟨hS, rfl⟩)⟩
 ·have hz : z = 1 := by
   rw [HE.out.2] at hd
   exact Rat.intCast_inj.1 (hd.trans ex15)
  have HZ := Lib.hid hz
  obtain ⟨u5, rfl, q5⟩ := k5
  obtain ⟨A5, c5, rfl, _⟩ := id q5
  have b6 := HB.out.trans (b5.mono HB.out.size)
  have ba := below_alloc (w := w5) (Nat.le_refl _) (.cells #[.bool (ngB z), .slice A5 (digs 4294967296 z.natAbs).length c5] 29)
  have BD := Blk.new w5 29 #[.bool (ngB z), .slice A5 (digs 4294967296 z.natAbs).length c5]
  have q6 := q5.below ba
  have b7 := b6.trans (ba.mono b6.size)
  clear hd hz hS b5 b6 ba q5 HST HB HOK
  go_upto_region 3 with (fail)
  obtain ⟨w6, hw6⟩ : ∃ w6, w5.alloc (.cells #[.bool (ngB z), .slice A5 (digs 4294967296 z.natAbs).length c5] 29) = w6 := ⟨_, rfl⟩
  rw [hw6] at BD q6 b7 ⊢
  clear hw6
  obtain ⟨V0, V1, F0, F1⟩ := Blk.two BD
  have bl := below_alloc (w := w6) (Nat.le_refl _) (.cells #[.int .u64 1] 64)
  have kl : IsZ (w6.alloc (.cells #[.int .u64 1] 64)) (.agg #[.bool false, .slice (some ⟨w6.heap.size, 0, none⟩) 1 1]) 1 := by
   refine ⟨_, rfl, ?_⟩
   rw [show (1 : Int).natAbs = 1 from rfl, digs_one]
   exact (own_lit1 w6 0 64 .u64 (x := 1) (d := 1) rfl (Nat.zero_le _)).isS
  have q7 := q6.below bl
  have b8 := b7.trans (bl.mono b7.size)
  clear BD q6 b7 bl
  go_wp2_with fail
  refine (zsame_eq _ _ z 1 _ ⟨_, rfl, q7⟩ kl HZ.out).mono ?_
  rintro e w9 ⟨rfl, b9⟩
  have b10 := b8.trans (b9.mono b8.size)
  go_wp2
  go_ret
  exact ⟨rfl, b10⟩
 ·exact absurd ⟨by rw [HE.out.2]; decide, by rw [HE.out.2]; intro r hr; simp at hr; rcases hr with rfl | rfl <;> rfl⟩ hS
def isB (v : Value) : Prop := (∃ b, v = .bool b) ∨ ∃ A n c, v = .slice A n c
/-- A row of the call's own: its elements, and what its whole block holds. -/
def RowB (e : TypeId) (w : World) (base : Nat) (v : Value) (ps : List (Int × Value)) : Prop := w.ownsRow base e 2 v ps.length (flat ps) ∧ ∀ g, v.ownBlock = some g → ∃ cs, w.heap[g]? = some (.cells cs e (0, 0)) ∧ ∀ c ∈ cs, isB c
def allSl (ps : List (Int × Value)) : Prop := ∀ p ∈ ps, ∃ A n c, p.2 = .slice A n c
theorem flat_isB {ps : List (Int × Value)} (h : allSl ps) : ∀ c ∈ flat ps, isB c := fun c hc => by
 obtain ⟨p, hp, hc⟩ := List.mem_flatMap.1 hc
 obtain ⟨A, n, d, e⟩ := h p hp
 simp only [e, List.mem_cons, List.not_mem_nil, or_false] at hc
 rcases hc with rfl | rfl
 ·exact .inl ⟨_, rfl⟩
 ·exact .inr ⟨_, _, _, rfl⟩
theorem isB_one {c : Value} (h : isB c) : c.oneCell' = true := by
 rcases h with ⟨b, rfl⟩ | ⟨A, n, d, rfl⟩ <;> rfl
theorem RowB.grown {e : TypeId} {w w' : World} {base : Nat} {v : Value} {ps : List (Int × Value)} {row : Option Nat} (h : RowB e w base v ps) (hg : w.grownBy w' row) (hne : ∀ g, v.ownBlock = some g → row ≠ some g) : RowB e w' base v ps := by
 refine ⟨World.ownsRow.kept (row := row) h.1 hg (by
  cases hv : v.ownBlock with
  | none => exact .inl rfl
  | some g => exact .inr fun e => hne g hv e.symm), fun g hv => ?_⟩
 obtain ⟨cs, h1, h2⟩ := h.2 g hv
 exact ⟨cs, (hg.block g (World.ownsRow.lt h.1 g hv).2 (fun e => hne g hv e.symm)).trans h1, h2⟩
theorem RowB.below {e : TypeId} {w w' : World} {base : Nat} {v : Value} {ps : List (Int × Value)} (h : RowB e w base v ps) (hb : Below w.heap.size w w') : RowB e w' base v ps := h.grown (below_none hb none) (fun g _ e => by cases e)
theorem rowB_nil (e : TypeId) (w : World) (base : Nat) : RowB e w base (.slice none 0 0) [] := ⟨World.ownsRow_nil w base e 2, fun g h => by cases h⟩
theorem rowB_lit0 (e : TypeId) (w : World) (base : Nat) (hb : base ≤ w.heap.size) : RowB e (w.alloc (.cells #[] e)) base (.slice (some ⟨w.heap.size, 0, none⟩) 0 0) [] := by
 refine ⟨by
  have h := World.ownsRow_lit (e := e) (size := 2) w #[] 0 hb (by simp) (by simp)
  simpa [flat] using h, fun g hg => ?_⟩
 obtain rfl : w.heap.size = g := by simpa [Value.ownBlock] using hg
 exact ⟨_, heap_alloc_new w _, fun c hc => by simp at hc⟩
section
variable {P : Program}
theorem run_append_B {w : World} {base : Nat} {t ty e : TypeId} (hT : P.underlying t = some (.slice e)) (hI : ∃ i, P.info? e = some i ∧ i.zero = some (.agg #[.bool false, .slice none 0 0]) ∧ i.size = 2 ∧ i.bytes = 32) {v : Value} {ps news : List (Int × Value)} (hown : RowB e w base v ps) {ad : Addr} {m c : Nat} (hm : m = news.length) (hm0 : 0 < m)
  (hr : ∀ (i : Nat) (u : Value), (flat news)[i]? = some u → w.cell? (ad.add i) = some u) (h1 : allSl news) (hlen : ps.length + m ≤ 1000000000) (hbase : base ≤ w.heap.size) :
  ∃ v' w', (Builtin.append_ #[t, t] ty #[v, .slice (some ad) m c]).run P w = .ok v' w' ∧ RowB e w' base v' (ps ++ news) ∧ w.grownBy w' v.ownBlock ∧ (v'.ownBlock = v.ownBlock ∨ v'.ownBlock = some w.heap.size) := by
 obtain ⟨i, hi, hz, hs, hby⟩ := hI
 subst hm
 have hB := flat_isB h1
 have one : ∀ u ∈ flat news, u.oneCell' = true := fun u hu => isB_one (hB u hu)
 have hl : (flat news).length = news.length * i.size := by rw [hs, flat_len]
 have zs : ∀ n, ∀ c ∈ Builtin.zeroCells (Value.agg #[.bool false, .slice none 0 0]).cells n, isB c := by
  intro n c hc
  unfold Builtin.zeroCells at hc
  rw [show (Value.agg #[.bool false, .slice none 0 0]).cells = #[.bool false, .slice none 0 0] from rfl] at hc
  simp at hc
  obtain ⟨j, _, rfl⟩ := hc
  rcases (show j % 2 = 0 ∨ j % 2 = 1 by omega) with e | e
  ·simp [e]; exact .inl ⟨_, rfl⟩
  ·simp [e]; exact .inr ⟨_, _, _, rfl⟩
 obtain ⟨v', w', g1, g2, g3, _, g5⟩ := run_append_own_at (P := P) w base t ty e i (.agg #[.bool false, .slice none 0 0]) 2 32 hT hi hz hs hby rfl (by decide) v ps.length (flat ps) hown.1 ad news.length c (flat news) (by rw [flat_len]) (fun j u hu => hr j u hu) one (by unfold maxLen; omega) (by omega) hbase
 refine ⟨v', w', g1, ⟨by rw [List.length_append, show flat (ps ++ news) = flat ps ++ flat news by simp [flat]]; exact g2, fun g hg => ?_⟩, g3, g5⟩
 rcases hown.1.2 with ⟨rfl, h0⟩ | ⟨g', cap, cur, rfl, hbg, hgg, hnc, hcm, hcs, htake⟩
 ·have hx : ps = [] := List.eq_nil_of_length_eq_zero h0
  subst hx
  have hr2 := run_append_nil (P := P) w t ty e i (.agg #[.bool false, .slice none 0 0]) hT hi hz ad news.length c (flat news) hl hr hm0 (by omega) (by rw [hby]; simp at hlen; omega)
  rw [hr2] at g1
  injection g1 with g1 g1'
  subst g1; subst g1'
  obtain rfl : w.heap.size = g := by simpa [Value.ownBlock] using hg
  refine ⟨_, heap_alloc_new w.drew _, fun c hc => ?_⟩
  rcases Array.mem_append.1 hc with hc | hc
  ·exact hB c (by simpa using hc)
  ·exact zs _ c hc
 ·obtain ⟨cs, hcs1, hcs2⟩ := hown.2 g' rfl
  rw [hgg] at hcs1
  injection hcs1 with hcs1
  injection hcs1 with hcs1 _ _
  subst hcs1
  by_cases hroom : ps.length + news.length ≤ cap
  ·have hfit : ps.length * i.size + (flat news).length ≤ cur.size := by rw [hcs, hs, flat_len]; omega
   have hr2 := run_append_room (P := P) w t ty e i hT hi g' ps.length cap cur hgg ad news.length c (flat news) hl hr one hroom hfit
   rw [hr2] at g1
   injection g1 with g1 g1'
   subst g1; subst g1'
   obtain rfl : g' = g := by simpa [Value.ownBlock] using hg
   refine ⟨_, setRow_heap w g' cur _ e _ hgg, fun c hc => ?_⟩
   have hc2 : c ∈ cur.toList.take (ps.length * i.size) ++ flat news ++ cur.toList.drop (ps.length * i.size + (flat news).length) := by simpa using hc
   rcases List.mem_append.1 hc2 with hc2 | hc2
   ·rcases List.mem_append.1 hc2 with hc2 | hc2
    ·exact hcs2 c (by simpa using List.mem_of_mem_take hc2)
    ·exact hB c hc2
   ·exact hcs2 c (by simpa using List.mem_of_mem_drop hc2)
  ·have holds : ∀ j u, (flat ps)[j]? = some u → w.cell? ((⟨g', 0, none⟩ : Addr).add j) = some u := World.ownsRow.cells hown.1 (g := g') rfl
   have hr2 := run_append_grow (P := P) w t ty e i (.agg #[.bool false, .slice none 0 0]) hT hi hz ⟨g', 0, none⟩ ps.length cap (flat ps) (by rw [hs, flat_len]) holds ad news.length c (flat news) hl hr (by omega) (by omega) (growslice_fits (by omega) (by rw [hby]; omega))
   rw [hr2] at g1
   injection g1 with g1 g1'
   subst g1; subst g1'
   obtain rfl : w.heap.size = g := by simpa [Value.ownBlock] using hg
   refine ⟨_, heap_alloc_new w.drew _, fun c hc => ?_⟩
   rcases Array.mem_append.1 hc with hc | hc
   ·rcases Array.mem_append.1 hc with hc | hc
    ·have hcv : c ∈ flat ps := by simpa using hc
     rw [← htake] at hcv
     exact hcs2 c (by simpa using List.mem_of_mem_take hcv)
    ·exact hB c (by simpa using hc)
   ·exact zs _ c hc
end
end Go.Proofs.Yteijlcfhenlanaa.rat
namespace Go.Proofs.Yteijlcfhenlanaa.rat
open Go.RowKit Go.Shelf Go.Proofs.Yteijlcfhenlanaa.num Go.Proofs.Yteijlcfhenlanaa.mem Go.Proofs.Yteijlcfhenlanaa.nat Go.Proofs.Yteijlcfhenlanaa.txt Go.Proofs.Yteijlcfhenlanaa.str Go.Proofs.Yteijlcfhenlanaa.flow Go.Proofs.Yteijlcfhenlanaa.whl
set_option linter.unusedVariables false
set_option linter.unusedSimpArgs false
attribute [local go_sem] Oper.semAt_some
theorem IsS.own {w w' : World} {row : Option Nat} {k : IntKind} {v : Value} {l : List Nat} (h : IsS w k v l) (hg : w.grownBy w' row) (hr : ∀ x, row = some x → ∃ o : Obj, w.heap[x]? = some o ∧ o.isCells = false) : IsS w' k v l := by
 obtain ⟨A, c, e, h1, h2, h3⟩ := h
 refine ⟨A, c, e, h1, h2, fun i d hd => ?_⟩
 obtain ⟨ad, h4, h5⟩ := h3 i d hd
 exact ⟨ad, h4, cell_kept h5 hg hr⟩
theorem SlF.own {w w' : World} {row : Option Nat} {k : IntKind} {B : Nat} {v : Value} {r : List Rat} (h : SlF k B w v r) (hg : w.grownBy w' row) (hr : ∀ x, row = some x → ∃ o : Obj, w.heap[x]? = some o ∧ o.isCells = false) : SlF k B w' v r := by
 obtain ⟨ps, h1, ⟨A, c, e1, h2, h3, h4⟩, h5⟩ := h
 refine ⟨ps, h1, ⟨A, c, e1, h2, h3, fun i p hp => ?_⟩, fun p hp => ⟨IsS.own (h5 p hp).1 hg hr, IsS.own (h5 p hp).2 hg hr⟩⟩
 obtain ⟨g', o, e2, c0, c1, c2⟩ := h4 i p hp
 exact ⟨g', o, e2, cell_kept c0 hg hr, cell_kept c1 hg hr, cell_kept c2 hg hr⟩
/-- What a round keeps: all that lies below n0 but the table. -/
def KpG (g n0 : Nat) (W W' : World) : Prop := W.heap.size ≤ W'.heap.size ∧ ∀ k, k < n0 → k < W.heap.size → k ≠ g → W'.heap[k]? = W.heap[k]?
theorem KpG.trans {g n0 : Nat} {A B C : World} (h : KpG g n0 A B) (k : KpG g n0 B C) : KpG g n0 A C :=
 ⟨Nat.le_trans h.1 k.1, fun i hi hl hg => (k.2 i hi (Nat.lt_of_lt_of_le hl h.1) hg).trans (h.2 i hi hl hg)⟩
theorem KpG.cell {g n0 : Nat} {W W' : World} {p : Addr} {v : Value} (h : KpG g n0 W W') (hp : W.cell? p = some v) (hn : p.block < n0) (hg : p.block ≠ g) : W'.cell? p = some v := by
 have h1 := h.2 p.block hn (World.block_lt_of_cell? _ _ hp) hg
 exact (World.cell?_of_block h1).trans hp
/-- Places, read. -/
def PvI (w : World) (v : Value) (ps : List Nat) : Prop := ∃ A c, v = .slice A ps.length c ∧ ∀ i, i < ps.length → ∃ ad, A = some ad ∧ w.cell? (ad.add i) = some (.int .i64 (pv ps i : Int))
theorem PvI.below {w w' : World} {v : Value} {ps : List Nat} (h : PvI w v ps) (hb : Below w.heap.size w w') : PvI w' v ps := by
 obtain ⟨A, c, e, h1⟩ := h
 refine ⟨A, c, e, fun i hi => ?_⟩
 obtain ⟨ad, e2, h2⟩ := h1 i hi
 exact ⟨ad, e2, (hb.cell (World.block_lt_of_cell? _ _ h2)).trans h2⟩
/-- Cells that hold slices. -/
def isSl (v : Value) : Prop := ∃ A n c, v = .slice A n c
section
variable {P : Program}
/-- Append of slices to such a row. -/
theorem run_append_S {w : World} {base : Nat} {t ty e : TypeId} (hT : P.underlying t = some (.slice e)) (hI : ∃ i, P.info? e = some i ∧ i.zero = some (.slice none 0 0) ∧ i.size = 1 ∧ i.bytes = 24) {v : Value} {vs news : List Value} (hown : RowX isSl w base e v vs) {ad : Addr} {m c : Nat} (hm : m = news.length) (hm0 : 0 < m)
  (hr : ∀ (i : Nat) (u : Value), news[i]? = some u → w.cell? (ad.add i) = some u) (h1 : ∀ u ∈ news, isSl u) (hlen : vs.length + m ≤ 1000000000) (hbase : base ≤ w.heap.size) :
  ∃ v' w', (Builtin.append_ #[t, t] ty #[v, .slice (some ad) m c]).run P w = .ok v' w' ∧ RowX isSl w' base e v' (vs ++ news) ∧ w.grownBy w' v.ownBlock ∧ (v'.ownBlock = v.ownBlock ∨ v'.ownBlock = some w.heap.size) := by
 obtain ⟨i, hi, hz, hs, hby⟩ := hI
 subst hm
 have one : ∀ u ∈ news, u.oneCell' = true := fun u hu => by obtain ⟨A_, n_, c_, rfl⟩ := h1 u hu; rfl
 have hl : news.length = news.length * i.size := by rw [hs, Nat.mul_one]
 have zs : ∀ n, ∀ c ∈ Builtin.zeroCells (Value.slice none 0 0).cells n, isSl c := by
  intro n c hc
  have : c = .slice none 0 0 := by
   have h0 : ∀ n, ∀ c ∈ (Builtin.zeroCells (Value.slice none 0 0).cells n), c = .slice none 0 0 := by
    intro n c hc
    unfold Builtin.zeroCells at hc
    simp [Value.cells, Nat.mod_one] at hc
    obtain ⟨_, h3⟩ := hc
    first | exact h3.symm | exact h3.2.symm
   exact h0 n c hc
  exact ⟨none, 0, 0, this⟩
 obtain ⟨v', w', g1, g2, g3, _, g5⟩ := run_append_own_at (P := P) w base t ty e i (.slice none 0 0) 1 24 hT hi hz hs hby rfl (by decide) v vs.length vs hown.1 ad news.length c news (by simp) (fun j u hu => hr j u hu) one (by unfold maxLen; omega) (by omega) hbase
 refine ⟨v', w', g1, ⟨by unfold RowV; rw [List.length_append]; exact g2, fun g hg => ?_⟩, g3, g5⟩
 rcases hown.1.2 with ⟨rfl, h0⟩ | ⟨g', cap, cur, rfl, hbg, hgg, hnc, hcm, hcs, htake⟩
 ·have hx : vs = [] := List.eq_nil_of_length_eq_zero h0
  subst hx
  have hr2 := run_append_nil (P := P) w t ty e i (.slice none 0 0) hT hi hz ad news.length c news hl hr hm0 (by omega) (by rw [hby]; simp at hlen; omega)
  rw [hr2] at g1
  injection g1 with g1 g1'
  subst g1; subst g1'
  obtain rfl : w.heap.size = g := by simpa [Value.ownBlock] using hg
  refine ⟨_, heap_alloc_new w.drew _, fun c hc => ?_⟩
  rcases Array.mem_append.1 hc with hc | hc
  ·exact h1 c (by simpa using hc)
  ·exact zs _ c hc
 ·obtain ⟨cs, hcs1, hcs2⟩ := hown.2 g' rfl
  rw [hgg] at hcs1
  injection hcs1 with hcs1
  injection hcs1 with hcs1 _ _
  subst hcs1
  by_cases hroom : vs.length + news.length ≤ cap
  ·have hfit : vs.length * i.size + news.length ≤ cur.size := by rw [hcs, hs]; omega
   have hr2 := run_append_room (P := P) w t ty e i hT hi g' vs.length cap cur hgg ad news.length c news hl hr one hroom hfit
   rw [hr2] at g1
   injection g1 with g1 g1'
   subst g1; subst g1'
   obtain rfl : g' = g := by simpa [Value.ownBlock] using hg
   refine ⟨_, setRow_heap w g' cur _ e _ hgg, fun c hc => ?_⟩
   have hc2 : c ∈ cur.toList.take (vs.length * i.size) ++ news ++ cur.toList.drop (vs.length * i.size + news.length) := by simpa using hc
   rcases List.mem_append.1 hc2 with hc2 | hc2
   ·rcases List.mem_append.1 hc2 with hc2 | hc2
    ·exact hcs2 c (by simpa using List.mem_of_mem_take hc2)
    ·exact h1 c hc2
   ·exact hcs2 c (by simpa using List.mem_of_mem_drop hc2)
  ·have holds : ∀ j u, vs[j]? = some u → w.cell? ((⟨g', 0, none⟩ : Addr).add j) = some u := World.ownsRow.cells hown.1 (g := g') rfl
   have hr2 := run_append_grow (P := P) w t ty e i (.slice none 0 0) hT hi hz ⟨g', 0, none⟩ vs.length cap vs (by rw [hs]; omega) holds ad news.length c news hl hr (by omega) (by omega) (growslice_fits (by omega) (by rw [hby]; omega))
   rw [hr2] at g1
   injection g1 with g1 g1'
   subst g1; subst g1'
   obtain rfl : w.heap.size = g := by simpa [Value.ownBlock] using hg
   refine ⟨_, heap_alloc_new w.drew _, fun c hc => ?_⟩
   rcases Array.mem_append.1 hc with hc | hc
   ·rcases Array.mem_append.1 hc with hc | hc
    ·have hcv : c ∈ vs := by simpa using hc
     rw [← htake] at hcv
     exact hcs2 c (by simpa using List.mem_of_mem_take hcv)
    ·exact h1 c (by simpa using hc)
   ·exact zs _ c hc
theorem wp_append_S {w : World} {o : Oper} {a : Act} {K : Act → World → Prop} {Q : Exit → Act → World → Prop} (s x : Operand) {t : TypeId}
  (ho : o.op = .call { callee := .builtin .append, args := #[s, x], argTypes := #[t, t] })
  {base : Nat} {e : TypeId} (hT : P.underlying t = some (.slice e)) (hI : ∃ i, P.info? e = some i ∧ i.zero = some (.slice none 0 0) ∧ i.size = 1 ∧ i.bytes = 24) {v : Value} {vs news : List Value} (hs : a.eval s = v) (hown : RowX isSl w base e v vs) {ad : Addr} {m c : Nat} (hx : a.eval x = .slice (some ad) m c) (hm : m = news.length) (hm0 : 0 < m)
  (hr : ∀ (i : Nat) (u : Value), news[i]? = some u → w.cell? (ad.add i) = some u) (h1 : ∀ u ∈ news, isSl u) (hlen : vs.length + m ≤ 1000000000) (hbase : base ≤ w.heap.size)
  (h : ∀ v' w', RowX isSl w' base e v' (vs ++ news) → Hid (w.grownBy w' v.ownBlock) → Hid (v'.ownBlock = v.ownBlock ∨ v'.ownBlock = some w.heap.size) → K (a.put o.dst v') w') : o.wp P a w K Q := by
 obtain ⟨v', w', hrun, h2, h3, h4⟩ := run_append_S (P := P) (ty := o.type) hT hI hown (c := c) hm hm0 hr h1 hlen hbase
 unfold Oper.wp execOp
 simp only [ho, resolve, invoke, builtin, Sem.run_bind, Sem.run_pure, Result.andThen_ok, List.map_toArray, List.map_cons, List.map_nil, hs, hx, hrun]
 exact h v' w' h2 h3 h4
theorem wpList_append_S {w : World} {ops : Array Oper} {rest : List Oper} {o : Oper} {a : Act} {Q : Exit → Act → World → Prop} (hgd : o.guard = none) (s x : Operand) {t : TypeId}
  (ho : o.op = .call { callee := .builtin .append, args := #[s, x], argTypes := #[t, t] })
  {base : Nat} {e : TypeId} (hT : P.underlying t = some (.slice e)) (hI : ∃ i, P.info? e = some i ∧ i.zero = some (.slice none 0 0) ∧ i.size = 1 ∧ i.bytes = 24) {v : Value} {vs news : List Value} (hs : a.eval s = v) (hown : RowX isSl w base e v vs) {ad : Addr} {m c : Nat} (hx : a.eval x = .slice (some ad) m c) (hm : m = news.length) (hm0 : 0 < m)
  (hr : ∀ (i : Nat) (u : Value), news[i]? = some u → w.cell? (ad.add i) = some u) (h1 : ∀ u ∈ news, isSl u) (hlen : vs.length + m ≤ 1000000000) (hbase : base ≤ w.heap.size)
  (h : ∀ v' w', RowX isSl w' base e v' (vs ++ news) → Hid (w.grownBy w' v.ownBlock) → Hid (v'.ownBlock = v.ownBlock ∨ v'.ownBlock = some w.heap.size) → wpList P ops Q rest (a.put o.dst v') w') : wpList P ops Q (o :: rest) a w :=
 wpList_plain hgd fun _ hK => wp_append_S s x ho hT hI hs hown hx hm hm0 hr h1 hlen hbase fun v' w' h2 h3 h4 => hK _ _ (h v' w' h2 h3 h4)
end
/-! The kernel's rows. -/
end Go.Proofs.Yteijlcfhenlanaa.rat
namespace Go.Proofs.Yteijlcfhenlanaa.rat
open Go.RowKit Go.Proofs.Yteijlcfhenlanaa.num Go.Proofs.Yteijlcfhenlanaa.mem Go.Proofs.Yteijlcfhenlanaa.nat Go.Proofs.Yteijlcfhenlanaa.txt Go.Proofs.Yteijlcfhenlanaa.str Go.Proofs.Yteijlcfhenlanaa.flow Go.Proofs.Yteijlcfhenlanaa.whl
set_option linter.unusedVariables false
set_option linter.unusedSimpArgs false
section
variable {P : Program}
theorem wp_append_B {w : World} {o : Oper} {a : Act} {K : Act → World → Prop} {Q : Exit → Act → World → Prop} (s x : Operand) {t : TypeId}
  (ho : o.op = .call { callee := .builtin .append, args := #[s, x], argTypes := #[t, t] })
  {base : Nat} {e : TypeId} (hT : P.underlying t = some (.slice e)) (hI : ∃ i, P.info? e = some i ∧ i.zero = some (.agg #[.bool false, .slice none 0 0]) ∧ i.size = 2 ∧ i.bytes = 32) {v : Value} {ps news : List (Int × Value)} (hs : a.eval s = v) (hown : RowB e w base v ps) {ad : Addr} {m c : Nat} (hx : a.eval x = .slice (some ad) m c) (hm : m = news.length) (hm0 : 0 < m)
  (hr : ∀ (i : Nat) (u : Value), (flat news)[i]? = some u → w.cell? (ad.add i) = some u) (h1 : allSl news) (hlen : ps.length + m ≤ 1000000000) (hbase : base ≤ w.heap.size)
  (h : ∀ v' w', RowB e w' base v' (ps ++ news) → Hid (w.grownBy w' v.ownBlock) → Hid (v'.ownBlock = v.ownBlock ∨ v'.ownBlock = some w.heap.size) → K (a.put o.dst v') w') : o.wp P a w K Q := by
 obtain ⟨v', w', hrun, h2, h3, h4⟩ := run_append_B (P := P) (ty := o.type) hT hI hown (c := c) hm hm0 hr h1 hlen hbase
 unfold Oper.wp execOp
 simp only [ho, resolve, invoke, builtin, Sem.run_bind, Sem.run_pure, Result.andThen_ok, List.map_toArray, List.map_cons, List.map_nil, hs, hx, hrun]
 exact h v' w' h2 h3 h4
theorem wpList_append_B {w : World} {ops : Array Oper} {rest : List Oper} {o : Oper} {a : Act} {Q : Exit → Act → World → Prop} (hgd : o.guard = none) (s x : Operand) {t : TypeId}
  (ho : o.op = .call { callee := .builtin .append, args := #[s, x], argTypes := #[t, t] })
  {base : Nat} {e : TypeId} (hT : P.underlying t = some (.slice e)) (hI : ∃ i, P.info? e = some i ∧ i.zero = some (.agg #[.bool false, .slice none 0 0]) ∧ i.size = 2 ∧ i.bytes = 32) {v : Value} {ps news : List (Int × Value)} (hs : a.eval s = v) (hown : RowB e w base v ps) {ad : Addr} {m c : Nat} (hx : a.eval x = .slice (some ad) m c) (hm : m = news.length) (hm0 : 0 < m)
  (hr : ∀ (i : Nat) (u : Value), (flat news)[i]? = some u → w.cell? (ad.add i) = some u) (h1 : allSl news) (hlen : ps.length + m ≤ 1000000000) (hbase : base ≤ w.heap.size)
  (h : ∀ v' w', RowB e w' base v' (ps ++ news) → Hid (w.grownBy w' v.ownBlock) → Hid (v'.ownBlock = v.ownBlock ∨ v'.ownBlock = some w.heap.size) → wpList P ops Q rest (a.put o.dst v') w') : wpList P ops Q (o :: rest) a w :=
 wpList_plain hgd fun _ hK => wp_append_B s x ho hT hI hs hown hx hm hm0 hr h1 hlen hbase fun v' w' h2 h3 h4 => hK _ _ (h v' w' h2 h3 h4)
/-- One element, in a region that draws its order. -/
theorem step_append_B {w : World} {ops : Array Oper} {o : Oper} {a : Act} {K : Act → World → Prop} {Q : Exit → Act → World → Prop} {E : Prop} (hgd : o.guard = none) (s x : Operand) {t : TypeId}
  (ho : o.op = .call { callee := .builtin .append, args := #[s, x], argTypes := #[t, t] })
  {base : Nat} {e : TypeId} (hT : P.underlying t = some (.slice e)) (hI : ∃ i, P.info? e = some i ∧ i.zero = some (.agg #[.bool false, .slice none 0 0]) ∧ i.size = 2 ∧ i.bytes = 32) {v : Value} {p : Int × Value} {ps : List (Int × Value)} (hs : a.eval s = v) (hown : RowB e w base v ps) {ad : Addr} {c : Nat} (hx : a.eval x = .slice (some ad) 1 c)
  (h0 : w.cell? (ad.add 0) = some (.bool (ngB p.1))) (h1 : w.cell? (ad.add 1) = some p.2) (k1 : ∃ A n c, p.2 = .slice A n c) (hlen : ps.length + 1 ≤ 1000000000) (hbase : base ≤ w.heap.size)
  (h : ∀ v' w', RowB e w' base v' (ps ++ [p]) → Hid (w.grownBy w' v.ownBlock) → Hid (v'.ownBlock = v.ownBlock ∨ v'.ownBlock = some w.heap.size) → K (a.put o.dst v') w') :
  if Region.wanted o (yielded ops a.tmps) = true then Oper.wp P o a w K Q else E := by
 have hw : Region.wanted o (yielded ops a.tmps) = true := by simp [Region.wanted, hgd]
 rw [if_pos hw]
 refine wp_append_B s x ho hT hI hs hown hx (news := [p]) rfl (by omega) (fun i u hu => ?_) (fun q hq => by obtain rfl := List.mem_singleton.1 hq; exact k1) hlen hbase h
 match i, hu with
 | 0, hu => simp [flat] at hu; subst hu; exact h0
 | 1, hu => simp [flat] at hu; subst hu; exact h1
 | i + 2, hu => simp [flat] at hu
end
theorem RowB.under {e : TypeId} {w : World} {base : Nat} {v : Value} {ps : List (Int × Value)} (h : RowB e w base v ps) : ∀ g, v.ownBlock = some g → base ≤ g ∧ g < w.heap.size := fun g hg => World.ownsRow.lt h.1 g hg
theorem RowB.slice {e : TypeId} {w : World} {base : Nat} {v : Value} {ps : List (Int × Value)} (h : RowB e w base v ps) : ∃ A c, v = .slice A ps.length c := by
 rcases h.1.2 with ⟨e1, h0⟩ | ⟨g, cap, cur, e1, _⟩
 ·exact ⟨none, 0, by rw [e1, h0]⟩
 ·exact ⟨_, _, e1⟩
/-- What lies ahead of the row's base stays where the row is written. -/
theorem RowB.bel {e : TypeId} {w w' : World} {base : Nat} {v : Value} {ps : List (Int × Value)} (h : RowB e w base v ps) (hg : w.grownBy w' v.ownBlock) (hb : base ≤ w.heap.size) : Below base w w' := (Below.refl base w).grown hg hb (fun g e => (h.under g e).1)
/-- Limbs stay where the row is written. -/
theorem RowB.keepS {e : TypeId} {w w' : World} {base : Nat} {V : Value} {ps : List (Int × Value)} {k : IntKind} {v : Value} {l : List Nat} (h : RowB e w base V ps) (hg : w.grownBy w' V.ownBlock) (hs : IsS w k v l) : IsS w' k v l := by
  cases ho : V.ownBlock with
  | none => rw [ho] at hg; exact hs.below ⟨hg.os, hg.tape, hg.output, hg.size, fun k hk => hg.block k hk (by simp)⟩
  | some g =>
    rw [ho] at hg
    obtain ⟨cs, h1, h2⟩ := h.2 g ho
    exact Go.Proofs.Yteijlcfhenlanaa.flow.off hs h1 (fun c hc n => by rcases h2 c hc with ⟨b, rfl⟩ | ⟨A, m, d, rfl⟩ <;> simp) hg
theorem RowB.notB {T T' : TypeId} {w : World} {base base' : Nat} {v u : Value} {ps qs : List (Int × Value)} (h : RowB T w base v ps) (h' : RowB T' w base' u qs) (hne : T ≠ T') : ∀ g, v.ownBlock = some g → u.ownBlock ≠ some g := by
 intro g e e2
 obtain ⟨cs, h1, _⟩ := h.2 g e
 obtain ⟨cs', h2, _⟩ := h'.2 g e2
 rw [h1] at h2
 injection h2 with h2
 injection h2 with _ h2
 exact hne h2
/-- It reads as its numbers. -/
theorem RowB.sl {T : TypeId} {k : IntKind} {B : Nat} {w : World} {base : Nat} {v : Value} {ps : List (Int × Value)} (h : RowB T w base v ps) (hs : ∀ p ∈ ps, IsS w k p.2 (digs B p.1.natAbs)) : SlZ k B w v (ps.map (·.1)) := by
  rcases h.1.2 with ⟨rfl, h0⟩ | ⟨g, cap, cur, rfl, _, hg, hn, hm, _, _⟩
  · obtain rfl : ps = [] := List.length_eq_zero_iff.1 h0
    exact slZ_nil _ _ _ (Nat.zero_le _)
  · refine ⟨some ⟨g, 0, none⟩, cap, by rw [List.length_map], by rw [List.length_map]; exact hn, hm, fun i z hz => ?_⟩
    rw [List.getElem?_map] at hz
    cases hp : ps[i]? with
    | none => rw [hp] at hz; cases hz
    | some p =>
      rw [hp] at hz
      obtain rfl : p.1 = z := by simpa using hz
      obtain ⟨f0, f1⟩ := flat_at ps i p hp
      have k0 := World.ownsRow.cells h.1 (g := g) rfl _ _ f0
      have k1 := World.ownsRow.cells h.1 (g := g) rfl _ _ f1
      rw [addr_zero] at k0 k1
      exact ⟨g, 0, p.2, rfl, by rw [Nat.zero_add]; exact k0, by rw [Nat.zero_add]; exact k1, hs p (List.mem_of_getElem? hp)⟩
/-- A table of slices, written: rows of whole numbers stay. -/
theorem RowX.keepZ {w w' : World} {base : Nat} {e : TypeId} {V : Value} {vs : List Value} {k : IntKind} {B : Nat} {v : Value} {r : List Int} (h : RowX isSl w base e V vs) (hg : w.grownBy w' V.ownBlock) (hs : SlZ k B w v r) : SlZ k B w' v r := by
  cases ho : V.ownBlock with
  | none => rw [ho] at hg; exact hs.below ⟨hg.os, hg.tape, hg.output, hg.size, fun k hk => hg.block k hk (by simp)⟩
  | some g =>
    rw [ho] at hg
    obtain ⟨cs, h1, h2⟩ := h.2 g ho
    obtain ⟨A, c, rfl, h3, h4, h5⟩ := hs
    refine ⟨A, c, rfl, h3, h4, fun i z hz => ?_⟩
    obtain ⟨g', o, u, rfl, c0, c1, s⟩ := h5 i z hz
    have hne : some g' ≠ some g := by
      intro e3
      injection e3 with e3
      subst e3
      rw [cell_of_row w g' (o + i * 2) cs e (0, 0) h1] at c0
      obtain ⟨A', m, d, e4⟩ := h2 _ (Array.mem_of_getElem? c0)
      cases e4
    exact ⟨g', o, u, rfl, hg.cell c0 hne, hg.cell c1 hne, Go.Proofs.Yteijlcfhenlanaa.flow.off s h1 (fun c hc n => by obtain ⟨A, m, d, rfl⟩ := h2 c hc; simp) hg⟩
theorem index2_any {P : Program} {t e : TypeId} (hu : P.underlying t = some (.slice e)) (hs : (P.info? e).map (·.size) = some 2) (ad : Addr) {n c k : Nat} (hk : k < n) (w : World) : (Instr.indexAt t (.slice (some ad) n c) (.int .i64 (k : Int))).run P w = .ok (.pointer (some (ad.add (k * 2)))) w := by
  cases hq : P.info? e with
  | none => simp [hq] at hs
  | some inf =>
    have hsz : inf.size = 2 := by simpa [hq] using hs
    simp [Instr.indexAt, asIntOf, go_sem, run_underlying hu, sizeOf, typeInfo, hq, hsz, hk]
/-- A table of whole numbers, as it came in. -/
def ArgW (w : World) (v : Value) : Prop := ∃ A n c, v = .slice A n c ∧ n ≤ c ∧ c ≤ maxLen ∧ ∀ i, i < n → ∃ ad u, A = some ad ∧ w.cell? (ad.add i) = some u ∧ ArgZ w u
theorem ArgZ.below {w w' : World} {v : Value} (h : ArgZ w v) (hb : Below w.heap.size w w') : ArgZ w' v := by
 obtain ⟨A, n, c, e, h1, h2, h3⟩ := h
 refine ⟨A, n, c, e, h1, h2, fun i hi => ?_⟩
 obtain ⟨ad, b, u, l, e2, c0, c1, s, lt⟩ := h3 i hi
 exact ⟨ad, b, u, l, e2, (hb.cell (World.block_lt_of_cell? w _ c0)).trans c0, (hb.cell (World.block_lt_of_cell? w _ c1)).trans c1, s.below hb, lt⟩
theorem ArgW.below {w w' : World} {v : Value} (h : ArgW w v) (hb : Below w.heap.size w w') : ArgW w' v := by
 obtain ⟨A, n, c, e, h1, h2, h3⟩ := h
 refine ⟨A, n, c, e, h1, h2, fun i hi => ?_⟩
 obtain ⟨ad, u, e2, c0, hz⟩ := h3 i hi
 exact ⟨ad, u, e2, (hb.cell (World.block_lt_of_cell? w _ c0)).trans c0, ArgZ.below hz hb⟩
theorem ArgW.shape {w : World} {v : Value} (h : ArgW w v) : ∃ A n c, v = .slice A n c ∧ n ≤ c ∧ c ≤ maxLen := by
 obtain ⟨A, n, c, e, h1, h2, _⟩ := h
 exact ⟨A, n, c, e, h1, h2⟩
structure TabY (w : World) (base : Nat) (V U : Value) (us vs : List Value) (T : List (List Int)) : Prop where
 p : RowX isSl w base 51 V us
 q : RowX isSl w base 43 U vs
 lp : us.length = T.length
 lq : vs.length = T.length
 rp : ∀ (i : Nat) (u : Value) (r : List Int), us[i]? = some u → T[i]? = some r → SlZ .u64 4294967296 w u r
 rq : ∀ (i : Nat) (u : Value) (r : List Int), vs[i]? = some u → T[i]? = some r → SlZ .i64 10000 w u r
theorem TabY.below {w w' : World} {base : Nat} {V U : Value} {us vs : List Value} {T : List (List Int)} (h : TabY w base V U us vs T) (hb : Below w.heap.size w w') : TabY w' base V U us vs T :=
 ⟨h.p.below hb, h.q.below hb, h.lp, h.lq, fun i u r hu hr => (h.rp i u r hu hr).below hb, fun i u r hu hr => (h.rq i u r hu hr).below hb⟩
theorem TabY.step {w w3 w4 : World} {base : Nat} {V U V3 U4 a b : Value} {us vs : List Value} {T : List (List Int)} {zs : List Int} (h : TabY w base V U us vs T) (ha : SlZ .u64 4294967296 w a zs) (hb : SlZ .i64 10000 w b zs) (r3 : RowX isSl w3 base 51 V3 (us ++ [a])) (g3 : w.grownBy w3 V.ownBlock) (r4 : RowX isSl w4 base 43 U4 (vs ++ [b])) (g4 : w3.grownBy w4 U.ownBlock) : TabY w4 base V3 U4 (us ++ [a]) (vs ++ [b]) (T ++ [zs]) := by
 have q3 : RowX isSl w3 base 43 U vs := h.q.grown g3 (fun g e e2 => RowV.notV h.p.1 h.q.1 (by decide) g e2 e)
 have p4 : RowX isSl w4 base 51 V3 (us ++ [a]) := r3.grown g4 (fun g e e2 => RowV.notV r3.1 q3.1 (by decide) g e e2)
 have kp : ∀ {k B v r}, SlZ k B w v r → SlZ k B w4 v r := fun hs => q3.keepZ g4 (h.p.keepZ g3 hs)
 refine ⟨p4, r4, by rw [List.length_append, List.length_append, h.lp]; rfl, by rw [List.length_append, List.length_append, h.lq]; rfl, fun i u r hu hr => ?_, fun i u r hu hr => ?_⟩
 ·by_cases hi : i < us.length
  ·rw [List.getElem?_append_left hi] at hu
   rw [List.getElem?_append_left (by rw [← h.lp]; exact hi)] at hr
   exact kp (h.rp i u r hu hr)
  ·have h1 := (List.getElem?_eq_some_iff.1 hu).1
   rw [List.length_append, List.length_singleton] at h1
   obtain rfl : i = us.length := by omega
   rw [List.getElem?_concat_length] at hu
   rw [h.lp, List.getElem?_concat_length] at hr
   injection hu with hu
   injection hr with hr
   subst hu; subst hr
   exact kp ha
 ·by_cases hi : i < vs.length
  ·rw [List.getElem?_append_left hi] at hu
   rw [List.getElem?_append_left (by rw [← h.lq]; exact hi)] at hr
   exact kp (h.rq i u r hu hr)
  ·have h1 := (List.getElem?_eq_some_iff.1 hu).1
   rw [List.length_append, List.length_singleton] at h1
   obtain rfl : i = vs.length := by omega
   rw [List.getElem?_concat_length] at hu
   rw [h.lq, List.getElem?_concat_length] at hr
   injection hu with hu
   injection hr with hr
   subst hu; subst hr
   exact kp hb
theorem rowX_slW {k : IntKind} {B : Nat} {w : World} {base : Nat} {TS : TypeId} {V : Value} {us : List Value} {T : List (List Int)} (h : RowX isSl w base TS V us) (hl : us.length = T.length) (hs : ∀ (i : Nat) (u : Value) (r : List Int), us[i]? = some u → T[i]? = some r → SlZ k B w u r) : SlW k B w V T := by
 refine ⟨us, hl, ?_, hs⟩
 rcases h.1.2 with ⟨rfl, h0⟩ | ⟨g, cap, cur, rfl, _, hg, hn, hm, _, _⟩
 ·obtain rfl : us = [] := List.length_eq_zero_iff.1 h0
  exact ⟨none, 0, rfl, by simp, Nat.zero_le _, fun i u hu => by simp at hu⟩
 ·exact ⟨some ⟨g, 0, none⟩, cap, rfl, hn, hm, fun i u hu => ⟨_, rfl, World.ownsRow.cells h.1 (g := g) rfl _ _ hu⟩⟩
/-- Two tables of the same small whole numbers, so many rows of so many places at most. -/
def RetFewI (M : Nat) (w : World) (e : Ending) (w' : World) : Prop := ∃ V U T, e = .returned (.tuple #[V, U]) ∧ SlW .u64 4294967296 w' V T ∧ SlW .i64 10000 w' U T ∧ T.length ≤ M ∧ (∀ r ∈ T, r.length ≤ M) ∧ lenI T 2 ∧ Below w.heap.size w w'
theorem info_zdoc : ∃ i, Try.prog.info? 41 = some i ∧ i.zero = some (.agg #[.bool false, .slice none 0 0]) ∧ i.size = 2 ∧ i.bytes = 32 := info_parts (P := Try.prog) (e := 41) (z := .agg #[.bool false, .slice none 0 0]) (size := 2) (bytes := 32) (by kernel_rfl)
theorem info_zdocs : ∃ i, Try.prog.info? 43 = some i ∧ i.zero = some (.slice none 0 0) ∧ i.size = 1 ∧ i.bytes = 24 := info_parts (P := Try.prog) (e := 43) (z := .slice none 0 0) (size := 1) (bytes := 24) (by kernel_rfl)
theorem rowX_lit0 (S : Value → Prop) (w : World) (base : Nat) (e : TypeId) (hb : base ≤ w.heap.size) : RowX S (w.alloc (.cells #[] e)) base e (.slice (some ⟨w.heap.size, 0, none⟩) 0 0) [] := by
 refine ⟨by simpa using rowV_lit0 w base e hb, fun g hg => ?_⟩
 obtain rfl : w.heap.size = g := by simpa [Value.ownBlock] using hg
 exact ⟨_, heap_alloc_new w _, fun c hc => by simp at hc⟩
theorem new_cells2 (w : World) (T : TypeId) (x y : Value) : (w.alloc (.cells #[x, y] T)).cell? ((⟨w.heap.size, 0, none⟩ : Addr).add 0) = some x ∧ (w.alloc (.cells #[x, y] T)).cell? ((⟨w.heap.size, 0, none⟩ : Addr).add 1) = some y := by
 obtain ⟨a, b, _, _⟩ := Blk.two (Blk.new w T #[x, y])
 exact ⟨a, b⟩
theorem lit_cells (w : World) (e : TypeId) (u : Value) : ∀ (i : Nat) (x : Value), [u][i]? = some x → (w.alloc (.cells #[u] e)).cell? ((⟨w.heap.size, 0, none⟩ : Addr).add i) = some x := fun i x h => by
  match i, h with
  | 0, h =>
    simp at h; subst h
    exact (Blk.new w e #[u]).cell 0
  | i + 1, h => simp at h
set_option maxHeartbeats 6400000 in
set_option maxRecDepth 100000 in
theorem few15_any (a0 : Value) (M : Nat) (w : World) (h0 : ArgW w a0) (hM : M ≤ 8) :
    Calls Try.prog 7 #[a0, .int .i64 (M : Int)] w (RetFewI M w) := by
  have at0 := h0
  obtain ⟨A0, n0, c0, rfl, hc0, hm0⟩ := h0.shape
  unfold maxLen at hm0
  clear h0
  go_enter Try.func7, Try.ntmps7
  go_wp2
  go_loopw [6, 7, 8] (fun v6 v7 v8 wr => ∃ (k : Nat) (us vs : List Value) (T : List (List Int)), k ≤ n0 ∧ k ≤ M ∧ TabY wr w.heap.size v6 v7 us vs T ∧ Hid (T.length = k ∧ (∀ r ∈ T, r.length ≤ M) ∧ lenI T 2) ∧ Hid (Below w.heap.size w wr) ∧ v8 = .int .i64 (k : Int)) (fun _ _ v8 _ => M - (intOf v8).toNat)
  case atStart =>
    have r0 := rowX_lit0 isSl w w.heap.size 51 (Nat.le_refl _)
    have ba := below_alloc (w := w) (Nat.le_refl _) (.cells #[] 51)
    have r1 := rowX_lit0 isSl (w.alloc (.cells #[] 51)) w.heap.size 43 ba.size
    have bb := below_alloc (w := w.alloc (.cells #[] 51)) (Nat.le_refl _) (.cells #[] 43)
    have HT0 : Hid (([] : List (List Int)).length = 0 ∧ (∀ r ∈ ([] : List (List Int)), r.length ≤ M) ∧ lenI [] 2) := ⟨rfl, fun r hr => by simp at hr, fun r hr => by simp at hr⟩
    refine ⟨0, [], [], [], by omega, by omega, ⟨r0.below bb, ?_, rfl, rfl, fun i u r hu => by simp at hu, fun i u r hu => by simp at hu⟩, HT0, ba.trans (bb.mono ba.size), rfl⟩
    simpa using r1
  case round =>
    obtain ⟨k, us, vs, T, hk, hkM, hT, HT, HB, rfl⟩ := hrel
    obtain ⟨wo, hwo⟩ : ∃ wo, wo = wr := ⟨_, rfl⟩
    subst hwo
    obtain ⟨A6, c6, e6⟩ := RowV.slice hT.p.1
    obtain ⟨A7, c7, e7⟩ := RowV.slice hT.q.1
    subst e6
    subst e7
    have HTY := Lib.hid hT
    clear hT
    by_cases hlt : k < n0 ∧ k < M
    · obtain ⟨hlt1, hlt2⟩ := hlt
      obtain ⟨A_, n_, c_, e_, _, _, hel⟩ := at0.below HB.out
      injection e_ with e1 e2 e3
      subst e1; subst e2; subst e3
      obtain ⟨ad, ue, rfl, ec, hz⟩ := hel k hlt1
      clear hel
      obtain ⟨Aq, nq, cq, rfl, _, _, _⟩ := id hz
      have HZ := Lib.hid hz
      clear hz
      have HEC := Lib.hid ec
      clear ec
      have r0 := rowB_lit0 29 wo wo.heap.size (Nat.le_refl _)
      have ba := below_alloc (w := wo) (Nat.le_refl _) (.cells #[] 29)
      have r1 := rowB_lit0 41 (wo.alloc (.cells #[] 29)) wo.heap.size ba.size
      have bb := below_alloc (w := wo.alloc (.cells #[] 29)) (Nat.le_refl _) (.cells #[] 41)
      have r2 := r0.below bb
      have HB2 := Lib.hid (ba.trans (bb.mono ba.size))
      clear r0 ba bb
      go_wp2
      go_loopw [9, 10, 11] (fun v9 v10 v11 wr => ∃ (j : Nat) (ps qs : List (Int × Value)), j ≤ nq ∧ j ≤ M ∧ RowB 29 wr wo.heap.size v9 ps ∧ RowB 41 wr wo.heap.size v10 qs ∧ Hid (ps.length = j ∧ qs.map (·.1) = ps.map (·.1) ∧ ∀ p ∈ ps, lenZ p.1 ≤ 2) ∧ Hid ((∀ p ∈ ps, IsS wr .u64 p.2 (digs 4294967296 p.1.natAbs)) ∧ ∀ p ∈ qs, IsS wr .i64 p.2 (digs 10000 p.1.natAbs)) ∧ Hid (Below wo.heap.size wo wr) ∧ v11 = .int .i64 (j : Int)) (fun _ _ v11 _ => M - (intOf v11).toNat)
      case atStart =>
        have HP0 : Hid (([] : List (Int × Value)).length = 0 ∧ ([] : List (Int × Value)).map (·.1) = ([] : List (Int × Value)).map (·.1) ∧ ∀ p ∈ ([] : List (Int × Value)), lenZ p.1 ≤ 2) := ⟨rfl, rfl, fun p hp => by simp at hp⟩
        refine ⟨0, [], [], by omega, by omega, r2, ?_, HP0, ⟨fun p hp => by simp at hp, fun p hp => by simp at hp⟩, HB2, rfl⟩
        simpa using r1
      case round =>
        clear r2 r1 HB2
        obtain ⟨j, ps, qs, hj, hjM, ra, rb, HPQ, HLS, HBi, rfl⟩ := hrel
        obtain ⟨wi, hwi⟩ : ∃ wi, wi = wr := ⟨_, rfl⟩
        subst hwi
        have eci := (HBi.out.cell (World.block_lt_of_cell? wo _ HEC.out)).trans HEC.out
        obtain ⟨A9, c9, e9⟩ := ra.slice
        obtain ⟨A10, c10, e10⟩ := rb.slice
        subst e9
        subst e10
        by_cases hlj : j < nq ∧ j < M
        · obtain ⟨hlj1, hlj2⟩ := hlj
          obtain ⟨A__, n__, c__, e__, _, _, hel⟩ := ArgZ.below HZ.out HBi.out
          injection e__ with e1 e2 e3
          subst e1; subst e2; subst e3
          obtain ⟨adq, b, uq, l, rfl, e0, e1, hs, hlt⟩ := hel j hlj1
          rw [at_one] at e1
          clear hel
          obtain ⟨Al, cl, rfl, _⟩ := id hs
          obtain ⟨z, hzc⟩ : ∃ z, z = cleanZ b l 2 := ⟨_, rfl⟩
          have lz : lenZ z ≤ 2 := by rw [hzc]; exact cleanZ_len b l 2
          have CC : ∀ w', IsS w' .u64 (.slice Al l.length cl) l → Calls Try.prog 24 #[.agg #[.bool b, .slice Al l.length cl], .int .i64 2] w' (RetZ z w') := fun w' h => by rw [hzc]; exact zclean_any b _ l 2 2 w' rfl h hlt (by omega)
          have hix := fun w => index2_any (P := Try.prog) Try.underlying51 (by kernel_rfl) adq (n := nq) (c := cq) hlj1 w
          have HLZ := Lib.hid lz
          clear hzc hlt lz
          go_wp2_with fail
          refine (CC _ hs).mono ?_
          rintro e w5 ⟨v5, rfl, k5, f5, b5⟩
          obtain ⟨u5, rfl, s5⟩ := k5
          obtain ⟨A5, c5, rfl, _⟩ := id s5
          have ba := below_alloc (w := w5) (Nat.le_refl _) (.cells #[.bool (ngB z), .slice A5 (digs 4294967296 z.natAbs).length c5] 29)
          have B12 := Blk.new w5 29 #[.bool (ngB z), .slice A5 (digs 4294967296 z.natAbs).length c5]
          have b6 := b5.trans (ba.mono b5.size)
          have ra6 := ra.below b6
          have rb6 := rb.below b6
          have s6 := s5.below ba
          have HLS6 : Hid ((∀ p ∈ ps, IsS (w5.alloc (.cells #[.bool (ngB z), .slice A5 (digs 4294967296 z.natAbs).length c5] 29)) .u64 p.2 (digs 4294967296 p.1.natAbs)) ∧ ∀ p ∈ qs, IsS (w5.alloc (.cells #[.bool (ngB z), .slice A5 (digs 4294967296 z.natAbs).length c5] 29)) .i64 p.2 (digs 10000 p.1.natAbs)) := ⟨fun p hp => (HLS.out.1 p hp).below b6, fun p hp => (HLS.out.2 p hp).below b6⟩
          have hbi := HBi.out.size
          have HB6 := Lib.hid (HBi.out.trans (b6.mono hbi))
          have ua := ra.under
          have h5 := b5.size
          have hne : ∀ g, (Value.slice A9 ps.length c9).ownBlock = some g → w5.heap.size ≠ g := fun g e => by have := (ua g e).2; omega
          have HL8 : Hid (ps.length + 1 ≤ 1000000000 ∧ qs.length + 1 ≤ 1000000000) := by
            have h1 := HPQ.out.1
            have h2 := congrArg List.length HPQ.out.2.1
            rw [List.length_map, List.length_map] at h2
            exact ⟨by omega, by omega⟩
          have HNE := Lib.hid hne
          clear ra rb s5 ba b5 b6 e0 e1 hs CC eci HLS HBi hix ua hne
          obtain ⟨w6, hw6⟩ : ∃ w6, w5.alloc (.cells #[.bool (ngB z), .slice A5 (digs 4294967296 z.natAbs).length c5] 29) = w6 := ⟨_, rfl⟩
          go_upto_region 10 with (fail)
          rw [hw6] at B12 ra6 rb6 s6 HLS6 HB6
          clear hw6
          obtain ⟨V0, V1, _, _⟩ := Blk.two B12
          obtain ⟨cA0, cA1⟩ := new_cells2 w6 29 (.bool (ngB z)) (.slice A5 (digs 4294967296 z.natAbs).length c5)
          have bA := (below_alloc (w := w6) (Nat.le_refl _) (.cells #[.bool (ngB z), .slice A5 (digs 4294967296 z.natAbs).length c5] 29)).drew
          have rA := ra6.below bA
          have rbA := rb6.below bA
          have sA := s6.below bA
          have B12A := B12.below bA
          obtain ⟨xA0, xA1, _, _⟩ := Blk.two B12A
          have hszA := Nat.le_trans HB6.out.size bA.size
          have HBA := Lib.hid (HB6.out.trans (bA.mono HB6.out.size))
          have HLSA := Lib.hid (And.intro (fun p hp => (HLS6.out.1 p hp).below bA) (fun p hp => (HLS6.out.2 p hp).below bA))
          have lz3 : lenZ z ≤ 30000 := by have := HLZ.out; omega
          clear bA ra6 rb6 s6 B12 HLS6
          go_region_law (first
            | (refine step_append_B rfl (.tmp 50) (.tmp 52) rfl Try.underlying51 Go.Proofs.Yteijlcfhenlanaa.whl.info_int (v := .slice A9 ps.length c9) (p := (z, .slice A5 (digs 4294967296 z.natAbs).length c5)) (ps := ps) (by rfl) (by exact rA) (ad := ⟨w6.heap.size, 0, none⟩) (c := 1) (by rfl) (by exact cA0) (by exact cA1) ⟨_, _, _, rfl⟩ HL8.out.1 (by exact hszA) ?_; intro v8 w8 row8 G8 O8; have rb8 := rbA.grown G8.out (fun g e e2 => RowB.notB rA rbA (by decide) g e2 e); have s8 := rA.keepS G8.out sA; have B8 := Go.Proofs.Yteijlcfhenlanaa.whl.Blk.other B12A G8.out (fun e => HNE.out _ e rfl); obtain ⟨y0, y1, _, _⟩ := Blk.two B8)
            | (go_simp; go_at_call 25; refine (roff_any _ z _ ⟨_, rfl, (by exact s8)⟩ lz3).mono ?_; rintro e w9 ⟨v9, rfl, k9, f9, b9⟩; obtain ⟨u9, rfl, s9⟩ := k9; obtain ⟨A11, c11, rfl, _⟩ := id s9; obtain ⟨cC0, cC1⟩ := new_cells2 w9 41 (.bool (ngB z)) (.slice A11 (digs 10000 z.natAbs).length c11); have bC := below_alloc (w := w9) (Nat.le_refl _) (.cells #[.bool (ngB z), .slice A11 (digs 10000 z.natAbs).length c11] 41); have rC := (rb8.below b9).below bC; have hszC := Nat.le_trans (Nat.le_trans (Nat.le_trans hszA G8.out.size) b9.size) bC.size)
            | (refine step_append_B rfl (.tmp 54) (.tmp 57) rfl Try.underlying43 info_zdoc (v := .slice A10 qs.length c10) (p := (z, .slice A11 (digs 10000 z.natAbs).length c11)) (ps := qs) (by rfl) (by exact rC) (ad := ⟨w9.heap.size, 0, none⟩) (c := 1) (by rfl) (by exact cC0) (by exact cC1) ⟨_, _, _, rfl⟩ HL8.out.2 (by exact hszC) ?_; intro v10 w10 row10 G10 O10))
          all_goals
            have row8C := (row8.below b9).below bC
            have rowA := row8C.grown G10.out (fun g e e2 => RowB.notB row8C rC (by decide) g e e2)
            have kk : ∀ {k u l}, IsS _ k u l → IsS w10 k u l := fun h => rC.keepS G10.out (((rA.keepS G8.out h).below b9).below bC)
            have s10 := rC.keepS G10.out ((s8.below b9).below bC)
            have s11 := rC.keepS G10.out (s9.below bC)
            have HLS10 : Hid ((∀ p ∈ ps ++ [(z, .slice A5 (digs 4294967296 z.natAbs).length c5)], IsS w10 .u64 p.2 (digs 4294967296 p.1.natAbs)) ∧ ∀ p ∈ qs ++ [(z, .slice A11 (digs 10000 z.natAbs).length c11)], IsS w10 .i64 p.2 (digs 10000 p.1.natAbs)) := by
              refine ⟨fun p hp => ?_, fun p hp => ?_⟩
              · rcases List.mem_append.1 hp with hp | hp
                · exact kk (HLSA.out.1 p hp)
                · rw [List.mem_singleton.1 hp]; exact s10
              · rcases List.mem_append.1 hp with hp | hp
                · exact kk (HLSA.out.2 p hp)
                · rw [List.mem_singleton.1 hp]; exact s11
            have HPQ10 : Hid ((ps ++ [(z, Value.slice A5 (digs 4294967296 z.natAbs).length c5)]).length = j + 1 ∧ (qs ++ [(z, Value.slice A11 (digs 10000 z.natAbs).length c11)]).map (·.1) = (ps ++ [(z, Value.slice A5 (digs 4294967296 z.natAbs).length c5)]).map (·.1) ∧ ∀ p ∈ ps ++ [(z, Value.slice A5 (digs 4294967296 z.natAbs).length c5)], lenZ p.1 ≤ 2) := by
              refine ⟨by rw [List.length_append, HPQ.out.1]; rfl, by rw [List.map_append, List.map_append, HPQ.out.2.1]; rfl, fun p hp => ?_⟩
              rcases List.mem_append.1 hp with hp | hp
              · exact HPQ.out.2.2 p hp
              · rw [List.mem_singleton.1 hp]; exact HLZ.out
            have HB10 : Hid (Below wo.heap.size wo w10) := ((((HBA.out.trans (rA.bel G8.out hszA)).trans (b9.mono (Nat.le_trans hszA G8.out.size))).trans (bC.mono (Nat.le_trans (Nat.le_trans hszA G8.out.size) b9.size)))).trans (rC.bel G10.out hszC)
            have hme : M - (j + 1) < M - j := by omega
            clear rA rbA sA B12A xA0 xA1 cA0 cA1 rb8 s8 B8 y0 y1 b9 s9 cC0 cC1 bC rC row8 row8C G8 G10 O8 O10 kk s10 s11 HLSA HBA HB6 HLZ lz3
            go_wp2
            go_roundw
            case rel => exact ⟨j + 1, _, _, by omega, by omega, rowA, row10, HPQ10, HLS10, HB10, by go_num⟩
            case measure => exact hme
        · have hx : ¬ j < nq ∨ (j < nq ∧ ¬ j < M) := by omega
          have T2 := HTY.out.below HBi.out
          have b1 := below_alloc (w := wi) (Nat.le_refl _) (.cells #[.slice A9 ps.length c9] 51)
          have T3 := T2.below b1
          have sa := (ra.sl HLS.out.1).below b1
          have sb := (rb.sl HLS.out.2).below b1
          rw [HPQ.out.2.1] at sb
          have hr1 := lit_cells wi 51 (.slice A9 ps.length c9)
          have hs1 : ∀ u ∈ [Value.slice A9 ps.length c9], isSl u := fun u hu => by rw [List.mem_singleton.1 hu]; exact ⟨_, _, _, rfl⟩
          have hs2 : ∀ u ∈ [Value.slice A10 qs.length c10], isSl u := fun u hu => by rw [List.mem_singleton.1 hu]; exact ⟨_, _, _, rfl⟩
          have hb3 : w.heap.size ≤ (wi.alloc (.cells #[.slice A9 ps.length c9] 51)).heap.size := Nat.le_trans (Nat.le_trans HB.out.size HBi.out.size) b1.size
          have HLEN : Hid (us.length + 1 ≤ 1000000000 ∧ vs.length + 1 ≤ 1000000000) := by
            have h1 := HTY.out.lp
            have h2 := HTY.out.lq
            have h3 := HT.out.1
            exact ⟨by omega, by omega⟩
          have HNEW : Hid ((T ++ [ps.map (·.1)]).length = k + 1 ∧ (∀ r ∈ T ++ [ps.map (·.1)], r.length ≤ M) ∧ lenI (T ++ [ps.map (·.1)]) 2) := by
            refine ⟨by rw [List.length_append, HT.out.1]; rfl, fun r hr => ?_, fun r hr => ?_⟩
            · rcases List.mem_append.1 hr with hr | hr
              · exact HT.out.2.1 r hr
              · rw [List.mem_singleton.1 hr, List.length_map, HPQ.out.1]; exact hjM
            · rcases List.mem_append.1 hr with hr | hr
              · exact HT.out.2.2 r hr
              · rw [List.mem_singleton.1 hr]
                intro x hx
                obtain ⟨p, hp, rfl⟩ := List.mem_map.1 hx
                exact HPQ.out.2.2 p hp
          have HT3 := Lib.hid T3
          have HS3 := Lib.hid (And.intro sa sb)
          have HB3 := Lib.hid ((HB.out.trans (HBi.out.mono HB.out.size)).trans (b1.mono (Nat.le_trans HB.out.size HBi.out.size)))
          have hsk : M - (k + 1) < M - k := by omega
          clear T2 b1 T3 sa sb ra rb HPQ HLS HBi
          rcases hx with hx | ⟨hx1, hx2⟩
          all_goals
            go_wp2_with (first
              | (at_builtin; refine wpList_append_S rfl (.tmp 59) (.tmp 61) rfl Try.underlying22 info_ints (news := [.slice A9 ps.length c9]) rfl HT3.out.p rfl rfl (by decide) hr1 hs1 HLEN.out.1 hb3 ?_; intro V3 w3 row3 G3 O3; have q3 := HT3.out.q.grown G3.out (fun g e e2 => RowV.notV HT3.out.p.1 HT3.out.q.1 (by decide) g e2 e); have b4 := below_alloc (w := w3) (Nat.le_refl _) (.cells #[.slice A10 qs.length c10] 43); have q4 := q3.below b4; have hr2 := lit_cells w3 43 (.slice A10 qs.length c10); have hb4 := Nat.le_trans (Nat.le_trans hb3 G3.out.size) b4.size)
              | (at_builtin; refine wpList_append_S rfl (.tmp 63) (.tmp 65) rfl Try.underlying23 info_zdocs (news := [.slice A10 qs.length c10]) rfl q4 rfl rfl (by decide) hr2 hs2 HLEN.out.2 hb4 ?_; intro U4 w4 row4 G4 O4))
            have T4 := HT3.out.step HS3.out.1 HS3.out.2 row3 G3.out row4 ((below_none b4 _).trans G4.out)
            have HB4 := Lib.hid (((HB3.out.trans ((Below.refl w.heap.size _).grown G3.out hb3 (fun g e => (World.ownsRow.lt HT3.out.p.1 g e).1))).trans (b4.mono (Nat.le_trans hb3 G3.out.size))).trans ((Below.refl w.heap.size _).grown G4.out hb4 (fun g e => (World.ownsRow.lt q4.1 g e).1)))
            clear q3 q4 b4 hr1 hr2 row3 row4 G3 G4 O3 O4 HT3 HS3 HB3 eci
            go_wp2
            go_roundw
            case rel => exact ⟨k + 1, _, _, _, by omega, by omega, T4, HNEW, HB4, by go_num⟩
            case measure => simp [intOf]; omega
    · have hx : ¬ k < n0 ∨ (k < n0 ∧ ¬ k < M) := by omega
      have HEND : Hid (RetFewI M w (.returned (.tuple #[.slice A6 us.length c6, .slice A7 vs.length c7])) wo) := ⟨_, _, T, rfl, rowX_slW HTY.out.p HTY.out.lp HTY.out.rp, rowX_slW HTY.out.q HTY.out.lq HTY.out.rq, by rw [HT.out.1]; exact hkM, HT.out.2.1, HT.out.2.2, HB.out⟩
      clear HTY HT HB
      rcases hx with hx | ⟨hx1, hx2⟩
      all_goals
        go_wp2
        go_ret2
        exact HEND.out
end Go.Proofs.Yteijlcfhenlanaa.rat
namespace Go.Proofs.Yteijlcfhenlanaa.rat
open Go.RowKit Go.ChangeShapes Go.WideShapes Go.ChangeAt Go.Joins Go.Deep Go.Proofs.Yteijlcfhenlanaa.num Go.Proofs.Yteijlcfhenlanaa.mem Go.Proofs.Yteijlcfhenlanaa.nat Go.Proofs.Yteijlcfhenlanaa.txt Go.Proofs.Yteijlcfhenlanaa.str Go.Proofs.Yteijlcfhenlanaa.flow Go.Proofs.Yteijlcfhenlanaa.whl
set_option linter.unusedVariables false
theorem trod_zs {H : Type} {enc : TypeId × Value → H} {P : Program} {W : World} {fuel : Nat} {t z e : TypeId} {f0 f1 : Field} {v : Value} {x : DataW H × List MemPlace} (ht : P.underlying t = some (.slice z)) (hs : P.underlying z = some (.struct #[f0, f1])) (hone : oneCellFields P #[f0, f1] = true) (hC : P.cellsOf z = 2)
  (hb : P.underlying f0.type = some .bool) (hsl : P.underlying f1.type = some (.slice e)) (he : P.underlying e = some (.int .u64)) (ce : P.cellsOf e = 1)
  (hf : DataW.trod enc P W 0 (fun _ => true) true fuel t [v] = some x) : ArgZ W v := by
 obtain ⟨o0, c0⟩ := hone_of hone 0 f0 rfl
 obtain ⟨o1, c1⟩ := hone_of hone 1 f1 rfl
 rcases Go.Deep.open_slice_pairs ht hs hC o0 o1 c0 c1 hf with ⟨hcs, hx⟩ | ⟨a, len', cap', m, n, V0, V1, D0, D1, P0, P1, hcs, _, hl, hm, hmm, hx, hrows⟩
 ·injection hcs with hcs
  subst hcs
  exact ⟨none, 0, 0, rfl, by omega, by simp, fun i hi => by omega⟩
 ·injection hcs with hcs
  subst hcs
  refine ⟨some a, len', cap', rfl, hl, hm, fun i hi => ?_⟩
  obtain ⟨h1, h2, h3, h4⟩ := hrows i (by simp at hmm; omega)
  obtain ⟨b, e0, _⟩ := DataW.trod_bool hb h3
  injection e0 with e0 _
  obtain ⟨l, k1, k2⟩ := trod_nat hsl he ce h4
  exact ⟨a, b, V1 i, l, rfl, by rw [h1, e0], h2, k1, k2⟩
theorem arg_w {H : Type} {enc : TypeId × Value → H} {P : Program} {W : World} {base : Nat} {tt t z e : TypeId} {f0 f1 : Field} {v : Value} {d : DataW H} {p : List MemPlace} (htt : P.underlying tt = some (.slice t)) (hC1 : P.cellsOf t = 1) (ht : P.underlying t = some (.slice z)) (hs : P.underlying z = some (.struct #[f0, f1])) (hone : oneCellFields P #[f0, f1] = true) (hC : P.cellsOf z = 2)
    (hb : P.underlying f0.type = some .bool) (hsl : P.underlying f1.type = some (.slice e)) (he : P.underlying e = some (.int .u64)) (ce : P.cellsOf e = 1)
    (hv : Value.okWide P W .any base tt v) (h : DataW.Trod enc P W 0 (fun _ => true) true tt v d p) : ArgW W v := by
  obtain ⟨a0, len, cap, rfl⟩ := okWide_slice htt hv
  obtain ⟨fuel, hf⟩ := h
  rcases Go.Deep.open_slice htt hf with ⟨hcs, hx⟩ | ⟨a, len', cap', m, n, D, Pl, hcs, _, hl, hm, hmm, hx, hrows⟩
  · simp [Value.cells] at hcs
    obtain ⟨rfl, rfl, rfl⟩ := hcs
    exact ⟨none, 0, 0, rfl, by omega, by simp, fun i hi => by omega⟩
  · simp [Value.cells] at hcs
    obtain ⟨rfl, rfl, rfl⟩ := hcs
    refine ⟨some a, len, cap, rfl, hl, hm, fun i hi => ?_⟩
    obtain ⟨cs', h1, h2⟩ := hrows i (by simp at hmm; omega)
    rw [hC1] at h1
    obtain ⟨_, hlen, hcell⟩ := World.cells?_some h1
    match cs', hlen with
    | [c0], _ =>
      have g0 := hcell 0 (by omega)
      rw [add_add] at g0
      exact ⟨a, c0, rfl, by simpa using g0, trod_zs ht hs hone hC hb hsl he ce h2⟩
end Go.Proofs.Yteijlcfhenlanaa.rat
namespace Go.Proofs.Yteijlcfhenlanaa.rat
open Go.RowKit Go.Proofs.Yteijlcfhenlanaa.num Go.Proofs.Yteijlcfhenlanaa.mem Go.Proofs.Yteijlcfhenlanaa.nat Go.Proofs.Yteijlcfhenlanaa.txt Go.Proofs.Yteijlcfhenlanaa.str Go.Proofs.Yteijlcfhenlanaa.flow Go.Proofs.Yteijlcfhenlanaa.whl
set_option linter.unusedVariables false
set_option linter.unusedSimpArgs false
set_option maxHeartbeats 3200000 in
set_option maxRecDepth 100000 in
theorem rsquare_any (a0 : Value) (T : List (List Int)) (w : World) (h0 : SlW .i64 10000 w a0 T) : Calls Try.prog 10 #[a0] w (fun e w' => (squareI T ∧ RetV (.bool true) w e w') ∨ (¬ squareI T ∧ RetV (.bool false) w e w')) := by
 have st0 := h0
 obtain ⟨A0, c0, rfl, hc0, hm0⟩ := h0.shape
 unfold maxLen at hm0
 go_enter Try.func10, Try.ntmps10
 go_wp2
 go_loopw [3] (fun v3 wr => ∃ k : Nat, k ≤ T.length ∧ Hid (∀ r ∈ T.take k, r.length = T.length) ∧ Hid (Below w.heap.size w wr) ∧ v3 = .int .i64 (k : Int)) (fun v3 _ => T.length - (intOf v3).toNat)
 case atStart =>
  have H0 : Hid (∀ r ∈ T.take 0, r.length = T.length) := by show ∀ r ∈ _, _; intro r hr; simp at hr
  exact ⟨0, by omega, H0, Below.refl _ _, rfl⟩
 case round =>
  obtain ⟨k, hk, HE, HB, rfl⟩ := hrel
  by_cases hlt : k < T.length
  ·obtain ⟨r, hr⟩ : ∃ r, T[k]? = some r := ⟨_, List.getElem?_eq_getElem hlt⟩
   have HR := Lib.hid hr
   obtain ⟨ad, rfl⟩ := st0.place (List.length_pos_iff.1 (by omega))
   obtain ⟨Ar, cr, hik, ecr, -⟩ := (st0.below HB.out).at2 hr
   clear hr
   by_cases e1 : r.length = T.length
   ·have g1 : (((r.length : Nat) : Int) != ((T.length : Nat) : Int)) = false := by rw [bne_eq_false_iff_eq]; omega
    have HE2 : Hid (∀ x ∈ T.take (k + 1), x.length = T.length) := by
     show ∀ x ∈ _, _
     intro x hx
     rw [List.take_add_one, HR.out] at hx
     rcases List.mem_append.1 hx with hx | hx
     ·exact HE.out x hx
     ·obtain rfl : x = r := by simpa using hx
      exact e1
    clear e1
    go_wp2
    go_roundw
    case rel => exact ⟨k + 1, by omega, HE2, HB, by go_num⟩
    case measure => simp [intOf]; omega
   ·have g1 : (((r.length : Nat) : Int) != ((T.length : Nat) : Int)) = true := by rw [bne_iff_ne]; omega
    have HN : Hid (¬ squareI T) := fun h => e1 (h.2 r (List.mem_of_getElem? HR.out))
    clear e1
    go_wp2
    go_ret
    exact .inr ⟨HN.out, rfl, HB.out⟩
  ·obtain rfl : k = T.length := by omega
   have HE2 : Hid (∀ x ∈ T, x.length = T.length) := by have := HE.out; rwa [List.take_length] at this
   by_cases hl : T.length ≤ 100
   ·have hl1 : ((T.length : Nat) : Int) ≤ 100 := by omega
    have hl2 : decide (((T.length : Nat) : Int) ≤ 100) = true := decide_eq_true hl1
    go_wp2
    go_ret
    exact .inl ⟨⟨hl, HE2.out⟩, by first | rfl | simp [hl2] | simp [hl1], HB.out⟩
   ·have hl1 : ¬ ((T.length : Nat) : Int) ≤ 100 := by omega
    have hl2 : decide (((T.length : Nat) : Int) ≤ 100) = false := decide_eq_false hl1
    go_wp2
    go_ret
    exact .inr ⟨fun h => hl h.1, by first | rfl | simp [hl2] | simp [hl1], HB.out⟩
/-- A slice as pairs of a number and its limbs. -/
def SlP (w : World) (v : Value) (ps : List (Int × Value)) : Prop := ∃ A c, v = .slice A ps.length c ∧ ps.length ≤ c ∧ c ≤ maxLen ∧ ∀ (i : Nat) (p : Int × Value), ps[i]? = some p → ∃ g o, A = some ⟨g, o, none⟩ ∧ w.cell? ⟨g, o + i * 2, none⟩ = some (.bool (ngB p.1)) ∧ w.cell? ⟨g, o + i * 2 + 1, none⟩ = some p.2
def NumP (k : IntKind) (B : Nat) (w : World) (ps : List (Int × Value)) : Prop := ∀ p ∈ ps, IsS w k p.2 (digs B p.1.natAbs)
theorem SlZ.pairs {k : IntKind} {B : Nat} {w : World} {v : Value} {zs : List Int} (h : SlZ k B w v zs) : ∃ ps : List (Int × Value), ps.map (·.1) = zs ∧ SlP w v ps ∧ NumP k B w ps := by
  obtain ⟨A, c, rfl, h2, h3, h4⟩ := h
  have h5 : ∀ i : Nat, ∃ u : Value, ∀ z, zs[i]? = some z → ∃ g o, A = some ⟨g, o, none⟩ ∧ w.cell? ⟨g, o + i * 2, none⟩ = some (.bool (ngB z)) ∧ w.cell? ⟨g, o + i * 2 + 1, none⟩ = some u ∧ IsS w k u (digs B z.natAbs) := fun i => by
    cases hz : zs[i]? with
    | none => exact ⟨.bool false, fun z h => by cases h⟩
    | some z =>
      obtain ⟨g, o, u, h⟩ := h4 i z hz
      exact ⟨u, fun z' h' => by injection h' with h'; subst h'; exact ⟨g, o, h⟩⟩
  obtain ⟨f, hf⟩ := Classical.axiomOfChoice h5
  obtain ⟨ps, hps⟩ : ∃ ps : List (Int × Value), ps = (List.range zs.length).map fun i => (zs.getD i 0, f i) := ⟨_, rfl⟩
  have hl : ps.length = zs.length := by rw [hps]; simp
  have at_ : ∀ (i : Nat) (p : Int × Value), ps[i]? = some p → zs[i]? = some p.1 ∧ p.2 = f i := fun i p hp => by
    have hi := (List.getElem?_eq_some_iff.1 hp).1
    rw [hl] at hi
    rw [hps, List.getElem?_map, List.getElem?_range hi] at hp
    injection hp with hp
    subst hp
    refine ⟨?_, rfl⟩
    show zs[i]? = some (zs.getD i 0)
    rw [List.getD_eq_getElem?_getD, List.getElem?_eq_getElem hi]; rfl
  refine ⟨ps, ?_, ⟨A, c, by rw [hl], by rw [hl]; exact h2, h3, fun i p hp => ?_⟩, fun p hp => ?_⟩
  · refine List.ext_getElem? fun i => ?_
    rw [List.getElem?_map]
    cases hp : ps[i]? with
    | none =>
      have h6 : ¬ i < ps.length := fun h => by rw [List.getElem?_eq_getElem h] at hp; cases hp
      rw [List.getElem?_eq_none (by omega)]; rfl
    | some p => rw [(at_ i p hp).1]; rfl
  · obtain ⟨h6, h7⟩ := at_ i p hp
    obtain ⟨g, o, e, c0, c1, _⟩ := hf i _ h6
    exact ⟨g, o, e, c0, by rw [h7]; exact c1⟩
  · obtain ⟨i, hi⟩ := List.mem_iff_getElem?.1 hp
    obtain ⟨h6, h7⟩ := at_ i p hi
    obtain ⟨g, o, e, c0, c1, s⟩ := hf i _ h6
    rw [h7]; exact s
theorem NumP.sl {k : IntKind} {B : Nat} {w : World} {ps : List (Int × Value)} (h : NumP k B w ps) : allSl ps := fun p hp => by
 obtain ⟨A, c, e, _⟩ := h p hp
 exact ⟨A, _, c, e⟩
theorem NumP.below {k : IntKind} {B : Nat} {w w' : World} {ps : List (Int × Value)} (h : NumP k B w ps) (hb : Below w.heap.size w w') : NumP k B w' ps := fun p hp => (h p hp).below hb
theorem NumP.append {k : IntKind} {B : Nat} {w : World} {ps qs : List (Int × Value)} (h : NumP k B w ps) (h' : NumP k B w qs) : NumP k B w (ps ++ qs) := fun p hp => by
 rcases List.mem_append.1 hp with hp | hp
 ·exact h p hp
 ·exact h' p hp
theorem NumP.nil {k : IntKind} {B : Nat} {w : World} : NumP k B w [] := fun p hp => by simp at hp
theorem NumP.take {k : IntKind} {B : Nat} {w : World} {ps : List (Int × Value)} (h : NumP k B w ps) (n : Nat) : NumP k B w (ps.take n) := fun p hp => h p (List.mem_of_mem_take hp)
theorem NumP.drop {k : IntKind} {B : Nat} {w : World} {ps : List (Int × Value)} (h : NumP k B w ps) (n : Nat) : NumP k B w (ps.drop n) := fun p hp => h p (List.mem_of_mem_drop hp)
theorem SlP.below {w w' : World} {v : Value} {ps : List (Int × Value)} (h : SlP w v ps) (hb : Below w.heap.size w w') : SlP w' v ps := by
 obtain ⟨A, c, e, h1, h2, h3⟩ := h
 refine ⟨A, c, e, h1, h2, fun i p hp => ?_⟩
 obtain ⟨g, o, e2, c0, c1⟩ := h3 i p hp
 exact ⟨g, o, e2, (hb.cell (World.block_lt_of_cell? w _ c0)).trans c0, (hb.cell (World.block_lt_of_cell? w _ c1)).trans c1⟩
theorem SlP.sl {k : IntKind} {B : Nat} {w : World} {v : Value} {ps : List (Int × Value)} (h : SlP w v ps) (hs : NumP k B w ps) : SlZ k B w v (ps.map (·.1)) := by
  obtain ⟨A, c, e, h1, h2, h3⟩ := h
  refine ⟨A, c, by rw [List.length_map]; exact e, by rw [List.length_map]; exact h1, h2, fun i z hz => ?_⟩
  rw [List.getElem?_map] at hz
  cases hp : ps[i]? with
  | none => rw [hp] at hz; cases hz
  | some p =>
    rw [hp] at hz
    obtain rfl : p.1 = z := by simpa using hz
    obtain ⟨g, o, e2, c0, c1⟩ := h3 i p hp
    exact ⟨g, o, _, e2, c0, c1, hs p (List.mem_of_getElem? hp)⟩
/-- What a cut of such a row reads as. -/
theorem SlP.cutTo {w : World} {A : Option Addr} {n c j : Nat} {ps : List (Int × Value)} (h : SlP w (.slice A n c) ps) (hj : j ≤ ps.length) : SlP w (.slice A j c) (ps.take j) := by
 obtain ⟨A', c', e, h1, h2, h3⟩ := h
 injection e with e1 e2 e3
 subst e1; subst e3
 have hl : (ps.take j).length = j := by rw [List.length_take]; omega
 refine ⟨A, c, by rw [hl], by omega, h2, fun i p hp => ?_⟩
 have hi : i < j := by have := (List.getElem?_eq_some_iff.1 hp).1; omega
 rw [List.getElem?_take_of_lt hi] at hp
 exact h3 i p hp
theorem SlP.cutFrom {w : World} {g o n c k : Nat} {A : Option Addr} {ps : List (Int × Value)} (h : SlP w (.slice (some ⟨g, o, none⟩) n c) ps) (hk : k ≤ ps.length) (hA : k < ps.length → A = some ⟨g, o + k * 2, none⟩) : SlP w (.slice A (n - k) (c - k)) (ps.drop k) := by
 obtain ⟨A', c', e, h1, h2, h3⟩ := h
 injection e with e1 e2 e3
 subst e1; subst e2; subst e3
 refine ⟨A, c - k, by rw [List.length_drop], by rw [List.length_drop]; omega, by omega, fun i p hp => ?_⟩
 rw [List.getElem?_drop] at hp
 have hi := (List.getElem?_eq_some_iff.1 hp).1
 obtain ⟨g', o', e, c0, c1⟩ := h3 _ p hp
 injection e with e
 injection e with e4 e5
 subst e4; subst e5
 refine ⟨g, o + k * 2, hA (by omega), ?_, ?_⟩
 ·rw [show o + k * 2 + i * 2 = o + (k + i) * 2 by omega]; exact c0
 ·rw [show o + k * 2 + i * 2 = o + (k + i) * 2 by omega]; exact c1
theorem flat_find : ∀ (ps : List (Int × Value)) (j : Nat) (u : Value), (flat ps)[j]? = some u → ∃ i p, ps[i]? = some p ∧ ((j = i * 2 ∧ u = .bool (ngB p.1)) ∨ (j = i * 2 + 1 ∧ u = p.2))
  | [], j, u, h => by simp [flat] at h
  | p :: ps, 0, u, h => ⟨0, p, rfl, .inl ⟨rfl, by simpa [flat_cons] using h.symm⟩⟩
  | p :: ps, 1, u, h => ⟨0, p, rfl, .inr ⟨rfl, by simpa [flat_cons] using h.symm⟩⟩
  | p :: ps, j + 2, u, h => by
    have e : (flat (p :: ps))[j + 2]? = (flat ps)[j]? := by rw [flat_cons]; simp
    rw [e] at h
    obtain ⟨i, q, hq, h2⟩ := flat_find ps j u h
    refine ⟨i + 1, q, by simpa using hq, ?_⟩
    rcases h2 with ⟨a, b⟩ | ⟨a, b⟩
    · exact .inl ⟨by omega, b⟩
    · exact .inr ⟨by omega, b⟩
/-- A row read at its cells. -/
theorem SlP.flatAt {w : World} {A : Option Addr} {n c : Nat} {ps : List (Int × Value)} (h : SlP w (.slice A n c) ps) (hne : ps ≠ []) : ∃ ad, A = some ad ∧ ∀ (i : Nat) (u : Value), (flat ps)[i]? = some u → w.cell? (ad.add i) = some u := by
 obtain ⟨A', c', e, h1, h2, h3⟩ := h
 injection e with e1 e2 e3
 subst e1; subst e2; subst e3
 obtain ⟨p0, hp0⟩ : ∃ p0, ps[0]? = some p0 := ⟨_, List.getElem?_eq_getElem (List.length_pos_iff.2 hne)⟩
 obtain ⟨g0, o0, rfl, _⟩ := h3 0 p0 hp0
 refine ⟨_, rfl, fun j a ha => ?_⟩
 obtain ⟨k, p, hp, h⟩ := flat_find ps j a ha
 obtain ⟨g', o', e, c0, c1⟩ := h3 k p hp
 injection e with e
 injection e with e1 e2
 subst e1; subst e2
 rw [addr_plus]
 rcases h with ⟨rfl, rfl⟩ | ⟨rfl, rfl⟩
 ·exact c0
 ·rw [← Nat.add_assoc]; exact c1
section
variable {P : Program}
theorem run_append_P {w : World} {base : Nat} {t ty e : TypeId} (hT : P.underlying t = some (.slice e)) (hI : ∃ i, P.info? e = some i ∧ i.zero = some (.agg #[.bool false, .slice none 0 0]) ∧ i.size = 2 ∧ i.bytes = 32) {v u : Value} {ps qs : List (Int × Value)} (hown : RowB e w base v ps) (hu : SlP w u qs) (h1 : allSl qs) (hlen : ps.length + qs.length ≤ 1000000000) (hbase : base ≤ w.heap.size) :
  ∃ v' w', (Builtin.append_ #[t, t] ty #[v, u]).run P w = .ok v' w' ∧ RowB e w' base v' (ps ++ qs) ∧ w.grownBy w' v.ownBlock ∧ (v'.ownBlock = v.ownBlock ∨ v'.ownBlock = some w.heap.size) := by
 obtain ⟨A, c, rfl, hc, hm⟩ := id hu
 by_cases hq : qs = []
 ·subst hq
  obtain ⟨i, hi, hz, hs, hb⟩ := hI
  have hcv : ∃ Av cv, v = .slice Av ps.length cv ∧ ps.length ≤ cv := by
   rcases hown.1.2 with ⟨e1, h0⟩ | ⟨g, cap, cur, e1, _, _, hn, _⟩
   ·exact ⟨none, 0, by rw [e1, h0], by omega⟩
   ·exact ⟨_, cap, e1, hn⟩
  obtain ⟨Av, cv, rfl, hcv⟩ := hcv
  refine ⟨_, w, ?_, by rw [List.append_nil]; exact hown, grown_refl _ _, .inl rfl⟩
  cases A <;> cases Av <;> simp [Builtin.append_, go_sem, run_underlying hT, sizeOf, typeInfo, hi, Builtin.lenOf, Builtin.firstCells, hcv, storeCells]
 ·obtain ⟨ad, rfl, hr⟩ := hu.flatAt hq
  exact run_append_B hT hI hown rfl (List.length_pos_iff.2 hq) hr h1 hlen hbase
theorem wp_append_P {w : World} {o : Oper} {a : Act} {K : Act → World → Prop} {Q : Exit → Act → World → Prop} (s x : Operand) {t : TypeId}
  (ho : o.op = .call { callee := .builtin .append, args := #[s, x], argTypes := #[t, t] })
  {base : Nat} {e : TypeId} (hT : P.underlying t = some (.slice e)) (hI : ∃ i, P.info? e = some i ∧ i.zero = some (.agg #[.bool false, .slice none 0 0]) ∧ i.size = 2 ∧ i.bytes = 32) {v u : Value} {ps qs : List (Int × Value)} (hs : a.eval s = v) (hown : RowB e w base v ps) (hx : a.eval x = u) (hu : SlP w u qs) (h1 : allSl qs) (hlen : ps.length + qs.length ≤ 1000000000) (hbase : base ≤ w.heap.size)
  (h : ∀ v' w', RowB e w' base v' (ps ++ qs) → Hid (w.grownBy w' v.ownBlock) → Hid (v'.ownBlock = v.ownBlock ∨ v'.ownBlock = some w.heap.size) → K (a.put o.dst v') w') : o.wp P a w K Q := by
 obtain ⟨v', w', hrun, h2, h3, h4⟩ := run_append_P (P := P) (ty := o.type) hT hI hown hu h1 hlen hbase
 unfold Oper.wp execOp
 simp only [ho, resolve, invoke, builtin, Sem.run_bind, Sem.run_pure, Result.andThen_ok, List.map_toArray, List.map_cons, List.map_nil, hs, hx, hrun]
 exact h v' w' h2 h3 h4
theorem wpList_append_P {w : World} {ops : Array Oper} {rest : List Oper} {o : Oper} {a : Act} {Q : Exit → Act → World → Prop} (hgd : o.guard = none) (s x : Operand) {t : TypeId}
  (ho : o.op = .call { callee := .builtin .append, args := #[s, x], argTypes := #[t, t] })
  {base : Nat} {e : TypeId} (hT : P.underlying t = some (.slice e)) (hI : ∃ i, P.info? e = some i ∧ i.zero = some (.agg #[.bool false, .slice none 0 0]) ∧ i.size = 2 ∧ i.bytes = 32) {v u : Value} {ps qs : List (Int × Value)} (hs : a.eval s = v) (hown : RowB e w base v ps) (hx : a.eval x = u) (hu : SlP w u qs) (h1 : allSl qs) (hlen : ps.length + qs.length ≤ 1000000000) (hbase : base ≤ w.heap.size)
  (h : ∀ v' w', RowB e w' base v' (ps ++ qs) → Hid (w.grownBy w' v.ownBlock) → Hid (v'.ownBlock = v.ownBlock ∨ v'.ownBlock = some w.heap.size) → wpList P ops Q rest (a.put o.dst v') w') : wpList P ops Q (o :: rest) a w :=
 wpList_plain hgd fun _ hK => wp_append_P s x ho hT hI hs hown hx hu h1 hlen hbase fun v' w' h2 h3 h4 => hK _ _ (h v' w' h2 h3 h4)
theorem step_append_P {w : World} {ops : Array Oper} {o : Oper} {a : Act} {K : Act → World → Prop} {Q : Exit → Act → World → Prop} {E : Prop} (hgd : o.guard = none) (s x : Operand) {t : TypeId}
  (ho : o.op = .call { callee := .builtin .append, args := #[s, x], argTypes := #[t, t] })
  {base : Nat} {e : TypeId} (hT : P.underlying t = some (.slice e)) (hI : ∃ i, P.info? e = some i ∧ i.zero = some (.agg #[.bool false, .slice none 0 0]) ∧ i.size = 2 ∧ i.bytes = 32) {v u : Value} {ps qs : List (Int × Value)} (hs : a.eval s = v) (hown : RowB e w base v ps) (hx : a.eval x = u) (hu : SlP w u qs) (h1 : allSl qs) (hlen : ps.length + qs.length ≤ 1000000000) (hbase : base ≤ w.heap.size)
  (h : ∀ v' w', RowB e w' base v' (ps ++ qs) → Hid (w.grownBy w' v.ownBlock) → Hid (v'.ownBlock = v.ownBlock ∨ v'.ownBlock = some w.heap.size) → K (a.put o.dst v') w') :
  if Region.wanted o (yielded ops a.tmps) = true then Oper.wp P o a w K Q else E := by
 have hw : Region.wanted o (yielded ops a.tmps) = true := by simp [Region.wanted, hgd]
 rw [if_pos hw]
 exact wp_append_P s x ho hT hI hs hown hx hu h1 hlen hbase h
end
/-- A row of the call's own, as pairs. -/
theorem RowB.slP {e : TypeId} {w : World} {base : Nat} {v : Value} {ps : List (Int × Value)} (h : RowB e w base v ps) : SlP w v ps := by
 rcases h.1.2 with ⟨rfl, h0⟩ | ⟨g, cap, cur, rfl, _, hg, hn, hm, _, _⟩
 ·obtain rfl : ps = [] := List.length_eq_zero_iff.1 h0
  exact ⟨none, 0, rfl, Nat.le_refl _, Nat.zero_le _, fun i p hp => by simp at hp⟩
 ·refine ⟨some ⟨g, 0, none⟩, cap, rfl, hn, hm, fun i p hp => ?_⟩
  obtain ⟨f0, f1⟩ := flat_at ps i p hp
  have k0 := World.ownsRow.cells h.1 (g := g) rfl _ _ f0
  have k1 := World.ownsRow.cells h.1 (g := g) rfl _ _ f1
  rw [addr_zero] at k0 k1
  exact ⟨g, 0, rfl, by rw [Nat.zero_add]; exact k0, by rw [Nat.zero_add]; exact k1⟩
theorem RowB.keepN {e : TypeId} {w w' : World} {base : Nat} {V : Value} {ps qs : List (Int × Value)} {k : IntKind} {B : Nat} (h : RowB e w base V ps) (hg : w.grownBy w' V.ownBlock) (hs : NumP k B w qs) : NumP k B w' qs := fun p hp => h.keepS hg (hs p hp)
/-! A number written in place. -/
theorem cell_ne {w : World} {a b : Addr} {c d : Value} (ha : w.cell? a = some c) (hb : w.cell? b = some d) (hn : c ≠ d) : a ≠ b := fun e => by
 subst e
 rw [ha] at hb
 injection hb with hb
 exact hn hb
theorem cell_other {w : World} {a b : Addr} {x : Value} (h : a ≠ b) : (w.setCell a x).cell? b = w.cell? b := by
 rw [World.cell?_setCell_other]
 exact h
theorem cell_same {w : World} {a : Addr} {x u : Value} (h : w.cell? a = some u) : (w.setCell a x).cell? a = some x := by
 apply World.cell?_setCell_same
 exact h
theorem IsS.put {w : World} {k : IntKind} {v : Value} {l : List Nat} {a : Addr} {x c : Value} (h : IsS w k v l) (hc : w.cell? a = some c) (hn : ∀ n, c ≠ .int k n) : IsS (w.setCell a x) k v l := by
 obtain ⟨A, cc, rfl, h1, h2, h3⟩ := h
 refine ⟨A, cc, rfl, h1, h2, fun i d hd => ?_⟩
 obtain ⟨ad, rfl, hq⟩ := h3 i d hd
 refine ⟨ad, rfl, ?_⟩
 rw [cell_other (cell_ne hc hq (hn _))]
 exact hq
section
variable {w : World} {g o : Nat} {b0 : Bool} {A0 : Option Addr} {n0 c0 : Nat} {x y : Value}
theorem off1 (g o : Nat) : (⟨g, o, none⟩ : Addr) ≠ ⟨g, o + 1, none⟩ := fun e => by injection e with _ e; omega
theorem IsS.put2 {k : IntKind} {v : Value} {l : List Nat} (h : IsS w k v l) (k0 : w.cell? ⟨g, o, none⟩ = some (.bool b0)) (k1 : w.cell? ⟨g, o + 1, none⟩ = some (.slice A0 n0 c0)) : IsS ((w.setCell ⟨g, o, none⟩ x).setCell ⟨g, o + 1, none⟩ y) k v l :=
 Go.Proofs.Yteijlcfhenlanaa.rat.IsS.put (Go.Proofs.Yteijlcfhenlanaa.rat.IsS.put h k0 (fun n => by simp)) (c := .slice A0 n0 c0) (by rw [cell_other (off1 g o)]; exact k1) (fun n => by simp)
theorem put2_grown (w : World) (g o : Nat) (x y : Value) : w.grownBy ((w.setCell ⟨g, o, none⟩ x).setCell ⟨g, o + 1, none⟩ y) (some g) := (grown_set w g o x).trans (grown_set _ g (o + 1) y)
/-- A row that lies elsewhere. -/
theorem SlZ.put2 {k : IntKind} {B : Nat} {v : Value} {zs : List Int} (h : SlZ k B w v zs) (hne : v.ownBlock ≠ some g) (k0 : w.cell? ⟨g, o, none⟩ = some (.bool b0)) (k1 : w.cell? ⟨g, o + 1, none⟩ = some (.slice A0 n0 c0)) : SlZ k B ((w.setCell ⟨g, o, none⟩ x).setCell ⟨g, o + 1, none⟩ y) v zs := by
 obtain ⟨A, c, rfl, h2, h3, h4⟩ := h
 refine ⟨A, c, rfl, h2, h3, fun i z hz => ?_⟩
 obtain ⟨g', o', u, rfl, c0', c1', s⟩ := h4 i z hz
 have hne' : some g' ≠ some g := fun e => hne (by simpa [Value.ownBlock] using e)
 have hg := put2_grown w g o x y
 exact ⟨g', o', u, rfl, hg.cell c0' hne', hg.cell c1' hne', Go.Proofs.Yteijlcfhenlanaa.rat.IsS.put2 s k0 k1⟩
/-- The row itself. -/
theorem SlZ.setZ {k : IntKind} {B : Nat} {zs : List Int} {n c j : Nat} {z : Int} {u : Value} (h : SlZ k B w (.slice (some ⟨g, o, none⟩) n c) zs) (hj : j < zs.length) (hu : IsS w k u (digs B z.natAbs)) : SlZ k B ((w.setCell ⟨g, o + j * 2, none⟩ (.bool (ngB z))).setCell ⟨g, o + j * 2 + 1, none⟩ u) (.slice (some ⟨g, o, none⟩) n c) (zs.set j z) := by
 obtain ⟨u0, hjn, p0, p1, s0⟩ := h.at2 (List.getElem?_eq_getElem hj)
 obtain ⟨As, cs, rfl, _⟩ := id s0
 obtain ⟨A, c', e, h2, h3, h4⟩ := h
 injection e with e1 e2 e3
 subst e1; subst e2; subst e3
 refine ⟨_, _, by rw [List.length_set], by rw [List.length_set]; exact h2, h3, fun i z' hz => ?_⟩
 by_cases hi : j = i
 ·subst hi
  rw [List.getElem?_set_self hj] at hz
  injection hz with hz
  subst hz
  refine ⟨g, o, u, rfl, ?_, ?_, Go.Proofs.Yteijlcfhenlanaa.rat.IsS.put2 hu p0 p1⟩
  ·rw [cell_other (fun e => off1 g (o + j * 2) e.symm), cell_same p0]
  ·exact cell_same (u := .slice As (digs B (zs[j]).natAbs).length cs) (by rw [cell_other (off1 g (o + j * 2))]; exact p1)
 ·rw [List.getElem?_set_ne hi] at hz
  obtain ⟨g', o', u', e, c0', c1', s⟩ := h4 i z' hz
  injection e with e
  injection e with e4 e5
  subst e4; subst e5
  have d : ∀ p q : Nat, p ≠ q → (⟨g, p, none⟩ : Addr) ≠ ⟨g, q, none⟩ := fun p q hn e => by injection e with _ e; exact hn e
  refine ⟨g, o, u', rfl, ?_, ?_, Go.Proofs.Yteijlcfhenlanaa.rat.IsS.put2 s p0 p1⟩
  ·rw [cell_other (d _ _ (by omega)), cell_other (d _ _ (by omega))]; exact c0'
  ·rw [cell_other (d _ _ (by omega)), cell_other (d _ _ (by omega))]; exact c1'
end
/-- A table's number is written: the other rows, each in a block of its own, stay. -/
theorem TabW.setZ {B B0 : Nat} {w : World} {g gr o n c i j : Nat} {TS : TypeId} {us : List Value} {T : List (List Int)} {r : List Int} {z : Int} {u : Value} (h : TabW .u64 B w g TS us T) (ha : Apt w B0 us) (hu : us[i]? = some (.slice (some ⟨gr, o, none⟩) n c)) (hr : T[i]? = some r) (hj : j < r.length) (hs : IsS w .u64 u (digs B z.natAbs)) :
  TabW .u64 B ((w.setCell ⟨gr, o + j * 2, none⟩ (.bool (ngB z))).setCell ⟨gr, o + j * 2 + 1, none⟩ u) g TS us (T.set i (r.set j z)) ∧ gr ≠ g := by
 have sr := h.2.2 i _ r hu hr
 obtain ⟨u0, hjn, p0, p1, s0⟩ := sr.at2 (List.getElem?_eq_getElem hj)
 obtain ⟨As, cs, rfl, _⟩ := id s0
 have hne : gr ≠ g := by
  intro e
  subst e
  rw [h.1.1.cell, List.getElem?_toArray] at p0
  obtain ⟨A', m, d, e4⟩ := h.1.2 _ (List.mem_of_getElem? p0)
  cases e4
 refine ⟨⟨⟨Blk.grown h.1.1 (put2_grown w gr (o + j * 2) _ _) (fun e => hne e.symm), h.1.2⟩, by rw [List.length_set]; exact h.2.1, fun l x y hx hy => ?_⟩, hne⟩
 by_cases hl : i = l
 ·subst hl
  rw [List.getElem?_set_self (List.getElem?_eq_some_iff.1 hr).1] at hy
  injection hy with hy
  subst hy
  rw [hu] at hx
  injection hx with hx
  subst hx
  exact sr.setZ hj hs
 ·rw [List.getElem?_set_ne hl] at hy
  exact (h.2.2 l x y hx hy).put2 (fun e => ha.2 i l _ x hl hu hx gr rfl e) p0 p1
theorem col_row (n C c j : Nat) (hn : n ≤ C) (hj : j < C) : RowFn n C (fun M => detF n (colF M c (fun r => M r j))) := by
 have hd := detF_row n
 refine ⟨fun M M' h => hd.congr _ _ fun i l hi hl => ?_, fun M a t ha => ?_, fun M a b t ha hb hab => ?_⟩
 ·unfold colF
  by_cases e : l = c
  ·rw [if_pos e, if_pos e]; exact h i j hi hj
  ·rw [if_neg e, if_neg e]; exact h i l hi (by omega)
 ·rw [← hd.scale _ a t ha]
  refine hd.congr _ _ fun i l hi hl => ?_
  unfold colF scaleF
  by_cases e : l = c
  ·simp only [if_pos e]
  ·simp only [if_neg e]
 ·rw [← hd.add (colF M c (fun r => M r j)) a b t ha hb hab]
  refine hd.congr _ _ fun i l hi hl => ?_
  unfold colF addF
  by_cases e : l = c
  ·simp only [if_pos e]
  ·simp only [if_neg e]
theorem sgn_rat (neg : Bool) (x : Int) : ((sgn neg x : Int) : Rat) = (if neg = true then -1 else 1) * (x : Rat) := by
 unfold sgn
 cases neg
 ·simp
 ·simp [Rat.intCast_neg]; grind
/-- At the end: the determinant, what a makes of the numbers, and Cramer's way. -/
theorem way_solved {n C : Nat} {T0 T : List (List Int)} {a : Nat → Nat → Int} {d : Int} {neg : Bool} (hB : BrT n C n a T d) (hP : Prm n C (entI T0) a (if neg = true then -1 else 1)) :
  ((sgn neg d : Int) : Rat) = detF n (qF (entI T0)) ∧ (∀ i j, i < n → n + j < C → sumN n (fun c => (entI T0 i c : Rat) * ((sgn neg (entI T c j) : Int) : Rat)) = ((sgn neg d : Int) : Rat) * (entI T0 i (n + j) : Rat)) ∧ ∀ c j, c < n → n + j < C → ((sgn neg (entI T c j) : Int) : Rat) = detF n (colF (qF (entI T0)) c (fun r => qF (entI T0) r (n + j))) := by
 have hn := hB.wide
 refine ⟨?_, fun i j hi hj => ?_, fun c j hc hj => ?_⟩
 ·rw [hP.fn _ ((detF_row n).wide hn), BrQ.det hB, sgn_rat]
 ·have h1 := hP.all (fun row => (d : Rat) * (row (n + j) : Rat) = sumN n (fun c => (row c : Rat) * (entI T c j : Rat))) (fun i hi => by
   have h := BrQ.rel hB i (n + j) hi (by omega) hj
   rw [if_neg (by omega)] at h
   rw [h]
   have e : sumN n (fun c => (a i c : Rat) * ((entI T c (n + j - n) : Int) : Rat)) = sumN n (fun c => (a i c : Rat) * (entI T c j : Rat)) := sumN_congr fun c _ => by rw [Nat.add_sub_cancel_left]
   rw [← e]
   grind) i hi
  rw [sgn_rat neg d, sumN_congr (g := fun c => (if neg = true then (-1 : Rat) else 1) * ((entI T0 i c : Rat) * (entI T c j : Rat))) (fun c _ => by rw [sgn_rat]; grind), sumN_mul, ← h1]
  grind
 ·have h1 := hP.fn _ (col_row n C c (n + j) hn hj)
  have h2 := BrQ.cramer hB hc (j := n + j) (by omega) hj
  rw [sgn_rat]
  have h3 : detF n (colF (qF a) c (fun r => qF a r (n + j))) = (entI T c j : Rat) := by
   rw [h2, Nat.add_sub_cancel_left]
  rw [h1, h3]
def sumI : Nat → (Nat → Int) → Int
 | 0, _ => 0
 | n + 1, f => sumI n f + f n
theorem sumI_cast : ∀ (n : Nat) (f : Nat → Int), ((sumI n f : Int) : Rat) = sumN n (fun i => (f i : Rat))
  | 0, f => rfl
  | n + 1, f => by
    show ((sumI n f + f n : Int) : Rat) = sumN n _ + (f n : Rat)
    rw [Rat.intCast_add, sumI_cast n f]
theorem sumI_congr : ∀ {n : Nat} {f g : Nat → Int}, (∀ i, i < n → f i = g i) → sumI n f = sumI n g
  | 0, _, _, _ => rfl
  | n + 1, f, g, h => by
    show sumI n f + f n = sumI n g + g n
    rw [sumI_congr (fun i hi => h i (by omega)), h n (by omega)]
theorem lenZ_sumI {L : Nat} {f : Nat → Int} : ∀ j : Nat, (∀ c, c < j → lenZ (f c) ≤ L) → lenZ (sumI j f) ≤ L + j
  | 0, _ => by show lenZ 0 ≤ _; rw [lenZ_zero]; omega
  | j + 1, h => by
    have h1 := lenZ_sumI j (fun c hc => h c (by omega))
    have h2 := h j (by omega)
    exact lenZ_add_max (m := L + j) h1 (by omega)
def sgI (j : Nat) : Int := if j % 2 = 0 then 1 else -1
theorem sgI_cast (j : Nat) : ((sgI j : Int) : Rat) = sgN j := by
 unfold sgI sgN
 split
 ·rfl
 ·rfl
theorem lenZ_sgI {x : Int} {m : Nat} (j : Nat) (h : lenZ x ≤ m) : lenZ (sgI j * x) ≤ m := by
 unfold sgI
 split
 ·rw [Int.one_mul]; exact h
 ·rw [show (-1 : Int) * x = -x by omega]; exact lenZ_neg_le h
def minJ (M : Nat → Nat → Int) (j : Nat) : Nat → Nat → Int := fun i c => M (i + 1) (skipN j c)
def detI : Nat → (Nat → Nat → Int) → Int
 | 0, _ => 1
 | n + 1, M => sumI (n + 1) (fun j => sgI j * M 0 j * detI n (minJ M j))
theorem detI_cast : ∀ (n : Nat) (M : Nat → Nat → Int), ((detI n M : Int) : Rat) = detF n (qF M)
  | 0, M => rfl
  | n + 1, M => by
    show ((sumI (n + 1) _ : Int) : Rat) = sumN (n + 1) _
    rw [sumI_cast]
    refine sumN_congr fun j hj => ?_
    rw [Rat.intCast_mul, Rat.intCast_mul, sgI_cast, detI_cast n (minJ M j)]
    rfl
theorem detI_congr : ∀ (n : Nat) {M M' : Nat → Nat → Int}, (∀ i j, i < n → j < n → M i j = M' i j) → detI n M = detI n M'
  | 0, _, _, _ => rfl
  | n + 1, M, M', h => sumI_congr fun j hj => by
    rw [h 0 j (by omega) hj, detI_congr n (M := minJ M j) (M' := minJ M' j) (fun i c hi hc => h (i + 1) _ (by omega) (skipN_lt hc))]
def dZ (S : Nat) : Nat → Nat
 | 0 => 1
 | n + 1 => S + dZ S n + (n + 1)
theorem lenZ_det {S : Nat} : ∀ (n : Nat) {M : Nat → Nat → Int}, (∀ i j, i < n → j < n → lenZ (M i j) ≤ S) → lenZ (detI n M) ≤ dZ S n
  | 0, _, _ => lenZ_one
  | n + 1, M, h => by
    refine lenZ_sumI (n + 1) (fun c hc => ?_)
    rw [Int.mul_assoc]
    exact lenZ_sgI c (lenZ_mul_le (h 0 c (by omega) hc) (lenZ_det n (fun i j hi hj => h _ _ (by omega) (skipN_lt hj))))
/-! What is left without the first row and one place. -/
def minRZ (r : List Int) (j : Nat) : List Int := r.take j ++ r.drop (j + 1)
def minTZ (T : List (List Int)) (j : Nat) : List (List Int) := (T.drop 1).map fun r => minRZ r j
theorem minRZ_len {r : List Int} {j n : Nat} (h : r.length = n + 1) (hj : j < n + 1) : (minRZ r j).length = n := by
 unfold minRZ
 rw [List.length_append, List.length_take, List.length_drop]
 omega
theorem minTZ_len (T : List (List Int)) (j : Nat) : (minTZ T j).length = T.length - 1 := by unfold minTZ; rw [List.length_map, List.length_drop]
theorem minTZ_at {T : List (List Int)} {i j : Nat} {r : List Int} (h : T[i + 1]? = some r) : (minTZ T j)[i]? = some (minRZ r j) := by
 unfold minTZ
 rw [List.getElem?_map, List.getElem?_drop, Nat.add_comm, h]
 rfl
theorem minTZ_sh {T : List (List Int)} {n j : Nat} (h : shI T (n + 1) (n + 1)) (hj : j < n + 1) : shI (minTZ T j) n n := by
 refine ⟨by rw [minTZ_len, h.1]; omega, fun r hr => ?_⟩
 unfold minTZ at hr
 obtain ⟨x, hx, rfl⟩ := List.mem_map.1 hr
 exact minRZ_len (h.2 x (List.mem_of_mem_drop hx)) hj
theorem minRZ_getD {r : List Int} {j c : Nat} (hj : j < r.length) : (minRZ r j).getD c 0 = r.getD (skipN j c) 0 := by
 unfold minRZ skipN
 rw [List.getD_eq_getElem?_getD, List.getD_eq_getElem?_getD]
 have hl : (r.take j).length = j := by rw [List.length_take]; omega
 by_cases h : c < j
 ·rw [if_pos h, List.getElem?_append_left (by omega), List.getElem?_take_of_lt h]
 ·rw [if_neg h, List.getElem?_append_right (by omega), hl, List.getElem?_drop, show j + 1 + (c - j) = c + 1 by omega]
theorem minTZ_ent {T : List (List Int)} {n j i c : Nat} (h : shI T (n + 1) (n + 1)) (hj : j < n + 1) (hi : i < n) : entI (minTZ T j) i c = minJ (entI T) j i c := by
 obtain ⟨r, hr, hl⟩ := rowI_ex h (show i + 1 < n + 1 by omega)
 rw [entI_row (minTZ_at hr)]
 unfold minJ
 rw [entI_row hr, minRZ_getD (by omega)]
theorem lenI_min {T : List (List Int)} {m j : Nat} (h : lenI T m) : lenI (minTZ T j) m := by
 intro r hr x hx
 unfold minTZ at hr
 obtain ⟨y, hy, rfl⟩ := List.mem_map.1 hr
 unfold minRZ at hx
 rcases List.mem_append.1 hx with hx | hx
 ·exact h y (List.mem_of_mem_drop hy) x (List.mem_of_mem_take hx)
 ·exact h y (List.mem_of_mem_drop hy) x (List.mem_of_mem_drop hx)
theorem detI_min {T : List (List Int)} {n j : Nat} (h : shI T (n + 1) (n + 1)) (hj : j < n + 1) : detI n (entI (minTZ T j)) = detI n (minJ (entI T) j) := detI_congr n fun i c hi _ => minTZ_ent h hj hi
theorem entI_at {T : List (List Int)} {n C i j : Nat} (h : shI T n C) (hi : i < n) (hj : j < C) : ∃ r, T[i]? = some r ∧ r.length = C ∧ r[j]? = some (entI T i j) := by
 obtain ⟨r, hr, hl⟩ := rowI_ex h hi
 refine ⟨r, hr, hl, ?_⟩
 rw [entI_row hr, List.getD_eq_getElem?_getD, List.getElem?_eq_getElem (by omega)]; rfl
theorem entI_len {T : List (List Int)} {n C m i j : Nat} (hs : shI T n C) (h : lenI T m) (hi : i < n) (hj : j < C) : lenZ (entI T i j) ≤ m := by
 obtain ⟨r, hr, _, hq⟩ := entI_at hs hi hj
 exact h r (List.mem_of_getElem? hr) _ (List.mem_of_getElem? hq)
/-! A table times another one. -/
/-! A place put in another's stead. -/
def colJ (M : Nat → Nat → Int) (c : Nat) (b : Nat → Int) : Nat → Nat → Int := fun i l => if l = c then b i else M i l
theorem colJ_q (M : Nat → Nat → Int) (c : Nat) (b : Nat → Int) : qF (colJ M c b) = colF (qF M) c (fun i => (b i : Rat)) := by
 funext i l
 unfold qF colJ colF
 by_cases e : l = c
 ·simp only [if_pos e]
 ·simp only [if_neg e]
end Go.Proofs.Yteijlcfhenlanaa.rat
namespace Go.Proofs.Yteijlcfhenlanaa.rat
open Go.RowKit Go.Shelf Go.Proofs.Yteijlcfhenlanaa.num Go.Proofs.Yteijlcfhenlanaa.mem Go.Proofs.Yteijlcfhenlanaa.nat Go.Proofs.Yteijlcfhenlanaa.txt Go.Proofs.Yteijlcfhenlanaa.str Go.Proofs.Yteijlcfhenlanaa.flow Go.Proofs.Yteijlcfhenlanaa.whl
set_option linter.unusedVariables false
set_option linter.unusedSimpArgs false
theorem RowX.apart {S S' : Value → Prop} {w : World} {base base' : Nat} {e e' : TypeId} {v v' : Value} {vs vs' : List Value} (h : RowX S w base e v vs) (h' : RowX S' w base' e' v' vs') (hne : e ≠ e') : ∀ g, v.ownBlock = some g → v'.ownBlock ≠ some g := fun g e1 e2 => by
 obtain ⟨cs, h1, _⟩ := h.2 g e1
 obtain ⟨cs', h2, _⟩ := h'.2 g e2
 rw [h1] at h2
 injection h2 with h2
 injection h2 with _ h2
 exact hne h2
/-- A row that lies elsewhere than the pivots, if it has places at all. -/
def OwnP (w : World) (vp u : Value) (r : List Rat) : Prop := SlF .i64 10000 w u r ∧ (r ≠ [] → FarS .i64 10000 w vp u r)
theorem OwnP.below {w w' : World} {vp u : Value} {r : List Rat} (h : OwnP w vp u r) (hb : Below w.heap.size w w') : OwnP w' vp u r := ⟨h.1.below hb, fun hr => (h.2 hr).below hb⟩
theorem OwnP.far {w w' : World} {vp vp' u : Value} {r : List Rat} (h : OwnP w vp u r) (hF : r ≠ [] → FarS .i64 10000 w' vp' u r) : OwnP w' vp' u r := by
 by_cases hr : r = []
 ·subst hr
  exact ⟨h.1.any, fun hr => absurd rfl hr⟩
 ·exact ⟨(hF hr).sl, hF⟩
theorem OwnP.sl {w : World} {vp u : Value} {r : List Rat} (h : OwnP w vp u r) : isSl u := by
 obtain ⟨A, c, e, _⟩ := h.1.shape
 exact ⟨_, _, _, e⟩
section
variable {P : Program}
end
section
variable {P : Program}
theorem step_append_S {w : World} {ops : Array Oper} {o : Oper} {a : Act} {K : Act → World → Prop} {Q : Exit → Act → World → Prop} {E : Prop} (hgd : o.guard = none) (s x : Operand) {t : TypeId}
  (ho : o.op = .call { callee := .builtin .append, args := #[s, x], argTypes := #[t, t] })
  {base : Nat} {e : TypeId} (hT : P.underlying t = some (.slice e)) (hI : ∃ i, P.info? e = some i ∧ i.zero = some (.slice none 0 0) ∧ i.size = 1 ∧ i.bytes = 24) {v : Value} {vs news : List Value} (hs : a.eval s = v) (hown : RowX isSl w base e v vs) {ad : Addr} {m c : Nat} (hx : a.eval x = .slice (some ad) m c) (hm : m = news.length) (hm0 : 0 < m)
  (hr : ∀ (i : Nat) (u : Value), news[i]? = some u → w.cell? (ad.add i) = some u) (h1 : ∀ u ∈ news, isSl u) (hlen : vs.length + m ≤ 1000000000) (hbase : base ≤ w.heap.size)
  (h : ∀ v' w', RowX isSl w' base e v' (vs ++ news) → Hid (w.grownBy w' v.ownBlock) → Hid (v'.ownBlock = v.ownBlock ∨ v'.ownBlock = some w.heap.size) → K (a.put o.dst v') w') :
  if Region.wanted o (yielded ops a.tmps) = true then Oper.wp P o a w K Q else E := by
 have hw : Region.wanted o (yielded ops a.tmps) = true := by simp [Region.wanted, hgd]
 rw [if_pos hw]
 exact wp_append_S s x ho hT hI hs hown hx hm hm0 hr h1 hlen hbase h
end
/-! What is left without the first row and one place. -/
theorem take_nextD {α : Type} {l : List α} {k : Nat} {x : α} (h : l[k]? = some x) : l.take (k + 1) = l.take k ++ [x] := by rw [List.take_add_one, h]; rfl
theorem SlW.drew {k : IntKind} {B : Nat} {w : World} {v : Value} {t : List (List Int)} (h : SlW k B w v t) : SlW k B w.drew v t := h.below (Below.refl _ w).drew
/-- A table of whole numbers that a call makes by append. -/
structure TabZI (k : IntKind) (B : Nat) (e : TypeId) (w : World) (base : Nat) (V : Value) (us : List Value) (K : List (List Int)) : Prop where
 row : RowX isSl w base e V us
 len : us.length = K.length
 own : ∀ (i : Nat) (u : Value) (r : List Int), us[i]? = some u → K[i]? = some r → SlZ k B w u r
section
variable {k : IntKind} {B : Nat} {e : TypeId}
theorem TabZI.below {w w' : World} {base : Nat} {V : Value} {us : List Value} {K : List (List Int)} (h : TabZI k B e w base V us K) (hb : Below w.heap.size w w') : TabZI k B e w' base V us K := ⟨h.row.below hb, h.len, fun i u r hu hr => (h.own i u r hu hr).below hb⟩
theorem TabZI.snoc {w w' : World} {base : Nat} {V V' u : Value} {us : List Value} {K : List (List Int)} {r : List Int} (h : TabZI k B e w base V us K) (h' : RowX isSl w' base e V' (us ++ [u])) (hg : w.grownBy w' V.ownBlock) (hu : SlZ k B w u r) : TabZI k B e w' base V' (us ++ [u]) (K ++ [r]) := by
 refine ⟨h', by simp [h.len], fun i a b ha hb => ?_⟩
 by_cases hi : i < us.length
 ·rw [List.getElem?_append_left hi] at ha
  rw [List.getElem?_append_left (by rw [← h.len]; exact hi)] at hb
  exact h.row.keepZ hg (h.own i a b ha hb)
 ·rw [List.getElem?_append_right (by omega)] at ha
  rw [List.getElem?_append_right (by rw [← h.len]; omega), ← h.len] at hb
  rcases hj : i - us.length with _ | j
  ·rw [hj] at ha hb
   obtain rfl : u = a := by simpa using ha
   obtain rfl : r = b := by simpa using hb
   exact h.row.keepZ hg hu
  ·rw [hj] at ha
   simp at ha
theorem TabZI.slW {w : World} {base : Nat} {V : Value} {us : List Value} {K : List (List Int)} (h : TabZI k B e w base V us K) : SlW k B w V K := rowX_slW h.row h.len h.own
theorem TabZI.nil (w : World) (base : Nat) (hb : base ≤ w.heap.size) : TabZI k B e (w.alloc (.cells #[] e)) base (.slice (some ⟨w.heap.size, 0, none⟩) 0 0) [] [] := ⟨rowX_lit0 isSl w base e hb, rfl, fun i u r hu => by simp at hu⟩
end
/-- The document's determinant of tables of so many rows. -/
def DetJ (n : Nat) : Prop := ∀ (a0 : Value) (T : List (List Int)) (w : World), SlW .i64 10000 w a0 T → shI T n n → lenI T 2 → Calls Try.prog 14 #[a0] w (RetR (detI n (entI T)) w)
set_option maxHeartbeats 1600000 in
set_option maxRecDepth 100000 in
theorem detJ_zero : DetJ 0 := by
 intro a0 T w h0 hs hl
 obtain ⟨A0, c0, rfl, hc0, hm0⟩ := h0.shape
 obtain rfl : T = [] := List.length_eq_zero_iff.1 hs.1
 obtain ⟨Z, hZ⟩ : ∃ Z : Int, Z = 1 := ⟨_, rfl⟩
 have CN : ∀ w, Calls Try.prog 31 #[.int .i64 1] w (RetR Z w) := fun w => by rw [hZ]; exact rnum7_any 1 w (by omega) (by omega)
 have HV : Hid (detI 0 (entI []) = Z) := hZ.symm
 have ba0 := below_alloc (w := w) (Nat.le_refl _) (.cells #[.bool false, .slice none 0 0] 41)
 have BR0 := Blk.new w 41 #[.bool false, .slice none 0 0]
 clear hZ
 go_enter Try.func14, Try.ntmps14
 go_wp2_with fail
 refine (CN _).mono ?_
 rintro e w2 ⟨v2, rfl, k2, b2⟩
 obtain ⟨u2, rfl, s2⟩ := k2
 obtain ⟨A2, c2, rfl, _⟩ := id s2
 have BR2 := BR0.below b2
 have b02 := ba0.trans (b2.mono ba0.size)
 obtain ⟨X0, X1, F0, F1⟩ := Blk.two BR2
 have G7 := grown_set2 w2 w.heap.size (.bool (ngB Z)) (.slice A2 (digs 10000 Z.natAbs).length c2)
 have B7 := blk_set2 BR2 (.bool (ngB Z)) (.slice A2 (digs 10000 Z.natAbs).length c2)
 have s7 := Go.Proofs.Yteijlcfhenlanaa.flow.off s2 BR2 no_ints2 G7
 have b27 := b02.grown G7 b02.size (fun k e => by cases e; exact Nat.le_refl _)
 obtain ⟨C0, C1, _, _⟩ := Blk.two B7
 clear s2 BR2 BR0
 go_wp2
 refine bodyPost_ret (v := .agg #[.bool (ngB Z), .slice A2 (digs 10000 Z.natAbs).length c2]) (by simp [results, Try.results14, go_sem, C0, C1]) rfl ?_
 rw [HV.out]
 exact ⟨_, rfl, ⟨_, rfl, s7⟩, b27⟩
set_option maxHeartbeats 6400000 in
set_option maxRecDepth 100000 in
theorem detJ_succ (n : Nat) (hn : n ≤ 3) (ih : DetJ n) : DetJ (n + 1) := by
 intro a0 T w h0 hs hl
 obtain ⟨N, hN⟩ : ∃ N, N = T.length := ⟨_, rfl⟩
 have hN1 : N = n + 1 := by rw [hN]; exact hs.1
 obtain ⟨A0, c0, rfl, hc0, hm0⟩ := h0.shape
 rw [← hN] at h0 hc0 ⊢
 have hNp : 0 < N := by omega
 have hN4 : N ≤ 4 := by omega
 have hTne : T ≠ [] := fun e => by rw [e] at hN; simp at hN; omega
 obtain ⟨ad, rfl⟩ := h0.place hTne
 have HN := Lib.hid (And.intro hN hN1)
 have HST := Lib.hid h0
 have HS := Lib.hid hs
 have HL := Lib.hid hl
 obtain ⟨F, hF⟩ : ∃ F : Nat → Int, F = fun c => sgI c * entI T 0 c * detI n (minJ (entI T) c) := ⟨_, rfl⟩
 have HF := Lib.hid hF
 have hdZ : dZ 2 n ≤ 13 := by
  rcases (by omega : n = 0 ∨ n = 1 ∨ n = 2 ∨ n = 3) with rfl | rfl | rfl | rfl <;> decide
 have HFL : Hid (∀ c, c < N → lenZ (F c) ≤ 15) := by
  show ∀ c, _
  intro c hc
  rw [hF]
  show lenZ (sgI c * entI T 0 c * detI n (minJ (entI T) c)) ≤ 15
  rw [Int.mul_assoc]
  have h1 := lenZ_det (S := 2) n (M := minJ (entI T) c) (fun i j hi hj => entI_len hs hl (by omega) (skipN_lt hj))
  have h2 := entI_len hs hl (show 0 < n + 1 by omega) (show c < n + 1 by omega)
  exact lenZ_sgI c (Nat.le_trans (lenZ_mul_le h2 h1) (by omega))
 have HDZ := Lib.hid hdZ
 obtain ⟨Z, hZ⟩ : ∃ Z : Int, Z = 0 := ⟨_, rfl⟩
 have CN : ∀ w, Calls Try.prog 31 #[.int .i64 0] w (RetR Z w) := fun w => by rw [hZ]; exact rnum7_any 0 w (by omega) (by omega)
 have HZ : Hid (Z = sumI 0 F) := hZ
 have ba0 := below_alloc (w := w) (Nat.le_refl _) (.cells #[.bool false, .slice none 0 0] 41)
 have BR0 := Blk.new w 41 #[.bool false, .slice none 0 0]
 have hs1 : (w.alloc (.cells #[.bool false, .slice none 0 0] 41)).heap.size = w.heap.size + 1 := by first | rfl | exact Array.size_push _
 clear hZ hF hN hN1 hs hl h0 hTne hm0 hdZ
 go_enter Try.func14, Try.ntmps14
 go_wp2_with fail
 refine (CN _).mono ?_
 rintro e w2 ⟨v2, rfl, k2, b2⟩
 obtain ⟨u2, rfl, s2⟩ := k2
 obtain ⟨A2, c2, rfl, _⟩ := id s2
 have ba2 := below_alloc (w := w2) (Nat.le_refl _) (.cells #[.bool (ngB Z), .slice A2 (digs 10000 Z.natAbs).length c2] 41)
 have BP0 := Blk.new w2 41 #[.bool (ngB Z), .slice A2 (digs 10000 Z.natAbs).length c2]
 have BR2 := (BR0.below b2).below ba2
 have b01 := ba0.trans (b2.mono ba0.size)
 have HB0 : Hid (Below w.heap.size w _) := b01.trans (ba2.mono b01.size)
 have hg2 : w.heap.size < w2.heap.size := by have := b2.size; omega
 have s20 := s2.below ba2
 clear s2 BR0 ba0 ba2 b01 b2 hs1
 go_wp2
 go_loopw [4] (fun v4 wr => ∃ (j : Nat) (s : Int) (u : Value), j ≤ N ∧ Hid (s = sumI j F) ∧ Blk wr w2.heap.size 41 #[.bool (ngB s), u] ∧ IsS wr .i64 u (digs 10000 s.natAbs) ∧ Blk wr w.heap.size 41 #[.bool false, .slice none 0 0] ∧ Hid (Below w.heap.size w wr) ∧ v4 = .int .i64 (j : Int)) (fun v4 _ => N - (intOf v4).toNat)
 case atStart => exact ⟨0, Z, _, by omega, HZ, BP0, s20, BR2, HB0, rfl⟩
 case round =>
  clear BP0 s20 BR2 HB0 CN
  obtain ⟨j, s, u, hj, HSU, BP, su, BR, HB, rfl⟩ := hrel
  obtain ⟨Au, cu, rfl, _⟩ := id su
  obtain ⟨wj, hwj⟩ : ∃ wj, wj = wr := ⟨_, rfl⟩
  subst hwj
  by_cases hlt : j < N
  ·have ba5 := below_alloc (w := wj) (Nat.le_refl _) (.cells #[] 43)
   have TG5 : TabZI .i64 10000 43 (wj.alloc (.cells #[] 43)) wj.heap.size (.slice (some ⟨wj.heap.size, 0, none⟩) 0 0) [] ((minTZ T j).take (1 - 1)) := TabZI.nil wj wj.heap.size (Nat.le_refl _)
   go_wp2
   go_loopw [5, 6] (fun v5 v6 wr => ∃ (i : Nat) (us : List Value), 1 ≤ i ∧ i ≤ N ∧ TabZI .i64 10000 43 wr wj.heap.size v5 us ((minTZ T j).take (i - 1)) ∧ Hid (Below wj.heap.size wj wr) ∧ v6 = .int .i64 (i : Int)) (fun _ v6 _ => N - (intOf v6).toNat)
   case atStart => exact ⟨1, [], by omega, by omega, TG5, ba5, rfl⟩
   case round =>
     clear TG5 ba5
     obtain ⟨i, us, hi1, hiN, TG, HBi, rfl⟩ := hrel
     obtain ⟨wi, hwi⟩ : ∃ wi, wi = wr := ⟨_, rfl⟩
     subst hwi
     obtain ⟨A5, c5, e5⟩ := RowV.slice TG.row.1
     subst e5
     by_cases hil : i < N
     ·obtain ⟨ri, hri, hril⟩ := rowI_ex HS.out (show i < n + 1 by have := HN.out.2; omega)
      obtain ⟨Ari, ci, hiN2, ecj, sri⟩ := (HST.out.below HB.out).at2 hri
      have hjr : j + 1 ≤ ri.length := by have := HN.out.2; omega
      obtain ⟨gi, oi, rfl, -⟩ := sri.place (fun e => by rw [e] at hjr; simp at hjr)
      have hcs : ri.length ≤ ci ∧ ci ≤ maxLen := by obtain ⟨A', c', e, h1, h2⟩ := sri.shape; injection e with _ _ e; subst e; exact ⟨h1, h2⟩
      obtain ⟨hrc, hcm⟩ := hcs
      obtain ⟨psi, hpm, hVF, hIE⟩ := sri.pairs
      have hpl : psi.length = ri.length := by rw [← hpm, List.length_map]
      obtain ⟨J1, hJ1⟩ : ∃ J1 : Nat, J1 = j + 1 := ⟨_, rfl⟩
      obtain ⟨A2, hA2⟩ : ∃ A2 : Option Addr, A2 = if ci = J1 then some ⟨gi, oi, none⟩ else some ⟨gi, oi + J1 * 2, none⟩ := ⟨_, rfl⟩
      have VTo := hVF.cutTo (show j ≤ psi.length by omega)
      have VFrom := hVF.cutFrom (k := J1) (A := A2) (by omega) (fun h => by rw [hA2, if_neg (by omega)])
      have hone1 := (hIE.take j).sl
      have hone2 := (hIE.drop J1).sl
      have hlen1 : ([] : List (Int × Value)).length + (psi.take j).length ≤ 1000000000 := by rw [List.length_take, List.length_nil]; unfold maxLen at hcm; omega
      have hlen2 : ([] ++ psi.take j : List (Int × Value)).length + (psi.drop J1).length ≤ 1000000000 := by rw [List.nil_append, List.length_take, List.length_drop]; unfold maxLen at hcm; omega
      have bdi := (Below.refl wi.heap.size wi).drew
      have HBd0 : Hid (Below wj.heap.size wj wi.drew) := HBi.out.drew
      have baL0 := below_alloc (w := wi.drew) (Nat.le_refl _) (.cells #[] 41)
      have RL := rowB_lit0 41 wi.drew wi.drew.heap.size (Nat.le_refl _)
      have baL : Below wj.heap.size wj (wi.drew.alloc (.cells #[] 41)) := HBd0.out.trans (baL0.mono HBd0.out.size)
      have HRI := Lib.hid (And.intro hri hpm)
      have HIE := Lib.hid hIE
      have hjc : ¬ ci < j := by omega
      have hjc2 : ¬ ci < J1 := by omega
      have hjc3 : ¬ ri.length < J1 := by omega
      have hA3 := hA2.symm
      have hwr : IntKind.i64.wrap ((j : Int) + 1) = (J1 : Int) := by
       have h1 : ((j : Int) + 1) = (J1 : Int) := by omega
       rw [h1]
       exact Go.IntWalk.i64_in _ (by omega)
      have HJ1 := Lib.hid hJ1
      clear hri hpm hVF hIE hril hA2 hJ1
      go_upto_region 11 with (fail)
      refine wp_region_held_drew (S := fun w' : World => Below wj.heap.size wj w') (by kernel_rfl) HBd0.out (fun hHeld => ?_)
      refine wpAnyH_take (i := 0) (v := .slice A5 us.length c5) rfl (by kernel_rfl) (by kernel_rfl) (by kernel_rfl) (fun _ _ _ h => h) (Or.inl ⟨by kernel_rfl, fun w hSw => by (go_simp; first | done | with_reducible rfl)⟩) hHeld ?_
      simp only [Act.put, List.getElem_toArray, List.getElem_cons_zero, List.getElem_cons_succ, List.setIfInBounds_toArray, List.set_cons_zero, List.set_cons_succ]
      refine wpAnyH_take (i := 2) (v := .slice (some ad) N c0) rfl (by kernel_rfl) (by kernel_rfl) (by kernel_rfl) (fun _ _ _ h => h) (Or.inl ⟨by kernel_rfl, fun w hSw => by (go_simp; first | done | with_reducible rfl)⟩) hHeld ?_
      simp only [Act.put, List.getElem_toArray, List.getElem_cons_zero, List.getElem_cons_succ, List.setIfInBounds_toArray, List.set_cons_zero, List.set_cons_succ]
      refine wpAnyH_take (i := 3) (v := .int .i64 (i : Int)) rfl (by kernel_rfl) (by kernel_rfl) (by kernel_rfl) (fun _ _ _ h => h) (Or.inl ⟨by kernel_rfl, fun w hSw => by (go_simp; first | done | with_reducible rfl)⟩) hHeld ?_
      simp only [Act.put, List.getElem_toArray, List.getElem_cons_zero, List.getElem_cons_succ, List.setIfInBounds_toArray, List.set_cons_zero, List.set_cons_succ]
      refine wpAnyH_take (i := 4) (v := .pointer (some (ad.add i))) rfl (by kernel_rfl) (by kernel_rfl) (by kernel_rfl) (fun _ _ _ h => h) (Or.inl ⟨by kernel_rfl, fun w hSw => by (go_simp; first | done | with_reducible rfl)⟩) hHeld ?_
      simp only [Act.put, List.getElem_toArray, List.getElem_cons_zero, List.getElem_cons_succ, List.setIfInBounds_toArray, List.set_cons_zero, List.set_cons_succ]
      refine wpAnyH_take (i := 5) (v := .slice (some ⟨gi, oi, none⟩) ri.length ci) rfl (by kernel_rfl) (by kernel_rfl) (by kernel_rfl) (fun _ _ _ h => h) (Or.inl ⟨by kernel_rfl, fun w hSw => by (have hBw : Below wj.heap.size wj w := hSw; have f0 := (hBw.cell (World.block_lt_of_cell? _ _ ecj)).trans ecj; go_simp; first | done | with_reducible rfl)⟩) hHeld ?_
      simp only [Act.put, List.getElem_toArray, List.getElem_cons_zero, List.getElem_cons_succ, List.setIfInBounds_toArray, List.set_cons_zero, List.set_cons_succ]
      refine wpAnyH_take (i := 6) (v := .int .i64 (j : Int)) rfl (by kernel_rfl) (by kernel_rfl) (by kernel_rfl) (fun _ _ _ h => h) (Or.inl ⟨by kernel_rfl, fun w hSw => by (go_simp; first | done | with_reducible rfl)⟩) hHeld ?_
      simp only [Act.put, List.getElem_toArray, List.getElem_cons_zero, List.getElem_cons_succ, List.setIfInBounds_toArray, List.set_cons_zero, List.set_cons_succ]
      refine wpAnyH_take (i := 7) (v := .slice (some ⟨gi, oi, none⟩) j ci) rfl (by kernel_rfl) (by kernel_rfl) (by kernel_rfl) (fun _ _ _ h => h) (Or.inl ⟨by kernel_rfl, fun w hSw => by (go_simp; first | done | with_reducible rfl)⟩) hHeld ?_
      simp only [Act.put, List.getElem_toArray, List.getElem_cons_zero, List.getElem_cons_succ, List.setIfInBounds_toArray, List.set_cons_zero, List.set_cons_succ]
      refine wpAnyH_take (i := 9) (v := .slice (some ad) N c0) rfl (by kernel_rfl) (by kernel_rfl) (by kernel_rfl) (fun _ _ _ h => h) (Or.inl ⟨by kernel_rfl, fun w hSw => by (go_simp; first | done | with_reducible rfl)⟩) hHeld ?_
      simp only [Act.put, List.getElem_toArray, List.getElem_cons_zero, List.getElem_cons_succ, List.setIfInBounds_toArray, List.set_cons_zero, List.set_cons_succ]
      refine wpAnyH_take (i := 10) (v := .int .i64 (i : Int)) rfl (by kernel_rfl) (by kernel_rfl) (by kernel_rfl) (fun _ _ _ h => h) (Or.inl ⟨by kernel_rfl, fun w hSw => by (go_simp; first | done | with_reducible rfl)⟩) hHeld ?_
      simp only [Act.put, List.getElem_toArray, List.getElem_cons_zero, List.getElem_cons_succ, List.setIfInBounds_toArray, List.set_cons_zero, List.set_cons_succ]
      refine wpAnyH_take (i := 11) (v := .pointer (some (ad.add i))) rfl (by kernel_rfl) (by kernel_rfl) (by kernel_rfl) (fun _ _ _ h => h) (Or.inl ⟨by kernel_rfl, fun w hSw => by (go_simp; first | done | with_reducible rfl)⟩) hHeld ?_
      simp only [Act.put, List.getElem_toArray, List.getElem_cons_zero, List.getElem_cons_succ, List.setIfInBounds_toArray, List.set_cons_zero, List.set_cons_succ]
      refine wpAnyH_take (i := 12) (v := .slice (some ⟨gi, oi, none⟩) ri.length ci) rfl (by kernel_rfl) (by kernel_rfl) (by kernel_rfl) (fun _ _ _ h => h) (Or.inl ⟨by kernel_rfl, fun w hSw => by (have hBw : Below wj.heap.size wj w := hSw; have f0 := (hBw.cell (World.block_lt_of_cell? _ _ ecj)).trans ecj; go_simp; first | done | with_reducible rfl)⟩) hHeld ?_
      simp only [Act.put, List.getElem_toArray, List.getElem_cons_zero, List.getElem_cons_succ, List.setIfInBounds_toArray, List.set_cons_zero, List.set_cons_succ]
      refine wpAnyH_take (i := 13) (v := .int .i64 (j : Int)) rfl (by kernel_rfl) (by kernel_rfl) (by kernel_rfl) (fun _ _ _ h => h) (Or.inl ⟨by kernel_rfl, fun w hSw => by (go_simp; first | done | with_reducible rfl)⟩) hHeld ?_
      simp only [Act.put, List.getElem_toArray, List.getElem_cons_zero, List.getElem_cons_succ, List.setIfInBounds_toArray, List.set_cons_zero, List.set_cons_succ]
      refine wpAnyH_take (i := 14) (v := .int .i64 (J1 : Int)) rfl (by kernel_rfl) (by kernel_rfl) (by kernel_rfl) (fun _ _ _ h => h) (Or.inl ⟨by kernel_rfl, fun w hSw => by (go_simp; first | done | with_reducible rfl)⟩) hHeld ?_
      simp only [Act.put, List.getElem_toArray, List.getElem_cons_zero, List.getElem_cons_succ, List.setIfInBounds_toArray, List.set_cons_zero, List.set_cons_succ]
      refine wpAnyH_take (i := 15) (v := .slice A2 (ri.length - J1) (ci - J1)) rfl (by kernel_rfl) (by kernel_rfl) (by kernel_rfl) (fun _ _ _ h => h) (Or.inl ⟨by kernel_rfl, fun w hSw => by (go_simp; first | done | with_reducible rfl)⟩) hHeld ?_
      simp only [Act.put, List.getElem_toArray, List.getElem_cons_zero, List.getElem_cons_succ, List.setIfInBounds_toArray, List.set_cons_zero, List.set_cons_succ]
      refine wpAnyH_ready (rs := [1]) (by kernel_rfl) (by simp) ?_
      refine AllReadyH.cons rfl (fun K hK => ?_) AllReadyH.nil
      go_simp
      refine hK.out _ _ (by exact baL) (fun hHeld => ?_)
      clear hK K
      try simp only [Act.put, List.getElem_toArray, List.getElem_cons_zero, List.getElem_cons_succ, List.setIfInBounds_toArray, List.set_cons_zero, List.set_cons_succ]
      refine wpAnyH_ready (rs := [8]) (by kernel_rfl) (by simp) ?_
      refine AllReadyH.cons rfl (fun K hK => ?_) AllReadyH.nil
      refine step_append_P rfl (.tmp 27) (.tmp 33) rfl Try.underlying43 info_zdoc rfl RL rfl (VTo.below baL) hone1 hlen1 baL0.size ?_
      intro v8 w8 RF8 HG8 HK8
      have b8 := RL.bel HG8.out baL0.size
      have b08 := baL.trans (b8.mono HBd0.out.size)
      refine hK.out _ _ (by exact b08) (fun hHeld => ?_)
      clear hK K
      try simp only [Act.put, List.getElem_toArray, List.getElem_cons_zero, List.getElem_cons_succ, List.setIfInBounds_toArray, List.set_cons_zero, List.set_cons_succ]
      refine wpAnyH_ready (rs := [16]) (by kernel_rfl) (by simp) ?_
      refine AllReadyH.cons rfl (fun K hK => ?_) AllReadyH.nil
      refine step_append_P rfl (.tmp 34) (.tmp 41) rfl Try.underlying43 info_zdoc rfl RF8 rfl (VFrom.below b08) hone2 hlen2 (Nat.le_trans baL0.size b8.size) ?_
      intro v9 w9 RF9 HG9 HK9
      have b9 := RF8.bel HG9.out (Nat.le_trans baL0.size b8.size)
      have b09 := b08.trans (b9.mono HBd0.out.size)
      obtain ⟨A9, c9, rfl⟩ := RF9.slice
      obtain ⟨m9, hm9⟩ : ∃ m9, m9 = (([] ++ psi.take j) ++ psi.drop J1).length := ⟨_, rfl⟩
      rw [← hm9] at RF9 ⊢
      clear hm9
      refine hK.out _ _ (by exact b09) (fun hHeld => ?_)
      clear hK K
      try simp only [Act.put, List.getElem_toArray, List.getElem_cons_zero, List.getElem_cons_succ, List.setIfInBounds_toArray, List.set_cons_zero, List.set_cons_succ]
      obtain ⟨w9', hw9⟩ : ∃ w9', w9' = w9 := ⟨_, rfl⟩
      subst hw9
      have SR : SlZ .i64 10000 w9' (.slice A9 m9 c9) (minRZ ri j) := by
       have h := RF9.slP.sl (k := .i64) (B := 10000) (by
        rw [List.nil_append]
        exact (((HIE.out.take j).below b09).append ((HIE.out.drop J1).below b09)))
       rw [List.nil_append, List.map_append, List.map_take, List.map_drop, HRI.out.2, HJ1.out] at h
       exact h
      have bi9 : Below wi.heap.size wi w9' := ((bdi.trans (baL0.mono bdi.size)).trans (b8.mono bdi.size)).trans (b9.mono bdi.size)
      have TG9 := TG.below bi9
      have ba10 := below_alloc (w := w9') (Nat.le_refl _) (.cells #[.slice A9 m9 c9] 43)
      have TG10 := TG9.below ba10
      have SR10 := SR.below ba10
      have hone10 := cell_one_new w9' (.slice A9 m9 c9) 43
      have b010 := b09.trans (ba10.mono b09.size)
      have hlu : us.length + 1 ≤ 1000000000 := by
       have h1 := TG10.len
       rw [List.length_take] at h1
       omega
      have HTK : Hid ((minTZ T j).take (i + 1 - 1) = (minTZ T j).take (i - 1) ++ [minRZ ri j]) := by
       show _ = _
       rw [show i + 1 - 1 = (i - 1) + 1 by omega]
       exact take_nextD (minTZ_at (by rw [show i - 1 + 1 = i by omega]; exact HRI.out.1))
      clear RF9 RF8 HK8 HK9 HG8 HG9 SR TG9 TG RL
      refine wpAnyH_ready (rs := [17]) (by kernel_rfl) (by simp) ?_
      refine AllReadyH.cons rfl (fun K hK => ?_) AllReadyH.nil
      go_simp
      refine hK.out _ _ (by exact b010) (fun hHeld => ?_)
      clear hK K
      try simp only [Act.put, List.getElem_toArray, List.getElem_cons_zero, List.getElem_cons_succ, List.setIfInBounds_toArray, List.set_cons_zero, List.set_cons_succ]
      refine wpAnyH_ready (rs := [18]) (by kernel_rfl) (by simp) ?_
      refine AllReadyH.cons rfl (fun K hK => ?_) AllReadyH.nil
      refine step_append_S rfl (.tmp 26) (.tmp 43) rfl Try.underlying23 info_zdocs rfl TG10.row rfl rfl (by decide) hone10 (fun u hu => by (obtain rfl := List.mem_singleton.1 hu; exact ⟨_, _, _, rfl⟩)) hlu b010.size ?_
      intro v11 w11 RX11 HG11 HX11
      have b011 := b010.grown HG11.out b010.size (fun g hg => TG10.row.1.base_le g hg)
      have TG11 := TG10.snoc RX11 HG11.out SR10
      obtain ⟨A11, c11, e11⟩ := RowV.slice TG11.row.1
      subst e11
      obtain ⟨m11, hm11⟩ : ∃ m11, m11 = (us ++ [Value.slice A9 m9 c9]).length := ⟨_, rfl⟩
      rw [← hm11] at TG11 ⊢
      clear hm11
      refine hK.out _ _ (by exact b011) (fun hHeld => ?_)
      clear hK K
      try simp only [Act.put, List.getElem_toArray, List.getElem_cons_zero, List.getElem_cons_succ, List.setIfInBounds_toArray, List.set_cons_zero, List.set_cons_succ]
      refine wpAnyH_take (i := 19) (v := .slice A11 m11 c11) rfl (by kernel_rfl) (by kernel_rfl) (by kernel_rfl) (fun _ _ _ h => h) (Or.inl ⟨by kernel_rfl, fun w hSw => by (go_simp; first | done | with_reducible rfl)⟩) hHeld ?_
      simp only [Act.put, List.getElem_toArray, List.getElem_cons_zero, List.getElem_cons_succ, List.setIfInBounds_toArray, List.set_cons_zero, List.set_cons_succ]
      refine wpAnyH_done (by kernel_rfl) ?_ _
      go_wp2
      go_roundw
      case rel => exact ⟨i + 1, us ++ [_], by omega, by omega, by rw [HTK.out]; exact TG11, b011, by go_num⟩
      case measure => simp [intOf]; omega
     ·have hsm : SlW .i64 10000 wi (.slice A5 us.length c5) (minTZ T j) := by
       have h := TG.slW
       rwa [List.take_of_length_le (by rw [minTZ_len]; have := HN.out.1; omega)] at h
      have hjn : j < n + 1 := by have := HN.out.2; omega
      obtain ⟨D, hD⟩ : ∃ D, D = detI n (minJ (entI T) j) := ⟨_, rfl⟩
      have hlD : lenZ D ≤ 13 := by
       rw [hD]
       exact Nat.le_trans (lenZ_det (S := 2) n (M := minJ (entI T) j) (fun i j hi hj => entI_len HS.out HL.out (by omega) (skipN_lt hj))) HDZ.out
      have CD : ∀ w' V, SlW .i64 10000 w' V (minTZ T j) → Calls Try.prog 14 #[V] w' (RetR D w') := fun w' V h => by rw [hD, ← detI_min HS.out hjn]; exact ih V (minTZ T j) w' h (minTZ_sh HS.out hjn) (lenI_min HL.out)
      have HBw : Hid (Below w.heap.size w wi) := HB.out.trans (HBi.out.mono HB.out.size)
      obtain ⟨r0, hr0, hr0l, hq⟩ := entI_at HS.out (show 0 < n + 1 by omega) hjn
      obtain ⟨q, hqe⟩ : ∃ q, q = entI T 0 j := ⟨_, rfl⟩
      rw [← hqe] at hq
      obtain ⟨Ar, cr, hN0, ec0, sr⟩ := (HST.out.below HBw.out).at2 hr0
      obtain ⟨gr, or, uq, rfl, hia, k0, k1, sq⟩ := sr.at_ hq
      obtain ⟨Aq, cq, rfl, _⟩ := id sq
      have kq : IsR wi (.agg #[.bool (ngB q), .slice Aq (digs 10000 q.natAbs).length cq]) q := ⟨_, rfl, sq⟩
      have hlq : lenZ q ≤ 2 := by rw [hqe]; exact entI_len HS.out HL.out (by omega) hjn
      obtain ⟨X, hX⟩ : ∃ X, X = q * D := ⟨_, rfl⟩
      have CM : ∀ w a b, IsR w a q → IsR w b D → Calls Try.prog 32 #[a, b] w (RetR X w) := fun w a b h1 h2 => by rw [hX]; exact rmul_any a q b D w h1 h2 (by omega) (by omega)
      have BP6 := BP.below HBi.out
      have su6 := su.below HBi.out
      have BR6 := BR.below HBi.out
      have HXE := Lib.hid (And.intro hX (And.intro hD hqe))
      have hgP : w2.heap.size < wi.heap.size := BP6.lt
      clear BP su BR TG HBi hX hD sr hlq hlD hqe hr0 hr0l hq
      go_upto_region 12 with (fail)
      go_cut [7] from 45 to 53 (fun s7 wx => ∃ (g7 : Nat) (u7 : Value), s7 = .pointer (some ⟨g7, 0, none⟩) ∧ wi.heap.size ≤ g7 ∧ Blk wx g7 41 #[.bool (ngB X), u7] ∧ IsS wx .i64 u7 (digs 10000 X.natAbs) ∧ Hid (Below wi.heap.size wi wx))
      case first =>
       refine flow 10 [Pd.eq (.slice (some ad) N c0), Pd.eq (.pointer (some (ad.add 0))), Pd.eq (.slice (some ⟨gr, or, none⟩) r0.length cr), Pd.eq (.int .i64 (j : Int)), Pd.eq (.pointer (some ⟨gr, or + j * 2, none⟩)), Pd.eq (.agg #[.bool (ngB q), .slice Aq (digs 10000 q.natAbs).length cq]), Pd.eq (.slice A5 us.length c5), pr D, pr X, pn 41 #[.bool false, .slice none 0 0] wi.heap.size] (by kernel_rfl) (by kernel_rfl) ?ob1 ?done1
       case ob1 =>
        refine And.intro (ob_move rfl (wt_none rfl) (ev_far rfl rfl) (fun _ _ h => h)) ?_
        refine And.intro (ob_indexAddr rfl (wt_none rfl) (ev_dep (j := 0) (by kernel_rfl) rfl rfl) (ev_const _) (fun _ _ _ hx hy => ⟨_, by rw [hx, hy]; exact index1_any (k := 0) Try.underlying23 (by kernel_rfl) ad hN0 _, rfl⟩)) ?_
        refine And.intro (ob_load rfl (wt_none rfl) (ev_dep (j := 1) (by kernel_rfl) rfl rfl) (fun w2 hb => run_load1 Try.underlying43 rfl ((hb.cell (World.block_lt_of_cell? wi _ ec0)).trans ec0)) (fun _ _ => rfl)) ?_
        refine And.intro (ob_move rfl (wt_none rfl) (ev_far rfl rfl) (fun _ _ h => h)) ?_
        refine And.intro (ob_indexAddr rfl (wt_none rfl) (ev_dep (j := 2) (by kernel_rfl) rfl rfl) (ev_dep (j := 3) (by kernel_rfl) rfl rfl) (fun _ _ _ hx hy => ⟨_, by rw [hx, hy]; exact index2 Try.underlying43 (by kernel_rfl) hia _, rfl⟩)) ?_
        refine And.intro (ob_load rfl (wt_none rfl) (ev_dep (j := 4) (by kernel_rfl) rfl rfl) (fun w2 hb => load2 Try.underlying41 rfl (by kernel_rfl) ((hb.cell (World.block_lt_of_cell? wi _ k0)).trans k0) ((hb.cell (World.block_lt_of_cell? wi _ k1)).trans k1)) (fun _ _ => rfl)) ?_
        refine And.intro (ob_move rfl (wt_none rfl) (ev_far rfl rfl) (fun _ _ h => h)) ?_
        refine And.intro (ob_call1 rfl Try.func14 (by kernel_rfl) (wt_none rfl) (ev_dep (j := 6) (by kernel_rfl) rfl rfl) (fun w2 u0 hb h0 => by obtain rfl := h0; exact (CD w2 _ (hsm.drew.below hb)).mono fun e w3 h => RetR.pd h)) ?_
        refine And.intro (ob_call2 rfl Try.func32 (by kernel_rfl) (wt_none rfl) (ev_dep (j := 5) (by kernel_rfl) rfl rfl) (ev_dep (j := 7) (by kernel_rfl) rfl rfl) (fun w2 u0 u1 hb h0 h1 => by obtain rfl := h0; exact (CM w2 _ _ (kq.drew.below hb) h1).mono fun e w3 h => RetR.pd h)) ?_
        refine And.intro (ob_alloc (z := .agg #[.bool false, .slice none 0 0]) rfl rfl (fun _ => by kernel_rfl) (fun _ _ hB h => ⟨_, rfl, hB, h⟩)) ?_
        trivial
       case done1 =>
        refine fun w7 hb7 v0 h0 v1 h1 v2 h2 v3 h3 v4 h4 v5 h5 v6 h6 v7 h7 v8 h8 v9 h9 d9 b hbf => ?_
        obtain rfl := h0; obtain rfl := h1; obtain rfl := h2; obtain rfl := h3; obtain rfl := h4; obtain rfl := h5; obtain rfl := h6
        obtain ⟨u8, rfl, s8⟩ := h8
        obtain ⟨g9, rfl, hg9, B9⟩ := h9
        simp only [Act.put, List.setIfInBounds_toArray, List.set_cons_zero, List.set_cons_succ] at hbf
        subst hbf
        have bw7 : Below wi.heap.size wi w7 := (Below.refl wi.heap.size wi).trans (hb7.mono (Nat.le_refl _))
        obtain ⟨A8, c8, rfl, _⟩ := id s8
        refine any_store (i := 10) (by kernel_rfl) rfl rfl rfl rfl rfl rfl (cells := [.bool (ngB X), .slice A8 (digs 10000 X.natAbs).length c8]) rfl B9 rfl (by kernel_rfl) (one2 rfl rfl) fun w10 hg10 BN => ?_
        have s10 := Go.Proofs.Yteijlcfhenlanaa.flow.off s8 B9 no_ints2 hg10
        have bw10 := bw7.grown hg10 bw7.size (fun k e => by injection e with e; omega)
        have HC := Lib.hid (And.intro bw10 s10)
        clear s8 B9 bw7 bw10 s10 BP6 su6 BR6 k0 k1 sq kq ec0 hsm CD CM h7
        refine any_done (by kernel_rfl) ?_
        go_wp2
        go_meet
        exact ⟨g9, _, rfl, hg9, BN, HC.out.2, HC.out.1⟩
      case rest =>
       obtain ⟨g7, u7, rfl, hg7, BX, sX, HBX⟩ := hcut
       obtain ⟨w7, hw7⟩ : ∃ w7, w7 = wc := ⟨_, rfl⟩
       subst hw7
       obtain ⟨A7, c7, rfl, _⟩ := id sX
       have BP7 := BP6.below HBX.out
       have su7 := su6.below HBX.out
       have BR7 := BR6.below HBX.out
       have HB7 : Hid (Below w.heap.size w w7) := HBw.out.trans (HBX.out.mono HBw.out.size)
       have hg7w : w2.heap.size < g7 := by omega
       clear BP6 su6 BR6 k0 k1 sq kq ec0 hsm CD CM
       go_upto_if 56 with (fail)
       obtain ⟨B56, hB⟩ : ∃ B, B = (((j : Int) % 2) == 1) := ⟨_, rfl⟩
       rw [← hB]
       have HB56 := Lib.hid hB
       clear hB
       go_cut [] from 57 to 58 (fun wx => ∃ (Y : Int) (u : Value), Blk wx g7 41 #[.bool (ngB Y), u] ∧ IsS wx .i64 u (digs 10000 Y.natAbs) ∧ Hid (Y = sgI j * X) ∧ Blk wx w2.heap.size 41 #[.bool (ngB s), .slice Au (digs 10000 s.natAbs).length cu] ∧ IsS wx .i64 (.slice Au (digs 10000 s.natAbs).length cu) (digs 10000 s.natAbs) ∧ Blk wx w.heap.size 41 #[.bool false, .slice none 0 0] ∧ Hid (Below w.heap.size w wx))
       case first =>
        by_cases hp : (j : Int) % 2 = 1
        ·obtain rfl : B56 = true := by rw [HB56.out, beq_iff_eq]; exact hp
         obtain ⟨V0, V1, F0, F1⟩ := Blk.two BX
         obtain ⟨Y, hY⟩ : ∃ Y, Y = -X := ⟨_, rfl⟩
         have CG : ∀ w a, IsR w a X → Calls Try.prog 33 #[a] w (RetR Y w) := fun w a h => by rw [hY]; exact rneg_any a X w h
         have HY : Hid (Y = sgI j * X) := by
          show _ = _
          rw [hY]
          unfold sgI
          rw [if_neg (by omega)]
          omega
         clear hY hp
         go_wp2_with fail
         refine (CG _ _ ⟨_, rfl, sX⟩).mono ?_
         rintro e w8 ⟨v8, rfl, k8, b8⟩
         obtain ⟨u8, rfl, s8⟩ := k8
         obtain ⟨A8, c8, rfl, _⟩ := id s8
         have BX8 := BX.below b8
         obtain ⟨X0, X1, F3, F4⟩ := Blk.two BX8
         have G9 := grown_set2 w8 g7 (.bool (ngB Y)) (.slice A8 (digs 10000 Y.natAbs).length c8)
         have B9 := blk_set2 BX8 (.bool (ngB Y)) (.slice A8 (digs 10000 Y.natAbs).length c8)
         have s9 := Go.Proofs.Yteijlcfhenlanaa.flow.off s8 BX8 no_ints2 G9
         have BP9 := Blk.grown (BP7.below b8) G9 (by omega)
         have su9 := Go.Proofs.Yteijlcfhenlanaa.flow.off (su7.below b8) BX8 no_ints2 G9
         have BR9 := Blk.grown (BR7.below b8) G9 (by omega)
         have b08 := HB7.out.trans (b8.mono HB7.out.size)
         have HB9 : Hid (Below w.heap.size w _) := b08.grown G9 b08.size (fun k e => by injection e with e; omega)
         clear BX sX BP7 su7 BR7 HB7 b8 s8 BX8 b08 V0 V1 F0 F1
         go_wp2
         go_meet
         exact ⟨Y, _, B9, s9, HY, BP9, su9, BR9, HB9.out⟩
        ·obtain rfl : B56 = false := by rw [HB56.out, beq_eq_false_iff_ne]; exact hp
         have HY : Hid (X = sgI j * X) := by
          show _ = _
          unfold sgI
          rw [if_pos (by omega), Int.one_mul]
         go_wp2
         go_meet
         exact ⟨X, _, BX, sX, HY, BP7, su7, BR7, HB7.out⟩
       case rest =>
        obtain ⟨Y, u8, BY, sY, HY, BP8, su8, BR8, HB8⟩ := hcut
        obtain ⟨w8, hw8⟩ : ∃ w8, w8 = wc := ⟨_, rfl⟩
        subst hw8
        clear BX sX BP7 su7 BR7 HB7
        obtain ⟨A8, c8, rfl, _⟩ := id sY
        obtain ⟨V0, V1, F0, F1⟩ := Blk.two BY
        obtain ⟨U0, U1, G0, G1⟩ := Blk.two BP8
        have hYF : Y = F j := by
         rw [HY.out, HXE.out.1, HF.out, HXE.out.2.1, HXE.out.2.2]
         exact (Int.mul_assoc _ _ _).symm
        have hlY : lenZ Y ≤ 15 := by rw [hYF]; exact HFL.out j hlt
        have hls : lenZ s ≤ 15 + j := by
         rw [HSU.out]
         exact lenZ_sumI (L := 15) j (fun c hc => HFL.out c (by omega))
        obtain ⟨Z2, hZ2⟩ : ∃ Z2, Z2 = s + Y := ⟨_, rfl⟩
        have CA : ∀ w a b, IsR w a s → IsR w b Y → Calls Try.prog 34 #[a, b] w (RetR Z2 w) := fun w a b h1 h2 => by rw [hZ2]; exact radd_any a s b Y w h1 h2 (by omega) (by omega)
        have HS2 : Hid (Z2 = sumI (j + 1) F) := by
         show _ = sumI j F + F j
         rw [hZ2, hYF, ← HSU.out]
        clear hYF hlY hls hZ2
        go_wp2_with fail
        refine (CA _ _ _ ⟨_, rfl, su8⟩ ⟨_, rfl, sY⟩).mono ?_
        rintro e w9 ⟨v9, rfl, k9, b9⟩
        obtain ⟨u9, rfl, s9⟩ := k9
        obtain ⟨A9, c9, rfl, _⟩ := id s9
        have BP9 := BP8.below b9
        obtain ⟨X0, X1, F3, F4⟩ := Blk.two BP9
        have G10 := grown_set2 w9 w2.heap.size (.bool (ngB Z2)) (.slice A9 (digs 10000 Z2.natAbs).length c9)
        have B10 := blk_set2 BP9 (.bool (ngB Z2)) (.slice A9 (digs 10000 Z2.natAbs).length c9)
        have s10 := Go.Proofs.Yteijlcfhenlanaa.flow.off s9 BP9 no_ints2 G10
        have BR10 := Blk.grown (BR8.below b9) G10 (by omega)
        have b09 := HB8.out.trans (b9.mono HB8.out.size)
        have HB10 : Hid (Below w.heap.size w _) := b09.grown G10 b09.size (fun k e => by injection e with e; omega)
        clear BY sY BP8 su8 BR8 HB8 b9 s9 BP9 b09 V0 V1 F0 F1 U0 U1 G0 G1 CA
        go_wp2
        go_roundw
        case rel => exact ⟨j + 1, Z2, _, by omega, HS2, B10, s10, BR10, HB10, by go_num⟩
        case measure => simp [intOf]; omega
  ·have e : j = N := by omega
   have HV : Hid (s = detI (n + 1) (entI T)) := by
    show _ = _
    rw [HSU.out, e, HN.out.2, HF.out]
    rfl
   obtain ⟨V0, V1, _, _⟩ := Blk.two BP
   obtain ⟨X0, X1, F0, F1⟩ := Blk.two BR
   have G7 := grown_set2 wj w.heap.size (.bool (ngB s)) (.slice Au (digs 10000 s.natAbs).length cu)
   have B7 := blk_set2 BR (.bool (ngB s)) (.slice Au (digs 10000 s.natAbs).length cu)
   have s7 := Go.Proofs.Yteijlcfhenlanaa.flow.off su BR no_ints2 G7
   have b27 := HB.out.grown G7 HB.out.size (fun k e => by cases e; exact Nat.le_refl _)
   obtain ⟨C0, C1, _, _⟩ := Blk.two B7
   clear su BP BR e
   go_wp2
   refine bodyPost_ret (v := .agg #[.bool (ngB s), .slice Au (digs 10000 s.natAbs).length cu]) (by simp [results, Try.results14, go_sem, C0, C1]) rfl ?_
   rw [← HV.out]
   exact ⟨_, rfl, ⟨_, rfl, s7⟩, b27⟩
theorem rdet15_any (a0 : Value) (T : List (List Int)) (w : World) (h0 : SlW .i64 10000 w a0 T) (hn : T.length ≤ 4) (hs : ∀ r ∈ T, r.length = T.length) (hl : lenI T 2) : Calls Try.prog 14 #[a0] w (RetR (detI T.length (entI T)) w) := by
 have key : ∀ n, n ≤ 4 → DetJ n := by
  intro n
  induction n with
  | zero => exact fun _ => detJ_zero
  | succ n ih => exact fun h => detJ_succ n (by omega) (ih (by omega))
 exact key T.length hn a0 T w h0 ⟨rfl, hs⟩ hl
end Go.Proofs.Yteijlcfhenlanaa.rat
namespace Go.Proofs.Yteijlcfhenlanaa.rat
open Go.RowKit Go.Proofs.Yteijlcfhenlanaa.num Go.Proofs.Yteijlcfhenlanaa.mem Go.Proofs.Yteijlcfhenlanaa.nat Go.Proofs.Yteijlcfhenlanaa.txt Go.Proofs.Yteijlcfhenlanaa.str Go.Proofs.Yteijlcfhenlanaa.flow Go.Proofs.Yteijlcfhenlanaa.whl
set_option linter.unusedVariables false
set_option linter.unusedSimpArgs false
theorem RowB.mono {e : TypeId} {w : World} {base base' : Nat} {v : Value} {ps : List (Int × Value)} (h : RowB e w base v ps) (hb : base' ≤ base) : RowB e w base' v ps := by
 refine ⟨⟨h.1.1, ?_⟩, h.2⟩
 rcases h.1.2 with h1 | ⟨g, cap, cur, h1, h2, h3⟩
 ·exact .inl h1
 ·exact .inr ⟨g, cap, cur, h1, Nat.le_trans hb h2, h3⟩
theorem zeros_isB (n : Nat) : ∀ c ∈ Builtin.zeroCells (Value.agg #[.bool false, .slice none 0 0]).cells n, isB c := by
 intro c hc
 unfold Builtin.zeroCells at hc
 rw [show (Value.agg #[.bool false, .slice none 0 0]).cells = #[.bool false, .slice none 0 0] from rfl] at hc
 simp at hc
 obtain ⟨j, _, rfl⟩ := hc
 rcases (show j % 2 = 0 ∨ j % 2 = 1 by omega) with e | e
 ·simp [e]; exact .inl ⟨_, rfl⟩
 ·simp [e]; exact .inr ⟨_, _, _, rfl⟩
theorem zeros_len (n : Nat) : (Builtin.zeroCells (Value.agg #[.bool false, .slice none 0 0]).cells n).size = n * 2 := by
 unfold Builtin.zeroCells
 rw [show (Value.agg #[.bool false, .slice none 0 0]).cells = #[.bool false, .slice none 0 0] from rfl]
 simp
section
variable {P : Program}
/-- append(nil, make([]E, k)...), k above 0: a new row of noughts, cut to nothing. -/
theorem run_append_Z0 {w : World} {t tn ty e : TypeId} {kn : IntKind} (hT : P.underlying t = some (.slice e)) (htn : P.underlying tn = some (.int kn)) (hI : ∃ i, P.info? e = some i ∧ i.zero = some (.agg #[.bool false, .slice none 0 0]) ∧ i.size = 2 ∧ i.bytes = 32) {k : Nat} (h0 : 0 < k) (hk : k ≤ 1000000) :
  ∃ cap w', (Builtin.append_ #[t, tn] ty #[.slice none 0 0, .int .i64 (k : Int)]).run P w = .ok (.slice (some ⟨w.heap.size, 0, none⟩) k cap) w' ∧ k ≤ cap ∧ RowB e w' w.heap.size (.slice (some ⟨w.heap.size, 0, none⟩) 0 cap) [] ∧ Below w.heap.size w w' := by
 obtain ⟨i, hi, hz, hs, hb⟩ := hI
 have h := Go.Lib.run_append_grow_zeros (P := P) w t tn ty e i (.agg #[.bool false, .slice none 0 0]) .i64 kn hT htn hi hz none 0 0 [] (by exact run_firstCells_none w.drew i.size 0 0 0) k h0 (by omega) (by omega) (by omega) (by rw [hb]; omega) (growslice_fits (by omega) (by rw [hb]; omega))
 obtain ⟨C, hC⟩ : ∃ C, C = grownCap w (0 + k) 0 e := ⟨_, rfl⟩
 have hC1 : k ≤ C := by rw [hC]; have := grownCap_ge w (0 + k) 0 e; omega
 have hC2 : C ≤ maxLen := by rw [hC]; exact grownCap_le_maxLen w (0 + k) 0 e (by unfold maxLen; omega)
 rw [← hC, Nat.zero_add] at h
 refine ⟨C, _, h, hC1, ⟨⟨rfl, .inr ⟨w.heap.size, C, _, rfl, Nat.le_refl _, heap_alloc_new w.drew _, Nat.zero_le _, hC2, ?_, by simp [flat]⟩⟩, fun g hg => ?_⟩, ((Below.refl w.heap.size w).drew).trans (below_alloc (w := w.drew) (Nat.le_refl _) _)⟩
 ·rw [Array.size_append, Array.size_append, zeros_len, zeros_len]
  simp
  omega
 ·obtain rfl : w.heap.size = g := by simpa [Value.ownBlock] using hg
  refine ⟨_, heap_alloc_new w.drew _, fun c hc => ?_⟩
  rcases Array.mem_append.1 hc with hc | hc
  ·rcases Array.mem_append.1 hc with hc | hc
   ·simp at hc
   ·exact zeros_isB _ c hc
  ·exact zeros_isB _ c hc
theorem wpList_append_Z0 {w : World} {ops : Array Oper} {rest : List Oper} {o : Oper} {a : Act} {Q : Exit → Act → World → Prop} (hgd : o.guard = none) (s x : Operand) {t tn : TypeId} {kn : IntKind}
  (ho : o.op = .call { callee := .builtin .append, args := #[s, x], argTypes := #[t, tn] })
  {e : TypeId} (hT : P.underlying t = some (.slice e)) (htn : P.underlying tn = some (.int kn)) (hI : ∃ i, P.info? e = some i ∧ i.zero = some (.agg #[.bool false, .slice none 0 0]) ∧ i.size = 2 ∧ i.bytes = 32) {k : Nat} (hs : a.eval s = .slice none 0 0) (hx : a.eval x = .int .i64 (k : Int)) (h0 : 0 < k) (hk : k ≤ 1000000)
  (h : ∀ cap w', k ≤ cap → RowB e w' w.heap.size (.slice (some ⟨w.heap.size, 0, none⟩) 0 cap) [] → Below w.heap.size w w' → wpList P ops Q rest (a.put o.dst (.slice (some ⟨w.heap.size, 0, none⟩) k cap)) w') : wpList P ops Q (o :: rest) a w :=
 wpList_plain hgd fun _ hK => by
  obtain ⟨cap, w', hrun, h2, h3, h4⟩ := run_append_Z0 (P := P) (w := w) (ty := o.type) hT htn hI h0 hk
  unfold Oper.wp execOp
  simp only [ho, resolve, invoke, builtin, Sem.run_bind, Sem.run_pure, Result.andThen_ok, List.map_toArray, List.map_cons, List.map_nil, hs, hx, hrun]
  exact hK _ _ (h cap w' h2 h3 h4)
end
set_option maxHeartbeats 1600000 in
set_option maxRecDepth 100000 in
theorem growI_any (n : Nat) (w : World) (hn : n ≤ 1000000) : Calls Try.prog 58 #[.slice none 0 0, .int .i64 (n : Int)] w (fun e w' => ∃ V, e = .returned V ∧ RowB 29 w' w.heap.size V [] ∧ Below w.heap.size w w') := by
 by_cases h0 : 0 < n
 ·go_enter Try.func58, Try.ntmps58
  go_wp2_with (at_builtin; refine wpList_append_Z0 rfl (.tmp 20) (.tmp 21) rfl Try.underlying51 Try.underlying3 Go.Proofs.Yteijlcfhenlanaa.whl.info_int (k := n) rfl (by first | rfl | simp) h0 hn ?_; intro cap w2 hcap R2 b2)
  go_wp2
  go_ret
  exact ⟨_, rfl, R2, b2⟩
 ·obtain rfl : n = 0 := by omega
  go_enter Try.func58, Try.ntmps58
  go_wp2
  go_ret
  exact ⟨_, rfl, rowB_nil _ _ _, Below.refl _ _⟩
theorem flat_take {α : Type} {l : List (List α)} {k : Nat} {x : List α} (h : l[k]? = some x) : (l.take (k + 1)).flatten = (l.take k).flatten ++ x := by rw [List.take_add_one, h]; simp
theorem sum_take {α : Type} {l : List (List α)} {k : Nat} {x : List α} (h : l[k]? = some x) : ((l.take (k + 1)).flatten).length = ((l.take k).flatten).length + x.length := by rw [flat_take h, List.length_append]
theorem flat_le {α : Type} {l : List (List α)} {m : Nat} (h : ∀ x ∈ l, x.length ≤ m) : ∀ k, ((l.take k).flatten).length ≤ k * m := by
  intro k
  induction k with
  | zero => simp
  | succ k ih =>
    cases hk : l[k]? with
    | none => rw [List.take_add_one, hk]; simp; rw [Nat.succ_mul]; have := ih; simp at this; omega
    | some x => rw [sum_take hk, Nat.succ_mul]; have := h x (List.mem_of_getElem? hk); omega
set_option maxHeartbeats 3200000 in
set_option maxRecDepth 100000 in
theorem concatI_any (V : Value) (vs : List Value) (pss : List (List (Int × Value))) (w : World) (hV : IsV w V vs) (hl : vs.length = pss.length) (hp : ∀ (i : Nat) (v : Value) (ps : List (Int × Value)), vs[i]? = some v → pss[i]? = some ps → SlP w v ps ∧ NumP .u64 4294967296 w ps) (hn : pss.length ≤ 10) (hs : ∀ ps ∈ pss, ps.length ≤ 1000) :
  Calls Try.prog 36 #[V] w (fun e w' => ∃ V', e = .returned V' ∧ RowB 29 w' w.heap.size V' pss.flatten ∧ NumP .u64 4294967296 w' pss.flatten ∧ Below w.heap.size w w') := by
 obtain ⟨A, c, rfl, hc, hcells⟩ := hV
 have HC := Lib.hid hcells
 have HP := Lib.hid hp
 have HL := Lib.hid hl
 obtain ⟨n, hnv⟩ : ∃ n, n = vs.length := ⟨_, rfl⟩
 rw [← hnv] at hl hc ⊢
 have HN : Hid (n = vs.length ∧ n = pss.length ∧ n ≤ 10) := ⟨hnv, by omega, by omega⟩
 have HB := Lib.hid (flat_le hs)
 have hn10 : n ≤ 10 := HN.out.2.2
 clear hcells hp hs hnv hl hn
 go_enter Try.func36, Try.ntmps36
 go_wp2
 go_loopw [3, 11] (fun v3 v11 wr => ∃ k s : Nat, k ≤ n ∧ Hid (s = ((pss.take k).flatten).length) ∧ Hid (Below w.heap.size w wr) ∧ v3 = .int .i64 (s : Int) ∧ v11 = .int .i64 (k : Int)) (fun _ v11 _ => n - (intOf v11).toNat)
 case atStart =>
  have H0 : Hid (0 = ((pss.take 0).flatten).length) := by show _ = _; simp
  exact ⟨0, 0, by omega, H0, Below.refl _ _, rfl, rfl⟩
 case round =>
  obtain ⟨k, s, hk, HS, HBw, rfl, rfl⟩ := hrel
  obtain ⟨wo, hwo⟩ : ∃ wo, wo = wr := ⟨_, rfl⟩
  subst hwo
  have hsb : s ≤ 10000 := by have h1 := HB.out k; have h2 := HS.out; have h3 := HN.out; have : k * 1000 ≤ 10 * 1000 := Nat.mul_le_mul_right _ (by omega); omega
  by_cases hlt : k < n
  ·obtain ⟨v, hv⟩ : ∃ v, vs[k]? = some v := ⟨_, List.getElem?_eq_getElem (by have := HN.out.1; omega)⟩
   obtain ⟨ps, hps⟩ : ∃ ps, pss[k]? = some ps := ⟨_, List.getElem?_eq_getElem (by have := HN.out.2.1; omega)⟩
   obtain ⟨ad, rfl, ec0⟩ := HC.out k v hv
   have ec := (HBw.out.cell (World.block_lt_of_cell? w _ ec0)).trans ec0
   obtain ⟨Av, cv, rfl, hcv, hcm, -⟩ := (HP.out k v ps hv hps).1
   have hpl : ps.length ≤ 11000 := by have h1 := HB.out (k + 1); rw [sum_take hps] at h1; have h3 := HN.out; have : (k + 1) * 1000 ≤ 11 * 1000 := Nat.mul_le_mul_right _ (by omega); omega
   have HS2 : Hid (s + ps.length = ((pss.take (k + 1)).flatten).length) := by show _ = _; rw [sum_take hps, ← HS.out]
   clear hv hps ec0
   go_wp2
   go_roundw
   case rel => exact ⟨k + 1, s + ps.length, by omega, HS2, HBw, by go_num, by go_num⟩
   case measure => simp [intOf]; omega
  ·obtain rfl : n = k := by omega
   go_wp2_with fail
   refine (growI_any s _ (by omega)).mono ?_
   rintro e w2 ⟨V2, rfl, R2, b2⟩
   have hbo := HBw.out.size
   have R2m := R2.mono hbo
   have HB2 : Hid (Below w.heap.size w w2) := HBw.out.trans (b2.mono hbo)
   obtain ⟨Ar, cr, rfl⟩ := R2.slice
   clear R2 b2
   go_wp2
   go_loopw [6, 27] (fun v6 v27 wr => ∃ k : Nat, k ≤ n ∧ RowB 29 wr w.heap.size v6 (pss.take k).flatten ∧ Hid (NumP .u64 4294967296 wr (pss.take k).flatten) ∧ Hid (Below w.heap.size w wr) ∧ v27 = .int .i64 (k : Int)) (fun _ v27 _ => n - (intOf v27).toNat)
   case atStart =>
    have HN0 : Hid (NumP .u64 4294967296 w2 (pss.take 0).flatten) := by show NumP _ _ _ _; simp; exact NumP.nil
    exact ⟨0, by omega, by simpa using R2m, HN0, HB2, rfl⟩
   case round =>
    clear R2m HB2
    obtain ⟨k, hk, R, HNP, HBr, rfl⟩ := hrel
    obtain ⟨wi, hwi⟩ : ∃ wi, wi = wr := ⟨_, rfl⟩
    subst hwi
    obtain ⟨A6, c6, rfl⟩ := R.slice
    obtain ⟨m6, hm6⟩ : ∃ m6, m6 = ((pss.take k).flatten).length := ⟨_, rfl⟩
    rw [← hm6] at R ⊢
    have HM6 := Lib.hid hm6
    have hm6b : m6 ≤ 10000 := by have h1 := HB.out k; have h3 := HN.out; have : k * 1000 ≤ 10 * 1000 := Nat.mul_le_mul_right _ (by omega); omega
    clear hm6
    by_cases hlt : k < n
    ·obtain ⟨v, hv⟩ : ∃ v, vs[k]? = some v := ⟨_, List.getElem?_eq_getElem (by have := HN.out.1; omega)⟩
     obtain ⟨ps, hps⟩ : ∃ ps, pss[k]? = some ps := ⟨_, List.getElem?_eq_getElem (by have := HN.out.2.1; omega)⟩
     obtain ⟨ad, rfl, ec0⟩ := HC.out k v hv
     have ec := (HBr.out.cell (World.block_lt_of_cell? w _ ec0)).trans ec0
     obtain ⟨sp0, np0⟩ := HP.out k v ps hv hps
     have sp := sp0.below HBr.out
     have np := np0.below HBr.out
     obtain ⟨Av, cv, rfl, hcv, hcm, -⟩ := id sp
     have hlen : ((pss.take k).flatten).length + ps.length ≤ 1000000000 := by have h1 := HB.out (k + 1); rw [sum_take hps] at h1; have h3 := HN.out; have : (k + 1) * 1000 ≤ 11 * 1000 := Nat.mul_le_mul_right _ (by omega); omega
     have hbase := HBr.out.size
     have HF : Hid ((pss.take (k + 1)).flatten = (pss.take k).flatten ++ ps) := flat_take hps
     have hall := np.sl
     clear hv hps ec0 sp0 np0
     go_wp2_with (at_builtin; refine wpList_append_P rfl (.tmp 31) (.tmp 32) rfl Try.underlying51 Go.Proofs.Yteijlcfhenlanaa.whl.info_int rfl R rfl sp hall hlen hbase ?_; intro V3 w3 R3 G3 O3)
     have R4 : RowB 29 w3 w.heap.size V3 (pss.take (k + 1)).flatten := by rw [HF.out]; exact R3
     have HNP3 : Hid (NumP .u64 4294967296 w3 (pss.take (k + 1)).flatten) := by show NumP _ _ _ _; rw [HF.out]; exact (R.keepN G3.out HNP.out).append (R.keepN G3.out np)
     have HB3 : Hid (Below w.heap.size w w3) := HBr.out.trans (R.bel G3.out hbase)
     clear R3 R sp np HNP HBr G3 O3 ec
     go_wp2
     go_roundw
     case rel => exact ⟨k + 1, by omega, R4, HNP3, HB3, by go_num⟩
     case measure => simp [intOf]; omega
    ·obtain rfl : k = n := by omega
     have HT : Hid (pss.take k = pss) := List.take_of_length_le (by have := HN.out.2.1; omega)
     go_wp2
     go_ret
     exact ⟨_, rfl, by have := R; rwa [HT.out] at this, by have := HNP.out; rwa [HT.out] at this, HBr.out⟩
def besI (A B : List (List Int)) : List (List Int) := List.zipWith (fun p q => p ++ q) A B
def okS (A B : List (List Int)) : Prop := squareI A ∧ evenI B ∧ A.length = B.length
theorem besI_len {A B : List (List Int)} (h : A.length = B.length) : (besI A B).length = A.length := by unfold besI; rw [List.length_zipWith]; omega
theorem besI_at {A B : List (List Int)} {i : Nat} {p q : List Int} (ha : A[i]? = some p) (hb : B[i]? = some q) : (besI A B)[i]? = some (p ++ q) := by
 unfold besI
 rw [List.getElem?_zipWith, ha, hb]
theorem besI_mem {A B : List (List Int)} {r : List Int} (h : A.length = B.length) (hr : r ∈ besI A B) : ∃ p q, p ∈ A ∧ q ∈ B ∧ r = p ++ q := by
 obtain ⟨i, hi⟩ := List.mem_iff_getElem?.1 hr
 have hl := (List.getElem?_eq_some_iff.1 hi).1
 rw [besI_len h] at hl
 have e1 : A[i]? = some A[i] := List.getElem?_eq_getElem hl
 have e2 : B[i]? = some (B[i]'(by omega)) := List.getElem?_eq_getElem _
 rw [besI_at e1 e2] at hi
 injection hi with hi
 exact ⟨_, _, List.mem_of_getElem? e1, List.mem_of_getElem? e2, hi.symm⟩
theorem besI_sh {A B : List (List Int)} (h : okS A B) : shI (besI A B) A.length (A.length + wideI B) := by
 refine ⟨besI_len h.2.2, fun r hr => ?_⟩
 obtain ⟨p, q, hp, hq, rfl⟩ := besI_mem h.2.2 hr
 rw [List.length_append, h.1.2 p hp, (h.2.1.2 q hq).1]
theorem besI_l {A B : List (List Int)} (h : okS A B) {i j : Nat} (hi : i < A.length) (hj : j < A.length) : entI (besI A B) i j = entI A i j := by
 have e1 : A[i]? = some A[i] := List.getElem?_eq_getElem hi
 have e2 : B[i]? = some (B[i]'(by rw [← h.2.2]; exact hi)) := List.getElem?_eq_getElem _
 have hl := h.1.2 _ (List.mem_of_getElem? e1)
 rw [entI_row (besI_at e1 e2), entI_row e1, List.getD_eq_getElem?_getD, List.getD_eq_getElem?_getD, List.getElem?_append_left (by omega)]
theorem besI_r {A B : List (List Int)} (h : okS A B) {i j : Nat} (hi : i < A.length) : entI (besI A B) i (A.length + j) = entI B i j := by
 have e1 : A[i]? = some A[i] := List.getElem?_eq_getElem hi
 have e2 : B[i]? = some (B[i]'(by rw [← h.2.2]; exact hi)) := List.getElem?_eq_getElem _
 have hl := h.1.2 _ (List.mem_of_getElem? e1)
 rw [entI_row (besI_at e1 e2), entI_row e2, List.getD_eq_getElem?_getD, List.getD_eq_getElem?_getD, List.getElem?_append_right (by omega), hl, Nat.add_sub_cancel_left]
theorem lenI_bes {A B : List (List Int)} {S : Nat} (h : A.length = B.length) (ha : lenI A S) (hb : lenI B S) : lenI (besI A B) S := by
 intro r hr z hz
 obtain ⟨p, q, hp, hq, rfl⟩ := besI_mem h hr
 rcases List.mem_append.1 hz with hz | hz
 ·exact ha p hp z hz
 ·exact hb q hq z hz
theorem sgn_ne {b : Bool} {x : Int} (h : x ≠ 0) : sgn b x ≠ 0 := by
 unfold sgn
 split <;> omega
theorem sgn_zero (b : Bool) : sgn b 0 = 0 := by
 unfold sgn
 split <;> omega
def sgR (neg : Bool) (r : List Int) : List Int := r.map (sgn neg)
def sgT (neg : Bool) (T : List (List Int)) : List (List Int) := T.map (sgR neg)
theorem sgT_len (neg : Bool) (T : List (List Int)) : (sgT neg T).length = T.length := by unfold sgT; rw [List.length_map]
theorem sgT_at {neg : Bool} {T : List (List Int)} {i : Nat} {r : List Int} (h : T[i]? = some r) : (sgT neg T)[i]? = some (sgR neg r) := by unfold sgT; rw [List.getElem?_map, h]; rfl
theorem sgR_at {neg : Bool} {r : List Int} {j : Nat} {z : Int} (h : r[j]? = some z) : (sgR neg r)[j]? = some (sgn neg z) := by unfold sgR; rw [List.getElem?_map, h]; rfl
theorem sgR_len (neg : Bool) (r : List Int) : (sgR neg r).length = r.length := by unfold sgR; rw [List.length_map]
theorem sgT_ent (neg : Bool) (T : List (List Int)) (i j : Nat) : entI (sgT neg T) i j = sgn neg (entI T i j) := by
  cases hr : T[i]? with
  | none =>
    have h1 : (sgT neg T)[i]? = none := by unfold sgT; rw [List.getElem?_map, hr]; rfl
    unfold entI
    rw [List.getD_eq_getElem?_getD (l := sgT neg T), h1, List.getD_eq_getElem?_getD (l := T), hr]
    show ([] : List Int).getD j 0 = sgn neg (([] : List Int).getD j 0)
    rw [show ([] : List Int).getD j 0 = 0 by simp, sgn_zero]
  | some r =>
    rw [entI_row (sgT_at hr), entI_row hr, List.getD_eq_getElem?_getD, List.getD_eq_getElem?_getD]
    unfold sgR
    rw [List.getElem?_map]
    cases hz : r[j]? with
    | none => show (0 : Int) = sgn neg 0; rw [sgn_zero]
    | some z => rfl
theorem sgT_sh {neg : Bool} {T : List (List Int)} {n L : Nat} (h : shI T n L) : shI (sgT neg T) n L := by
 refine ⟨by rw [sgT_len, h.1], fun r hr => ?_⟩
 unfold sgT at hr
 obtain ⟨x, hx, rfl⟩ := List.mem_map.1 hr
 rw [sgR_len]; exact h.2 x hx
theorem sgT_lens {neg : Bool} {T : List (List Int)} {S : Nat} (h : lenI T S) : lenI (sgT neg T) S := by
 intro r hr z hz
 unfold sgT at hr
 obtain ⟨x, hx, rfl⟩ := List.mem_map.1 hr
 unfold sgR at hz
 obtain ⟨y, hy, rfl⟩ := List.mem_map.1 hz
 exact lenZ_sgn (h x hx y hy)
/-- What Solve answers: the numbers, and the determinant over which they are. -/
structure SolvedI (A B X : List (List Int)) (d : Int) : Prop where
 sh : shI X A.length (wideI B)
 len : lenI X 5000
 dl : lenZ d ≤ 5000
 ne : d ≠ 0
 det : (d : Rat) = detF A.length (qF (entI A))
 sol : ∀ i j, i < A.length → j < wideI B → sumN A.length (fun c => (entI A i c : Rat) * (entI X c j : Rat)) = (d : Rat) * (entI B i j : Rat)
 cra : ∀ c j, c < A.length → j < wideI B → (entI X c j : Rat) = detF A.length (colF (qF (entI A)) c (fun r => qF (entI B) r j))
theorem besI_det {A B : List (List Int)} (h : okS A B) : detF A.length (qF (entI (besI A B))) = detF A.length (qF (entI A)) := detF_congr _ fun i j hi hj => by
 show ((entI (besI A B) i j : Int) : Rat) = ((entI A i j : Int) : Rat)
 rw [besI_l h hi hj]
theorem solvedI_of {A B T : List (List Int)} {a : Nat → Nat → Int} {d : Int} {neg : Bool} (h : okS A B) (hB : BrT A.length (A.length + wideI B) A.length a T d) (hP : Prm A.length (A.length + wideI B) (entI (besI A B)) a (if neg = true then -1 else 1)) (hs : shI T A.length (wideI B)) (hl : lenI T 5000) (hd : lenZ d ≤ 5000) : SolvedI A B (sgT neg T) (sgn neg d) := by
 obtain ⟨h1, h2, h3⟩ := way_solved hB hP
 refine ⟨sgT_sh hs, sgT_lens hl, lenZ_sgn hd, sgn_ne hB.ne, h1.trans (besI_det h), fun i j hi hj => ?_, fun c j hc hj => ?_⟩
 ·have h4 := h2 i j hi (by omega)
  rw [besI_r h hi] at h4
  rw [← h4]
  exact sumN_congr fun c hc => by rw [besI_l h hi hc, sgT_ent]
 ·rw [sgT_ent, h3 c j hc (by omega)]
  refine detF_congr _ fun i l hi hl => ?_
  unfold colF
  by_cases e : l = c
  ·rw [if_pos e, if_pos e]
   show ((entI (besI A B) i (A.length + j) : Int) : Rat) = ((entI B i j : Int) : Rat)
   rw [besI_r h hi]
  ·rw [if_neg e, if_neg e]
   show ((entI (besI A B) i l : Int) : Rat) = ((entI A i l : Int) : Rat)
   rw [besI_l h hi hl]
/-- The numbers and the determinant; or refused. -/
def RetSol (A B : List (List Int)) (w : World) (e : Ending) (w' : World) : Prop := Below w.heap.size w w' ∧ ((okS A B ∧ ∃ V v d X, e = .returned (.tuple #[V, v, .int .i64 0]) ∧ SlW .u64 4294967296 w' V X ∧ IsZ w' v d ∧ SolvedI A B X d) ∨ (okS A B ∧ detF A.length (qF (entI A)) = 0 ∧ e = .returned (.tuple #[.slice none 0 0, .agg #[.bool false, .slice none 0 0], .int .i64 7])) ∨ (¬ okS A B ∧ e = .returned (.tuple #[.slice none 0 0, .agg #[.bool false, .slice none 0 0], .int .i64 8])))
/-- The first j of one, the rest of the other. -/
def mixR (r s : List Int) (j : Nat) : List Int := s.take j ++ r.drop j
theorem mixR_zero (r s : List Int) : mixR r s 0 = r := by simp [mixR]
theorem mixR_all {r s : List Int} (h : s.length = r.length) : mixR r s r.length = s := by
 unfold mixR
 rw [List.drop_eq_nil_of_le (Nat.le_refl _), List.append_nil, List.take_of_length_le (by omega)]
theorem mixR_at {r s : List Int} {j : Nat} (h : s.length = r.length) (hj : j ≤ r.length) : (mixR r s j)[j]? = r[j]? := by
 unfold mixR
 have hl : (s.take j).length = j := by rw [List.length_take]; omega
 rw [List.getElem?_append_right (by omega), hl, Nat.sub_self, List.getElem?_drop, Nat.add_zero]
theorem mixR_set {r s : List Int} {j : Nat} {z : Int} (h : s.length = r.length) (hz : s[j]? = some z) : (mixR r s j).set j z = mixR r s (j + 1) := by
 have hj := (List.getElem?_eq_some_iff.1 hz).1
 unfold mixR
 have hl : (s.take j).length = j := by rw [List.length_take]; omega
 rw [List.set_append_right _ _ (by omega), hl, Nat.sub_self, List.drop_eq_getElem_cons (show j < r.length by omega), List.set_cons_zero, List.take_add_one, hz]
 simp
theorem set_same {α : Type} {T : List α} {i : Nat} {r : α} (h : T[i]? = some r) : T.set i r = T := by
 refine List.ext_getElem? fun j => ?_
 by_cases e : i = j
 ·subst e
  rw [List.getElem?_set_self (List.getElem?_eq_some_iff.1 h).1, h]
 ·rw [List.getElem?_set_ne e]
theorem RowB.bk {w : World} {base : Nat} {v : Value} {ps : List (Int × Value)} (h : RowB 29 w base v ps) {g : Nat} (hg : v.ownBlock = some g) : base ≤ g ∧ IsBk w g := by
 obtain ⟨cs, h1, _⟩ := h.2 g hg
 exact ⟨(h.under g hg).1, cs, h1⟩
theorem concatI_two (V x y : Value) (pa pb : List (Int × Value)) (w : World) (hV : IsV w V [x, y]) (h0 : SlP w x pa) (n0 : NumP .u64 4294967296 w pa) (h1 : SlP w y pb) (n1 : NumP .u64 4294967296 w pb) (l0 : pa.length ≤ 1000) (l1 : pb.length ≤ 1000) :
  Calls Try.prog 36 #[V] w (fun e w' => ∃ V', e = .returned V' ∧ RowB 29 w' w.heap.size V' (pa ++ pb) ∧ NumP .u64 4294967296 w' (pa ++ pb) ∧ Below w.heap.size w w') := by
 have h := concatI_any V [x, y] [pa, pb] w hV rfl (fun i v ps hv hp => by
  rcases i with _ | _ | i
  ·obtain rfl : x = v := by simpa using hv
   obtain rfl : pa = ps := by simpa using hp
   exact ⟨h0, n0⟩
  ·obtain rfl : y = v := by simpa using hv
   obtain rfl : pb = ps := by simpa using hp
   exact ⟨h1, n1⟩
  ·simp at hv) (by simp) (fun ps hps => by simp at hps; rcases hps with rfl | rfl; exact l0; exact l1)
 simpa using h
set_option maxHeartbeats 12800000 in
set_option maxRecDepth 100000 in
theorem bsolve_any (a0 a1 : Value) (A B : List (List Int)) (S : Nat) (w : World) (h0 : SlW .u64 4294967296 w a0 A) (h1 : SlW .u64 4294967296 w a1 B) (hc : Hid (lenI A S ∧ lenI B S ∧ (S + 1) * 2 ^ A.length ≤ 5001)) :
    Calls Try.prog 15 #[a0, a1] w (RetSol A B w) := by
  obtain ⟨n, hn⟩ : ∃ n, n = A.length := ⟨_, rfl⟩
  obtain ⟨m, hm⟩ : ∃ m, m = B.length := ⟨_, rfl⟩
  obtain ⟨A0, c0, rfl, hc0, hm0⟩ := h0.shape
  obtain ⟨A1, c1, rfl, hc1, hm1⟩ := h1.shape
  rw [← hn] at h0 hc0 ⊢
  rw [← hm] at h1 hc1 ⊢
  unfold maxLen at hm0 hm1
  have ba0 := below_alloc (w := w) (Nat.le_refl _) (.cells #[.bool false, .slice none 0 0] 29)
  have BR0 := Blk.new w 29 #[.bool false, .slice none 0 0]
  have st0 := h0.below ba0
  have st1 := h1.below ba0
  have HNM := Lib.hid (And.intro hn hm)
  clear h0 h1 hn hm
  go_enter Try.func15, Try.ntmps15
  go_wp2_with fail
  refine (bsquare_any _ A _ st0).mono ?_
  rintro e w2 (⟨hS, rfl, b2⟩ | ⟨hS, rfl, b2⟩)
  · have HS := Lib.hid hS
    have BR2 := BR0.below b2
    have st02 := st0.below b2
    have st12 := st1.below b2
    have b02 := ba0.trans (b2.mono ba0.size)
    clear hS BR0 st0 st1 ba0 b2
    go_wp2_with fail
    refine (beven_any _ B _ st12).mono ?_
    rintro e w3 (⟨hE, rfl, b3⟩ | ⟨hE, rfl, b3⟩)
    · have HEv := Lib.hid hE
      have BR3 := BR2.below b3
      have st03 := st02.below b3
      have st13 := st12.below b3
      have b03 := b02.trans (b3.mono b02.size)
      clear hE BR2 st02 st12 b02 b3
      by_cases hl : n = m
      · have HOK : Hid (okS A B) := ⟨HS.out, HEv.out, by rw [← HNM.out.1, ← HNM.out.2]; exact hl⟩
        subst hl
        have hn100 : n ≤ 100 := by rw [HNM.out.1]; exact HOK.out.1.1
        obtain ⟨mk, hmk⟩ := Classical.axiomOfChoice (fun w => run_make_v (P := Try.prog) (w := w) Try.underlying22 info_ints n (by omega))
        have hmk1 := fun w => (hmk w).1
        have HMK := Lib.hid (fun w => (hmk w).2)
        clear hmk
        obtain ⟨tb, bm⟩ := HMK.out w3
        obtain ⟨T0, hT0⟩ : ∃ T0, T0 = List.replicate n ([] : List Int) := ⟨_, rfl⟩
        obtain ⟨M, hM⟩ : ∃ M, M = besI A B := ⟨_, rfl⟩
        have HML : Hid (M.length = T0.length ∧ T0.length = n) := ⟨by rw [hM, hT0, besI_len HOK.out.2.2, List.length_replicate, HNM.out.1], by rw [hT0, List.length_replicate]⟩
        have TW0 : TabW .u64 4294967296 (mk w3) w3.heap.size 51 (List.replicate n (.slice none 0 0)) (mixT T0 M 0) := by
          rw [mixT_zero, hT0]
          refine ⟨tb, by rw [List.length_replicate, List.length_replicate], fun i u r hu hr => ?_⟩
          obtain rfl := (List.mem_replicate.1 (List.mem_of_getElem? hu)).2
          obtain rfl := (List.mem_replicate.1 (List.mem_of_getElem? hr)).2
          exact slZ_nil _ _ _ (Nat.zero_le _)
        have HAP0 : Hid (Apt (mk w3) w3.heap.size (List.replicate n (.slice none 0 0))) := by
          refine ⟨fun u hu g e => ?_, fun i j u v hij hu hv g e => ?_⟩
          · obtain rfl := (List.mem_replicate.1 hu).2
            cases e
          · obtain rfl := (List.mem_replicate.1 (List.mem_of_getElem? hu)).2
            cases e
        have hw3 : w.heap.size < w3.heap.size := BR3.lt
        have HM := Lib.hid hM
        have HST := Lib.hid (And.intro st03 st13)
        have HB0 : Hid (Below w3.heap.size w3 (mk w3)) := bm
        have HB03 := Lib.hid b03
        have HBR := Lib.hid BR3
        clear tb bm hT0 hM st03 st13 BR3 b03
        go_wp2
        go_loopw [34] (fun v34 wr => ∃ (i : Nat) (us : List Value), i ≤ n ∧ TabW .u64 4294967296 wr w3.heap.size 51 us (mixT T0 M i) ∧ Hid (Apt wr w3.heap.size us) ∧ Hid (Below w3.heap.size w3 wr) ∧ v34 = .int .i64 (i : Int)) (fun v34 _ => n - (intOf v34).toNat)
        case atStart => exact ⟨0, _, by omega, TW0, HAP0, HB0, rfl⟩
        case round =>
          clear TW0 HB0 HAP0
          obtain ⟨i, us, hi, TW, HAP, HBi, rfl⟩ := hrel
          obtain ⟨wi, hwi⟩ : ∃ wi, wi = wr := ⟨_, rfl⟩
          subst hwi
          by_cases hin : i < n
          · obtain ⟨p, hp⟩ : ∃ p, A[i]? = some p := ⟨_, List.getElem?_eq_getElem (by rw [← HNM.out.1]; exact hin)⟩
            obtain ⟨q, hq⟩ : ∃ q, B[i]? = some q := ⟨_, List.getElem?_eq_getElem (by rw [← HNM.out.2]; exact hin)⟩
            have hpl : p.length ≤ 100 := by rw [HOK.out.1.2 p (List.mem_of_getElem? hp)]; exact HOK.out.1.1
            have hql : q.length ≤ 100 := (HOK.out.2.1.2 q (List.mem_of_getElem? hq)).2
            have bd := (Below.refl wi.heap.size wi).drew
            have HBd : Hid (Below w3.heap.size w3 wi.drew) := HBi.out.drew
            have s0d := HST.out.1.below HBd.out
            have s1d := HST.out.2.below HBd.out
            obtain ⟨ad0, rfl⟩ := s0d.place (List.length_pos_iff.1 (by have := HNM.out.1; omega))
            obtain ⟨ad1, rfl⟩ := s1d.place (List.length_pos_iff.1 (by have := HNM.out.2; omega))
            obtain ⟨Ap, cp, hia, ecp, sp⟩ := s0d.at2 hp
            obtain ⟨Aq, cq, hib, ecq, sq⟩ := s1d.at2 hq
            obtain ⟨pa, hpa, vpa, npa⟩ := sp.pairs
            obtain ⟨pb, hpb, vpb, npb⟩ := sq.pairs
            have hla : pa.length ≤ 1000 := by rw [← List.length_map (f := (·.1)), hpa]; omega
            have hlb : pb.length ≤ 1000 := by rw [← List.length_map (f := (·.1)), hpb]; omega
            have TMd := TW.below bd
            obtain ⟨x, hx⟩ : ∃ x, T0[i]? = some x := ⟨_, List.getElem?_eq_getElem (by rw [HML.out.2]; exact hin)⟩
            have hm2 : (mixT T0 M i)[i]? = some x := by rw [mixT_at HML.out.1 (by rw [HML.out.2]; omega)]; exact hx
            have HMI : Hid ((mixT T0 M i).set i (p ++ q) = mixT T0 M (i + 1)) := mixT_set HML.out.1 (by rw [HM.out]; exact besI_at hp hq)
            have HX := Lib.hid hm2
            have HPP := Lib.hid (And.intro hpa hpb)
            have ba := below_alloc (w := wi.drew) (Nat.le_refl _) (.cells #[.slice Ap p.length cp, .slice Aq q.length cq] 51)
            have HV := isV_lit wi.drew 51 [.slice Ap p.length cp, .slice Aq q.length cq]
            have HPA := Lib.hid (And.intro (vpa.below ba) (And.intro (npa.below ba) (And.intro (vpb.below ba) (npb.below ba))))
            have HBA := Lib.hid ba
            clear hp hq hx hm2 hpa hpb vpa npa vpb npb ba sp sq s0d s1d hpl hql TW
            go_upto_region 7 with (fail)
            go_region_law (go_simp; go_at_call 36; refine (concatI_two _ _ _ pa pb _ (by exact HV) HPA.out.1 HPA.out.2.1 HPA.out.2.2.1 HPA.out.2.2.2 hla hlb).mono ?_; rintro e w6 ⟨V6, rfl, R6, N6, b6⟩; obtain ⟨A6, c6, rfl⟩ := R6.slice; obtain ⟨m6, hm6⟩ : ∃ m6, m6 = (pa ++ pb).length := ⟨_, rfl⟩; rw [← hm6] at R6 ⊢; clear hm6; have b06 : Below wi.drew.heap.size wi.drew w6 := HBA.out.trans (b6.mono HBA.out.size); have TM6 := TMd.below b06; obtain ⟨A6', c6', hu6, ec6, -⟩ := TM6.at_ HX.out; have f6 := TM6.1.1.frozen i)
            all_goals
              have sR : SlZ .u64 4294967296 w6 (.slice A6 m6 c6) (p ++ q) := by
                have h := R6.slP.sl N6
                rwa [List.map_append, HPP.out.1, HPP.out.2] at h
              have TM7 := TM6.stored i sR
              rw [HMI.out] at TM7
              have HB7 := Lib.hid ((HBd.out.trans (b06.mono HBd.out.size)).grown (grown_set w6 w3.heap.size i (.slice A6 m6 c6)) (Nat.le_trans HBd.out.size b06.size) (fun x e => by injection e with e; omega))
              have HA7 : Hid (Apt (w6.setCell ⟨w3.heap.size, i, none⟩ (.slice A6 m6 c6)) w3.heap.size (us.set i (.slice A6 m6 c6))) := Apt.newR (HAP.out.grow (kp_below bd)) ((kp_below b06).trans (kp_set w6 w3.heap.size i _)) HBd.out.size (fun g e => ⟨Nat.le_trans HBA.out.size (R6.bk e).1, (kp_set w6 w3.heap.size i _).2 g (R6.bk e).2⟩)
              clear TM6 sR R6 N6 b6 b06 TMd ec6 f6 ecp ecq HV HAP HBi bd
              go_wp2
              go_roundw
              case rel => exact ⟨i + 1, _, by omega, TM7, HA7, HB7, by go_num⟩
              case measure => simp [intOf]; omega
          · have TWn : TabW .u64 4294967296 wi w3.heap.size 51 us M := by
              have h1 := mixT_all HML.out.1
              rw [HML.out.2] at h1
              rw [show i = n by omega, h1] at TW
              exact TW
            have hwb : wideI B ≤ 100 := by
              unfold wideI
              cases hB : B with
              | nil => simp
              | cons r B' => exact (HOK.out.2.1.2 r (by rw [hB]; exact List.mem_cons_self ..)).2
            have HCW : Hid (shI M n (n + wideI B) ∧ n ≤ n + wideI B ∧ n ≤ 100 ∧ n + wideI B ≤ 200 ∧ lenI M S ∧ (S + 1) * 2 ^ n ≤ 5001) := by
              rw [HM.out, HNM.out.1]
              exact ⟨besI_sh HOK.out, Nat.le_add_right _ _, HOK.out.1.1, by have := HOK.out.1.1; omega, lenI_bes HOK.out.2.2 hc.out.1 hc.out.2.1, hc.out.2.2⟩
            clear TW hwb
            go_wp2_with fail
            refine (bway_any w3.heap.size n (n + wideI B) S us M _ TWn HCW).mono ?_
            rintro e w5 ⟨hg5, ⟨us5, T, d, neg, v5, a, rfl, hv5, TS5, hsh, hlT, hld, hBr, hPr, hAp⟩ | ⟨v5, rfl, hv5, hd0⟩⟩
            · obtain ⟨u5, rfl, s5⟩ := hv5
              obtain ⟨A5, c5, rfl, _⟩ := id s5
              have HAP5 : Hid (Apt w5 w3.heap.size us5) := hAp _ HBi.out.size HAP.out
              have HSV : Hid (SolvedI A B (sgT neg T) (sgn neg d)) := by
                have e := HNM.out.1
                rw [HM.out] at hPr
                rw [e] at hBr hPr hsh
                exact solvedI_of HOK.out hBr hPr (by rw [show wideI B = A.length + wideI B - A.length by omega]; exact hsh) hlT hld
              have hd0 : d ≠ 0 := hBr.ne
              obtain ⟨L, hL⟩ : ∃ L, L = wideI B := ⟨_, rfl⟩
              have HSH : Hid (shI T n L) := by rw [hL, show wideI B = n + wideI B - n by omega]; exact hsh
              obtain ⟨X, hX⟩ : ∃ X, X = sgT neg T := ⟨_, rfl⟩
              have HX := Lib.hid hX
              have HXL : Hid (X.length = T.length ∧ T.length = n) := ⟨by rw [hX, sgT_len], hsh.1⟩
              have HLT := Lib.hid hlT
              have hLb : L ≤ 100 := by
                rw [hL]
                unfold wideI
                cases hB : B with
                | nil => simp
                | cons r B' => exact (HOK.out.2.1.2 r (by rw [hB]; exact List.mem_cons_self ..)).2
              have HLD := Lib.hid hld
              have hsz5 : w3.heap.size ≤ w5.heap.size := Nat.le_trans HBi.out.size hg5.size
              have b05 := HB03.out.trans (HBi.out.mono HB03.out.size)
              have b06 := b05.grown hg5 b05.size (fun x e => by injection e with e; omega)
              have BR5 := Blk.grown (HBR.out.below HBi.out) hg5 (show w.heap.size ≠ w3.heap.size by omega)
              have ba := below_alloc (w := w5) (Nat.le_refl _) (.cells #[.bool (ngB d), .slice A5 (digs 4294967296 d.natAbs).length c5] 29)
              have B6 := Blk.new w5 29 #[.bool (ngB d), .slice A5 (digs 4294967296 d.natAbs).length c5]
              have s6 := s5.below ba
              have BR6 := BR5.below ba
              have b07 := b06.trans (ba.mono b06.size)
              have TS6 := TS5.below ba
              have HAP6 := Lib.hid (HAP5.out.grow (kp_below ba))
              have HGR : Hid (∀ u ∈ us5, ∀ g, u.ownBlock = some g → w3.heap.size ≤ g ∧ g < w5.heap.size) := fun u hu g e => ⟨(HAP5.out.1 u hu g e).1, (HAP5.out.1 u hu g e).2.lt⟩
              obtain ⟨t, ht⟩ : ∃ t, t = ordz d 0 := ⟨_, rfl⟩
              have hz1 : (t == 0) = false := by rw [ht, beq_eq_false_iff_ne]; exact fun e => hd0 ((ordz_zero d).1 e)
              have HT := Lib.hid ht
              clear hsh hlT hld hBr hPr hAp hX hL ht hd0 hg5 b05 b06 BR5 s5 ba TS5 TWn HAP HBi
              go_wp2_with fail
              refine (sign_any _ d t _ ⟨_, rfl, s6⟩ HT.out).mono ?_
              rintro e w7 ⟨rfl, b7⟩
              have BR7 := BR6.below b7
              have B7 := B6.below b7
              have s7 := s6.below b7
              have TS7 : TabW .u64 4294967296 w7 w3.heap.size 51 us5 (mixT T X 0) := by rw [mixT_zero]; exact TS6.below b7
              have HAP7 := Lib.hid (HAP6.out.grow (kp_below b7))
              have HB7 : Hid (Below w.heap.size w w7) := b07.trans (b7.mono b07.size)
              clear BR6 B6 s6 TS6 HAP6 b07 b7
              go_wp2
              go_loopw [62] (fun v62 wr => ∃ i : Nat, i ≤ n ∧ TabW .u64 4294967296 wr w3.heap.size 51 us5 (mixT T X i) ∧ Hid (Apt wr w3.heap.size us5) ∧ Blk wr w5.heap.size 29 #[.bool (ngB d), .slice A5 (digs 4294967296 d.natAbs).length c5] ∧ IsS wr .u64 (.slice A5 (digs 4294967296 d.natAbs).length c5) (digs 4294967296 d.natAbs) ∧ Blk wr w.heap.size 29 #[.bool false, .slice none 0 0] ∧ Hid (Below w.heap.size w wr) ∧ v62 = .int .i64 (i : Int)) (fun v62 _ => n - (intOf v62).toNat)
              case atStart => exact ⟨0, by omega, TS7, HAP7, B7, s7, BR7, HB7, rfl⟩
              case round =>
                clear TS7 HAP7 B7 s7 BR7 HB7
                obtain ⟨i, hi, TS, HAP, BP, su, BR, HB, rfl⟩ := hrel
                obtain ⟨wo, hwo⟩ : ∃ wo, wo = wr := ⟨_, rfl⟩
                subst hwo
                by_cases hin : i < n
                · obtain ⟨r, hr, hrl⟩ := rowI_ex HSH.out hin
                  have hr2 : (mixT T X i)[i]? = some r := by rw [mixT_at HXL.out.1 (by rw [HXL.out.2]; omega)]; exact hr
                  obtain ⟨Ar, cr, hur, ecr, sr⟩ := TS.at_ hr2
                  obtain ⟨r2, hr3⟩ : ∃ r2, r2 = sgR neg r := ⟨_, rfl⟩
                  have HRX : Hid (X[i]? = some r2) := by rw [HX.out, hr3]; exact sgT_at hr
                  have HRL : Hid (r2.length = r.length ∧ r.length = L) := ⟨by rw [hr3, sgR_len], hrl⟩
                  have HRZ : Hid (∀ (j : Nat) (z : Int), r[j]? = some z → r2[j]? = some (sgn neg z) ∧ lenZ z ≤ 5000) := by
                    show ∀ j z, _
                    intro j z hz
                    rw [hr3]
                    exact ⟨sgR_at hz, HLT.out r (List.mem_of_getElem? hr) z (List.mem_of_getElem? hz)⟩
                  have HR := Lib.hid (And.intro hr hr2)
                  have HUR := Lib.hid hur
                  have TS0 : TabW .u64 4294967296 wo w3.heap.size 51 us5 ((mixT T X i).set i (mixR r r2 0)) := by rw [mixR_zero, set_same hr2]; exact TS
                  have HL : Hid (i < (mixT T X i).length) := (List.getElem?_eq_some_iff.1 hr2).1
                  obtain ⟨rl, hrl2⟩ : ∃ rl, rl = r.length := ⟨_, rfl⟩
                  rw [← hrl2] at hur ecr sr
                  have HRL2 := Lib.hid hrl2
                  have hrlb : rl ≤ 100 := by omega
                  have HURL : Hid (us5[i]? = some (.slice Ar rl cr)) := hur
                  clear hr hr2 hr3 hrl hur sr TS HUR hrl2
                  go_wp2
                  go_loopw [70] (fun v70 wr => ∃ j : Nat, j ≤ rl ∧ TabW .u64 4294967296 wr w3.heap.size 51 us5 ((mixT T X i).set i (mixR r r2 j)) ∧ Hid (Apt wr w3.heap.size us5) ∧ Blk wr w5.heap.size 29 #[.bool (ngB d), .slice A5 (digs 4294967296 d.natAbs).length c5] ∧ IsS wr .u64 (.slice A5 (digs 4294967296 d.natAbs).length c5) (digs 4294967296 d.natAbs) ∧ Blk wr w.heap.size 29 #[.bool false, .slice none 0 0] ∧ Hid (Below w.heap.size w wr) ∧ v70 = .int .i64 (j : Int)) (fun v70 _ => rl - (intOf v70).toNat)
                  case atStart => exact ⟨0, by omega, TS0, HAP, BP, su, BR, HB, rfl⟩
                  case round =>
                    clear TS0 HAP BP su BR HB ecr
                    obtain ⟨j, hj, TS, HAP, BP, su, BR, HB, rfl⟩ := hrel
                    obtain ⟨wi2, hwi2⟩ : ∃ wi2, wi2 = wr := ⟨_, rfl⟩
                    subst hwi2
                    by_cases hjl : j < rl
                    · obtain ⟨z, hz⟩ : ∃ z, r[j]? = some z := ⟨_, List.getElem?_eq_getElem (by rw [← HRL2.out]; exact hjl)⟩
                      have hmj : (mixR r r2 j)[j]? = some z := by rw [mixR_at HRL.out.1 (by rw [← HRL2.out]; omega)]; exact hz
                      obtain ⟨Z, hZ⟩ : ∃ Z, Z = sgn neg z := ⟨_, rfl⟩
                      have hzl : lenZ z ≤ 5000 := (HRZ.out j z hz).2
                      have CG : ∀ w a, IsZ w a z → Calls Try.prog 28 #[.bool neg, a] w (RetZ Z w) := fun w a h => by rw [hZ]; exact bsigned_any neg a z w h (by omega)
                      have HSET : Hid ((mixR r r2 j).set j Z = mixR r r2 (j + 1)) := mixR_set HRL.out.1 (by rw [hZ]; exact (HRZ.out j z hz).1)
                      have hcur : ((mixT T X i).set i (mixR r r2 j))[i]? = some (mixR r r2 j) := List.getElem?_set_self HL.out
                      have HCUR := Lib.hid hcur
                      have bd := (Below.refl wi2.heap.size wi2).drew
                      have TSd := TS.below bd
                      have srow := TSd.2.2 i _ _ HURL.out hcur
                      obtain ⟨gr, or, rfl, hgr⟩ := srow.place (fun e => by rw [e] at hmj; simp at hmj)
                      obtain ⟨uz, hjn, p0, p1, sz⟩ := srow.at2 hmj
                      obtain ⟨Az, cz, rfl, _⟩ := id sz
                      have ecd := TSd.1.cell HURL.out
                      rw [addr_zero] at ecd
                      have hfz := ((HAP.out.1 _ (List.mem_of_getElem? HURL.out) gr rfl).2)
                      have hgb := HGR.out _ (List.mem_of_getElem? HURL.out) gr rfl
                      have hix := fun w => index2 (P := Try.prog) Try.underlying51 (by kernel_rfl) (g := gr) (o := or) (c := cr) hjn w
                      have BPd := BP.below bd
                      have sud := su.below bd
                      have BRd := BR.below bd
                      have HBd : Hid (Below w.heap.size w wi2.drew) := HB.out.drew
                      have HAPd := Lib.hid (HAP.out.grow (kp_below bd))
                      have fz := (kp_below bd).2 gr hfz
                      have f0 := fz.frozen (or + j * 2)
                      have f1 := fz.frozen (or + j * 2 + 1)
                      have HMJ := Lib.hid (And.intro hmj (List.getElem?_eq_some_iff.1 hmj).1)
                      have hszd := HBd.out.size
                      clear hz hmj hZ hzl hcur hgr TS BP su BR HB HAP bd hfz
                      go_upto_region 18 with (fail)
                      go_region_law (go_simp; go_at_call 28; refine (CG _ _ ⟨_, rfl, by exact sz⟩).mono ?_; rintro e w8 ⟨v8, rfl, k8, -, b8⟩; obtain ⟨u8, rfl, s8⟩ := k8; obtain ⟨A8, c8, rfl, _⟩ := id s8; have TS8 := TSd.below b8; have srow8 := TS8.2.2 i _ _ HURL.out HCUR.out; obtain ⟨uz8, -, p08, p18, sz8⟩ := srow8.at2 HMJ.out.1; have ec8 := TS8.1.cell HURL.out; rw [addr_zero] at ec8; have fz8 := (kp_below b8).2 gr fz; have f08 := fz8.frozen (or + j * 2); have f18 := fz8.frozen (or + j * 2 + 1))
                      all_goals
                        obtain ⟨TS9, hne9⟩ := TS8.setZ (HAPd.out.grow (kp_below b8)) HURL.out HCUR.out HMJ.out.2 s8
                        obtain ⟨Az8, cz8, rfl, _⟩ := id sz8
                        rw [HSET.out, List.set_set] at TS9
                        have G9 := put2_grown w8 gr (or + j * 2) (.bool (ngB Z)) (.slice A8 (digs 4294967296 Z.natAbs).length c8)
                        have BP9 := Blk.grown (BPd.below b8) G9 (by omega)
                        have su9 := Go.Proofs.Yteijlcfhenlanaa.rat.IsS.put2 (x := .bool (ngB Z)) (y := .slice A8 (digs 4294967296 Z.natAbs).length c8) (sud.below b8) p08 p18
                        have BR9 := Blk.grown (BRd.below b8) G9 (by omega)
                        have HB9 := Lib.hid ((HBd.out.trans (b8.mono hszd)).grown G9 (Nat.le_trans hszd b8.size) (fun x e => by injection e with e; omega))
                        have HAP9 := Lib.hid ((HAPd.out.grow (kp_below b8)).grow ((kp_set w8 gr (or + j * 2) (.bool (ngB Z))).trans (kp_set _ gr (or + j * 2 + 1) (.slice A8 (digs 4294967296 Z.natAbs).length c8))))
                        clear TS8 srow8 sz8 p08 p18 ec8 fz8 f08 f18 s8 b8 G9 TSd srow p0 p1 sz ecd BPd sud BRd fz f0 f1 HAPd HBd
                        go_wp2
                        go_roundw
                        case rel => exact ⟨j + 1, by omega, TS9, HAP9, BP9, su9, BR9, HB9, by go_num⟩
                        case measure => simp [intOf]; omega
                    · have TS9 : TabW .u64 4294967296 wi2 w3.heap.size 51 us5 (mixT T X (i + 1)) := by
                        have h1 := mixR_all HRL.out.1
                        rw [show j = r.length by rw [← HRL2.out]; omega, h1, mixT_set HXL.out.1 HRX.out] at TS
                        exact TS
                      clear TS
                      go_wp2
                      go_roundw
                      case rel => exact ⟨i + 1, by omega, TS9, HAP, BP, su, BR, HB, by go_num⟩
                      case measure => simp [intOf]; omega
                · have TSn : TabW .u64 4294967296 wo w3.heap.size 51 us5 X := by
                    have h1 := mixT_all HXL.out.1
                    rw [HXL.out.2] at h1
                    rw [show i = n by omega, h1] at TS
                    exact TS
                  obtain ⟨Z, hZ⟩ : ∃ Z, Z = sgn neg d := ⟨_, rfl⟩
                  have CG : ∀ w a, IsZ w a d → Calls Try.prog 28 #[.bool neg, a] w (RetZ Z w) := fun w a h => by rw [hZ]; exact bsigned_any neg a d w h (by have := HLD.out; omega)
                  have HSV2 : Hid (SolvedI A B X Z) := by rw [HX.out, hZ]; exact HSV.out
                  obtain ⟨V0, V1, F0, F1⟩ := Blk.two BP
                  clear TS hZ HSV HAP
                  go_wp2_with fail
                  refine (CG _ _ ⟨_, rfl, su⟩).mono ?_
                  rintro e w8 ⟨v8, rfl, k8, -, b8⟩
                  obtain ⟨u8, rfl, s8⟩ := k8
                  obtain ⟨A8, c8, rfl, _⟩ := id s8
                  have BR8 := BR.below b8
                  have TS8 := TSn.below b8
                  have b08 := HB.out.trans (b8.mono HB.out.size)
                  obtain ⟨W0, W1, K0, K1⟩ := Blk.two BR8
                  have G9 := grown_set2 w8 w.heap.size (.bool (ngB Z)) (.slice A8 (digs 4294967296 Z.natAbs).length c8)
                  obtain ⟨C0, C1, -, -⟩ := Blk.two (blk_set2 BR8 (.bool (ngB Z)) (.slice A8 (digs 4294967296 Z.natAbs).length c8))
                  have s9 := Go.Proofs.Yteijlcfhenlanaa.flow.off s8 BR8 no_ints2 G9
                  have HB9 := Lib.hid (b08.grown G9 b08.size (fun k e => by injection e with e; omega))
                  have TS9 := TS8.offZ BR8 no_ints2 (by decide) G9 (fun u hu e => by have := (HGR.out u hu _ e).1; omega)
                  have SL9 := TS9.sub (o := 0) (m := n) (c := n) (by have := HXL.out; omega) (Nat.le_refl n) (by unfold maxLen; omega)
                  rw [List.drop_zero, List.take_of_length_le (by have := HXL.out; omega)] at SL9
                  clear TS9 G9 TS8 BR8 b08 b8 s8 BR HB TSn su BP V0 V1 F0 F1 CG
                  go_wp2
                  refine bodyPost_ret (v := .tuple #[.slice (some ⟨w3.heap.size, 0, none⟩) n n, .agg #[.bool (ngB Z), .slice A8 (digs 4294967296 Z.natAbs).length c8], .int .i64 0]) (by simp [results, Try.results15, go_sem, C0, C1]) rfl ?_
                  exact ⟨HB9.out, .inl ⟨HOK.out, _, _, Z, X, rfl, SL9, ⟨_, rfl, s9⟩, HSV2.out⟩⟩
            · obtain ⟨u5, rfl, s5⟩ := hv5
              obtain ⟨A5, c5, rfl, _⟩ := id s5
              have HN : Hid (detF A.length (qF (entI A)) = 0) := by
                have e := HNM.out.1
                rw [HM.out, e, besI_det HOK.out] at hd0
                exact hd0
              obtain ⟨O, hO⟩ : ∃ O : Int, O = 0 := ⟨_, rfl⟩
              have s5o : IsS w5 .u64 (.slice A5 (digs 4294967296 (0 : Int).natAbs).length c5) (digs 4294967296 O.natAbs) := by rw [hO]; exact s5
              obtain ⟨b5, hb5⟩ : ∃ b5, b5 = ngB 0 := ⟨_, rfl⟩
              obtain ⟨l5, hl5⟩ : ∃ l5, l5 = (digs 4294967296 (0 : Int).natAbs).length := ⟨_, rfl⟩
              rw [← hb5, ← hl5]
              rw [← hl5] at s5o
              have hbo : b5 = ngB O := by rw [hb5, hO]
              obtain ⟨t, ht⟩ : ∃ t, t = ordz O 0 := ⟨_, rfl⟩
              have hz1 : (t == 0) = true := by rw [ht, beq_iff_eq]; exact (ordz_zero O).2 hO
              have HT := Lib.hid ht
              have HBO := Lib.hid hbo
              have b05 := HB03.out.trans (HBi.out.mono HB03.out.size)
              have b06 := b05.grown hg5 b05.size (fun x e => by injection e with e; omega)
              have BR5 := Blk.grown (HBR.out.below HBi.out) hg5 (show w.heap.size ≠ w3.heap.size by omega)
              have ba := below_alloc (w := w5) (Nat.le_refl _) (.cells #[.bool b5, .slice A5 l5 c5] 29)
              have B6 := Blk.new w5 29 #[.bool b5, .slice A5 l5 c5]
              have s6 := s5o.below ba
              have BR6 := BR5.below ba
              have b07 := b06.trans (ba.mono b06.size)
              clear hd0 hO hb5 hl5 hbo ht hg5 b05 b06 BR5 s5 s5o ba TWn HAP HBi
              go_wp2_with fail
              refine (sign_any _ O t _ ⟨_, by rw [← HBO.out], s6⟩ HT.out).mono ?_
              rintro e w7 ⟨rfl, b7⟩
              have BR7 := BR6.below b7
              have b08 := b07.trans (b7.mono b07.size)
              clear BR6 B6 s6 b07 b7
              skip
              obtain ⟨V0, V1, F0, F1⟩ := Blk.two BR7
              have G8 := grown_set2 w7 w.heap.size (.bool false) (.slice none 0 0)
              obtain ⟨C0, C1, -, -⟩ := Blk.two (blk_set2 BR7 (.bool false) (.slice none 0 0))
              have HB := Lib.hid (b08.grown G8 b08.size (fun k e => by injection e with e; omega))
              clear G8 BR7 b08
              go_wp2
              refine bodyPost_ret (v := .tuple #[.slice none 0 0, .agg #[.bool false, .slice none 0 0], .int .i64 7]) (by simp [results, Try.results15, go_sem, C0, C1]) rfl ?_
              exact ⟨HB.out, .inr (.inl ⟨HOK.out, HN.out, rfl⟩)⟩
      · have HN : Hid (¬ okS A B) := fun h => hl (by rw [HNM.out.1, HNM.out.2]; exact h.2.2)
        have g1 : (((n : Nat) : Int) != ((m : Nat) : Int)) = true := by rw [bne_iff_ne]; omega
        obtain ⟨V0, V1, F0, F1⟩ := Blk.two BR3
        have G8 := grown_set2 w3 w.heap.size (.bool false) (.slice none 0 0)
        obtain ⟨C0, C1, -, -⟩ := Blk.two (blk_set2 BR3 (.bool false) (.slice none 0 0))
        have HB := Lib.hid (b03.grown G8 b03.size (fun k e => by injection e with e; omega))
        clear G8 BR3 b03 st03 st13
        go_wp2
        refine bodyPost_ret (v := .tuple #[.slice none 0 0, .agg #[.bool false, .slice none 0 0], .int .i64 8]) (by simp [results, Try.results15, go_sem, C0, C1]) rfl ?_
        exact ⟨HB.out, .inr (.inr ⟨HN.out, rfl⟩)⟩
    · have HN : Hid (¬ okS A B) := fun h => hE h.2.1
      have BR3 := BR2.below b3
      have b03 := b02.trans (b3.mono b02.size)
      clear hE BR2 b02 b3 st02 st12
      obtain ⟨V0, V1, F0, F1⟩ := Blk.two BR3
      have G8 := grown_set2 w3 w.heap.size (.bool false) (.slice none 0 0)
      obtain ⟨C0, C1, -, -⟩ := Blk.two (blk_set2 BR3 (.bool false) (.slice none 0 0))
      have HB := Lib.hid (b03.grown G8 b03.size (fun k e => by injection e with e; omega))
      clear G8 BR3 b03
      go_wp2
      refine bodyPost_ret (v := .tuple #[.slice none 0 0, .agg #[.bool false, .slice none 0 0], .int .i64 8]) (by simp [results, Try.results15, go_sem, C0, C1]) rfl ?_
      exact ⟨HB.out, .inr (.inr ⟨HN.out, rfl⟩)⟩
  · have HN : Hid (¬ okS A B) := fun h => hS h.1
    have BR2 := BR0.below b2
    have b02 := ba0.trans (b2.mono ba0.size)
    clear hS BR0 ba0 b2 st0 st1
    obtain ⟨V0, V1, F0, F1⟩ := Blk.two BR2
    have G8 := grown_set2 w2 w.heap.size (.bool false) (.slice none 0 0)
    obtain ⟨C0, C1, -, -⟩ := Blk.two (blk_set2 BR2 (.bool false) (.slice none 0 0))
    have HB := Lib.hid (b02.grown G8 b02.size (fun k e => by injection e with e; omega))
    clear G8 BR2 b02
    go_wp2
    refine bodyPost_ret (v := .tuple #[.slice none 0 0, .agg #[.bool false, .slice none 0 0], .int .i64 8]) (by simp [results, Try.results15, go_sem, C0, C1]) rfl ?_
    exact ⟨HB.out, .inr (.inr ⟨HN.out, rfl⟩)⟩
/-! Mathematics. -/
/-! Memory. -/
theorem RowX.cellAt {S : Value → Prop} {w : World} {base g n c : Nat} {e : TypeId} {vs : List Value} (h : RowX S w base e (.slice (some ⟨g, 0, none⟩) n c) vs) {i : Nat} {u : Value} (hu : vs[i]? = some u) : w.cell? ⟨g, i, none⟩ = some u ∧ w.frozen? ⟨g, i, none⟩ = false := by
 have k0 := World.ownsRow.cells h.1 (g := g) rfl _ _ hu
 rw [addr_zero] at k0
 obtain ⟨cs, h1, _⟩ := h.2 g rfl
 exact ⟨k0, Blk.frozen (t := e) (cs := cs) h1 i⟩
section
variable {k : IntKind} {B : Nat} {e : TypeId}
end
end Go.Proofs.Yteijlcfhenlanaa.rat
namespace Go.Proofs.Yteijlcfhenlanaa.rat
open Go.RowKit Go.Shelf Go.Proofs.Yteijlcfhenlanaa.num Go.Proofs.Yteijlcfhenlanaa.mem Go.Proofs.Yteijlcfhenlanaa.nat Go.Proofs.Yteijlcfhenlanaa.txt Go.Proofs.Yteijlcfhenlanaa.str Go.Proofs.Yteijlcfhenlanaa.flow Go.Proofs.Yteijlcfhenlanaa.whl
set_option linter.unusedVariables false
set_option linter.unusedSimpArgs false
theorem lit_flat (w : World) (T : TypeId) (z : Int) (y : Value) : ∀ (i : Nat) (u : Value), (flat [(z, y)])[i]? = some u → (w.alloc (.cells #[.bool (ngB z), y] T)).cell? ((⟨w.heap.size, 0, none⟩ : Addr).add i) = some u := fun i u hu => by
 obtain ⟨h0, h1⟩ := new_cells2 w T (.bool (ngB z)) y
 match i, hu with
 | 0, hu => simp [flat] at hu; subst hu; exact h0
 | 1, hu => simp [flat] at hu; subst hu; exact h1
 | i + 2, hu => simp [flat] at hu
theorem lit_all (z : Int) {y : Value} (h : ∃ A n c, y = .slice A n c) : allSl [(z, y)] := fun q hq => by obtain rfl := List.mem_singleton.1 hq; exact h
end Go.Proofs.Yteijlcfhenlanaa.rat
namespace Go.Proofs.Yteijlcfhenlanaa.rat
open Go.RowKit Go.Proofs.Yteijlcfhenlanaa.num Go.Proofs.Yteijlcfhenlanaa.mem Go.Proofs.Yteijlcfhenlanaa.nat Go.Proofs.Yteijlcfhenlanaa.txt Go.Proofs.Yteijlcfhenlanaa.str Go.Proofs.Yteijlcfhenlanaa.flow Go.Proofs.Yteijlcfhenlanaa.whl
set_option linter.unusedVariables false
set_option linter.unusedSimpArgs false
/-- One number of a row of the call's own is written. -/
theorem RowB.put {e : TypeId} {w : World} {base g n c i : Nat} {ps : List (Int × Value)} {z : Int} {y : Value} (h : RowB e w base (.slice (some ⟨g, 0, none⟩) n c) ps) (hi : i < ps.length) (hy : ∃ A m d, y = .slice A m d) : RowB e ((w.setCell ⟨g, i * 2, none⟩ (.bool (ngB z))).setCell ⟨g, i * 2 + 1, none⟩ y) base (.slice (some ⟨g, 0, none⟩) n c) (ps.set i (z, y)) := by
 obtain ⟨cs, hc1, hc2⟩ := h.2 g rfl
 rcases h.1.2 with ⟨e1, _⟩ | ⟨g', cap, cur, e1, hb, hg, hn, hm, hs, ht⟩
 ·cases e1
 injection e1 with e1 e2 e3
 injection e1 with e1
 injection e1 with e1 _
 subst e1; subst e3
 have B1 := heap_setCell (i := i * 2) (u := .bool (ngB z)) hg
 have B2 := heap_setCell (i := i * 2 + 1) (u := y) B1
 refine ⟨⟨by rw [flat_len, List.length_set], .inr ⟨g, c, _, by rw [List.length_set]; exact congrArg (fun m => Value.slice (some ⟨g, 0, none⟩) m c) e2, hb, B2, by rw [List.length_set]; exact hn, hm, by simp [hs], ?_⟩⟩, fun g' hg' => ?_⟩
 ·rw [List.length_set, Array.toList_setIfInBounds, Array.toList_setIfInBounds, List.take_set, List.take_set, ht]
  exact flat_set ps i (z, y)
 ·obtain rfl : g = g' := by simpa [Value.ownBlock] using hg'
  refine ⟨_, B2, fun x hx => ?_⟩
  rw [hg] at hc1
  injection hc1 with hc1
  injection hc1 with hc1 _ _
  have hx2 := Array.mem_toList_iff.2 hx
  rw [Array.toList_setIfInBounds, Array.toList_setIfInBounds] at hx2
  rcases List.mem_or_eq_of_mem_set hx2 with hx2 | rfl
  ·rcases List.mem_or_eq_of_mem_set hx2 with hx2 | rfl
   ·exact hc2 x (by rw [← hc1]; exact Array.mem_toList_iff.1 hx2)
   ·exact .inl ⟨_, rfl⟩
  ·obtain ⟨A, m, d, e⟩ := hy
   exact .inr ⟨A, m, d, e⟩
theorem RowB.cells2 {e : TypeId} {w : World} {base g n c i : Nat} {ps : List (Int × Value)} {p : Int × Value} (h : RowB e w base (.slice (some ⟨g, 0, none⟩) n c) ps) (hp : ps[i]? = some p) : w.cell? ⟨g, i * 2, none⟩ = some (.bool (ngB p.1)) ∧ w.cell? ⟨g, i * 2 + 1, none⟩ = some p.2 ∧ w.frozen? ⟨g, i * 2, none⟩ = false ∧ w.frozen? ⟨g, i * 2 + 1, none⟩ = false := by
 obtain ⟨f0, f1⟩ := flat_at ps i p hp
 have k0 := World.ownsRow.cells h.1 (g := g) rfl _ _ f0
 have k1 := World.ownsRow.cells h.1 (g := g) rfl _ _ f1
 rw [addr_zero] at k0 k1
 obtain ⟨cs, hc1, _⟩ := h.2 g rfl
 exact ⟨k0, k1, Blk.frozen (t := e) (cs := cs) hc1 _, Blk.frozen (t := e) (cs := cs) hc1 _⟩
theorem map_set1 (ps : List (Int × Value)) (i : Nat) (p : Int × Value) : (ps.set i p).map (·.1) = (ps.map (·.1)).set i p.1 := List.map_set
/-! Cramer's tables. -/
def cramT (A B : List (List Int)) (i j : Nat) : List (List Int) := (List.range A.length).map fun k => (A.getD k []).set i (entI B k j)
theorem cramT_len (A B : List (List Int)) (i j : Nat) : (cramT A B i j).length = A.length := by unfold cramT; rw [List.length_map, List.length_range]
theorem cramT_at {A B : List (List Int)} {i j k : Nat} {r : List Int} (hr : A[k]? = some r) : (cramT A B i j)[k]? = some (r.set i (entI B k j)) := by
 unfold cramT
 rw [List.getElem?_map, List.getElem?_range (List.getElem?_eq_some_iff.1 hr).1]
 show some ((A.getD k []).set i (entI B k j)) = _
 rw [List.getD_eq_getElem?_getD, hr]; rfl
theorem cramT_sq {A B : List (List Int)} {i j : Nat} (h : squareI A) : ∀ r ∈ cramT A B i j, r.length = (cramT A B i j).length := by
 intro r hr
 rw [cramT_len]
 unfold cramT at hr
 obtain ⟨k, hk, rfl⟩ := List.mem_map.1 hr
 have hk2 := List.mem_range.1 hk
 rw [List.length_set, List.getD_eq_getElem?_getD, List.getElem?_eq_getElem hk2]
 exact h.2 _ (List.getElem_mem hk2)
theorem cramT_lens {A B : List (List Int)} {i j : Nat} (hA : lenI A 2) (hB : lenI B 2) : lenI (cramT A B i j) 2 := by
  intro r hr z hz
  unfold cramT at hr
  obtain ⟨k, hk, rfl⟩ := List.mem_map.1 hr
  have hk2 := List.mem_range.1 hk
  rcases List.mem_or_eq_of_mem_set hz with hz | rfl
  · rw [List.getD_eq_getElem?_getD, List.getElem?_eq_getElem hk2] at hz
    exact hA _ (List.getElem_mem hk2) z hz
  · have h0 : lenZ 0 ≤ 2 := by rw [lenZ_zero]; omega
    cases hb : B[k]? with
    | none =>
      have e : entI B k j = 0 := by
        unfold entI
        rw [show B.getD k [] = [] by rw [List.getD_eq_getElem?_getD, hb]; rfl]
        simp
      rw [e]; exact h0
    | some q =>
      rw [entI_row hb, List.getD_eq_getElem?_getD]
      cases hq : q[j]? with
      | none => exact h0
      | some y => exact hB q (List.mem_of_getElem? hb) y (List.mem_of_getElem? hq)
theorem cramT_det {A B : List (List Int)} {n i j : Nat} (hn : A.length = n) (h : squareI A) (hi : i < n) : detI n (entI (cramT A B i j)) = detI n (colJ (entI A) i (fun k => entI B k j)) := detI_congr n fun k l hk hl => by
 obtain ⟨r, hr⟩ : ∃ r, A[k]? = some r := ⟨_, List.getElem?_eq_getElem (by omega)⟩
 have hrl := h.2 r (List.mem_of_getElem? hr)
 rw [entI_row (cramT_at hr)]
 unfold colJ
 by_cases e : l = i
 ·subst e
  rw [if_pos rfl, List.getD_eq_getElem?_getD, List.getElem?_set_self (by omega)]; rfl
 ·rw [if_neg e, entI_row hr, List.getD_eq_getElem?_getD, List.getElem?_set_ne (fun h => e h.symm), List.getD_eq_getElem?_getD]
def crmT (A B : List (List Int)) : List (List Int) := (List.range A.length).map fun i => (List.range (wideI B)).map fun j => detI A.length (colJ (entI A) i (fun k => entI B k j))
theorem crmT_len (A B : List (List Int)) : (crmT A B).length = A.length := by unfold crmT; rw [List.length_map, List.length_range]
theorem crmT_at {A B : List (List Int)} {i : Nat} (hi : i < A.length) : (crmT A B)[i]? = some ((List.range (wideI B)).map fun j => detI A.length (colJ (entI A) i (fun k => entI B k j))) := by
 unfold crmT
 rw [List.getElem?_map, List.getElem?_range hi]; rfl
def RetRSol (A B : List (List Int)) (w : World) (e : Ending) (w' : World) : Prop := Below w.heap.size w w' ∧ ((detI A.length (entI A) ≠ 0 ∧ ∃ V v, e = .returned (.tuple #[V, v, .int .i64 0]) ∧ SlW .i64 10000 w' V (crmT A B) ∧ IsR w' v (detI A.length (entI A))) ∨ (detI A.length (entI A) = 0 ∧ e = .returned (.tuple #[.slice none 0 0, .agg #[.bool false, .slice none 0 0], .int .i64 7])))
set_option maxHeartbeats 12800000 in
set_option maxRecDepth 100000 in
theorem rsolve15_any (a0 a1 : Value) (A B : List (List Int)) (w : World) (h0 : SlW .i64 10000 w a0 A) (h1 : SlW .i64 10000 w a1 B) (hc : Hid (squareI A ∧ A.length ≤ 3 ∧ 0 < A.length ∧ B.length = A.length ∧ (∀ r ∈ B, r.length = wideI B) ∧ lenI A 2 ∧ lenI B 2 ∧ wideI B ≤ 3)) :
    Calls Try.prog 18 #[a0, a1] w (RetRSol A B w) := by
  obtain ⟨n, hn⟩ : ∃ n, n = A.length := ⟨_, rfl⟩
  obtain ⟨L, hL⟩ : ∃ L, L = wideI B := ⟨_, rfl⟩
  obtain ⟨A0, c0, rfl, hc0, hm0⟩ := h0.shape
  obtain ⟨A1, c1, rfl, hc1, hm1⟩ := h1.shape
  rw [hc.out.2.2.2.1] at h1 hc1 ⊢
  rw [← hn] at h0 hc0 h1 hc1 ⊢
  have hn3 : n ≤ 3 := by rw [hn]; exact hc.out.2.1
  have hn0 : 0 < n := by rw [hn]; exact hc.out.2.2.1
  have hL3 : L ≤ 3 := by rw [hL]; exact hc.out.2.2.2.2.2.2.2
  have HN : Hid (n = A.length ∧ n = B.length ∧ L = wideI B) := ⟨hn, by rw [hc.out.2.2.2.1]; exact hn, hL⟩
  obtain ⟨ad0, rfl⟩ := h0.place (List.length_pos_iff.1 (by omega))
  obtain ⟨ad1, rfl⟩ := h1.place (List.length_pos_iff.1 (by have := HN.out.2.1; omega))
  have HSA := Lib.hid h0
  have HSB := Lib.hid h1
  obtain ⟨D, hD⟩ : ∃ D, D = detI A.length (entI A) := ⟨_, rfl⟩
  have HD : Hid (D = detI A.length (entI A)) := hD
  have CD : ∀ w, SlW .i64 10000 w (.slice (some ad0) n c0) A → Calls Try.prog 14 #[.slice (some ad0) n c0] w (RetR D w) := fun w h => by rw [hD]; exact rdet15_any _ A w h (by have := hc.out.2.1; omega) hc.out.1.2 hc.out.2.2.2.2.2.1
  have ba0 := below_alloc (w := w) (Nat.le_refl _) (.cells #[.bool false, .slice none 0 0] 41)
  have BR0 := Blk.new w 41 #[.bool false, .slice none 0 0]
  have st0 := h0.below ba0
  clear h0 h1 hn hL hD hm0 hm1
  go_enter Try.func18, Try.ntmps18
  go_wp2_with fail
  refine (CD _ st0).mono ?_
  rintro e w2 ⟨v2, rfl, k2, b2⟩
  obtain ⟨u2, rfl, s2⟩ := k2
  obtain ⟨A2, c2, rfl, _⟩ := id s2
  have ba2 := below_alloc (w := w2) (Nat.le_refl _) (.cells #[.bool (ngB D), .slice A2 (digs 10000 D.natAbs).length c2] 41)
  have BP2 := Blk.new w2 41 #[.bool (ngB D), .slice A2 (digs 10000 D.natAbs).length c2]
  have BR2 := (BR0.below b2).below ba2
  have sD2 := s2.below ba2
  have bx := ba0.trans (b2.mono ba0.size)
  have b02 := bx.trans (ba2.mono bx.size)
  obtain ⟨t, ht⟩ : ∃ t, t = ordz D 0 := ⟨_, rfl⟩
  have hz : t = 0 ↔ D = 0 := by rw [ht]; exact ordz_zero D
  have HT := Lib.hid ht
  clear s2 bx b2 ba2 BR0 ba0 st0 ht CD
  go_wp2_with fail
  refine (rsign_any _ D t _ ⟨_, rfl, sD2⟩ HT.out).mono ?_
  rintro e w3 ⟨rfl, b3⟩
  have BR3 := BR2.below b3
  have BP3 := BP2.below b3
  have sD3 := sD2.below b3
  have b03 := b02.trans (b3.mono b02.size)
  clear BR2 BP2 sD2 b02 b3
  by_cases hD0 : D = 0
  · have hz1 : (t == 0) = true := by rw [beq_iff_eq]; exact hz.2 hD0
    have HDZ : Hid (detI A.length (entI A) = 0) := by rw [← HD.out]; exact hD0
    obtain ⟨V0, V1, F0, F1⟩ := Blk.two BR3
    have G8 := grown_set2 w3 w.heap.size (.bool false) (.slice none 0 0)
    obtain ⟨C0, C1, -, -⟩ := Blk.two (blk_set2 BR3 (.bool false) (.slice none 0 0))
    have HB := Lib.hid (b03.grown G8 b03.size (fun k e => by injection e with e; omega))
    clear hz hD0 G8 BR3 BP3 sD3 b03
    go_wp2
    refine bodyPost_ret (v := .tuple #[.slice none 0 0, .agg #[.bool false, .slice none 0 0], .int .i64 7]) (by simp [results, Try.results18, go_sem, C0, C1]) rfl ?_
    exact ⟨HB.out, .inr ⟨HDZ.out, rfl⟩⟩
  · have hz1 : (t == 0) = false := by rw [beq_eq_false_iff_ne]; exact fun e => hD0 (hz.1 e)
    have HDN : Hid (detI A.length (entI A) ≠ 0) := by rw [← HD.out]; exact hD0
    obtain ⟨R, hR⟩ : ∃ R, R = crmT A B := ⟨_, rfl⟩
    have HR := Lib.hid hR
    have HRL : Hid (R.length = n) := by show _ = _; rw [hR, crmT_len, HN.out.1]
    have hgD : w2.heap.size < w3.heap.size := BP3.lt
    have HBR := Lib.hid BR3
    have HBP := Lib.hid BP3
    have HSD := Lib.hid sD3
    have HB3 := Lib.hid b03
    have TG0 : TabZI .i64 10000 43 (w3.alloc (.cells #[] 43)) w3.heap.size (.slice (some ⟨w3.heap.size, 0, none⟩) 0 0) [] (R.take 0) := TabZI.nil w3 w3.heap.size (Nat.le_refl _)
    have HB0 : Hid (Below w3.heap.size w3 (w3.alloc (.cells #[] 43))) := below_alloc (w := w3) (Nat.le_refl _) _
    have HU0 : Hid (∀ u ∈ ([] : List Value), u.ownBlock ≠ some w.heap.size) := fun u hu => by simp at hu
    have hw3 : w.heap.size < w3.heap.size := BR3.lt
    clear hz hD0 hR BR3 BP3 sD3 b03
    go_wp2
    go_loopw [8, 9] (fun v8 v9 wr => ∃ (i : Nat) (us : List Value), i ≤ n ∧ TabZI .i64 10000 43 wr w3.heap.size v8 us (R.take i) ∧ Hid (∀ u ∈ us, u.ownBlock ≠ some w.heap.size) ∧ Hid (Below w3.heap.size w3 wr) ∧ v9 = .int .i64 (i : Int)) (fun _ v9 _ => n - (intOf v9).toNat)
    case atStart => exact ⟨0, [], by omega, TG0, HU0, HB0, rfl⟩
    case round =>
      clear TG0 HB0 HU0 hz1
      obtain ⟨i, us, hi, TG, HUN, HBo, rfl⟩ := hrel
      obtain ⟨wo, hwo⟩ : ∃ wo, wo = wr := ⟨_, rfl⟩
      subst hwo
      obtain ⟨A8, c8, e8⟩ := RowV.slice TG.row.1
      subst e8
      have HTG := Lib.hid TG
      have HBw : Hid (Below w.heap.size w wo) := HB3.out.trans (HBo.out.mono HB3.out.size)
      by_cases hin : i < n
      · obtain ⟨Q, hQ⟩ : ∃ Q, Q = (List.range L).map fun j => detI n (colJ (entI A) i (fun k => entI B k j)) := ⟨_, rfl⟩
        have HQ : Hid (R[i]? = some Q ∧ Q.length = L ∧ ∀ j, j < L → Q[j]? = some (detI n (colJ (entI A) i (fun k => entI B k j)))) := by
          refine ⟨?_, by rw [hQ, List.length_map, List.length_range], fun j hj => by rw [hQ, List.getElem?_map, List.getElem?_range hj]; rfl⟩
          rw [HR.out, crmT_at (by rw [← HN.out.1]; exact hin), hQ, HN.out.1, HN.out.2.2]
        have RB0 := rowB_lit0 41 wo wo.heap.size (Nat.le_refl _)
        have HBo0 : Hid (Below wo.heap.size wo (wo.alloc (.cells #[] 41))) := below_alloc (w := wo) (Nat.le_refl _) _
        have HM0 : Hid (([] : List (Int × Value)).map (·.1) = Q.take 0) := by show _ = _; simp
        have HNP0 : Hid (NumP .i64 10000 (wo.alloc (.cells #[] 41)) []) := NumP.nil
        clear hQ TG
        go_wp2
        go_loopw [10, 11] (fun v10 v11 wr => ∃ (j : Nat) (ps : List (Int × Value)), j ≤ L ∧ RowB 41 wr wo.heap.size v10 ps ∧ Hid (ps.map (·.1) = Q.take j) ∧ Hid (NumP .i64 10000 wr ps) ∧ Hid (Below wo.heap.size wo wr) ∧ v11 = .int .i64 (j : Int)) (fun _ v11 _ => L - (intOf v11).toNat)
        case atStart => exact ⟨0, [], by omega, RB0, HM0, HNP0, HBo0, rfl⟩
        case round =>
          clear RB0 HBo0 HM0 HNP0
          obtain ⟨j, ps, hj, RB, HM, HNP, HBj, rfl⟩ := hrel
          obtain ⟨wj, hwj⟩ : ∃ wj, wj = wr := ⟨_, rfl⟩
          subst hwj
          obtain ⟨A10, c10, e10⟩ := RB.slice
          subst e10
          have hbw := HBw.out.size
          have HBx : Hid (Below w.heap.size w wj) := HBw.out.trans (HBj.out.mono hbw)
          have HPJ : Hid (ps.length = j) := by
            have h1 := congrArg List.length HM.out
            rw [List.length_map, List.length_take, HQ.out.2.1] at h1
            show _ = _
            omega
          obtain ⟨lp, hlp⟩ : ∃ lp, lp = ps.length := ⟨_, rfl⟩
          rw [← hlp] at RB ⊢
          have HLP := Lib.hid hlp
          clear hlp
          obtain ⟨r0, hr0⟩ : ∃ r0, B[0]? = some r0 := ⟨_, List.getElem?_eq_getElem (by have := HN.out.2.1; omega)⟩
          obtain ⟨A00, c00, h0m, ec0, -⟩ := (HSB.out.below HBx.out).at2 hr0
          have hr0l : r0.length = L := by rw [HN.out.2.2]; exact hc.out.2.2.2.2.1 r0 (List.mem_of_getElem? hr0)
          rw [hr0l] at ec0
          have ead : ad1.add 0 = ad1 := by simp [Addr.add]
          have ecz := ec0
          rw [ead] at ecz
          clear hr0 hr0l
          by_cases hjL : j < L
          · obtain ⟨M, hM⟩ : ∃ M, M = cramT A B i j := ⟨_, rfl⟩
            have HM2 : Hid (M = cramT A B i j ∧ M.length = n) := ⟨hM, by rw [hM, cramT_len, HN.out.1]⟩
            have TC0 : TabZI .i64 10000 43 (wj.alloc (.cells #[] 43)) wj.heap.size (.slice (some ⟨wj.heap.size, 0, none⟩) 0 0) [] (M.take 0) := TabZI.nil wj wj.heap.size (Nat.le_refl _)
            have HBc0 : Hid (Below wj.heap.size wj (wj.alloc (.cells #[] 43))) := below_alloc (w := wj) (Nat.le_refl _) _
            clear hM
            go_wp2
            go_loopw [12, 13] (fun v12 v13 wr => ∃ (k : Nat) (vs : List Value), k ≤ n ∧ TabZI .i64 10000 43 wr wj.heap.size v12 vs (M.take k) ∧ Hid (Below wj.heap.size wj wr) ∧ v13 = .int .i64 (k : Int)) (fun _ v13 _ => n - (intOf v13).toNat)
            case atStart => exact ⟨0, [], by omega, TC0, HBc0, rfl⟩
            case round =>
              clear TC0 HBc0 ec0 ecz
              obtain ⟨k, vs, hk, TC, HBk, rfl⟩ := hrel
              obtain ⟨wk, hwk⟩ : ∃ wk, wk = wr := ⟨_, rfl⟩
              subst hwk
              obtain ⟨A12, c12, e12⟩ := RowV.slice TC.row.1
              subst e12
              have hbx := HBx.out.size
              have HBy : Hid (Below w.heap.size w wk) := HBx.out.trans (HBk.out.mono hbx)
              by_cases hkn : k < n
              · obtain ⟨p, hp⟩ : ∃ p, A[k]? = some p := ⟨_, List.getElem?_eq_getElem (by rw [← HN.out.1]; exact hkn)⟩
                obtain ⟨q, hq⟩ : ∃ q, B[k]? = some q := ⟨_, List.getElem?_eq_getElem (by rw [← HN.out.2.1]; exact hkn)⟩
                have hpl : p.length = n := by rw [hc.out.1.2 p (List.mem_of_getElem? hp), ← HN.out.1]
                have hql : q.length = L := by rw [HN.out.2.2]; exact hc.out.2.2.2.2.1 q (List.mem_of_getElem? hq)
                obtain ⟨y, hy⟩ : ∃ y, q[j]? = some y := ⟨_, List.getElem?_eq_getElem (by omega)⟩
                have ba := below_alloc (w := wk) (Nat.le_refl _) (.cells #[] 41)
                have RL := rowB_lit0 41 wk wk.heap.size (Nat.le_refl _)
                obtain ⟨Ap, cp, hknx, ecp, sp⟩ := ((HSA.out.below HBy.out).below ba).at2 hp
                rw [hpl] at ecp sp
                obtain ⟨pp, hpm, vpp, npp⟩ := sp.pairs
                have hppl : pp.length = n := by rw [← hpl, ← hpm, List.length_map]
                have hall := npp.sl
                have hlen : ([] : List (Int × Value)).length + pp.length ≤ 1000000000 := by rw [hppl]; simp; omega
                have HMK : Hid (M.take (k + 1) = M.take k ++ [p.set i y]) := by
                  rw [HM2.out.1]
                  refine take_nextD ?_
                  rw [cramT_at hp, entI_of hq hy]
                have HPP := Lib.hid (And.intro hpm hppl)
                have HPQ := Lib.hid (And.intro hq hy)
                have HBA := Lib.hid ba
                have HNPP := Lib.hid npp
                clear hp hq hpl hql hy npp hpm hppl sp ba
                go_upto_region 17 with (at_builtin; refine wpList_append_P rfl (.tmp 44) (.tmp 48) rfl Try.underlying43 info_zdoc rfl RL rfl vpp hall hlen HBA.out.size ?_; intro V14 w14 R14 G14 O14; obtain ⟨A14, c14, e14⟩ := R14.slice; subst e14)
                rw [List.nil_append] at R14
                have hl14 : pp.length = n := HPP.out.2
                try rw [List.nil_append]
                rw [hl14] at R14 ⊢
                have hA14 : ∃ gr, A14 = some ⟨gr, 0, none⟩ := by
                  rcases R14.1.2 with ⟨e1, h0⟩ | ⟨g, cap, cur, e1, _⟩
                  · have := HPP.out.2; omega
                  · injection e1 with e1; exact ⟨g, e1⟩
                obtain ⟨gr, rfl⟩ := hA14
                have b14 : Below wk.heap.size wk w14 := HBA.out.grown G14.out HBA.out.size (fun g hg => (RL.under g hg).1)
                have N14 : NumP .i64 10000 w14 pp := RL.keepN G14.out HNPP.out
                obtain ⟨Aq, cq, hknq, ecq, sq⟩ := ((HSB.out.below HBy.out).below b14).at2 HPQ.out.1
                obtain ⟨gb, ob, uy, rfl, hib, q0, q1, sy⟩ := sq.at_ HPQ.out.2
                obtain ⟨Ay, cy, rfl, _⟩ := id sy
                have hix2 := fun w => index2 (P := Try.prog) Try.underlying43 (by kernel_rfl) (g := gb) (o := ob) (c := cq) hib w
                have hix3 := fun w => indexI (P := Try.prog) Try.underlying43 (by kernel_rfl) (g := gr) (c := c14) hin w
                obtain ⟨p0, hp0⟩ : ∃ p0, pp[i]? = some p0 := ⟨_, List.getElem?_eq_getElem (by have := HPP.out.2; omega)⟩
                obtain ⟨x0, x1, f0, f1⟩ := R14.cells2 hp0
                have hilt : i < pp.length := (List.getElem?_eq_some_iff.1 hp0).1
                have R15 := R14.put (z := y) (y := .slice Ay (digs 10000 y.natAbs).length cy) hilt ⟨_, _, _, rfl⟩
                have G15 := put2_grown w14 gr (i * 2) (.bool (ngB y)) (.slice Ay (digs 10000 y.natAbs).length cy)
                obtain ⟨A00', n00, c00', ep0⟩ := N14.sl p0 (List.mem_of_getElem? hp0)
                rw [ep0] at x1
                have N15 : NumP .i64 10000 ((w14.setCell ⟨gr, i * 2, none⟩ (.bool (ngB y))).setCell ⟨gr, i * 2 + 1, none⟩ (.slice Ay (digs 10000 y.natAbs).length cy)) (pp.set i (y, .slice Ay (digs 10000 y.natAbs).length cy)) := fun x hx => by
                  rcases List.mem_or_eq_of_mem_set hx with hx | rfl
                  · exact Go.Proofs.Yteijlcfhenlanaa.rat.IsS.put2 (N14 x hx) x0 x1
                  · exact Go.Proofs.Yteijlcfhenlanaa.rat.IsS.put2 sy x0 x1
                have sr15 : SlZ .i64 10000 ((w14.setCell ⟨gr, i * 2, none⟩ (.bool (ngB y))).setCell ⟨gr, i * 2 + 1, none⟩ (.slice Ay (digs 10000 y.natAbs).length cy)) (.slice (some ⟨gr, 0, none⟩) n c14) (p.set i y) := by
                  have h := R15.slP.sl N15
                  rw [map_set1, HPP.out.1] at h
                  exact h
                have hgr : wk.heap.size ≤ gr := (R14.under gr rfl).1
                have b15 := b14.grown G15 b14.size (fun g e => by injection e with e; omega)
                have TC15 := TC.below b15
                have ba16 := below_alloc (w := (w14.setCell ⟨gr, i * 2, none⟩ (.bool (ngB y))).setCell ⟨gr, i * 2 + 1, none⟩ (.slice Ay (digs 10000 y.natAbs).length cy)) (Nat.le_refl _) (.cells #[.slice (some ⟨gr, 0, none⟩) n c14] 43)
                have TC16 := TC15.below ba16
                have sr16 := sr15.below ba16
                have hone := lit_cells ((w14.setCell ⟨gr, i * 2, none⟩ (.bool (ngB y))).setCell ⟨gr, i * 2 + 1, none⟩ (.slice Ay (digs 10000 y.natAbs).length cy)) 43 (.slice (some ⟨gr, 0, none⟩) n c14)
                have hsl : ∀ u ∈ [Value.slice (some ⟨gr, 0, none⟩) n c14], isSl u := fun u hu => by rw [List.mem_singleton.1 hu]; exact ⟨_, _, _, rfl⟩
                have hbk := HBk.out.size
                have hb16 := Nat.le_trans (Nat.le_trans hbk b15.size) ba16.size
                have HB16 : Hid (Below wj.heap.size wj _) := (HBk.out.trans (b15.mono hbk)).trans (ba16.mono (Nat.le_trans hbk b15.size))
                have hlu : vs.length + 1 ≤ 1000000000 := by have h1 := TC16.len; rw [List.length_take] at h1; omega
                obtain ⟨w15, hw15⟩ : ∃ w15, (w14.setCell ⟨gr, i * 2, none⟩ (.bool (ngB y))).setCell ⟨gr, i * 2 + 1, none⟩ (.slice Ay (digs 10000 y.natAbs).length cy) = w15 := ⟨_, rfl⟩
                rw [hw15] at TC16 sr16 hone hb16 HB16
                clear R14 R15 G15 N14 N15 sr15 b14 b15 TC15 ba16 hp0 hilt vpp hall RL G14 O14 sq sy TC ep0 hl14
                go_upto_region 18 with (fail)
                try rw [hw15]
                clear hw15 q0 q1 x0 x1 f0 f1
                go_wp2_with (at_builtin; refine wpList_append_S rfl (.tmp 60) (.tmp 62) rfl Try.underlying23 info_zdocs (news := [.slice (some ⟨gr, 0, none⟩) n c14]) rfl TC16.row rfl rfl (by decide) hone hsl hlu hb16 ?_; intro V17 w17 row17 G17 O17)
                have TC17 := TC16.snoc row17 G17.out sr16
                rw [← HMK.out] at TC17
                have HB17 : Hid (Below wj.heap.size wj w17) := HB16.out.grown G17.out hb16 (fun g hg => TC16.row.1.base_le g hg)
                clear TC16 sr16 hone hsl row17 G17 O17 HB16 ecp ecq hix2 hix3
                go_wp2
                go_roundw
                case rel => exact ⟨k + 1, _, by omega, TC17, HB17, by go_num⟩
                case measure => simp [intOf]; omega
              · have hkn2 : k = n := by omega
                have hsm : SlW .i64 10000 wk (.slice A12 vs.length c12) M := by
                  have h := TC.slW
                  rwa [List.take_of_length_le (by rw [HM2.out.2]; omega)] at h
                obtain ⟨Z, hZ⟩ : ∃ Z, Z = detI n (colJ (entI A) i (fun k => entI B k j)) := ⟨_, rfl⟩
                have HZQ : Hid (Q[j]? = some Z) := by show _ = _; rw [hZ]; exact HQ.out.2.2 j hjL
                have CM : ∀ (V : Value) (w : World), SlW .i64 10000 w V M → Calls Try.prog 14 #[V] w (RetR Z w) := fun V w h => by
                  have e : Z = detI M.length (entI M) := by rw [hZ, HM2.out.2, HM2.out.1, cramT_det HN.out.1.symm hc.out.1 hin]
                  rw [e]
                  exact rdet15_any _ M w h (by have := HM2.out.2; omega) (by rw [HM2.out.1]; exact cramT_sq hc.out.1) (by rw [HM2.out.1]; exact cramT_lens hc.out.2.2.2.2.2.1 hc.out.2.2.2.2.2.2.1)
                have RBk := RB.below HBk.out
                have HNPk : Hid (NumP .i64 10000 wk ps) := HNP.out.below HBk.out
                clear hkn2 hZ TC RB HNP
                go_wp2_with fail
                refine (CM _ _ hsm).mono ?_
                rintro e w16 ⟨v16, rfl, k16, b16⟩
                obtain ⟨u16, rfl, s16⟩ := k16
                obtain ⟨A16, c16, rfl, _⟩ := id s16
                have ba := below_alloc (w := w16) (Nat.le_refl _) (.cells #[.bool (ngB Z), .slice A16 (digs 10000 Z.natAbs).length c16] 41)
                have RBa := (RBk.below b16).below ba
                have HNPa : Hid (NumP .i64 10000 _ ps) := (HNPk.out.below b16).below ba
                have sua := s16.below ba
                have hlit := lit_flat w16 41 Z (.slice A16 (digs 10000 Z.natAbs).length c16)
                have hall := lit_all Z (y := .slice A16 (digs 10000 Z.natAbs).length c16) ⟨_, _, _, rfl⟩
                have hbj := HBj.out.size
                have hbk := HBk.out.size
                have hb16 := b16.size
                have HBa : Hid (Below wo.heap.size wo _) := ((HBj.out.trans (HBk.out.mono hbj)).trans (b16.mono (Nat.le_trans hbj hbk))).trans (ba.mono (Nat.le_trans (Nat.le_trans hbj hbk) hb16))
                have hlen : ps.length + 1 ≤ 1000000000 := by rw [HPJ.out]; omega
                have hba := HBa.out.size
                clear RBk HNPk ba b16 s16 hsm CM HBk
                go_wp2_with (at_builtin; refine wpList_append_B rfl (.tmp 64) (.tmp 67) rfl Try.underlying43 info_zdoc (news := [(Z, .slice A16 (digs 10000 Z.natAbs).length c16)]) rfl RBa rfl rfl (by decide) hlit hall hlen hba ?_; intro V18 w18 RB18 G18 O18)
                have HNP18 : Hid (NumP .i64 10000 w18 (ps ++ [(Z, .slice A16 (digs 10000 Z.natAbs).length c16)])) := by
                  refine (RBa.keepN G18.out HNPa.out).append fun q hq => ?_
                  obtain rfl := List.mem_singleton.1 hq
                  exact RBa.keepS G18.out sua
                have HM18 : Hid ((ps ++ [(Z, Value.slice A16 (digs 10000 Z.natAbs).length c16)]).map (·.1) = Q.take (j + 1)) := by
                  show _ = _
                  rw [List.map_append, HM.out, List.take_add_one, HZQ.out]
                  rfl
                have HB18 : Hid (Below wo.heap.size wo w18) := HBa.out.trans (RBa.bel G18.out hba)
                clear RBa HNPa sua hlit hall G18 O18 HBa HM
                go_wp2
                go_roundw
                case rel => exact ⟨j + 1, _, by omega, RB18, HM18, HNP18, HB18, by go_num⟩
                case measure => simp [intOf]; omega
          · have sQ : SlZ .i64 10000 wj (.slice A10 lp c10) Q := by
              have h := RB.slP.sl HNP.out
              rw [HM.out, List.take_of_length_le (by rw [HQ.out.2.1]; omega)] at h
              exact h
            have TGj := HTG.out.below HBj.out
            have ba := below_alloc (w := wj) (Nat.le_refl _) (.cells #[.slice A10 lp c10] 43)
            have TGa := TGj.below ba
            have sQa := sQ.below ba
            have hone := lit_cells wj 43 (.slice A10 lp c10)
            have hsl : ∀ u ∈ [Value.slice A10 lp c10], isSl u := fun u hu => by rw [List.mem_singleton.1 hu]; exact ⟨_, _, _, rfl⟩
            have hbo := HBo.out.size
            have hbj := HBj.out.size
            have hba := Nat.le_trans (Nat.le_trans hbo hbj) ba.size
            have hlu : us.length + 1 ≤ 1000000000 := by have h1 := TGa.len; rw [List.length_take] at h1; omega
            have HTK : Hid (R.take (i + 1) = R.take i ++ [Q]) := take_nextD HQ.out.1
            have HBa : Hid (Below w3.heap.size w3 _) := (HBo.out.trans (HBj.out.mono hbo)).trans (ba.mono (Nat.le_trans hbo hbj))
            have HUN2 : Hid (∀ u ∈ us ++ [Value.slice A10 lp c10], u.ownBlock ≠ some w.heap.size) := fun u hu e => by
              rcases List.mem_append.1 hu with hu | hu
              · exact HUN.out u hu e
              · rw [List.mem_singleton.1 hu] at e
                have := (RB.under _ e).1
                omega
            clear RB HM HNP sQ TGj ba
            go_wp2_with (at_builtin; refine wpList_append_S rfl (.tmp 69) (.tmp 71) rfl Try.underlying23 info_zdocs (news := [.slice A10 lp c10]) rfl TGa.row rfl rfl (by decide) hone hsl hlu hba ?_; intro V19 w19 row19 G19 O19)
            have TG19 := TGa.snoc row19 G19.out sQa
            rw [← HTK.out] at TG19
            have HB19 : Hid (Below w3.heap.size w3 w19) := HBa.out.grown G19.out hba (fun g hg => TGa.row.1.base_le g hg)
            clear TGa sQa hone hsl row19 G19 O19 HBa ec0 ecz
            go_wp2
            go_roundw
            case rel => exact ⟨i + 1, _, by omega, TG19, HUN2, HB19, by go_num⟩
            case measure => simp [intOf]; omega
      · have hin2 : i = n := by omega
        have BRo := HBR.out.below HBo.out
        have BPo := HBP.out.below HBo.out
        have sDo := HSD.out.below HBo.out
        obtain ⟨V0, V1, F0, F1⟩ := Blk.two BRo
        obtain ⟨U0, U1, K0, K1⟩ := Blk.two BPo
        have hbd := HBw.out
        go_upto_region 21 with (fail)
        go_region
        all_goals
          have G7 := grown_set2 wo w.heap.size (.bool (ngB D)) (.slice A2 (digs 10000 D.natAbs).length c2)
          have sD7 := Go.Proofs.Yteijlcfhenlanaa.flow.off sDo BRo no_ints2 G7
          have b7 := hbd.grown G7 hbd.size (fun k e => by injection e with e; omega)
          have TG7 : TabZI .i64 10000 43 _ w3.heap.size (.slice A8 us.length c8) us (R.take i) := ⟨TG.row.grown G7 (fun g hg e => by
            injection e with e
            have := TG.row.1.base_le g hg
            omega), TG.len, fun x u r hu hr => (TG.own x u r hu hr).off BRo no_ints2 G7 (HUN.out u (List.mem_of_getElem? hu))⟩
          obtain ⟨C0, C1, -, -⟩ := Blk.two (Blk.below (blk_set2 BRo (.bool (ngB D)) (.slice A2 (digs 10000 D.natAbs).length c2)) (Below.refl _ _).drew)
          have sD8 := sD7.below (Below.refl _ _).drew
          have b8 := b7.drew
          have TG8 := TG7.below (Below.refl _ _).drew
          have HS7 := Lib.hid TG8.slW
          have HRI : Hid (R.take i = R) := List.take_of_length_le (by rw [HRL.out]; omega)
          clear TG TG7 TG8 sDo BRo BPo G7 hin2 sD7 b7 V0 V1 U0 U1 F0 F1 K0 K1
          go_wp2
          refine bodyPost_ret (v := .tuple #[.slice A8 us.length c8, .agg #[.bool (ngB D), .slice A2 (digs 10000 D.natAbs).length c2], .int .i64 0]) (by simp [results, Try.results18, go_sem, C0, C1]) rfl ?_
          exact ⟨b8, .inl ⟨HDN.out, _, _, rfl, by rw [← HR.out]; have h := HS7.out; rwa [HRI.out] at h, by rw [← HD.out]; exact ⟨_, rfl, sD8⟩⟩⟩
end Go.Proofs.Yteijlcfhenlanaa.rat
