/- Package bareiss: Minor, Det. Condition: as each says.
The chapter's example of layer 12; the statements' Among. Condition: as each says.
The chapter's example of layer 15. Condition: as each says.
Rows of whole numbers that grow by append, whose whole block holds signs and slices alone: what lies elsewhere stays. Condition: as each says.
Package gauss: up: a range over slices.Backward. Condition: as each says.
Package gauss: square, Det; ints compared. Condition: as each says.
Package gauss: tops. Condition: as each says.
Package gauss: Kernel. Condition: as each says.
Rows of whole numbers that grow: appends in regions; what is kept. An argument as a table of whole numbers. Condition: as each says.
Few of a table of whole numbers: two tables of the call's own that grow side by side. Condition: as each says.
Few of a table of whole numbers. Condition: as it says.
An argument as a table of whole numbers ([][]api.Int): its opening. Condition: as it says.
Rows of whole numbers as pairs: a whole row, or a part of one, put behind another one; a number written in place. Condition: as each says.
The document's Reduce. Condition: as each says.
The document's Det. Condition: as each says.
The document's determinant of layer 15, by recursion. Condition: at most four rows, of numbers of at most two limbs.
Layer 15: a table copied by append and written in place; two rows changed about, a row added to another one: what becomes of the determinant. Condition: as each says.
A region that draws its order, cut in two: what stands ahead, in whatever order; then what waits for all of it. No program stands here. -/
import Derived.Test.YteijlcfhenlanaaKC3
import Derived.RangeFuncFrom
import Derived.RangeFuncCalls
import Derived.RangeFuncLeaves
import Derived.Shelf.Abstract
import Derived.Shelf.RegionOpen
import Derived.WalkKit
import Derived.OwnWalkIn
import Derived.TacticsInMore
import Derived.LoopNIn
import Derived.LoopIn
import Derived.Deep.RegionHeld
import Derived.Deep.RegionHeld3
namespace Go.Proofs.Yteijlcfhenlanaa.rat
open Go.RowKit Go.Proofs.Yteijlcfhenlanaa.num Go.Proofs.Yteijlcfhenlanaa.mem Go.Proofs.Yteijlcfhenlanaa.nat Go.Proofs.Yteijlcfhenlanaa.txt Go.Proofs.Yteijlcfhenlanaa.str Go.Proofs.Yteijlcfhenlanaa.flow Go.Proofs.Yteijlcfhenlanaa.whl
set_option linter.unusedVariables false
set_option linter.unusedSimpArgs false
/-- The determinant of the first n rows and places; or refused. -/
def RetMin (T : List (List Int)) (N : Int) (w : World) (e : Ending) (w' : World) : Prop := Below w.heap.size w w' ∧ (((squareI T ∧ 0 ≤ N ∧ N ≤ T.length) ∧ ∃ v z, e = .returned (.tuple #[v, .int .i64 0]) ∧ IsZ w' v z ∧ lenZ z ≤ 5000 ∧ (z : Rat) = detF N.toNat (qF (entI T))) ∨ (¬ (squareI T ∧ 0 ≤ N ∧ N ≤ T.length) ∧ e = .returned (.tuple #[.agg #[.bool false, .slice none 0 0], .int .i64 8])))
theorem lenZ_sgn {b : Bool} {x : Int} {m : Nat} (h : lenZ x ≤ m) : lenZ (sgn b x) ≤ m := by
 unfold sgn
 split
 ·exact lenZ_neg_le h
 ·exact h
set_option maxHeartbeats 6400000 in
set_option maxRecDepth 100000 in
theorem bminor_any (a0 : Value) (T : List (List Int)) (N : Int) (S : Nat) (w : World) (h0 : SlW .u64 4294967296 w a0 T) (hc : Hid (lenI T S ∧ (S + 1) * 2 ^ T.length ≤ 5001)) :
  Calls Try.prog 9 #[a0, .int .i64 N] w (RetMin T N w) := by
 have st0 := h0
 obtain ⟨A0, c0, rfl, hc0, hm0⟩ := h0.shape
 unfold maxLen at hm0
 have ba0 := below_alloc (w := w) (Nat.le_refl _) (.cells #[.bool false, .slice none 0 0] 29)
 have BR0 := Blk.new w 29 #[.bool false, .slice none 0 0]
 have st1 := st0.below ba0
 clear h0
 go_enter Try.func9, Try.ntmps9
 go_wp2_with fail
 refine (bsquare_any _ T _ st1).mono ?_
 rintro e w2 (⟨hS, rfl, b2⟩ | ⟨hS, rfl, b2⟩)
 ·have HS := Lib.hid hS
  have BR2 := BR0.below b2
  have st2 := st1.below b2
  have b02 := ba0.trans (b2.mono ba0.size)
  clear hS BR0 st1 ba0 b2
  by_cases hN0 : N < 0
  ·have HN : Hid (¬ (squareI T ∧ 0 ≤ N ∧ N ≤ T.length)) := fun h => by have := h.2.1; omega
   obtain ⟨V0, V1, F0, F1⟩ := Blk.two BR2
   have G8 := grown_set2 w2 w.heap.size (.bool false) (.slice none 0 0)
   obtain ⟨C0, C1, -, -⟩ := Blk.two (blk_set2 BR2 (.bool false) (.slice none 0 0))
   have HB := Lib.hid (b02.grown G8 b02.size (fun k e => by injection e with e; omega))
   clear G8 BR2 b02
   go_wp2
   refine bodyPost_ret (v := .tuple #[.agg #[.bool false, .slice none 0 0], .int .i64 8]) (by simp [results, Try.results9, go_sem, C0, C1]) rfl ?_
   exact ⟨HB.out, .inr ⟨HN.out, rfl⟩⟩
  ·by_cases hN1 : (T.length : Int) < N
   ·have HN : Hid (¬ (squareI T ∧ 0 ≤ N ∧ N ≤ T.length)) := fun h => by have := h.2.2; omega
    obtain ⟨V0, V1, F0, F1⟩ := Blk.two BR2
    have G8 := grown_set2 w2 w.heap.size (.bool false) (.slice none 0 0)
    obtain ⟨C0, C1, -, -⟩ := Blk.two (blk_set2 BR2 (.bool false) (.slice none 0 0))
    have HB := Lib.hid (b02.grown G8 b02.size (fun k e => by injection e with e; omega))
    clear G8 BR2 b02
    go_wp2
    refine bodyPost_ret (v := .tuple #[.agg #[.bool false, .slice none 0 0], .int .i64 8]) (by simp [results, Try.results9, go_sem, C0, C1]) rfl ?_
    exact ⟨HB.out, .inr ⟨HN.out, rfl⟩⟩
   ·obtain ⟨n, rfl⟩ : ∃ n : Nat, N = (n : Int) := ⟨N.toNat, by omega⟩
    have hn : n ≤ T.length := by omega
    have hn100 : n ≤ 100 := by have := HS.out.1; omega
    have HN : Hid (squareI T ∧ 0 ≤ (n : Int) ∧ (n : Int) ≤ T.length) := ⟨HS.out, by omega, by omega⟩
    obtain ⟨mk, hmk⟩ := Classical.axiomOfChoice (fun w => run_make_v (P := Try.prog) (w := w) Try.underlying22 info_ints n (by omega))
    have hmk1 := fun w => (hmk w).1
    have HMK := Lib.hid (fun w => (hmk w).2)
    clear hmk
    obtain ⟨tb, bm⟩ := HMK.out w2
    obtain ⟨T0, hT0⟩ : ∃ T0, T0 = List.replicate n ([] : List Int) := ⟨_, rfl⟩
    obtain ⟨M, hM⟩ : ∃ M, M = cutI T n := ⟨_, rfl⟩
    have HML : Hid (M.length = T0.length ∧ T0.length = n) := ⟨by rw [hM, hT0, cutI_len hn, List.length_replicate], by rw [hT0, List.length_replicate]⟩
    have TW0 : TabW .u64 4294967296 (mk w2) w2.heap.size 51 (List.replicate n (.slice none 0 0)) (mixT T0 M 0) := by
     rw [mixT_zero, hT0]
     refine ⟨tb, by rw [List.length_replicate, List.length_replicate], fun i u r hu hr => ?_⟩
     obtain rfl := (List.mem_replicate.1 (List.mem_of_getElem? hu)).2
     obtain rfl := (List.mem_replicate.1 (List.mem_of_getElem? hr)).2
     exact slZ_nil _ _ _ (Nat.zero_le _)
    have hg0 : w2.heap.size < (mk w2).heap.size := tb.lt
    have bb0 := b02.trans (bm.mono b02.size)
    have BR3 := BR2.below bm
    have hw2 : w.heap.size < w2.heap.size := BR2.lt
    have HM := Lib.hid hM
    have HST := Lib.hid st2
    have hst : ∀ wr, Below w2.heap.size w2 wr → SlW .u64 4294967296 wr (.slice A0 T.length c0) T := fun wr hb => HST.out.below hb
    have HB0 : Hid (Below w2.heap.size w2 (mk w2)) := bm
    have HB02 := Lib.hid b02
    have HBR := Lib.hid BR2
    have HTL : Hid (T.length = 0 → n = 0) := fun h => by omega
    clear tb bm hT0 hM st2 BR2 bb0 BR3 b02
    go_wp2
    go_loopw [27] (fun v27 wr => ∃ (k : Nat) (us : List Value), k ≤ n ∧ TabW .u64 4294967296 wr w2.heap.size 51 us (mixT T0 M k) ∧ Hid (Below w2.heap.size w2 wr) ∧ v27 = .int .i64 (k : Int)) (fun v27 _ => n - (intOf v27).toNat)
    case atStart => exact ⟨0, _, by omega, TW0, HB0, rfl⟩
    case round =>
     clear TW0 HB0
     obtain ⟨k, us, hk, TW, HBk, rfl⟩ := hrel
     obtain ⟨wi, hwi⟩ : ∃ wi, wi = wr := ⟨_, rfl⟩
     subst hwi
     by_cases hkn : k < n
     ·obtain ⟨r, hr⟩ : ∃ r, T[k]? = some r := ⟨_, List.getElem?_eq_getElem (by omega)⟩
      obtain ⟨ad, rfl⟩ := st0.place (List.length_pos_iff.1 (by omega))
      obtain ⟨Ar, cr, hik, ecr, sr⟩ := (hst wi HBk.out).at2 hr
      have hrl : r.length = T.length := HS.out.2 r (List.mem_of_getElem? hr)
      have hrc : n ≤ cr := by obtain ⟨A', c', e, h1, h2⟩ := sr.shape; injection e with _ _ e; omega
      have sT := sr.take (m := n) (by omega)
      have hMk : M[k]? = some (r.take n) := by rw [HM.out]; exact cutI_at hr hkn
      have hm2 : (mixT T0 M k)[k]? = T0[k]? := mixT_at HML.out.1 (by rw [HML.out.2]; omega)
      obtain ⟨x, hx⟩ : ∃ x, T0[k]? = some x := ⟨_, List.getElem?_eq_getElem (by rw [HML.out.2]; exact hkn)⟩
      rw [hx] at hm2
      obtain ⟨Ax, cx, hux, ecx, -⟩ := TW.at_ hm2
      have fk := TW.1.1.frozen k
      have TW2 := TW.stored k sT
      rw [mixT_set HML.out.1 hMk] at TW2
      have HB2 := Lib.hid (HBk.out.grown (grown_set wi w2.heap.size k (.slice Ar n cr)) HBk.out.size (fun x e => by injection e with e; omega))
      have hrn : ¬ (cr < n) := by omega
      clear hr hrl sr sT hMk hm2 hx TW HBk
      go_wp2
      go_roundw
      case rel => exact ⟨k + 1, _, by omega, TW2, HB2, by go_num⟩
      case measure => simp [intOf]; omega
     ·have TWn : TabW .u64 4294967296 wi w2.heap.size 51 us M := by
       have h1 := mixT_all HML.out.1
       rw [HML.out.2] at h1
       rw [show k = n by omega, h1] at TW
       exact TW
      have HCW : Hid (shI M n n ∧ n ≤ n ∧ n ≤ 100 ∧ n ≤ 200 ∧ lenI M S ∧ (S + 1) * 2 ^ n ≤ 5001) := by
       rw [HM.out]
       exact ⟨cutI_sh HS.out hn, Nat.le_refl n, hn100, by omega, cutI_lens hc.out.1, pow_lens hn hc.out.2⟩
      clear TW
      go_wp2_with fail
      refine (bway_any w2.heap.size n n S us M _ TWn HCW).mono ?_
      rintro e w5 hW
      obtain ⟨hg5, v5, neg, D, rfl, hv5, hl5, hd5⟩ := RetWay.det hW
      obtain ⟨u5, rfl, s5⟩ := hv5
      obtain ⟨A5, c5, rfl, _⟩ := id s5
      have hd6 : ((sgn neg D : Int) : Rat) = detF n (qF (entI T)) := by
       rw [hd5, HM.out]
       refine detF_congr n fun i j hi hj => ?_
       show ((entI (cutI T n) i j : Int) : Rat) = ((entI T i j : Int) : Rat)
       rw [cutI_ent hi hj]
      have b05 := HB02.out.trans (HBk.out.mono HB02.out.size)
      have b06 := b05.grown hg5 b05.size (fun x e => by injection e with e; omega)
      have BR5 := Blk.grown (HBR.out.below HBk.out) hg5 (show w.heap.size ≠ w2.heap.size by omega)
      have ba := below_alloc (w := w5) (Nat.le_refl _) (.cells #[.bool (ngB D), .slice A5 (digs 4294967296 D.natAbs).length c5] 29)
      have B6 := Blk.new w5 29 #[.bool (ngB D), .slice A5 (digs 4294967296 D.natAbs).length c5]
      have s6 := s5.below ba
      have BR6 := BR5.below ba
      have b07 := b06.trans (ba.mono b06.size)
      have HD6 := Lib.hid hd6
      obtain ⟨X, hX⟩ : ∃ X, X = sgn neg D := ⟨_, rfl⟩
      have CG : ∀ w a, IsZ w a D → Calls Try.prog 28 #[.bool neg, a] w (RetZ X w) := fun w a h => by rw [hX]; exact bsigned_any neg a D w h (by omega)
      have HX : Hid (lenZ X ≤ 5000 ∧ (X : Rat) = detF n (qF (entI T))) := ⟨by rw [hX]; exact lenZ_sgn hl5, by rw [hX]; exact hd6⟩
      clear hW hg5 hd5 hd6 b05 b06 BR5 s5 ba TWn hX hl5
      go_wp2_with fail
      refine (CG _ _ ⟨_, rfl, s6⟩).mono ?_
      rintro e w7 ⟨v7, rfl, k7, -, b7⟩
      obtain ⟨u7, rfl, s7⟩ := k7
      obtain ⟨A7, c7, rfl, _⟩ := id s7
      have BR7 := BR6.below b7
      have b08 := b07.trans (b7.mono b07.size)
      obtain ⟨V0, V1, F0, F1⟩ := Blk.two BR7
      have G8 := grown_set2 w7 w.heap.size (.bool (ngB X)) (.slice A7 (digs 4294967296 X.natAbs).length c7)
      obtain ⟨C0, C1, -, -⟩ := Blk.two (blk_set2 BR7 (.bool (ngB X)) (.slice A7 (digs 4294967296 X.natAbs).length c7))
      have s8 := Go.Proofs.Yteijlcfhenlanaa.flow.off s7 BR7 no_ints2 G8
      have HB := Lib.hid (b08.grown G8 b08.size (fun k e => by injection e with e; omega))
      clear G8 BR7 b08 BR6 b07 b7 s7 s6 B6 CG
      go_wp2
      refine bodyPost_ret (v := .tuple #[.agg #[.bool (ngB X), .slice A7 (digs 4294967296 X.natAbs).length c7], .int .i64 0]) (by simp [results, Try.results9, go_sem, C0, C1]) rfl ?_
      exact ⟨HB.out, .inl ⟨HN.out, _, X, rfl, ⟨_, rfl, s8⟩, HX.out.1, HX.out.2⟩⟩
 ·have HN : Hid (¬ (squareI T ∧ 0 ≤ N ∧ N ≤ T.length)) := fun h => hS h.1
  have BR2 := BR0.below b2
  have b02 := ba0.trans (b2.mono ba0.size)
  obtain ⟨V0, V1, F0, F1⟩ := Blk.two BR2
  have G8 := grown_set2 w2 w.heap.size (.bool false) (.slice none 0 0)
  obtain ⟨C0, C1, -, -⟩ := Blk.two (blk_set2 BR2 (.bool false) (.slice none 0 0))
  have HB := Lib.hid (b02.grown G8 b02.size (fun k e => by injection e with e; omega))
  clear hS G8 BR2 b02 BR0 ba0 b2 st1
  go_wp2
  refine bodyPost_ret (v := .tuple #[.agg #[.bool false, .slice none 0 0], .int .i64 8]) (by simp [results, Try.results9, go_sem, C0, C1]) rfl ?_
  exact ⟨HB.out, .inr ⟨HN.out, rfl⟩⟩
/-- The determinant; or refused. -/
def RetDet (T : List (List Int)) (w : World) (e : Ending) (w' : World) : Prop := Below w.heap.size w w' ∧ ((squareI T ∧ ∃ v z, e = .returned (.tuple #[v, .int .i64 0]) ∧ IsZ w' v z ∧ lenZ z ≤ 5000 ∧ (z : Rat) = detF T.length (qF (entI T))) ∨ (¬ squareI T ∧ e = .returned (.tuple #[.agg #[.bool false, .slice none 0 0], .int .i64 8])))
set_option maxHeartbeats 3200000 in
set_option maxRecDepth 100000 in
theorem bdet_any (a0 : Value) (T : List (List Int)) (S : Nat) (w : World) (h0 : SlW .u64 4294967296 w a0 T) (hc : Hid (lenI T S ∧ (S + 1) * 2 ^ T.length ≤ 5001)) :
  Calls Try.prog 8 #[a0] w (RetDet T w) := by
 have st0 := h0
 obtain ⟨A0, c0, rfl, hc0, hm0⟩ := h0.shape
 unfold maxLen at hm0
 have ba0 := below_alloc (w := w) (Nat.le_refl _) (.cells #[.bool false, .slice none 0 0] 29)
 have BR0 := Blk.new w 29 #[.bool false, .slice none 0 0]
 have st1 := st0.below ba0
 clear h0
 go_enter Try.func8, Try.ntmps8
 go_wp2_with fail
 refine (bminor_any _ T _ S _ st1 hc).mono ?_
 rintro e w2 ⟨b2, (⟨hS, v, z, rfl, hv, hl, hd⟩ | ⟨hS, rfl⟩)⟩
 ·have HS := Lib.hid (And.intro hS.1 (And.intro hl hd))
  have b02 := ba0.trans (b2.mono ba0.size)
  have BR2 := BR0.below b2
  obtain ⟨u, rfl, s⟩ := hv
  obtain ⟨Au, cu, rfl, _⟩ := id s
  obtain ⟨V0, V1, F0, F1⟩ := Blk.two BR2
  have G8 := grown_set2 w2 w.heap.size (.bool (ngB z)) (.slice Au (digs 4294967296 z.natAbs).length cu)
  obtain ⟨C0, C1, -, -⟩ := Blk.two (blk_set2 BR2 (.bool (ngB z)) (.slice Au (digs 4294967296 z.natAbs).length cu))
  have s8 := Go.Proofs.Yteijlcfhenlanaa.flow.off s BR2 no_ints2 G8
  have HB := Lib.hid (b02.grown G8 b02.size (fun k e => by injection e with e; omega))
  clear hS hl hd G8 BR2 b02 BR0 ba0 b2 st1 s
  go_wp2
  refine bodyPost_ret (v := .tuple #[.agg #[.bool (ngB z), .slice Au (digs 4294967296 z.natAbs).length cu], .int .i64 0]) (by simp [results, Try.results8, go_sem, C0, C1]) rfl ?_
  exact ⟨HB.out, .inl ⟨HS.out.1, _, z, rfl, ⟨_, rfl, s8⟩, HS.out.2.1, HS.out.2.2⟩⟩
 ·have HS : Hid (¬ squareI T) := fun h => hS ⟨h, by omega, by omega⟩
  have b02 := ba0.trans (b2.mono ba0.size)
  have BR2 := BR0.below b2
  obtain ⟨V0, V1, F0, F1⟩ := Blk.two BR2
  have G8 := grown_set2 w2 w.heap.size (.bool false) (.slice none 0 0)
  obtain ⟨C0, C1, -, -⟩ := Blk.two (blk_set2 BR2 (.bool false) (.slice none 0 0))
  have HB := Lib.hid (b02.grown G8 b02.size (fun k e => by injection e with e; omega))
  clear hS G8 BR2 b02 BR0 ba0 b2 st1
  go_wp2
  refine bodyPost_ret (v := .tuple #[.agg #[.bool false, .slice none 0 0], .int .i64 8]) (by simp [results, Try.results8, go_sem, C0, C1]) rfl ?_
  exact ⟨HB.out, .inr ⟨HS.out, rfl⟩⟩
/-- A number as one from 0 to d - 1. -/
def RetAm (d : Nat) (w : World) (e : Ending) (w' : World) : Prop := ∃ k : Nat, e = .returned (.int .i64 (k : Int)) ∧ k < d ∧ Below w.heap.size w w'
set_option maxHeartbeats 3200000 in
set_option maxRecDepth 100000 in
theorem among_any (x n : Int) (d : Nat) (w : World) (hn : n = (d : Int)) (hd : 1 ≤ d ∧ d ≤ 1000000) : Calls Try.prog 21 #[.int .i64 x, .int .i64 n] w (RetAm d w) := by
 subst hn
 have h1 : ¬ (d : Int) < 1 := by omega
 go_enter Try.func21, Try.ntmps21
 obtain ⟨m, hm⟩ : ∃ m, m = IntKind.u64.wrap x := ⟨_, rfl⟩
 have hm0 : 0 ≤ m := by rw [hm]; simp [IntKind.wrap, IntKind.bits, IntKind.signed]; omega
 obtain ⟨r, hr⟩ : ∃ r, r = (m.tmod (d : Int)) := ⟨_, rfl⟩
 have hr0 : 0 ≤ r := by rw [hr]; exact Int.tmod_nonneg _ hm0
 have hrd : r < (d : Int) := by rw [hr]; exact Int.tmod_lt_of_pos _ (by omega)
 have HW : Hid (wrap64 ((IntKind.u64.wrap x).tmod (d : Int)) = ((r.toNat : Nat) : Int)) := by
  show _ = _
  rw [← hm, ← hr, Int.toNat_of_nonneg hr0]
  exact IntWalk.wrap64_in _ (by omega)
 clear hm hr
 go_wp2
 go_ret
 exact ⟨r.toNat, by rw [← HW.out]; rfl, by omega, Below.refl _ _⟩
theorem slZ_lit2 (w : World) (T : TypeId) {x y : Int} {u t : Value} (h1 : IsS w .u64 u (digs 4294967296 x.natAbs)) (h2 : IsS w .u64 t (digs 4294967296 y.natAbs)) :
  SlZ .u64 4294967296 (w.alloc (.cells #[.bool (ngB x), u, .bool (ngB y), t] T)) (.slice (some ⟨w.heap.size, 0, none⟩) 2 2) [x, y] := by
 have hbb := below_alloc (w := w) (Nat.le_refl _) (.cells #[.bool (ngB x), u, .bool (ngB y), t] T)
 have hB := Blk.new w T #[.bool (ngB x), u, .bool (ngB y), t]
 refine ⟨some ⟨w.heap.size, 0, none⟩, 2, rfl, Nat.le_refl _, by unfold maxLen; omega, fun i z hz => ?_⟩
 rcases i with _ | _ | i
 ·obtain rfl : x = z := by simpa using hz
  exact ⟨_, _, _, rfl, hB.cell 0, hB.cell 1, h1.below hbb⟩
 ·obtain rfl : y = z := by simpa using hz
  exact ⟨_, _, _, rfl, hB.cell 2, hB.cell 3, h2.below hbb⟩
 ·simp at hz
theorem slW_two {k : IntKind} {B : Nat} {w : World} {v u0 u1 : Value} {r0 r1 : List Int} (h : IsV w v [u0, u1]) (h0 : SlZ k B w u0 r0) (h1 : SlZ k B w u1 r1) (hc : ∀ A n c, v = .slice A n c → c ≤ maxLen) : SlW k B w v [r0, r1] := by
 obtain ⟨A, c, e, h2, h3⟩ := h
 refine ⟨[u0, u1], rfl, ⟨A, c, e, h2, hc _ _ _ e, h3⟩, fun i x y hx hy => ?_⟩
 rcases i with _ | _ | i
 ·obtain rfl : u0 = x := by simpa using hx
  obtain rfl : r0 = y := by simpa using hy
  exact h0
 ·obtain rfl : u1 = x := by simpa using hx
  obtain rfl : r1 = y := by simpa using hy
  exact h1
 ·simp at hx
theorem ex15 : detF 2 (qF (entI [[2, 1], [1, 1]])) = 1 := by decide +kernel
theorem digs_one : digs 4294967296 1 = [1] := by decide +kernel
set_option maxHeartbeats 6400000 in
set_option maxRecDepth 100000 in
theorem works15_any (w : World) : Calls Try.prog 11 #[] w (RetV (.bool true) w) := by
 obtain ⟨O, hO⟩ : ∃ O : Int, O = 1 := ⟨_, rfl⟩
 obtain ⟨P, hP⟩ : ∃ P : Int, P = 2 := ⟨_, rfl⟩
 have CO : ∀ w, Calls Try.prog 17 #[.int .i64 1] w (RetZ O w) := fun w => by rw [hO]; exact zof_any 1 _ (by omega) (by omega)
 have CP : ∀ w, Calls Try.prog 17 #[.int .i64 2] w (RetZ P w) := fun w => by rw [hP]; exact zof_any 2 _ (by omega) (by omega)
 obtain ⟨T, hT⟩ : ∃ T, T = [[P, O], [O, O]] := ⟨_, rfl⟩
 have eT : T = [[2, 1], [1, 1]] := by rw [hT, hP, hO]
 have HE := Lib.hid (And.intro hT eT)
 clear hO hP hT eT
 go_enter Try.func11, Try.ntmps11
 go_wp2_with fail
 refine (CP _).mono ?_
 rintro e w1 ⟨v0, rfl, k0, -, b1⟩
 obtain ⟨u0, rfl, q0⟩ := k0
 obtain ⟨A0, c0, rfl, _⟩ := id q0
 go_wp2_with fail
 refine (CO _).mono ?_
 rintro e w2 ⟨v1, rfl, k1, -, b2⟩
 obtain ⟨u1, rfl, q1⟩ := k1
 obtain ⟨A1, c1, rfl, _⟩ := id q1
 have s0 := slZ_lit2 w2 29 (q0.below b2) q1
 have ba := below_alloc (w := w2) (Nat.le_refl _) (.cells #[.bool (ngB P), .slice A0 (digs 4294967296 P.natAbs).length c0, .bool (ngB O), .slice A1 (digs 4294967296 O.natAbs).length c1] 29)
 have b12 := b1.trans (b2.mono b1.size)
 have b13 := b12.trans (ba.mono b12.size)
 clear q0 q1 b1 b2 ba b12
 go_wp2_with fail
 refine (CO _).mono ?_
 rintro e w3 ⟨v2, rfl, k2, -, b3⟩
 obtain ⟨u2, rfl, q2⟩ := k2
 obtain ⟨A2, c2, rfl, _⟩ := id q2
 have s03 := s0.below b3
 have b14 := b13.trans (b3.mono b13.size)
 clear s0 b13 b3
 go_wp2_with fail
 refine (CO _).mono ?_
 rintro e w4 ⟨v3, rfl, k3, -, b4⟩
 obtain ⟨u3, rfl, q3⟩ := k3
 obtain ⟨A3, c3, rfl, _⟩ := id q3
 have s1 := slZ_lit2 w4 29 (q2.below b4) q3
 have ba := below_alloc (w := w4) (Nat.le_refl _) (.cells #[.bool (ngB O), .slice A2 (digs 4294967296 O.natAbs).length c2, .bool (ngB O), .slice A3 (digs 4294967296 O.natAbs).length c3] 29)
 have hs1 : (w4.alloc (.cells #[.bool (ngB O), .slice A2 (digs 4294967296 O.natAbs).length c2, .bool (ngB O), .slice A3 (digs 4294967296 O.natAbs).length c3] 29)).heap.size = w4.heap.size + 1 := by simp
 have s04 := (s03.below b4).below ba
 have b15 := b14.trans (b4.mono b14.size)
 have b16 := b15.trans (ba.mono b15.size)
 clear s03 b14 b4 q2 q3 ba b15
 have bt := below_alloc (w := w4.alloc (.cells #[.bool (ngB O), .slice A2 (digs 4294967296 O.natAbs).length c2, .bool (ngB O), .slice A3 (digs 4294967296 O.natAbs).length c3] 29)) (Nat.le_refl _) (.cells #[.slice (some ⟨w2.heap.size, 0, none⟩) 2 2, .slice (some ⟨w4.heap.size, 0, none⟩) 2 2] 51)
 have hv := isV_lit (w4.alloc (.cells #[.bool (ngB O), .slice A2 (digs 4294967296 O.natAbs).length c2, .bool (ngB O), .slice A3 (digs 4294967296 O.natAbs).length c3] 29)) 51 [.slice (some ⟨w2.heap.size, 0, none⟩) 2 2, .slice (some ⟨w4.heap.size, 0, none⟩) 2 2]
 have ST := slW_two hv (s04.below bt) (s1.below bt) (fun A n c e => by injection e with _ _ e3; subst e3; unfold maxLen; simp)
 have b17 := b16.trans (bt.mono b16.size)
 rw [hs1] at ST
 rw [← HE.out.1] at ST
 clear hv bt s04 s1 b16
 have HST := Lib.hid ST
 have HB := Lib.hid b17
 have HOK : Hid (lenI T 1 ∧ (1 + 1) * 2 ^ T.length ≤ 5001) := by
  rw [HE.out.2]
  refine ⟨fun r hr z hz => ?_, by decide⟩
  simp at hr
  rcases hr with rfl | rfl <;> simp at hz <;> rcases hz with rfl | rfl <;> exact digs_len_le (k := 1) (by omega) (by decide +kernel)
 clear ST b17
 go_wp2_with fail
 refine (bdet_any _ T 1 _ HST.out HOK).mono ?_
 rintro e w5 ⟨b5, (⟨hS, v5, z, rfl, k5, -, hd⟩ | ⟨hS, rfl⟩)⟩
 ·have hz : z = 1 := by
   rw [HE.out.2] at hd
   exact Rat.intCast_inj.1 (hd.trans ex15)
  have HZ := Lib.hid hz
  obtain ⟨u5, rfl, q5⟩ := k5
  obtain ⟨A5, c5, rfl, _⟩ := id q5
  have b6 := HB.out.trans (b5.mono HB.out.size)
  have ba := below_alloc (w := w5) (Nat.le_refl _) (.cells #[.bool (ngB z), .slice A5 (digs 4294967296 z.natAbs).length c5] 29)
  have BD := Blk.new w5 29 #[.bool (ngB z), .slice A5 (digs 4294967296 z.natAbs).length c5]
  have q6 := q5.below ba
  have b7 := b6.trans (ba.mono b6.size)
  clear hd hz hS b5 b6 ba q5 HST HB HOK
  go_upto_region 3 with (fail)
  obtain ⟨w6, hw6⟩ : ∃ w6, w5.alloc (.cells #[.bool (ngB z), .slice A5 (digs 4294967296 z.natAbs).length c5] 29) = w6 := ⟨_, rfl⟩
  rw [hw6] at BD q6 b7 ⊢
  clear hw6
  obtain ⟨V0, V1, F0, F1⟩ := Blk.two BD
  have bl := below_alloc (w := w6) (Nat.le_refl _) (.cells #[.int .u64 1] 64)
  have kl : IsZ (w6.alloc (.cells #[.int .u64 1] 64)) (.agg #[.bool false, .slice (some ⟨w6.heap.size, 0, none⟩) 1 1]) 1 := by
   refine ⟨_, rfl, ?_⟩
   rw [show (1 : Int).natAbs = 1 from rfl, digs_one]
   exact (own_lit1 w6 0 64 .u64 (x := 1) (d := 1) rfl (Nat.zero_le _)).isS
  have q7 := q6.below bl
  have b8 := b7.trans (bl.mono b7.size)
  clear BD q6 b7 bl
  go_wp2_with fail
  refine (zsame_eq _ _ z 1 _ ⟨_, rfl, q7⟩ kl HZ.out).mono ?_
  rintro e w9 ⟨rfl, b9⟩
  have b10 := b8.trans (b9.mono b8.size)
  go_wp2
  go_ret
  exact ⟨rfl, b10⟩
 ·exact absurd ⟨by rw [HE.out.2]; decide, by rw [HE.out.2]; intro r hr; simp at hr; rcases hr with rfl | rfl <;> rfl⟩ hS
def isB (v : Value) : Prop := (∃ b, v = .bool b) ∨ ∃ A n c, v = .slice A n c
/-- A row of the call's own: its elements, and what its whole block holds. -/
def RowB (e : TypeId) (w : World) (base : Nat) (v : Value) (ps : List (Int × Value)) : Prop := w.ownsRow base e 2 v ps.length (flat ps) ∧ ∀ g, v.ownBlock = some g → ∃ cs, w.heap[g]? = some (.cells cs e (0, 0)) ∧ ∀ c ∈ cs, isB c
def allSl (ps : List (Int × Value)) : Prop := ∀ p ∈ ps, ∃ A n c, p.2 = .slice A n c
theorem flat_isB {ps : List (Int × Value)} (h : allSl ps) : ∀ c ∈ flat ps, isB c := fun c hc => by
 obtain ⟨p, hp, hc⟩ := List.mem_flatMap.1 hc
 obtain ⟨A, n, d, e⟩ := h p hp
 simp only [e, List.mem_cons, List.not_mem_nil, or_false] at hc
 rcases hc with rfl | rfl
 ·exact .inl ⟨_, rfl⟩
 ·exact .inr ⟨_, _, _, rfl⟩
theorem isB_one {c : Value} (h : isB c) : c.oneCell' = true := by
 rcases h with ⟨b, rfl⟩ | ⟨A, n, d, rfl⟩ <;> rfl
theorem RowB.grown {e : TypeId} {w w' : World} {base : Nat} {v : Value} {ps : List (Int × Value)} {row : Option Nat} (h : RowB e w base v ps) (hg : w.grownBy w' row) (hne : ∀ g, v.ownBlock = some g → row ≠ some g) : RowB e w' base v ps := by
 refine ⟨World.ownsRow.kept (row := row) h.1 hg (by
  cases hv : v.ownBlock with
  | none => exact .inl rfl
  | some g => exact .inr fun e => hne g hv e.symm), fun g hv => ?_⟩
 obtain ⟨cs, h1, h2⟩ := h.2 g hv
 exact ⟨cs, (hg.block g (World.ownsRow.lt h.1 g hv).2 (fun e => hne g hv e.symm)).trans h1, h2⟩
theorem RowB.below {e : TypeId} {w w' : World} {base : Nat} {v : Value} {ps : List (Int × Value)} (h : RowB e w base v ps) (hb : Below w.heap.size w w') : RowB e w' base v ps := h.grown (below_none hb none) (fun g _ e => by cases e)
theorem rowB_lit0 (e : TypeId) (w : World) (base : Nat) (hb : base ≤ w.heap.size) : RowB e (w.alloc (.cells #[] e)) base (.slice (some ⟨w.heap.size, 0, none⟩) 0 0) [] := by
 refine ⟨by
  have h := World.ownsRow_lit (e := e) (size := 2) w #[] 0 hb (by simp) (by simp)
  simpa [flat] using h, fun g hg => ?_⟩
 obtain rfl : w.heap.size = g := by simpa [Value.ownBlock] using hg
 exact ⟨_, heap_alloc_new w _, fun c hc => by simp at hc⟩
section
variable {P : Program}
theorem run_append_B {w : World} {base : Nat} {t ty e : TypeId} (hT : P.underlying t = some (.slice e)) (hI : ∃ i, P.info? e = some i ∧ i.zero = some (.agg #[.bool false, .slice none 0 0]) ∧ i.size = 2 ∧ i.bytes = 32) {v : Value} {ps news : List (Int × Value)} (hown : RowB e w base v ps) {ad : Addr} {m c : Nat} (hm : m = news.length) (hm0 : 0 < m)
  (hr : ∀ (i : Nat) (u : Value), (flat news)[i]? = some u → w.cell? (ad.add i) = some u) (h1 : allSl news) (hlen : ps.length + m ≤ 1000000000) (hbase : base ≤ w.heap.size) :
  ∃ v' w', (Builtin.append_ #[t, t] ty #[v, .slice (some ad) m c]).run P w = .ok v' w' ∧ RowB e w' base v' (ps ++ news) ∧ w.grownBy w' v.ownBlock ∧ (v'.ownBlock = v.ownBlock ∨ v'.ownBlock = some w.heap.size) := by
 obtain ⟨i, hi, hz, hs, hby⟩ := hI
 subst hm
 have hB := flat_isB h1
 have one : ∀ u ∈ flat news, u.oneCell' = true := fun u hu => isB_one (hB u hu)
 have hl : (flat news).length = news.length * i.size := by rw [hs, flat_len]
 have zs : ∀ n, ∀ c ∈ Builtin.zeroCells (Value.agg #[.bool false, .slice none 0 0]).cells n, isB c := by
  intro n c hc
  unfold Builtin.zeroCells at hc
  rw [show (Value.agg #[.bool false, .slice none 0 0]).cells = #[.bool false, .slice none 0 0] from rfl] at hc
  simp at hc
  obtain ⟨j, _, rfl⟩ := hc
  rcases (show j % 2 = 0 ∨ j % 2 = 1 by omega) with e | e
  ·simp [e]; exact .inl ⟨_, rfl⟩
  ·simp [e]; exact .inr ⟨_, _, _, rfl⟩
 obtain ⟨v', w', g1, g2, g3, _, g5⟩ := run_append_own_at (P := P) w base t ty e i (.agg #[.bool false, .slice none 0 0]) 2 32 hT hi hz hs hby rfl (by decide) v ps.length (flat ps) hown.1 ad news.length c (flat news) (by rw [flat_len]) (fun j u hu => hr j u hu) one (by unfold maxLen; omega) (by omega) hbase
 refine ⟨v', w', g1, ⟨by rw [List.length_append, show flat (ps ++ news) = flat ps ++ flat news by simp [flat]]; exact g2, fun g hg => ?_⟩, g3, g5⟩
 rcases hown.1.2 with ⟨rfl, h0⟩ | ⟨g', cap, cur, rfl, hbg, hgg, hnc, hcm, hcs, htake⟩
 ·have hx : ps = [] := List.eq_nil_of_length_eq_zero h0
  subst hx
  have hr2 := run_append_nil (P := P) w t ty e i (.agg #[.bool false, .slice none 0 0]) hT hi hz ad news.length c (flat news) hl hr hm0 (by omega) (by rw [hby]; simp at hlen; omega)
  rw [hr2] at g1
  injection g1 with g1 g1'
  subst g1; subst g1'
  obtain rfl : w.heap.size = g := by simpa [Value.ownBlock] using hg
  refine ⟨_, heap_alloc_new w.drew _, fun c hc => ?_⟩
  rcases Array.mem_append.1 hc with hc | hc
  ·exact hB c (by simpa using hc)
  ·exact zs _ c hc
 ·obtain ⟨cs, hcs1, hcs2⟩ := hown.2 g' rfl
  rw [hgg] at hcs1
  injection hcs1 with hcs1
  injection hcs1 with hcs1 _ _
  subst hcs1
  by_cases hroom : ps.length + news.length ≤ cap
  ·have hfit : ps.length * i.size + (flat news).length ≤ cur.size := by rw [hcs, hs, flat_len]; omega
   have hr2 := run_append_room (P := P) w t ty e i hT hi g' ps.length cap cur hgg ad news.length c (flat news) hl hr one hroom hfit
   rw [hr2] at g1
   injection g1 with g1 g1'
   subst g1; subst g1'
   obtain rfl : g' = g := by simpa [Value.ownBlock] using hg
   refine ⟨_, setRow_heap w g' cur _ e _ hgg, fun c hc => ?_⟩
   have hc2 : c ∈ cur.toList.take (ps.length * i.size) ++ flat news ++ cur.toList.drop (ps.length * i.size + (flat news).length) := by simpa using hc
   rcases List.mem_append.1 hc2 with hc2 | hc2
   ·rcases List.mem_append.1 hc2 with hc2 | hc2
    ·exact hcs2 c (by simpa using List.mem_of_mem_take hc2)
    ·exact hB c hc2
   ·exact hcs2 c (by simpa using List.mem_of_mem_drop hc2)
  ·have holds : ∀ j u, (flat ps)[j]? = some u → w.cell? ((⟨g', 0, none⟩ : Addr).add j) = some u := World.ownsRow.cells hown.1 (g := g') rfl
   have hr2 := run_append_grow (P := P) w t ty e i (.agg #[.bool false, .slice none 0 0]) hT hi hz ⟨g', 0, none⟩ ps.length cap (flat ps) (by rw [hs, flat_len]) holds ad news.length c (flat news) hl hr (by omega) (by omega) (growslice_fits (by omega) (by rw [hby]; omega))
   rw [hr2] at g1
   injection g1 with g1 g1'
   subst g1; subst g1'
   obtain rfl : w.heap.size = g := by simpa [Value.ownBlock] using hg
   refine ⟨_, heap_alloc_new w.drew _, fun c hc => ?_⟩
   rcases Array.mem_append.1 hc with hc | hc
   ·rcases Array.mem_append.1 hc with hc | hc
    ·have hcv : c ∈ flat ps := by simpa using hc
     rw [← htake] at hcv
     exact hcs2 c (by simpa using List.mem_of_mem_take hcv)
    ·exact hB c (by simpa using hc)
   ·exact zs _ c hc
end
end Go.Proofs.Yteijlcfhenlanaa.rat
namespace Go.Proofs.Yteijlcfhenlanaa.rat
open Go.RowKit Go.Shelf Go.Proofs.Yteijlcfhenlanaa.num Go.Proofs.Yteijlcfhenlanaa.mem Go.Proofs.Yteijlcfhenlanaa.nat Go.Proofs.Yteijlcfhenlanaa.txt Go.Proofs.Yteijlcfhenlanaa.str Go.Proofs.Yteijlcfhenlanaa.flow Go.Proofs.Yteijlcfhenlanaa.whl
set_option linter.unusedVariables false
set_option linter.unusedSimpArgs false
attribute [local go_sem] Oper.semAt_some
theorem IsS.own {w w' : World} {row : Option Nat} {k : IntKind} {v : Value} {l : List Nat} (h : IsS w k v l) (hg : w.grownBy w' row) (hr : ∀ x, row = some x → ∃ o : Obj, w.heap[x]? = some o ∧ o.isCells = false) : IsS w' k v l := by
 obtain ⟨A, c, e, h1, h2, h3⟩ := h
 refine ⟨A, c, e, h1, h2, fun i d hd => ?_⟩
 obtain ⟨ad, h4, h5⟩ := h3 i d hd
 exact ⟨ad, h4, cell_kept h5 hg hr⟩
theorem SlF.own {w w' : World} {row : Option Nat} {k : IntKind} {B : Nat} {v : Value} {r : List Rat} (h : SlF k B w v r) (hg : w.grownBy w' row) (hr : ∀ x, row = some x → ∃ o : Obj, w.heap[x]? = some o ∧ o.isCells = false) : SlF k B w' v r := by
 obtain ⟨ps, h1, ⟨A, c, e1, h2, h3, h4⟩, h5⟩ := h
 refine ⟨ps, h1, ⟨A, c, e1, h2, h3, fun i p hp => ?_⟩, fun p hp => ⟨IsS.own (h5 p hp).1 hg hr, IsS.own (h5 p hp).2 hg hr⟩⟩
 obtain ⟨g', o, e2, c0, c1, c2⟩ := h4 i p hp
 exact ⟨g', o, e2, cell_kept c0 hg hr, cell_kept c1 hg hr, cell_kept c2 hg hr⟩
/-- What a round keeps: all that lies below n0 but the table. -/
def KpG (g n0 : Nat) (W W' : World) : Prop := W.heap.size ≤ W'.heap.size ∧ ∀ k, k < n0 → k < W.heap.size → k ≠ g → W'.heap[k]? = W.heap[k]?
theorem KpG.refl (g n0 : Nat) (W : World) : KpG g n0 W W := ⟨Nat.le_refl _, fun _ _ _ _ => rfl⟩
theorem KpG.trans {g n0 : Nat} {A B C : World} (h : KpG g n0 A B) (k : KpG g n0 B C) : KpG g n0 A C :=
 ⟨Nat.le_trans h.1 k.1, fun i hi hl hg => (k.2 i hi (Nat.lt_of_lt_of_le hl h.1) hg).trans (h.2 i hi hl hg)⟩
theorem KpG.cell {g n0 : Nat} {W W' : World} {p : Addr} {v : Value} (h : KpG g n0 W W') (hp : W.cell? p = some v) (hn : p.block < n0) (hg : p.block ≠ g) : W'.cell? p = some v := by
 have h1 := h.2 p.block hn (World.block_lt_of_cell? _ _ hp) hg
 exact (World.cell?_of_block h1).trans hp
/-- What Backward hands a round: a place, and the pivot there. -/
abbrev BkT (ps : List Nat) := { x : Nat × Nat // x.1 < ps.length ∧ x.2 = pv ps x.1 }
/-- From the last one on. -/
def Back {ps : List Nat} (xs : List (BkT ps)) : Prop := ∀ (t : Nat) (x : BkT ps), xs[t]? = some x → x.1.1 + t + 1 = ps.length
theorem Back.snoc {ps : List Nat} {xs : List (BkT ps)} {x : BkT ps} (h : Back xs) (hx : x.1.1 + xs.length + 1 = ps.length) : Back (xs ++ [x]) := fun t y hy => by
 by_cases ht : t < xs.length
 ·rw [List.getElem?_append_left ht] at hy; exact h t y hy
 ·rw [List.getElem?_append_right (by omega)] at hy
  have e : t - xs.length = 0 := by
   have := (List.getElem?_eq_some_iff.1 hy).1
   simp at this; omega
  rw [e] at hy
  obtain rfl : x = y := by simpa using hy
  omega
/-- Places, read. -/
def PvI (w : World) (v : Value) (ps : List Nat) : Prop := ∃ A c, v = .slice A ps.length c ∧ ∀ i, i < ps.length → ∃ ad, A = some ad ∧ w.cell? (ad.add i) = some (.int .i64 (pv ps i : Int))
theorem PvI.below {w w' : World} {v : Value} {ps : List Nat} (h : PvI w v ps) (hb : Below w.heap.size w w') : PvI w' v ps := by
 obtain ⟨A, c, e, h1⟩ := h
 refine ⟨A, c, e, fun i hi => ?_⟩
 obtain ⟨ad, e2, h2⟩ := h1 i hi
 exact ⟨ad, e2, (hb.cell (World.block_lt_of_cell? _ _ h2)).trans h2⟩
/-- What stands, when k rows have been looked at. -/
structure Stp (C : Nat) (M : Nat → Nat → Rat) (k : Nat) (ps : List Nat) (ahead : Int) : Prop where
 ech : Ech k C M ps.length (pv ps)
 red : Red k M ps.length (pv ps) 0
 ahd : ahead = if ps.length < k then (C : Int) else if k = 0 then -1 else (pv ps (k - 1) : Int)
theorem Stp.start (C : Nat) (M : Nat → Nat → Rat) : Stp C M 0 [] (-1) := ⟨⟨by simp, fun _ _ _ h => by simp at h, fun _ h => by simp at h, fun _ h => by simp at h, fun _ h => by simp at h, fun _ _ h => by omega⟩, fun m _ h => by simp at h, by simp⟩
/-- A row of noughts. -/
theorem Stp.zero {C k : Nat} {M : Nat → Nat → Rat} {ps : List Nat} {ahead : Int} (h : Stp C M k ps ahead) (h0 : ∀ j, j < C → M k j = 0) : Stp C M (k + 1) ps (C : Int) := by
 have hle := h.ech.le
 refine ⟨⟨by omega, h.ech.rise, h.ech.lt, h.ech.one, h.ech.lead, fun i h1 h2 j hj => ?_⟩, fun m h1 h2 i h3 h4 => ?_, by rw [if_pos (by omega)]⟩
 ·by_cases e : i = k
  ·subst e; exact h0 j hj
  ·exact h.ech.rest i h1 (by omega) j hj
 ·by_cases e : i = k
  ·subst e; exact h0 _ (h.ech.lt m h2)
  ·exact h.red m h1 h2 i (by omega) h4
/-- A row that begins with 1, further back, nought above. -/
theorem Stp.one {C k a : Nat} {M : Nat → Nat → Rat} {ps : List Nat} {ahead : Int} (h : Stp C M k ps ahead) (ha : a < C) (hlt : ahead < (a : Int)) (h1 : M k a = 1) (h0 : ∀ j, j < a → M k j = 0) (ht : ∀ i, i < k → M i a = 0) : Stp C M (k + 1) (ps ++ [a]) (a : Int) := by
 have hle := h.ech.le
 have hk : ps.length = k := by
  have hh := h.ahd
  by_cases e : ps.length < k
  ·rw [if_pos e] at hh; omega
  ·omega
 have hl : (ps ++ [a]).length = k + 1 := by simp [hk]
 have hp : ∀ i, i < k → pv (ps ++ [a]) i = pv ps i := fun i hi => by rw [← pv_snoc ps a i (by omega), if_pos (by omega)]
 have hpk : pv (ps ++ [a]) k = a := by rw [← pv_snoc ps a k (by omega), if_neg (by omega)]
 have hlast : ∀ i, i < k → pv ps i < a := fun i hi => by
  have hh := h.ahd
  rw [if_neg (by omega), if_neg (by omega)] at hh
  by_cases e : i = k - 1
  ·subst e; omega
  ·have := h.ech.rise i (k - 1) (by omega) (by omega)
   omega
 refine ⟨?_, ?_, ?_⟩
 ·rw [hl]
  refine ⟨Nat.le_refl _, fun i j h2 h3 => ?_, fun i hi => ?_, fun i hi => ?_, fun i hi j hj => ?_, fun i h2 h3 => by omega⟩
  ·rw [hp i (by omega)]
   by_cases e : j = k
   ·subst e; rw [hpk]; exact hlast i (by omega)
   ·rw [hp j (by omega)]; exact h.ech.rise i j h2 (by omega)
  ·by_cases e : i = k
   ·subst e; rw [hpk]; exact ha
   ·rw [hp i (by omega)]; exact h.ech.lt i (by omega)
  ·by_cases e : i = k
   ·subst e; rw [hpk]; exact h1
   ·rw [hp i (by omega)]; exact h.ech.one i (by omega)
  ·by_cases e : i = k
   ·subst e; rw [hpk] at hj; exact h0 j hj
   ·rw [hp i (by omega)] at hj; exact h.ech.lead i (by omega) j hj
 ·rw [hl]
  intro m h2 h3 i h4 h5
  by_cases e : m = k
  ·subst e; rw [hpk]; exact ht i (by omega)
  ·rw [hp m (by omega)]
   by_cases e2 : i = k
   ·subst e2; exact h0 _ (hlast m (by omega))
   ·exact h.red m h2 (by omega) i (by omega) h5
 ·rw [hl, if_neg (by omega), if_neg (by omega), show k + 1 - 1 = k by omega, hpk]
/-- Cells that hold slices. -/
def isSl (v : Value) : Prop := ∃ A n c, v = .slice A n c
section
variable {P : Program}
/-- Append of slices to such a row. -/
theorem run_append_S {w : World} {base : Nat} {t ty e : TypeId} (hT : P.underlying t = some (.slice e)) (hI : ∃ i, P.info? e = some i ∧ i.zero = some (.slice none 0 0) ∧ i.size = 1 ∧ i.bytes = 24) {v : Value} {vs news : List Value} (hown : RowX isSl w base e v vs) {ad : Addr} {m c : Nat} (hm : m = news.length) (hm0 : 0 < m)
  (hr : ∀ (i : Nat) (u : Value), news[i]? = some u → w.cell? (ad.add i) = some u) (h1 : ∀ u ∈ news, isSl u) (hlen : vs.length + m ≤ 1000000000) (hbase : base ≤ w.heap.size) :
  ∃ v' w', (Builtin.append_ #[t, t] ty #[v, .slice (some ad) m c]).run P w = .ok v' w' ∧ RowX isSl w' base e v' (vs ++ news) ∧ w.grownBy w' v.ownBlock ∧ (v'.ownBlock = v.ownBlock ∨ v'.ownBlock = some w.heap.size) := by
 obtain ⟨i, hi, hz, hs, hby⟩ := hI
 subst hm
 have one : ∀ u ∈ news, u.oneCell' = true := fun u hu => by obtain ⟨A_, n_, c_, rfl⟩ := h1 u hu; rfl
 have hl : news.length = news.length * i.size := by rw [hs, Nat.mul_one]
 have zs : ∀ n, ∀ c ∈ Builtin.zeroCells (Value.slice none 0 0).cells n, isSl c := by
  intro n c hc
  have : c = .slice none 0 0 := by
   have h0 : ∀ n, ∀ c ∈ (Builtin.zeroCells (Value.slice none 0 0).cells n), c = .slice none 0 0 := by
    intro n c hc
    unfold Builtin.zeroCells at hc
    simp [Value.cells, Nat.mod_one] at hc
    obtain ⟨_, h3⟩ := hc
    first | exact h3.symm | exact h3.2.symm
   exact h0 n c hc
  exact ⟨none, 0, 0, this⟩
 obtain ⟨v', w', g1, g2, g3, _, g5⟩ := run_append_own_at (P := P) w base t ty e i (.slice none 0 0) 1 24 hT hi hz hs hby rfl (by decide) v vs.length vs hown.1 ad news.length c news (by simp) (fun j u hu => hr j u hu) one (by unfold maxLen; omega) (by omega) hbase
 refine ⟨v', w', g1, ⟨by unfold RowV; rw [List.length_append]; exact g2, fun g hg => ?_⟩, g3, g5⟩
 rcases hown.1.2 with ⟨rfl, h0⟩ | ⟨g', cap, cur, rfl, hbg, hgg, hnc, hcm, hcs, htake⟩
 ·have hx : vs = [] := List.eq_nil_of_length_eq_zero h0
  subst hx
  have hr2 := run_append_nil (P := P) w t ty e i (.slice none 0 0) hT hi hz ad news.length c news hl hr hm0 (by omega) (by rw [hby]; simp at hlen; omega)
  rw [hr2] at g1
  injection g1 with g1 g1'
  subst g1; subst g1'
  obtain rfl : w.heap.size = g := by simpa [Value.ownBlock] using hg
  refine ⟨_, heap_alloc_new w.drew _, fun c hc => ?_⟩
  rcases Array.mem_append.1 hc with hc | hc
  ·exact h1 c (by simpa using hc)
  ·exact zs _ c hc
 ·obtain ⟨cs, hcs1, hcs2⟩ := hown.2 g' rfl
  rw [hgg] at hcs1
  injection hcs1 with hcs1
  injection hcs1 with hcs1 _ _
  subst hcs1
  by_cases hroom : vs.length + news.length ≤ cap
  ·have hfit : vs.length * i.size + news.length ≤ cur.size := by rw [hcs, hs]; omega
   have hr2 := run_append_room (P := P) w t ty e i hT hi g' vs.length cap cur hgg ad news.length c news hl hr one hroom hfit
   rw [hr2] at g1
   injection g1 with g1 g1'
   subst g1; subst g1'
   obtain rfl : g' = g := by simpa [Value.ownBlock] using hg
   refine ⟨_, setRow_heap w g' cur _ e _ hgg, fun c hc => ?_⟩
   have hc2 : c ∈ cur.toList.take (vs.length * i.size) ++ news ++ cur.toList.drop (vs.length * i.size + news.length) := by simpa using hc
   rcases List.mem_append.1 hc2 with hc2 | hc2
   ·rcases List.mem_append.1 hc2 with hc2 | hc2
    ·exact hcs2 c (by simpa using List.mem_of_mem_take hc2)
    ·exact h1 c hc2
   ·exact hcs2 c (by simpa using List.mem_of_mem_drop hc2)
  ·have holds : ∀ j u, vs[j]? = some u → w.cell? ((⟨g', 0, none⟩ : Addr).add j) = some u := World.ownsRow.cells hown.1 (g := g') rfl
   have hr2 := run_append_grow (P := P) w t ty e i (.slice none 0 0) hT hi hz ⟨g', 0, none⟩ vs.length cap vs (by rw [hs]; omega) holds ad news.length c news hl hr (by omega) (by omega) (growslice_fits (by omega) (by rw [hby]; omega))
   rw [hr2] at g1
   injection g1 with g1 g1'
   subst g1; subst g1'
   obtain rfl : w.heap.size = g := by simpa [Value.ownBlock] using hg
   refine ⟨_, heap_alloc_new w.drew _, fun c hc => ?_⟩
   rcases Array.mem_append.1 hc with hc | hc
   ·rcases Array.mem_append.1 hc with hc | hc
    ·have hcv : c ∈ vs := by simpa using hc
     rw [← htake] at hcv
     exact hcs2 c (by simpa using List.mem_of_mem_take hcv)
    ·exact h1 c (by simpa using hc)
   ·exact zs _ c hc
theorem wp_append_S {w : World} {o : Oper} {a : Act} {K : Act → World → Prop} {Q : Exit → Act → World → Prop} (s x : Operand) {t : TypeId}
  (ho : o.op = .call { callee := .builtin .append, args := #[s, x], argTypes := #[t, t] })
  {base : Nat} {e : TypeId} (hT : P.underlying t = some (.slice e)) (hI : ∃ i, P.info? e = some i ∧ i.zero = some (.slice none 0 0) ∧ i.size = 1 ∧ i.bytes = 24) {v : Value} {vs news : List Value} (hs : a.eval s = v) (hown : RowX isSl w base e v vs) {ad : Addr} {m c : Nat} (hx : a.eval x = .slice (some ad) m c) (hm : m = news.length) (hm0 : 0 < m)
  (hr : ∀ (i : Nat) (u : Value), news[i]? = some u → w.cell? (ad.add i) = some u) (h1 : ∀ u ∈ news, isSl u) (hlen : vs.length + m ≤ 1000000000) (hbase : base ≤ w.heap.size)
  (h : ∀ v' w', RowX isSl w' base e v' (vs ++ news) → Hid (w.grownBy w' v.ownBlock) → Hid (v'.ownBlock = v.ownBlock ∨ v'.ownBlock = some w.heap.size) → K (a.put o.dst v') w') : o.wp P a w K Q := by
 obtain ⟨v', w', hrun, h2, h3, h4⟩ := run_append_S (P := P) (ty := o.type) hT hI hown (c := c) hm hm0 hr h1 hlen hbase
 unfold Oper.wp execOp
 simp only [ho, resolve, invoke, builtin, Sem.run_bind, Sem.run_pure, Result.andThen_ok, List.map_toArray, List.map_cons, List.map_nil, hs, hx, hrun]
 exact h v' w' h2 h3 h4
theorem wpList_append_S {w : World} {ops : Array Oper} {rest : List Oper} {o : Oper} {a : Act} {Q : Exit → Act → World → Prop} (hgd : o.guard = none) (s x : Operand) {t : TypeId}
  (ho : o.op = .call { callee := .builtin .append, args := #[s, x], argTypes := #[t, t] })
  {base : Nat} {e : TypeId} (hT : P.underlying t = some (.slice e)) (hI : ∃ i, P.info? e = some i ∧ i.zero = some (.slice none 0 0) ∧ i.size = 1 ∧ i.bytes = 24) {v : Value} {vs news : List Value} (hs : a.eval s = v) (hown : RowX isSl w base e v vs) {ad : Addr} {m c : Nat} (hx : a.eval x = .slice (some ad) m c) (hm : m = news.length) (hm0 : 0 < m)
  (hr : ∀ (i : Nat) (u : Value), news[i]? = some u → w.cell? (ad.add i) = some u) (h1 : ∀ u ∈ news, isSl u) (hlen : vs.length + m ≤ 1000000000) (hbase : base ≤ w.heap.size)
  (h : ∀ v' w', RowX isSl w' base e v' (vs ++ news) → Hid (w.grownBy w' v.ownBlock) → Hid (v'.ownBlock = v.ownBlock ∨ v'.ownBlock = some w.heap.size) → wpList P ops Q rest (a.put o.dst v') w') : wpList P ops Q (o :: rest) a w :=
 wpList_plain hgd fun _ hK => wp_append_S s x ho hT hI hs hown hx hm hm0 hr h1 hlen hbase fun v' w' h2 h3 h4 => hK _ _ (h v' w' h2 h3 h4)
end
/-! The kernel's rows. -/
end Go.Proofs.Yteijlcfhenlanaa.rat
namespace Go.Proofs.Yteijlcfhenlanaa.rat
open Go.RowKit Go.Proofs.Yteijlcfhenlanaa.num Go.Proofs.Yteijlcfhenlanaa.mem Go.Proofs.Yteijlcfhenlanaa.nat Go.Proofs.Yteijlcfhenlanaa.txt Go.Proofs.Yteijlcfhenlanaa.str Go.Proofs.Yteijlcfhenlanaa.flow Go.Proofs.Yteijlcfhenlanaa.whl
set_option linter.unusedVariables false
set_option linter.unusedSimpArgs false
section
variable {P : Program}
theorem wp_append_B {w : World} {o : Oper} {a : Act} {K : Act → World → Prop} {Q : Exit → Act → World → Prop} (s x : Operand) {t : TypeId}
  (ho : o.op = .call { callee := .builtin .append, args := #[s, x], argTypes := #[t, t] })
  {base : Nat} {e : TypeId} (hT : P.underlying t = some (.slice e)) (hI : ∃ i, P.info? e = some i ∧ i.zero = some (.agg #[.bool false, .slice none 0 0]) ∧ i.size = 2 ∧ i.bytes = 32) {v : Value} {ps news : List (Int × Value)} (hs : a.eval s = v) (hown : RowB e w base v ps) {ad : Addr} {m c : Nat} (hx : a.eval x = .slice (some ad) m c) (hm : m = news.length) (hm0 : 0 < m)
  (hr : ∀ (i : Nat) (u : Value), (flat news)[i]? = some u → w.cell? (ad.add i) = some u) (h1 : allSl news) (hlen : ps.length + m ≤ 1000000000) (hbase : base ≤ w.heap.size)
  (h : ∀ v' w', RowB e w' base v' (ps ++ news) → Hid (w.grownBy w' v.ownBlock) → Hid (v'.ownBlock = v.ownBlock ∨ v'.ownBlock = some w.heap.size) → K (a.put o.dst v') w') : o.wp P a w K Q := by
 obtain ⟨v', w', hrun, h2, h3, h4⟩ := run_append_B (P := P) (ty := o.type) hT hI hown (c := c) hm hm0 hr h1 hlen hbase
 unfold Oper.wp execOp
 simp only [ho, resolve, invoke, builtin, Sem.run_bind, Sem.run_pure, Result.andThen_ok, List.map_toArray, List.map_cons, List.map_nil, hs, hx, hrun]
 exact h v' w' h2 h3 h4
/-- One element, in a region that draws its order. -/
theorem step_append_B {w : World} {ops : Array Oper} {o : Oper} {a : Act} {K : Act → World → Prop} {Q : Exit → Act → World → Prop} {E : Prop} (hgd : o.guard = none) (s x : Operand) {t : TypeId}
  (ho : o.op = .call { callee := .builtin .append, args := #[s, x], argTypes := #[t, t] })
  {base : Nat} {e : TypeId} (hT : P.underlying t = some (.slice e)) (hI : ∃ i, P.info? e = some i ∧ i.zero = some (.agg #[.bool false, .slice none 0 0]) ∧ i.size = 2 ∧ i.bytes = 32) {v : Value} {p : Int × Value} {ps : List (Int × Value)} (hs : a.eval s = v) (hown : RowB e w base v ps) {ad : Addr} {c : Nat} (hx : a.eval x = .slice (some ad) 1 c)
  (h0 : w.cell? (ad.add 0) = some (.bool (ngB p.1))) (h1 : w.cell? (ad.add 1) = some p.2) (k1 : ∃ A n c, p.2 = .slice A n c) (hlen : ps.length + 1 ≤ 1000000000) (hbase : base ≤ w.heap.size)
  (h : ∀ v' w', RowB e w' base v' (ps ++ [p]) → Hid (w.grownBy w' v.ownBlock) → Hid (v'.ownBlock = v.ownBlock ∨ v'.ownBlock = some w.heap.size) → K (a.put o.dst v') w') :
  if Region.wanted o (yielded ops a.tmps) = true then Oper.wp P o a w K Q else E := by
 have hw : Region.wanted o (yielded ops a.tmps) = true := by simp [Region.wanted, hgd]
 rw [if_pos hw]
 refine wp_append_B s x ho hT hI hs hown hx (news := [p]) rfl (by omega) (fun i u hu => ?_) (fun q hq => by obtain rfl := List.mem_singleton.1 hq; exact k1) hlen hbase h
 match i, hu with
 | 0, hu => simp [flat] at hu; subst hu; exact h0
 | 1, hu => simp [flat] at hu; subst hu; exact h1
 | i + 2, hu => simp [flat] at hu
end
theorem RowB.under {e : TypeId} {w : World} {base : Nat} {v : Value} {ps : List (Int × Value)} (h : RowB e w base v ps) : ∀ g, v.ownBlock = some g → base ≤ g ∧ g < w.heap.size := fun g hg => World.ownsRow.lt h.1 g hg
theorem RowB.slice {e : TypeId} {w : World} {base : Nat} {v : Value} {ps : List (Int × Value)} (h : RowB e w base v ps) : ∃ A c, v = .slice A ps.length c := by
 rcases h.1.2 with ⟨e1, h0⟩ | ⟨g, cap, cur, e1, _⟩
 ·exact ⟨none, 0, by rw [e1, h0]⟩
 ·exact ⟨_, _, e1⟩
/-- What lies ahead of the row's base stays where the row is written. -/
theorem RowB.bel {e : TypeId} {w w' : World} {base : Nat} {v : Value} {ps : List (Int × Value)} (h : RowB e w base v ps) (hg : w.grownBy w' v.ownBlock) (hb : base ≤ w.heap.size) : Below base w w' := (Below.refl base w).grown hg hb (fun g e => (h.under g e).1)
/-- Limbs stay where the row is written. -/
theorem RowB.keepS {e : TypeId} {w w' : World} {base : Nat} {V : Value} {ps : List (Int × Value)} {k : IntKind} {v : Value} {l : List Nat} (h : RowB e w base V ps) (hg : w.grownBy w' V.ownBlock) (hs : IsS w k v l) : IsS w' k v l := by
  cases ho : V.ownBlock with
  | none => rw [ho] at hg; exact hs.below ⟨hg.os, hg.tape, hg.output, hg.size, fun k hk => hg.block k hk (by simp)⟩
  | some g =>
    rw [ho] at hg
    obtain ⟨cs, h1, h2⟩ := h.2 g ho
    exact Go.Proofs.Yteijlcfhenlanaa.flow.off hs h1 (fun c hc n => by rcases h2 c hc with ⟨b, rfl⟩ | ⟨A, m, d, rfl⟩ <;> simp) hg
theorem RowB.notB {T T' : TypeId} {w : World} {base base' : Nat} {v u : Value} {ps qs : List (Int × Value)} (h : RowB T w base v ps) (h' : RowB T' w base' u qs) (hne : T ≠ T') : ∀ g, v.ownBlock = some g → u.ownBlock ≠ some g := by
 intro g e e2
 obtain ⟨cs, h1, _⟩ := h.2 g e
 obtain ⟨cs', h2, _⟩ := h'.2 g e2
 rw [h1] at h2
 injection h2 with h2
 injection h2 with _ h2
 exact hne h2
/-- It reads as its numbers. -/
theorem RowB.sl {T : TypeId} {k : IntKind} {B : Nat} {w : World} {base : Nat} {v : Value} {ps : List (Int × Value)} (h : RowB T w base v ps) (hs : ∀ p ∈ ps, IsS w k p.2 (digs B p.1.natAbs)) : SlZ k B w v (ps.map (·.1)) := by
  rcases h.1.2 with ⟨rfl, h0⟩ | ⟨g, cap, cur, rfl, _, hg, hn, hm, _, _⟩
  · obtain rfl : ps = [] := List.length_eq_zero_iff.1 h0
    exact slZ_nil _ _ _ (Nat.zero_le _)
  · refine ⟨some ⟨g, 0, none⟩, cap, by rw [List.length_map], by rw [List.length_map]; exact hn, hm, fun i z hz => ?_⟩
    rw [List.getElem?_map] at hz
    cases hp : ps[i]? with
    | none => rw [hp] at hz; cases hz
    | some p =>
      rw [hp] at hz
      obtain rfl : p.1 = z := by simpa using hz
      obtain ⟨f0, f1⟩ := flat_at ps i p hp
      have k0 := World.ownsRow.cells h.1 (g := g) rfl _ _ f0
      have k1 := World.ownsRow.cells h.1 (g := g) rfl _ _ f1
      rw [addr_zero] at k0 k1
      exact ⟨g, 0, p.2, rfl, by rw [Nat.zero_add]; exact k0, by rw [Nat.zero_add]; exact k1, hs p (List.mem_of_getElem? hp)⟩
/-- A table of slices, written: rows of whole numbers stay. -/
theorem RowX.keepZ {w w' : World} {base : Nat} {e : TypeId} {V : Value} {vs : List Value} {k : IntKind} {B : Nat} {v : Value} {r : List Int} (h : RowX isSl w base e V vs) (hg : w.grownBy w' V.ownBlock) (hs : SlZ k B w v r) : SlZ k B w' v r := by
  cases ho : V.ownBlock with
  | none => rw [ho] at hg; exact hs.below ⟨hg.os, hg.tape, hg.output, hg.size, fun k hk => hg.block k hk (by simp)⟩
  | some g =>
    rw [ho] at hg
    obtain ⟨cs, h1, h2⟩ := h.2 g ho
    obtain ⟨A, c, rfl, h3, h4, h5⟩ := hs
    refine ⟨A, c, rfl, h3, h4, fun i z hz => ?_⟩
    obtain ⟨g', o, u, rfl, c0, c1, s⟩ := h5 i z hz
    have hne : some g' ≠ some g := by
      intro e3
      injection e3 with e3
      subst e3
      rw [cell_of_row w g' (o + i * 2) cs e (0, 0) h1] at c0
      obtain ⟨A', m, d, e4⟩ := h2 _ (Array.mem_of_getElem? c0)
      cases e4
    exact ⟨g', o, u, rfl, hg.cell c0 hne, hg.cell c1 hne, Go.Proofs.Yteijlcfhenlanaa.flow.off s h1 (fun c hc n => by obtain ⟨A, m, d, rfl⟩ := h2 c hc; simp) hg⟩
theorem index2_any {P : Program} {t e : TypeId} (hu : P.underlying t = some (.slice e)) (hs : (P.info? e).map (·.size) = some 2) (ad : Addr) {n c k : Nat} (hk : k < n) (w : World) : (Instr.indexAt t (.slice (some ad) n c) (.int .i64 (k : Int))).run P w = .ok (.pointer (some (ad.add (k * 2)))) w := by
  cases hq : P.info? e with
  | none => simp [hq] at hs
  | some inf =>
    have hsz : inf.size = 2 := by simpa [hq] using hs
    simp [Instr.indexAt, asIntOf, go_sem, run_underlying hu, sizeOf, typeInfo, hq, hsz, hk]
/-- A table of whole numbers, as it came in. -/
def ArgW (w : World) (v : Value) : Prop := ∃ A n c, v = .slice A n c ∧ n ≤ c ∧ c ≤ maxLen ∧ ∀ i, i < n → ∃ ad u, A = some ad ∧ w.cell? (ad.add i) = some u ∧ ArgZ w u
theorem ArgZ.below {w w' : World} {v : Value} (h : ArgZ w v) (hb : Below w.heap.size w w') : ArgZ w' v := by
 obtain ⟨A, n, c, e, h1, h2, h3⟩ := h
 refine ⟨A, n, c, e, h1, h2, fun i hi => ?_⟩
 obtain ⟨ad, b, u, l, e2, c0, c1, s, lt⟩ := h3 i hi
 exact ⟨ad, b, u, l, e2, (hb.cell (World.block_lt_of_cell? w _ c0)).trans c0, (hb.cell (World.block_lt_of_cell? w _ c1)).trans c1, s.below hb, lt⟩
theorem ArgW.below {w w' : World} {v : Value} (h : ArgW w v) (hb : Below w.heap.size w w') : ArgW w' v := by
 obtain ⟨A, n, c, e, h1, h2, h3⟩ := h
 refine ⟨A, n, c, e, h1, h2, fun i hi => ?_⟩
 obtain ⟨ad, u, e2, c0, hz⟩ := h3 i hi
 exact ⟨ad, u, e2, (hb.cell (World.block_lt_of_cell? w _ c0)).trans c0, ArgZ.below hz hb⟩
theorem ArgW.shape {w : World} {v : Value} (h : ArgW w v) : ∃ A n c, v = .slice A n c ∧ n ≤ c ∧ c ≤ maxLen := by
 obtain ⟨A, n, c, e, h1, h2, _⟩ := h
 exact ⟨A, n, c, e, h1, h2⟩
structure TabY (w : World) (base : Nat) (V U : Value) (us vs : List Value) (T : List (List Int)) : Prop where
 p : RowX isSl w base 51 V us
 q : RowX isSl w base 43 U vs
 lp : us.length = T.length
 lq : vs.length = T.length
 rp : ∀ (i : Nat) (u : Value) (r : List Int), us[i]? = some u → T[i]? = some r → SlZ .u64 4294967296 w u r
 rq : ∀ (i : Nat) (u : Value) (r : List Int), vs[i]? = some u → T[i]? = some r → SlZ .i64 10000 w u r
theorem TabY.below {w w' : World} {base : Nat} {V U : Value} {us vs : List Value} {T : List (List Int)} (h : TabY w base V U us vs T) (hb : Below w.heap.size w w') : TabY w' base V U us vs T :=
 ⟨h.p.below hb, h.q.below hb, h.lp, h.lq, fun i u r hu hr => (h.rp i u r hu hr).below hb, fun i u r hu hr => (h.rq i u r hu hr).below hb⟩
theorem TabY.step {w w3 w4 : World} {base : Nat} {V U V3 U4 a b : Value} {us vs : List Value} {T : List (List Int)} {zs : List Int} (h : TabY w base V U us vs T) (ha : SlZ .u64 4294967296 w a zs) (hb : SlZ .i64 10000 w b zs) (r3 : RowX isSl w3 base 51 V3 (us ++ [a])) (g3 : w.grownBy w3 V.ownBlock) (r4 : RowX isSl w4 base 43 U4 (vs ++ [b])) (g4 : w3.grownBy w4 U.ownBlock) : TabY w4 base V3 U4 (us ++ [a]) (vs ++ [b]) (T ++ [zs]) := by
 have q3 : RowX isSl w3 base 43 U vs := h.q.grown g3 (fun g e e2 => RowV.notV h.p.1 h.q.1 (by decide) g e2 e)
 have p4 : RowX isSl w4 base 51 V3 (us ++ [a]) := r3.grown g4 (fun g e e2 => RowV.notV r3.1 q3.1 (by decide) g e e2)
 have kp : ∀ {k B v r}, SlZ k B w v r → SlZ k B w4 v r := fun hs => q3.keepZ g4 (h.p.keepZ g3 hs)
 refine ⟨p4, r4, by rw [List.length_append, List.length_append, h.lp]; rfl, by rw [List.length_append, List.length_append, h.lq]; rfl, fun i u r hu hr => ?_, fun i u r hu hr => ?_⟩
 ·by_cases hi : i < us.length
  ·rw [List.getElem?_append_left hi] at hu
   rw [List.getElem?_append_left (by rw [← h.lp]; exact hi)] at hr
   exact kp (h.rp i u r hu hr)
  ·have h1 := (List.getElem?_eq_some_iff.1 hu).1
   rw [List.length_append, List.length_singleton] at h1
   obtain rfl : i = us.length := by omega
   rw [List.getElem?_concat_length] at hu
   rw [h.lp, List.getElem?_concat_length] at hr
   injection hu with hu
   injection hr with hr
   subst hu; subst hr
   exact kp ha
 ·by_cases hi : i < vs.length
  ·rw [List.getElem?_append_left hi] at hu
   rw [List.getElem?_append_left (by rw [← h.lq]; exact hi)] at hr
   exact kp (h.rq i u r hu hr)
  ·have h1 := (List.getElem?_eq_some_iff.1 hu).1
   rw [List.length_append, List.length_singleton] at h1
   obtain rfl : i = vs.length := by omega
   rw [List.getElem?_concat_length] at hu
   rw [h.lq, List.getElem?_concat_length] at hr
   injection hu with hu
   injection hr with hr
   subst hu; subst hr
   exact kp hb
theorem rowX_slW {k : IntKind} {B : Nat} {w : World} {base : Nat} {TS : TypeId} {V : Value} {us : List Value} {T : List (List Int)} (h : RowX isSl w base TS V us) (hl : us.length = T.length) (hs : ∀ (i : Nat) (u : Value) (r : List Int), us[i]? = some u → T[i]? = some r → SlZ k B w u r) : SlW k B w V T := by
 refine ⟨us, hl, ?_, hs⟩
 rcases h.1.2 with ⟨rfl, h0⟩ | ⟨g, cap, cur, rfl, _, hg, hn, hm, _, _⟩
 ·obtain rfl : us = [] := List.length_eq_zero_iff.1 h0
  exact ⟨none, 0, rfl, by simp, Nat.zero_le _, fun i u hu => by simp at hu⟩
 ·exact ⟨some ⟨g, 0, none⟩, cap, rfl, hn, hm, fun i u hu => ⟨_, rfl, World.ownsRow.cells h.1 (g := g) rfl _ _ hu⟩⟩
/-- Two tables of the same small whole numbers, so many rows of so many places at most. -/
def RetFewI (M : Nat) (w : World) (e : Ending) (w' : World) : Prop := ∃ V U T, e = .returned (.tuple #[V, U]) ∧ SlW .u64 4294967296 w' V T ∧ SlW .i64 10000 w' U T ∧ T.length ≤ M ∧ (∀ r ∈ T, r.length ≤ M) ∧ lenI T 2 ∧ Below w.heap.size w w'
theorem info_zdoc : ∃ i, Try.prog.info? 41 = some i ∧ i.zero = some (.agg #[.bool false, .slice none 0 0]) ∧ i.size = 2 ∧ i.bytes = 32 := info_parts (P := Try.prog) (e := 41) (z := .agg #[.bool false, .slice none 0 0]) (size := 2) (bytes := 32) (by kernel_rfl)
theorem info_zdocs : ∃ i, Try.prog.info? 43 = some i ∧ i.zero = some (.slice none 0 0) ∧ i.size = 1 ∧ i.bytes = 24 := info_parts (P := Try.prog) (e := 43) (z := .slice none 0 0) (size := 1) (bytes := 24) (by kernel_rfl)
theorem rowX_lit0 (S : Value → Prop) (w : World) (base : Nat) (e : TypeId) (hb : base ≤ w.heap.size) : RowX S (w.alloc (.cells #[] e)) base e (.slice (some ⟨w.heap.size, 0, none⟩) 0 0) [] := by
 refine ⟨by simpa using rowV_lit0 w base e hb, fun g hg => ?_⟩
 obtain rfl : w.heap.size = g := by simpa [Value.ownBlock] using hg
 exact ⟨_, heap_alloc_new w _, fun c hc => by simp at hc⟩
theorem new_cells2 (w : World) (T : TypeId) (x y : Value) : (w.alloc (.cells #[x, y] T)).cell? ((⟨w.heap.size, 0, none⟩ : Addr).add 0) = some x ∧ (w.alloc (.cells #[x, y] T)).cell? ((⟨w.heap.size, 0, none⟩ : Addr).add 1) = some y := by
 obtain ⟨a, b, _, _⟩ := Blk.two (Blk.new w T #[x, y])
 exact ⟨a, b⟩
theorem lit_cells (w : World) (e : TypeId) (u : Value) : ∀ (i : Nat) (x : Value), [u][i]? = some x → (w.alloc (.cells #[u] e)).cell? ((⟨w.heap.size, 0, none⟩ : Addr).add i) = some x := fun i x h => by
  match i, h with
  | 0, h =>
    simp at h; subst h
    exact (Blk.new w e #[u]).cell 0
  | i + 1, h => simp at h
set_option maxHeartbeats 6400000 in
set_option maxRecDepth 100000 in
theorem few15_any (a0 : Value) (M : Nat) (w : World) (h0 : ArgW w a0) (hM : M ≤ 8) :
    Calls Try.prog 7 #[a0, .int .i64 (M : Int)] w (RetFewI M w) := by
  have at0 := h0
  obtain ⟨A0, n0, c0, rfl, hc0, hm0⟩ := h0.shape
  unfold maxLen at hm0
  clear h0
  go_enter Try.func7, Try.ntmps7
  go_wp2
  go_loopw [6, 7, 8] (fun v6 v7 v8 wr => ∃ (k : Nat) (us vs : List Value) (T : List (List Int)), k ≤ n0 ∧ k ≤ M ∧ TabY wr w.heap.size v6 v7 us vs T ∧ Hid (T.length = k ∧ (∀ r ∈ T, r.length ≤ M) ∧ lenI T 2) ∧ Hid (Below w.heap.size w wr) ∧ v8 = .int .i64 (k : Int)) (fun _ _ v8 _ => M - (intOf v8).toNat)
  case atStart =>
    have r0 := rowX_lit0 isSl w w.heap.size 51 (Nat.le_refl _)
    have ba := below_alloc (w := w) (Nat.le_refl _) (.cells #[] 51)
    have r1 := rowX_lit0 isSl (w.alloc (.cells #[] 51)) w.heap.size 43 ba.size
    have bb := below_alloc (w := w.alloc (.cells #[] 51)) (Nat.le_refl _) (.cells #[] 43)
    have HT0 : Hid (([] : List (List Int)).length = 0 ∧ (∀ r ∈ ([] : List (List Int)), r.length ≤ M) ∧ lenI [] 2) := ⟨rfl, fun r hr => by simp at hr, fun r hr => by simp at hr⟩
    refine ⟨0, [], [], [], by omega, by omega, ⟨r0.below bb, ?_, rfl, rfl, fun i u r hu => by simp at hu, fun i u r hu => by simp at hu⟩, HT0, ba.trans (bb.mono ba.size), rfl⟩
    simpa using r1
  case round =>
    obtain ⟨k, us, vs, T, hk, hkM, hT, HT, HB, rfl⟩ := hrel
    obtain ⟨wo, hwo⟩ : ∃ wo, wo = wr := ⟨_, rfl⟩
    subst hwo
    obtain ⟨A6, c6, e6⟩ := RowV.slice hT.p.1
    obtain ⟨A7, c7, e7⟩ := RowV.slice hT.q.1
    subst e6
    subst e7
    have HTY := Lib.hid hT
    clear hT
    by_cases hlt : k < n0 ∧ k < M
    · obtain ⟨hlt1, hlt2⟩ := hlt
      obtain ⟨A_, n_, c_, e_, _, _, hel⟩ := at0.below HB.out
      injection e_ with e1 e2 e3
      subst e1; subst e2; subst e3
      obtain ⟨ad, ue, rfl, ec, hz⟩ := hel k hlt1
      clear hel
      obtain ⟨Aq, nq, cq, rfl, _, _, _⟩ := id hz
      have HZ := Lib.hid hz
      clear hz
      have HEC := Lib.hid ec
      clear ec
      have r0 := rowB_lit0 29 wo wo.heap.size (Nat.le_refl _)
      have ba := below_alloc (w := wo) (Nat.le_refl _) (.cells #[] 29)
      have r1 := rowB_lit0 41 (wo.alloc (.cells #[] 29)) wo.heap.size ba.size
      have bb := below_alloc (w := wo.alloc (.cells #[] 29)) (Nat.le_refl _) (.cells #[] 41)
      have r2 := r0.below bb
      have HB2 := Lib.hid (ba.trans (bb.mono ba.size))
      clear r0 ba bb
      go_wp2
      go_loopw [9, 10, 11] (fun v9 v10 v11 wr => ∃ (j : Nat) (ps qs : List (Int × Value)), j ≤ nq ∧ j ≤ M ∧ RowB 29 wr wo.heap.size v9 ps ∧ RowB 41 wr wo.heap.size v10 qs ∧ Hid (ps.length = j ∧ qs.map (·.1) = ps.map (·.1) ∧ ∀ p ∈ ps, lenZ p.1 ≤ 2) ∧ Hid ((∀ p ∈ ps, IsS wr .u64 p.2 (digs 4294967296 p.1.natAbs)) ∧ ∀ p ∈ qs, IsS wr .i64 p.2 (digs 10000 p.1.natAbs)) ∧ Hid (Below wo.heap.size wo wr) ∧ v11 = .int .i64 (j : Int)) (fun _ _ v11 _ => M - (intOf v11).toNat)
      case atStart =>
        have HP0 : Hid (([] : List (Int × Value)).length = 0 ∧ ([] : List (Int × Value)).map (·.1) = ([] : List (Int × Value)).map (·.1) ∧ ∀ p ∈ ([] : List (Int × Value)), lenZ p.1 ≤ 2) := ⟨rfl, rfl, fun p hp => by simp at hp⟩
        refine ⟨0, [], [], by omega, by omega, r2, ?_, HP0, ⟨fun p hp => by simp at hp, fun p hp => by simp at hp⟩, HB2, rfl⟩
        simpa using r1
      case round =>
        clear r2 r1 HB2
        obtain ⟨j, ps, qs, hj, hjM, ra, rb, HPQ, HLS, HBi, rfl⟩ := hrel
        obtain ⟨wi, hwi⟩ : ∃ wi, wi = wr := ⟨_, rfl⟩
        subst hwi
        have eci := (HBi.out.cell (World.block_lt_of_cell? wo _ HEC.out)).trans HEC.out
        obtain ⟨A9, c9, e9⟩ := ra.slice
        obtain ⟨A10, c10, e10⟩ := rb.slice
        subst e9
        subst e10
        by_cases hlj : j < nq ∧ j < M
        · obtain ⟨hlj1, hlj2⟩ := hlj
          obtain ⟨A__, n__, c__, e__, _, _, hel⟩ := ArgZ.below HZ.out HBi.out
          injection e__ with e1 e2 e3
          subst e1; subst e2; subst e3
          obtain ⟨adq, b, uq, l, rfl, e0, e1, hs, hlt⟩ := hel j hlj1
          rw [at_one] at e1
          clear hel
          obtain ⟨Al, cl, rfl, _⟩ := id hs
          obtain ⟨z, hzc⟩ : ∃ z, z = cleanZ b l 2 := ⟨_, rfl⟩
          have lz : lenZ z ≤ 2 := by rw [hzc]; exact cleanZ_len b l 2
          have CC : ∀ w', IsS w' .u64 (.slice Al l.length cl) l → Calls Try.prog 24 #[.agg #[.bool b, .slice Al l.length cl], .int .i64 2] w' (RetZ z w') := fun w' h => by rw [hzc]; exact zclean_any b _ l 2 2 w' rfl h hlt (by omega)
          have hix := fun w => index2_any (P := Try.prog) Try.underlying51 (by kernel_rfl) adq (n := nq) (c := cq) hlj1 w
          have HLZ := Lib.hid lz
          clear hzc hlt lz
          go_wp2_with fail
          refine (CC _ hs).mono ?_
          rintro e w5 ⟨v5, rfl, k5, f5, b5⟩
          obtain ⟨u5, rfl, s5⟩ := k5
          obtain ⟨A5, c5, rfl, _⟩ := id s5
          have ba := below_alloc (w := w5) (Nat.le_refl _) (.cells #[.bool (ngB z), .slice A5 (digs 4294967296 z.natAbs).length c5] 29)
          have B12 := Blk.new w5 29 #[.bool (ngB z), .slice A5 (digs 4294967296 z.natAbs).length c5]
          have b6 := b5.trans (ba.mono b5.size)
          have ra6 := ra.below b6
          have rb6 := rb.below b6
          have s6 := s5.below ba
          have HLS6 : Hid ((∀ p ∈ ps, IsS (w5.alloc (.cells #[.bool (ngB z), .slice A5 (digs 4294967296 z.natAbs).length c5] 29)) .u64 p.2 (digs 4294967296 p.1.natAbs)) ∧ ∀ p ∈ qs, IsS (w5.alloc (.cells #[.bool (ngB z), .slice A5 (digs 4294967296 z.natAbs).length c5] 29)) .i64 p.2 (digs 10000 p.1.natAbs)) := ⟨fun p hp => (HLS.out.1 p hp).below b6, fun p hp => (HLS.out.2 p hp).below b6⟩
          have hbi := HBi.out.size
          have HB6 := Lib.hid (HBi.out.trans (b6.mono hbi))
          have ua := ra.under
          have h5 := b5.size
          have hne : ∀ g, (Value.slice A9 ps.length c9).ownBlock = some g → w5.heap.size ≠ g := fun g e => by have := (ua g e).2; omega
          have HL8 : Hid (ps.length + 1 ≤ 1000000000 ∧ qs.length + 1 ≤ 1000000000) := by
            have h1 := HPQ.out.1
            have h2 := congrArg List.length HPQ.out.2.1
            rw [List.length_map, List.length_map] at h2
            exact ⟨by omega, by omega⟩
          have HNE := Lib.hid hne
          clear ra rb s5 ba b5 b6 e0 e1 hs CC eci HLS HBi hix ua hne
          obtain ⟨w6, hw6⟩ : ∃ w6, w5.alloc (.cells #[.bool (ngB z), .slice A5 (digs 4294967296 z.natAbs).length c5] 29) = w6 := ⟨_, rfl⟩
          go_upto_region 10 with (fail)
          rw [hw6] at B12 ra6 rb6 s6 HLS6 HB6
          clear hw6
          obtain ⟨V0, V1, _, _⟩ := Blk.two B12
          obtain ⟨cA0, cA1⟩ := new_cells2 w6 29 (.bool (ngB z)) (.slice A5 (digs 4294967296 z.natAbs).length c5)
          have bA := (below_alloc (w := w6) (Nat.le_refl _) (.cells #[.bool (ngB z), .slice A5 (digs 4294967296 z.natAbs).length c5] 29)).drew
          have rA := ra6.below bA
          have rbA := rb6.below bA
          have sA := s6.below bA
          have B12A := B12.below bA
          obtain ⟨xA0, xA1, _, _⟩ := Blk.two B12A
          have hszA := Nat.le_trans HB6.out.size bA.size
          have HBA := Lib.hid (HB6.out.trans (bA.mono HB6.out.size))
          have HLSA := Lib.hid (And.intro (fun p hp => (HLS6.out.1 p hp).below bA) (fun p hp => (HLS6.out.2 p hp).below bA))
          have lz3 : lenZ z ≤ 30000 := by have := HLZ.out; omega
          clear bA ra6 rb6 s6 B12 HLS6
          go_region_law (first
            | (refine step_append_B rfl (.tmp 50) (.tmp 52) rfl Try.underlying51 Go.Proofs.Yteijlcfhenlanaa.whl.info_int (v := .slice A9 ps.length c9) (p := (z, .slice A5 (digs 4294967296 z.natAbs).length c5)) (ps := ps) (by rfl) (by exact rA) (ad := ⟨w6.heap.size, 0, none⟩) (c := 1) (by rfl) (by exact cA0) (by exact cA1) ⟨_, _, _, rfl⟩ HL8.out.1 (by exact hszA) ?_; intro v8 w8 row8 G8 O8; have rb8 := rbA.grown G8.out (fun g e e2 => RowB.notB rA rbA (by decide) g e2 e); have s8 := rA.keepS G8.out sA; have B8 := Go.Proofs.Yteijlcfhenlanaa.whl.Blk.other B12A G8.out (fun e => HNE.out _ e rfl); obtain ⟨y0, y1, _, _⟩ := Blk.two B8)
            | (go_simp; go_at_call 25; refine (roff_any _ z _ ⟨_, rfl, (by exact s8)⟩ lz3).mono ?_; rintro e w9 ⟨v9, rfl, k9, f9, b9⟩; obtain ⟨u9, rfl, s9⟩ := k9; obtain ⟨A11, c11, rfl, _⟩ := id s9; obtain ⟨cC0, cC1⟩ := new_cells2 w9 41 (.bool (ngB z)) (.slice A11 (digs 10000 z.natAbs).length c11); have bC := below_alloc (w := w9) (Nat.le_refl _) (.cells #[.bool (ngB z), .slice A11 (digs 10000 z.natAbs).length c11] 41); have rC := (rb8.below b9).below bC; have hszC := Nat.le_trans (Nat.le_trans (Nat.le_trans hszA G8.out.size) b9.size) bC.size)
            | (refine step_append_B rfl (.tmp 54) (.tmp 57) rfl Try.underlying43 info_zdoc (v := .slice A10 qs.length c10) (p := (z, .slice A11 (digs 10000 z.natAbs).length c11)) (ps := qs) (by rfl) (by exact rC) (ad := ⟨w9.heap.size, 0, none⟩) (c := 1) (by rfl) (by exact cC0) (by exact cC1) ⟨_, _, _, rfl⟩ HL8.out.2 (by exact hszC) ?_; intro v10 w10 row10 G10 O10))
          all_goals
            have row8C := (row8.below b9).below bC
            have rowA := row8C.grown G10.out (fun g e e2 => RowB.notB row8C rC (by decide) g e e2)
            have kk : ∀ {k u l}, IsS _ k u l → IsS w10 k u l := fun h => rC.keepS G10.out (((rA.keepS G8.out h).below b9).below bC)
            have s10 := rC.keepS G10.out ((s8.below b9).below bC)
            have s11 := rC.keepS G10.out (s9.below bC)
            have HLS10 : Hid ((∀ p ∈ ps ++ [(z, .slice A5 (digs 4294967296 z.natAbs).length c5)], IsS w10 .u64 p.2 (digs 4294967296 p.1.natAbs)) ∧ ∀ p ∈ qs ++ [(z, .slice A11 (digs 10000 z.natAbs).length c11)], IsS w10 .i64 p.2 (digs 10000 p.1.natAbs)) := by
              refine ⟨fun p hp => ?_, fun p hp => ?_⟩
              · rcases List.mem_append.1 hp with hp | hp
                · exact kk (HLSA.out.1 p hp)
                · rw [List.mem_singleton.1 hp]; exact s10
              · rcases List.mem_append.1 hp with hp | hp
                · exact kk (HLSA.out.2 p hp)
                · rw [List.mem_singleton.1 hp]; exact s11
            have HPQ10 : Hid ((ps ++ [(z, Value.slice A5 (digs 4294967296 z.natAbs).length c5)]).length = j + 1 ∧ (qs ++ [(z, Value.slice A11 (digs 10000 z.natAbs).length c11)]).map (·.1) = (ps ++ [(z, Value.slice A5 (digs 4294967296 z.natAbs).length c5)]).map (·.1) ∧ ∀ p ∈ ps ++ [(z, Value.slice A5 (digs 4294967296 z.natAbs).length c5)], lenZ p.1 ≤ 2) := by
              refine ⟨by rw [List.length_append, HPQ.out.1]; rfl, by rw [List.map_append, List.map_append, HPQ.out.2.1]; rfl, fun p hp => ?_⟩
              rcases List.mem_append.1 hp with hp | hp
              · exact HPQ.out.2.2 p hp
              · rw [List.mem_singleton.1 hp]; exact HLZ.out
            have HB10 : Hid (Below wo.heap.size wo w10) := ((((HBA.out.trans (rA.bel G8.out hszA)).trans (b9.mono (Nat.le_trans hszA G8.out.size))).trans (bC.mono (Nat.le_trans (Nat.le_trans hszA G8.out.size) b9.size)))).trans (rC.bel G10.out hszC)
            have hme : M - (j + 1) < M - j := by omega
            clear rA rbA sA B12A xA0 xA1 cA0 cA1 rb8 s8 B8 y0 y1 b9 s9 cC0 cC1 bC rC row8 row8C G8 G10 O8 O10 kk s10 s11 HLSA HBA HB6 HLZ lz3
            go_wp2
            go_roundw
            case rel => exact ⟨j + 1, _, _, by omega, by omega, rowA, row10, HPQ10, HLS10, HB10, by go_num⟩
            case measure => exact hme
        · have hx : ¬ j < nq ∨ (j < nq ∧ ¬ j < M) := by omega
          have T2 := HTY.out.below HBi.out
          have b1 := below_alloc (w := wi) (Nat.le_refl _) (.cells #[.slice A9 ps.length c9] 51)
          have T3 := T2.below b1
          have sa := (ra.sl HLS.out.1).below b1
          have sb := (rb.sl HLS.out.2).below b1
          rw [HPQ.out.2.1] at sb
          have hr1 := lit_cells wi 51 (.slice A9 ps.length c9)
          have hs1 : ∀ u ∈ [Value.slice A9 ps.length c9], isSl u := fun u hu => by rw [List.mem_singleton.1 hu]; exact ⟨_, _, _, rfl⟩
          have hs2 : ∀ u ∈ [Value.slice A10 qs.length c10], isSl u := fun u hu => by rw [List.mem_singleton.1 hu]; exact ⟨_, _, _, rfl⟩
          have hb3 : w.heap.size ≤ (wi.alloc (.cells #[.slice A9 ps.length c9] 51)).heap.size := Nat.le_trans (Nat.le_trans HB.out.size HBi.out.size) b1.size
          have HLEN : Hid (us.length + 1 ≤ 1000000000 ∧ vs.length + 1 ≤ 1000000000) := by
            have h1 := HTY.out.lp
            have h2 := HTY.out.lq
            have h3 := HT.out.1
            exact ⟨by omega, by omega⟩
          have HNEW : Hid ((T ++ [ps.map (·.1)]).length = k + 1 ∧ (∀ r ∈ T ++ [ps.map (·.1)], r.length ≤ M) ∧ lenI (T ++ [ps.map (·.1)]) 2) := by
            refine ⟨by rw [List.length_append, HT.out.1]; rfl, fun r hr => ?_, fun r hr => ?_⟩
            · rcases List.mem_append.1 hr with hr | hr
              · exact HT.out.2.1 r hr
              · rw [List.mem_singleton.1 hr, List.length_map, HPQ.out.1]; exact hjM
            · rcases List.mem_append.1 hr with hr | hr
              · exact HT.out.2.2 r hr
              · rw [List.mem_singleton.1 hr]
                intro x hx
                obtain ⟨p, hp, rfl⟩ := List.mem_map.1 hx
                exact HPQ.out.2.2 p hp
          have HT3 := Lib.hid T3
          have HS3 := Lib.hid (And.intro sa sb)
          have HB3 := Lib.hid ((HB.out.trans (HBi.out.mono HB.out.size)).trans (b1.mono (Nat.le_trans HB.out.size HBi.out.size)))
          have hsk : M - (k + 1) < M - k := by omega
          clear T2 b1 T3 sa sb ra rb HPQ HLS HBi
          rcases hx with hx | ⟨hx1, hx2⟩
          all_goals
            go_wp2_with (first
              | (at_builtin; refine wpList_append_S rfl (.tmp 59) (.tmp 61) rfl Try.underlying22 info_ints (news := [.slice A9 ps.length c9]) rfl HT3.out.p rfl rfl (by decide) hr1 hs1 HLEN.out.1 hb3 ?_; intro V3 w3 row3 G3 O3; have q3 := HT3.out.q.grown G3.out (fun g e e2 => RowV.notV HT3.out.p.1 HT3.out.q.1 (by decide) g e2 e); have b4 := below_alloc (w := w3) (Nat.le_refl _) (.cells #[.slice A10 qs.length c10] 43); have q4 := q3.below b4; have hr2 := lit_cells w3 43 (.slice A10 qs.length c10); have hb4 := Nat.le_trans (Nat.le_trans hb3 G3.out.size) b4.size)
              | (at_builtin; refine wpList_append_S rfl (.tmp 63) (.tmp 65) rfl Try.underlying23 info_zdocs (news := [.slice A10 qs.length c10]) rfl q4 rfl rfl (by decide) hr2 hs2 HLEN.out.2 hb4 ?_; intro U4 w4 row4 G4 O4))
            have T4 := HT3.out.step HS3.out.1 HS3.out.2 row3 G3.out row4 ((below_none b4 _).trans G4.out)
            have HB4 := Lib.hid (((HB3.out.trans ((Below.refl w.heap.size _).grown G3.out hb3 (fun g e => (World.ownsRow.lt HT3.out.p.1 g e).1))).trans (b4.mono (Nat.le_trans hb3 G3.out.size))).trans ((Below.refl w.heap.size _).grown G4.out hb4 (fun g e => (World.ownsRow.lt q4.1 g e).1)))
            clear q3 q4 b4 hr1 hr2 row3 row4 G3 G4 O3 O4 HT3 HS3 HB3 eci
            go_wp2
            go_roundw
            case rel => exact ⟨k + 1, _, _, _, by omega, by omega, T4, HNEW, HB4, by go_num⟩
            case measure => simp [intOf]; omega
    · have hx : ¬ k < n0 ∨ (k < n0 ∧ ¬ k < M) := by omega
      have HEND : Hid (RetFewI M w (.returned (.tuple #[.slice A6 us.length c6, .slice A7 vs.length c7])) wo) := ⟨_, _, T, rfl, rowX_slW HTY.out.p HTY.out.lp HTY.out.rp, rowX_slW HTY.out.q HTY.out.lq HTY.out.rq, by rw [HT.out.1]; exact hkM, HT.out.2.1, HT.out.2.2, HB.out⟩
      clear HTY HT HB
      rcases hx with hx | ⟨hx1, hx2⟩
      all_goals
        go_wp2
        go_ret2
        exact HEND.out
end Go.Proofs.Yteijlcfhenlanaa.rat
namespace Go.Proofs.Yteijlcfhenlanaa.rat
open Go.RowKit Go.ChangeShapes Go.WideShapes Go.ChangeAt Go.Joins Go.Deep Go.Proofs.Yteijlcfhenlanaa.num Go.Proofs.Yteijlcfhenlanaa.mem Go.Proofs.Yteijlcfhenlanaa.nat Go.Proofs.Yteijlcfhenlanaa.txt Go.Proofs.Yteijlcfhenlanaa.str Go.Proofs.Yteijlcfhenlanaa.flow Go.Proofs.Yteijlcfhenlanaa.whl
set_option linter.unusedVariables false
theorem trod_zs {H : Type} {enc : TypeId × Value → H} {P : Program} {W : World} {fuel : Nat} {t z e : TypeId} {f0 f1 : Field} {v : Value} {x : DataW H × List MemPlace} (ht : P.underlying t = some (.slice z)) (hs : P.underlying z = some (.struct #[f0, f1])) (hone : oneCellFields P #[f0, f1] = true) (hC : P.cellsOf z = 2)
  (hb : P.underlying f0.type = some .bool) (hsl : P.underlying f1.type = some (.slice e)) (he : P.underlying e = some (.int .u64)) (ce : P.cellsOf e = 1)
  (hf : DataW.trod enc P W 0 (fun _ => true) true fuel t [v] = some x) : ArgZ W v := by
 obtain ⟨o0, c0⟩ := hone_of hone 0 f0 rfl
 obtain ⟨o1, c1⟩ := hone_of hone 1 f1 rfl
 rcases Go.Deep.open_slice_pairs ht hs hC o0 o1 c0 c1 hf with ⟨hcs, hx⟩ | ⟨a, len', cap', m, n, V0, V1, D0, D1, P0, P1, hcs, _, hl, hm, hmm, hx, hrows⟩
 ·injection hcs with hcs
  subst hcs
  exact ⟨none, 0, 0, rfl, by omega, by simp, fun i hi => by omega⟩
 ·injection hcs with hcs
  subst hcs
  refine ⟨some a, len', cap', rfl, hl, hm, fun i hi => ?_⟩
  obtain ⟨h1, h2, h3, h4⟩ := hrows i (by simp at hmm; omega)
  obtain ⟨b, e0, _⟩ := DataW.trod_bool hb h3
  injection e0 with e0 _
  obtain ⟨l, k1, k2⟩ := trod_nat hsl he ce h4
  exact ⟨a, b, V1 i, l, rfl, by rw [h1, e0], h2, k1, k2⟩
theorem arg_w {H : Type} {enc : TypeId × Value → H} {P : Program} {W : World} {base : Nat} {tt t z e : TypeId} {f0 f1 : Field} {v : Value} {d : DataW H} {p : List MemPlace} (htt : P.underlying tt = some (.slice t)) (hC1 : P.cellsOf t = 1) (ht : P.underlying t = some (.slice z)) (hs : P.underlying z = some (.struct #[f0, f1])) (hone : oneCellFields P #[f0, f1] = true) (hC : P.cellsOf z = 2)
    (hb : P.underlying f0.type = some .bool) (hsl : P.underlying f1.type = some (.slice e)) (he : P.underlying e = some (.int .u64)) (ce : P.cellsOf e = 1)
    (hv : Value.okWide P W .any base tt v) (h : DataW.Trod enc P W 0 (fun _ => true) true tt v d p) : ArgW W v := by
  obtain ⟨a0, len, cap, rfl⟩ := okWide_slice htt hv
  obtain ⟨fuel, hf⟩ := h
  rcases Go.Deep.open_slice htt hf with ⟨hcs, hx⟩ | ⟨a, len', cap', m, n, D, Pl, hcs, _, hl, hm, hmm, hx, hrows⟩
  · simp [Value.cells] at hcs
    obtain ⟨rfl, rfl, rfl⟩ := hcs
    exact ⟨none, 0, 0, rfl, by omega, by simp, fun i hi => by omega⟩
  · simp [Value.cells] at hcs
    obtain ⟨rfl, rfl, rfl⟩ := hcs
    refine ⟨some a, len, cap, rfl, hl, hm, fun i hi => ?_⟩
    obtain ⟨cs', h1, h2⟩ := hrows i (by simp at hmm; omega)
    rw [hC1] at h1
    obtain ⟨_, hlen, hcell⟩ := World.cells?_some h1
    match cs', hlen with
    | [c0], _ =>
      have g0 := hcell 0 (by omega)
      rw [add_add] at g0
      exact ⟨a, c0, rfl, by simpa using g0, trod_zs ht hs hone hC hb hsl he ce h2⟩
end Go.Proofs.Yteijlcfhenlanaa.rat
namespace Go.Proofs.Yteijlcfhenlanaa.rat
open Go.RowKit Go.Proofs.Yteijlcfhenlanaa.num Go.Proofs.Yteijlcfhenlanaa.mem Go.Proofs.Yteijlcfhenlanaa.nat Go.Proofs.Yteijlcfhenlanaa.txt Go.Proofs.Yteijlcfhenlanaa.str Go.Proofs.Yteijlcfhenlanaa.flow Go.Proofs.Yteijlcfhenlanaa.whl
set_option linter.unusedVariables false
set_option linter.unusedSimpArgs false
/-- A slice as pairs of a number and its limbs. -/
def SlP (w : World) (v : Value) (ps : List (Int × Value)) : Prop := ∃ A c, v = .slice A ps.length c ∧ ps.length ≤ c ∧ c ≤ maxLen ∧ ∀ (i : Nat) (p : Int × Value), ps[i]? = some p → ∃ g o, A = some ⟨g, o, none⟩ ∧ w.cell? ⟨g, o + i * 2, none⟩ = some (.bool (ngB p.1)) ∧ w.cell? ⟨g, o + i * 2 + 1, none⟩ = some p.2
def NumP (k : IntKind) (B : Nat) (w : World) (ps : List (Int × Value)) : Prop := ∀ p ∈ ps, IsS w k p.2 (digs B p.1.natAbs)
theorem NumP.sl {k : IntKind} {B : Nat} {w : World} {ps : List (Int × Value)} (h : NumP k B w ps) : allSl ps := fun p hp => by
 obtain ⟨A, c, e, _⟩ := h p hp
 exact ⟨A, _, c, e⟩
theorem NumP.below {k : IntKind} {B : Nat} {w w' : World} {ps : List (Int × Value)} (h : NumP k B w ps) (hb : Below w.heap.size w w') : NumP k B w' ps := fun p hp => (h p hp).below hb
theorem NumP.append {k : IntKind} {B : Nat} {w : World} {ps qs : List (Int × Value)} (h : NumP k B w ps) (h' : NumP k B w qs) : NumP k B w (ps ++ qs) := fun p hp => by
 rcases List.mem_append.1 hp with hp | hp
 ·exact h p hp
 ·exact h' p hp
theorem NumP.nil {k : IntKind} {B : Nat} {w : World} : NumP k B w [] := fun p hp => by simp at hp
theorem NumP.take {k : IntKind} {B : Nat} {w : World} {ps : List (Int × Value)} (h : NumP k B w ps) (n : Nat) : NumP k B w (ps.take n) := fun p hp => h p (List.mem_of_mem_take hp)
theorem NumP.drop {k : IntKind} {B : Nat} {w : World} {ps : List (Int × Value)} (h : NumP k B w ps) (n : Nat) : NumP k B w (ps.drop n) := fun p hp => h p (List.mem_of_mem_drop hp)
theorem SlP.below {w w' : World} {v : Value} {ps : List (Int × Value)} (h : SlP w v ps) (hb : Below w.heap.size w w') : SlP w' v ps := by
 obtain ⟨A, c, e, h1, h2, h3⟩ := h
 refine ⟨A, c, e, h1, h2, fun i p hp => ?_⟩
 obtain ⟨g, o, e2, c0, c1⟩ := h3 i p hp
 exact ⟨g, o, e2, (hb.cell (World.block_lt_of_cell? w _ c0)).trans c0, (hb.cell (World.block_lt_of_cell? w _ c1)).trans c1⟩
theorem SlP.sl {k : IntKind} {B : Nat} {w : World} {v : Value} {ps : List (Int × Value)} (h : SlP w v ps) (hs : NumP k B w ps) : SlZ k B w v (ps.map (·.1)) := by
  obtain ⟨A, c, e, h1, h2, h3⟩ := h
  refine ⟨A, c, by rw [List.length_map]; exact e, by rw [List.length_map]; exact h1, h2, fun i z hz => ?_⟩
  rw [List.getElem?_map] at hz
  cases hp : ps[i]? with
  | none => rw [hp] at hz; cases hz
  | some p =>
    rw [hp] at hz
    obtain rfl : p.1 = z := by simpa using hz
    obtain ⟨g, o, e2, c0, c1⟩ := h3 i p hp
    exact ⟨g, o, _, e2, c0, c1, hs p (List.mem_of_getElem? hp)⟩
section
variable {P : Program}
end
/-- A row of the call's own, as pairs. -/
theorem RowB.slP {e : TypeId} {w : World} {base : Nat} {v : Value} {ps : List (Int × Value)} (h : RowB e w base v ps) : SlP w v ps := by
 rcases h.1.2 with ⟨rfl, h0⟩ | ⟨g, cap, cur, rfl, _, hg, hn, hm, _, _⟩
 ·obtain rfl : ps = [] := List.length_eq_zero_iff.1 h0
  exact ⟨none, 0, rfl, Nat.le_refl _, Nat.zero_le _, fun i p hp => by simp at hp⟩
 ·refine ⟨some ⟨g, 0, none⟩, cap, rfl, hn, hm, fun i p hp => ?_⟩
  obtain ⟨f0, f1⟩ := flat_at ps i p hp
  have k0 := World.ownsRow.cells h.1 (g := g) rfl _ _ f0
  have k1 := World.ownsRow.cells h.1 (g := g) rfl _ _ f1
  rw [addr_zero] at k0 k1
  exact ⟨g, 0, rfl, by rw [Nat.zero_add]; exact k0, by rw [Nat.zero_add]; exact k1⟩
theorem RowB.keepN {e : TypeId} {w w' : World} {base : Nat} {V : Value} {ps qs : List (Int × Value)} {k : IntKind} {B : Nat} (h : RowB e w base V ps) (hg : w.grownBy w' V.ownBlock) (hs : NumP k B w qs) : NumP k B w' qs := fun p hp => h.keepS hg (hs p hp)
/-! A number written in place. -/
theorem cell_ne {w : World} {a b : Addr} {c d : Value} (ha : w.cell? a = some c) (hb : w.cell? b = some d) (hn : c ≠ d) : a ≠ b := fun e => by
 subst e
 rw [ha] at hb
 injection hb with hb
 exact hn hb
theorem cell_other {w : World} {a b : Addr} {x : Value} (h : a ≠ b) : (w.setCell a x).cell? b = w.cell? b := by
 rw [World.cell?_setCell_other]
 exact h
theorem IsS.put {w : World} {k : IntKind} {v : Value} {l : List Nat} {a : Addr} {x c : Value} (h : IsS w k v l) (hc : w.cell? a = some c) (hn : ∀ n, c ≠ .int k n) : IsS (w.setCell a x) k v l := by
 obtain ⟨A, cc, rfl, h1, h2, h3⟩ := h
 refine ⟨A, cc, rfl, h1, h2, fun i d hd => ?_⟩
 obtain ⟨ad, rfl, hq⟩ := h3 i d hd
 refine ⟨ad, rfl, ?_⟩
 rw [cell_other (cell_ne hc hq (hn _))]
 exact hq
section
variable {w : World} {g o : Nat} {b0 : Bool} {A0 : Option Addr} {n0 c0 : Nat} {x y : Value}
end
end Go.Proofs.Yteijlcfhenlanaa.rat
namespace Go.Proofs.Yteijlcfhenlanaa.rat
open Go.RowKit Go.Shelf Go.Proofs.Yteijlcfhenlanaa.num Go.Proofs.Yteijlcfhenlanaa.mem Go.Proofs.Yteijlcfhenlanaa.nat Go.Proofs.Yteijlcfhenlanaa.txt Go.Proofs.Yteijlcfhenlanaa.str Go.Proofs.Yteijlcfhenlanaa.flow Go.Proofs.Yteijlcfhenlanaa.whl
set_option linter.unusedVariables false
set_option linter.unusedSimpArgs false
theorem RowX.apart {S S' : Value → Prop} {w : World} {base base' : Nat} {e e' : TypeId} {v v' : Value} {vs vs' : List Value} (h : RowX S w base e v vs) (h' : RowX S' w base' e' v' vs') (hne : e ≠ e') : ∀ g, v.ownBlock = some g → v'.ownBlock ≠ some g := fun g e1 e2 => by
 obtain ⟨cs, h1, _⟩ := h.2 g e1
 obtain ⟨cs', h2, _⟩ := h'.2 g e2
 rw [h1] at h2
 injection h2 with h2
 injection h2 with _ h2
 exact hne h2
theorem RowX.set {w : World} {base g n c : Nat} {e : TypeId} {vs : List Value} (h : RowX isSl w base e (.slice (some ⟨g, 0, none⟩) n c) vs) (i : Nat) {u : Value} (hu : isSl u) : RowX isSl (w.setCell ⟨g, i, none⟩ u) base e (.slice (some ⟨g, 0, none⟩) n c) (vs.set i u) := by
 refine ⟨RowV.stored h.1 i u, fun g' hg' => ?_⟩
 obtain rfl : g = g' := by simpa [Value.ownBlock] using hg'
 obtain ⟨cs, h1, h2⟩ := h.2 g rfl
 refine ⟨_, heap_setCell h1, fun x hx => ?_⟩
 have hx2 : x ∈ cs ∨ x = u := by first | exact Array.mem_or_eq_of_mem_setIfInBounds hx | (have h := Array.mem_toList_iff.2 hx; rw [Array.toList_setIfInBounds] at h; exact (List.mem_or_eq_of_mem_set h).imp Array.mem_toList_iff.1 id)
 rcases hx2 with hx2 | rfl
 ·exact h2 x hx2
 ·exact hu
/-- A row that lies elsewhere than the pivots, if it has places at all. -/
def OwnP (w : World) (vp u : Value) (r : List Rat) : Prop := SlF .i64 10000 w u r ∧ (r ≠ [] → FarS .i64 10000 w vp u r)
theorem OwnP.below {w w' : World} {vp u : Value} {r : List Rat} (h : OwnP w vp u r) (hb : Below w.heap.size w w') : OwnP w' vp u r := ⟨h.1.below hb, fun hr => (h.2 hr).below hb⟩
theorem OwnP.far {w w' : World} {vp vp' u : Value} {r : List Rat} (h : OwnP w vp u r) (hF : r ≠ [] → FarS .i64 10000 w' vp' u r) : OwnP w' vp' u r := by
 by_cases hr : r = []
 ·subst hr
  exact ⟨h.1.any, fun hr => absurd rfl hr⟩
 ·exact ⟨(hF hr).sl, hF⟩
theorem OwnP.sl {w : World} {vp u : Value} {r : List Rat} (h : OwnP w vp u r) : isSl u := by
 obtain ⟨A, c, e, _⟩ := h.1.shape
 exact ⟨_, _, _, e⟩
section
variable {P : Program}
end
section
variable {P : Program}
end
/-! What is left without the first row and one place. -/
theorem take_nextD {α : Type} {l : List α} {k : Nat} {x : α} (h : l[k]? = some x) : l.take (k + 1) = l.take k ++ [x] := by rw [List.take_add_one, h]; rfl
/-- A table of whole numbers that a call makes by append. -/
structure TabZI (k : IntKind) (B : Nat) (e : TypeId) (w : World) (base : Nat) (V : Value) (us : List Value) (K : List (List Int)) : Prop where
 row : RowX isSl w base e V us
 len : us.length = K.length
 own : ∀ (i : Nat) (u : Value) (r : List Int), us[i]? = some u → K[i]? = some r → SlZ k B w u r
section
variable {k : IntKind} {B : Nat} {e : TypeId}
theorem TabZI.below {w w' : World} {base : Nat} {V : Value} {us : List Value} {K : List (List Int)} (h : TabZI k B e w base V us K) (hb : Below w.heap.size w w') : TabZI k B e w' base V us K := ⟨h.row.below hb, h.len, fun i u r hu hr => (h.own i u r hu hr).below hb⟩
theorem TabZI.snoc {w w' : World} {base : Nat} {V V' u : Value} {us : List Value} {K : List (List Int)} {r : List Int} (h : TabZI k B e w base V us K) (h' : RowX isSl w' base e V' (us ++ [u])) (hg : w.grownBy w' V.ownBlock) (hu : SlZ k B w u r) : TabZI k B e w' base V' (us ++ [u]) (K ++ [r]) := by
 refine ⟨h', by simp [h.len], fun i a b ha hb => ?_⟩
 by_cases hi : i < us.length
 ·rw [List.getElem?_append_left hi] at ha
  rw [List.getElem?_append_left (by rw [← h.len]; exact hi)] at hb
  exact h.row.keepZ hg (h.own i a b ha hb)
 ·rw [List.getElem?_append_right (by omega)] at ha
  rw [List.getElem?_append_right (by rw [← h.len]; omega), ← h.len] at hb
  rcases hj : i - us.length with _ | j
  ·rw [hj] at ha hb
   obtain rfl : u = a := by simpa using ha
   obtain rfl : r = b := by simpa using hb
   exact h.row.keepZ hg hu
  ·rw [hj] at ha
   simp at ha
theorem TabZI.slW {w : World} {base : Nat} {V : Value} {us : List Value} {K : List (List Int)} (h : TabZI k B e w base V us K) : SlW k B w V K := rowX_slW h.row h.len h.own
theorem TabZI.nil (w : World) (base : Nat) (hb : base ≤ w.heap.size) : TabZI k B e (w.alloc (.cells #[] e)) base (.slice (some ⟨w.heap.size, 0, none⟩) 0 0) [] [] := ⟨rowX_lit0 isSl w base e hb, rfl, fun i u r hu => by simp at hu⟩
end
end Go.Proofs.Yteijlcfhenlanaa.rat
namespace Go.Proofs.Yteijlcfhenlanaa.rat
open Go.RowKit Go.Proofs.Yteijlcfhenlanaa.num Go.Proofs.Yteijlcfhenlanaa.mem Go.Proofs.Yteijlcfhenlanaa.nat Go.Proofs.Yteijlcfhenlanaa.txt Go.Proofs.Yteijlcfhenlanaa.str Go.Proofs.Yteijlcfhenlanaa.flow Go.Proofs.Yteijlcfhenlanaa.whl
set_option linter.unusedVariables false
set_option linter.unusedSimpArgs false
/-! Mathematics. -/
def addR (p q : List Int) : List Int := (List.range p.length).map fun k => p.getD k 0 + q.getD k 0
theorem addR_len (p q : List Int) : (addR p q).length = p.length := by unfold addR; rw [List.length_map, List.length_range]
theorem addR_at {p q : List Int} {k : Nat} (hk : k < p.length) : (addR p q)[k]? = some (p.getD k 0 + q.getD k 0) := by
 unfold addR
 rw [List.getElem?_map, List.getElem?_range hk]; rfl
theorem det_swapI {T : List (List Int)} {n i j : Nat} {ri rj : List Int} (hs : shI T n n) (hi : T[i]? = some ri) (hj : T[j]? = some rj) (hij : i ≠ j) : detF n (qF (entI ((T.set i rj).set j ri))) = - detF n (qF (entI T)) := by
 have hin : i < n := by rw [← hs.1]; exact (List.getElem?_eq_some_iff.1 hi).1
 have hjn : j < n := by rw [← hs.1]; exact (List.getElem?_eq_some_iff.1 hj).1
 rw [← (detF_row n).swap (qF (entI T)) hin hjn hij]
 refine detF_congr n fun a b ha hb => ?_
 unfold swapF
 by_cases e1 : a = i
 ·subst e1
  have h1 : ((T.set a rj).set j ri)[a]? = some rj := by rw [List.getElem?_set_ne (fun h => hij h.symm), List.getElem?_set_self (by rw [hs.1]; exact ha)]
  rw [if_pos rfl]
  show ((entI _ a b : Int) : Rat) = ((entI T j b : Int) : Rat)
  rw [entI_row h1, entI_row hj]
 ·by_cases e2 : a = j
  ·subst e2
   have h1 : ((T.set i rj).set a ri)[a]? = some ri := List.getElem?_set_self (by rw [List.length_set, hs.1]; exact ha)
   rw [if_neg e1, if_pos rfl]
   show ((entI _ a b : Int) : Rat) = ((entI T i b : Int) : Rat)
   rw [entI_row h1, entI_row hi]
  ·have h1 : ((T.set i rj).set j ri)[a]? = T[a]? := by rw [List.getElem?_set_ne (fun h => e2 h.symm), List.getElem?_set_ne (fun h => e1 h.symm)]
   rw [if_neg e1, if_neg e2]
   show ((entI _ a b : Int) : Rat) = ((entI T a b : Int) : Rat)
   unfold entI
   rw [List.getD_eq_getElem?_getD (l := (T.set i rj).set j ri), h1, ← List.getD_eq_getElem?_getD]
theorem det_addI {T : List (List Int)} {n i j : Nat} {ri rj : List Int} (hs : shI T n n) (hi : T[i]? = some ri) (hj : T[j]? = some rj) (hij : i ≠ j) : detF n (qF (entI (T.set i (addR ri rj)))) = detF n (qF (entI T)) := by
 have hin : i < n := by rw [← hs.1]; exact (List.getElem?_eq_some_iff.1 hi).1
 have hjn : j < n := by rw [← hs.1]; exact (List.getElem?_eq_some_iff.1 hj).1
 have hil := hs.2 ri (List.mem_of_getElem? hi)
 rw [← (detF_row n).add (qF (entI T)) i j (-1) hin hjn hij]
 refine detF_congr n fun a b ha hb => ?_
 unfold addF
 by_cases e1 : a = i
 ·subst e1
  have h1 : (T.set a (addR ri rj))[a]? = some (addR ri rj) := List.getElem?_set_self (by rw [hs.1]; exact ha)
  rw [if_pos rfl]
  show ((entI _ a b : Int) : Rat) = ((entI T a b : Int) : Rat) - (-1) * ((entI T j b : Int) : Rat)
  rw [entI_row h1, entI_row hi, entI_row hj, List.getD_eq_getElem?_getD, addR_at (by omega)]
  show ((ri.getD b 0 + rj.getD b 0 : Int) : Rat) = _
  rw [Rat.intCast_add]; grind
 ·have h1 : (T.set i (addR ri rj))[a]? = T[a]? := by rw [List.getElem?_set_ne (fun h => e1 h.symm)]
  rw [if_neg e1]
  show ((entI _ a b : Int) : Rat) = ((entI T a b : Int) : Rat)
  unfold entI
  rw [List.getD_eq_getElem?_getD (l := T.set i (addR ri rj)), h1, ← List.getD_eq_getElem?_getD]
theorem squareI_set {T : List (List Int)} {i : Nat} {r : List Int} (h : squareI T) (hr : r.length = T.length) : squareI (T.set i r) := by
 refine ⟨by rw [List.length_set]; exact h.1, fun x hx => ?_⟩
 rw [List.length_set]
 rcases List.mem_or_eq_of_mem_set hx with hx | rfl
 ·exact h.2 x hx
 ·exact hr
theorem lenI_set {T : List (List Int)} {i S : Nat} {r : List Int} (h : lenI T S) (hr : ∀ z ∈ r, lenZ z ≤ S) : lenI (T.set i r) S := by
 intro x hx
 rcases List.mem_or_eq_of_mem_set hx with hx | rfl
 ·exact h x hx
 ·exact hr
theorem lenI_mono {T : List (List Int)} {S S' : Nat} (h : lenI T S) (hs : S ≤ S') : lenI T S' := fun r hr z hz => Nat.le_trans (h r hr z hz) hs
theorem addR_lens {p q : List Int} {S : Nat} (hp : ∀ z ∈ p, lenZ z ≤ S) (hq : ∀ z ∈ q, lenZ z ≤ S) : ∀ z ∈ addR p q, lenZ z ≤ S + 1 := by
 have g : ∀ (l : List Int) (k : Nat), (∀ z ∈ l, lenZ z ≤ S) → lenZ (l.getD k 0) ≤ S := fun l k h => by
  rw [List.getD_eq_getElem?_getD]
  cases e : l[k]? with
  | none => show lenZ 0 ≤ S; rw [lenZ_zero]; exact Nat.zero_le _
  | some x => exact h x (List.mem_of_getElem? e)
 intro z hz
 unfold addR at hz
 obtain ⟨k, -, rfl⟩ := List.mem_map.1 hz
 exact lenZ_add_max (g p k hp) (g q k hq)
/-! Memory. -/
theorem RowX.cellAt {S : Value → Prop} {w : World} {base g n c : Nat} {e : TypeId} {vs : List Value} (h : RowX S w base e (.slice (some ⟨g, 0, none⟩) n c) vs) {i : Nat} {u : Value} (hu : vs[i]? = some u) : w.cell? ⟨g, i, none⟩ = some u ∧ w.frozen? ⟨g, i, none⟩ = false := by
 have k0 := World.ownsRow.cells h.1 (g := g) rfl _ _ hu
 rw [addr_zero] at k0
 obtain ⟨cs, h1, _⟩ := h.2 g rfl
 exact ⟨k0, Blk.frozen (t := e) (cs := cs) h1 i⟩
theorem RowX.notRowB {S : Value → Prop} {w : World} {base base' : Nat} {e e' : TypeId} {V v : Value} {vs : List Value} {ps : List (Int × Value)} (h : RowX S w base e V vs) (h' : RowB e' w base' v ps) (hne : e ≠ e') : ∀ g, V.ownBlock = some g → v.ownBlock ≠ some g := fun g e1 e2 => by
 obtain ⟨cs, h1, _⟩ := h.2 g e1
 obtain ⟨cs', h2, _⟩ := h'.2 g e2
 rw [h1] at h2
 injection h2 with h2
 injection h2 with _ h2
 exact hne h2
section
variable {k : IntKind} {B : Nat} {e : TypeId}
theorem TabZI.at_ {w : World} {base g n c : Nat} {us : List Value} {K : List (List Int)} (h : TabZI k B e w base (.slice (some ⟨g, 0, none⟩) n c) us K) {i : Nat} {r : List Int} (hr : K[i]? = some r) : ∃ Ar cr, us[i]? = some (.slice Ar r.length cr) ∧ w.cell? ⟨g, i, none⟩ = some (.slice Ar r.length cr) ∧ SlZ k B w (.slice Ar r.length cr) r := by
 have hi : i < us.length := by rw [h.len]; exact (List.getElem?_eq_some_iff.1 hr).1
 obtain ⟨u, hu⟩ : ∃ u, us[i]? = some u := ⟨_, List.getElem?_eq_getElem hi⟩
 have hs := h.own i u r hu hr
 obtain ⟨Ar, cr, rfl, _⟩ := hs.shape
 exact ⟨Ar, cr, hu, (h.row.cellAt hu).1, hs⟩
theorem TabZI.set {w : World} {base g n c : Nat} {us : List Value} {K : List (List Int)} (h : TabZI k B e w base (.slice (some ⟨g, 0, none⟩) n c) us K) (i : Nat) {u : Value} {r : List Int} (hu : SlZ k B w u r) : TabZI k B e (w.setCell ⟨g, i, none⟩ u) base (.slice (some ⟨g, 0, none⟩) n c) (us.set i u) (K.set i r) := by
 obtain ⟨Au, cu, eu, _⟩ := hu.shape
 have hg : w.grownBy (w.setCell ⟨g, i, none⟩ u) (Value.slice (some ⟨g, 0, none⟩) n c).ownBlock := grown_set w g i u
 refine ⟨h.row.set i ⟨_, _, _, eu⟩, by rw [List.length_set, List.length_set]; exact h.len, fun l x y hx hy => ?_⟩
 by_cases hl : i = l
 ·subst hl
  have hi : i < us.length := by have := (List.getElem?_eq_some_iff.1 hx).1; rwa [List.length_set] at this
  rw [List.getElem?_set_self hi] at hx
  rw [List.getElem?_set_self (by rw [← h.len]; exact hi)] at hy
  injection hx with hx
  injection hy with hy
  subst hx; subst hy
  exact h.row.keepZ hg hu
 ·rw [List.getElem?_set_ne hl] at hx hy
  exact h.row.keepZ hg (h.own l x y hx hy)
end
/-- A table's rows, as they are. -/
theorem SlW.rows {k : IntKind} {B : Nat} {w : World} {A : Option Addr} {n c : Nat} {T : List (List Int)} (h : SlW k B w (.slice A n c) T) (hne : T ≠ []) : ∃ (ad : Addr) (us : List Value), A = some ad ∧ n = us.length ∧ us.length = T.length ∧ (∀ (i : Nat) (u : Value), us[i]? = some u → w.cell? (ad.add i) = some u) ∧ (∀ u ∈ us, isSl u) ∧ ∀ (i : Nat) (u : Value) (r : List Int), us[i]? = some u → T[i]? = some r → SlZ k B w u r := by
 obtain ⟨us, hl, ⟨A', c', e, h1, h2, h3⟩, h4⟩ := h
 injection e with e1 e2 e3
 subst e1; subst e2; subst e3
 have hp : 0 < us.length := by rw [hl]; exact List.length_pos_iff.2 hne
 obtain ⟨ad, rfl, _⟩ := h3 0 _ (List.getElem?_eq_getElem hp)
 refine ⟨ad, us, rfl, rfl, hl, fun i u hu => ?_, fun u hu => ?_, h4⟩
 ·obtain ⟨ad', e2, hc⟩ := h3 i u hu
  injection e2 with e2
  subst e2
  exact hc
 ·obtain ⟨i, hi⟩ := List.mem_iff_getElem?.1 hu
  have hil := (List.getElem?_eq_some_iff.1 hi).1
  obtain ⟨A', c', e2, _⟩ := (h4 i u _ hi (List.getElem?_eq_getElem (by omega))).shape
  exact ⟨_, _, _, e2⟩
end Go.Proofs.Yteijlcfhenlanaa.rat
namespace Go.Proofs.Yteijlcfhenlanaa.flow
open Go
set_option linter.unusedVariables false
set_option linter.unusedSimpArgs false
/-- Q, but at the end N. -/
def Behind (N : Act → World → Prop) (Q : Exit → Act → World → Prop) : Exit → Act → World → Prop
 | .normal, a, w => N a w
 | e, a, w => Q e a w
theorem wp_behind {P : Program} {Q : Exit → Act → World → Prop} {N K K' : Act → World → Prop} {o : Oper} {a : Act} {w : World} (h : ∀ a w, K a w → K' a w) (hh : o.wp P a w K (Behind N Q)) : o.wp P a w K' Q := by
  unfold Oper.wp at *
  generalize (execOp a.eval o).run P w = r at *
  cases r with
  | ok n w' =>
    cases n <;> simp only [Oper.upon] at hh ⊢ <;>
      first
        | exact h _ _ hh
        | exact Calls.mono hh (fun e w'' he => by cases e <;> first | exact h _ _ he | exact he)
        | exact Rows.mono hh (fun _ _ he => h _ _ he)
  | halt x w' => cases x <;> simp only [Oper.upon] at hh ⊢ <;> exact hh
theorem mem_ready {md : Region.Mode} {ops : Array Oper} {listed : Array Bool} {i : Nat} : i ∈ Region.ready md ops listed ↔ i < ops.size ∧ listed.getD i true = false ∧ ∃ o, ops[i]? = some o ∧ ∀ e ∈ o.after, Region.binds md e = true → listed.getD e.on false = true := by
  unfold Region.ready
  rw [List.mem_filter, List.mem_range]
  cases h : ops[i]? with
  | none => simp
  | some o =>
    simp only [Bool.and_eq_true, Bool.not_eq_true', Option.map_some, Option.getD_some, Array.all_eq_true_iff_forall_mem, Bool.or_eq_true]
    constructor
    · rintro ⟨h1, h2, h3⟩
      refine ⟨h1, h2, o, rfl, fun e he hb => ?_⟩
      rcases h3 e he with h4 | h4
      · rw [hb] at h4; cases h4
      · exact h4
    · rintro ⟨h1, h2, o', h3, h4⟩
      injection h3 with h3
      subst h3
      refine ⟨h1, h2, fun e he => ?_⟩
      cases hb : Region.binds md e with
      | false => exact .inl rfl
      | true => exact .inr (h4 e he hb)
theorem gd (l : List Bool) (i : Nat) (d : Bool) : l.toArray.getD i d = (l[i]?).getD d := by simp [Array.getD_eq_getD_getElem?]
theorem least_false : ∀ (l : List Bool), 0 < l.countP (!·) → ∃ j : Nat, l[j]? = some false ∧ ∀ i : Nat, i < j → l[i]? = some true
  | [], h => by simp at h
  | false :: l, _ => ⟨0, rfl, fun i hi => absurd hi (Nat.not_lt_zero _)⟩
  | true :: l, h => by
    obtain ⟨j, h1, h2⟩ := least_false l (by simpa using h)
    refine ⟨j + 1, by simpa using h1, fun i hi => ?_⟩
    cases i with
    | zero => rfl
    | succ i => simpa using h2 i (by omega)
theorem all_true : ∀ (l : List Bool), l.countP (!·) = 0 → l = List.replicate l.length true
  | [], _ => rfl
  | false :: l, h => by simp at h
  | true :: l, h => by
    have ih := all_true l (by simpa using h)
    rw [List.length_cons, List.replicate_succ, ← ih]
theorem count_set : ∀ (l : List Bool) (i k : Nat), l[i]? = some false → l.countP (!·) = k + 1 → (l.set i true).countP (!·) = k
  | [], i, k, h, _ => by simp at h
  | b :: l, 0, k, h, hc => by
    obtain rfl : b = false := by simpa using h
    simp at hc ⊢
    omega
  | b :: l, i + 1, k, h, hc => by
    have h' : l[i]? = some false := by simpa using h
    rw [List.set_cons_succ, List.countP_cons]
    rw [List.countP_cons] at hc
    cases b with
    | true => simp at hc ⊢; exact count_set l i k h' hc
    | false =>
      simp at hc ⊢
      have h0 : 0 < l.countP (!·) := List.countP_pos_iff.2 ⟨false, List.mem_of_getElem? h', rfl⟩
      obtain ⟨k', rfl⟩ : ∃ k', k = k' + 1 := ⟨k - 1, by omega⟩
      rw [count_set l i k' h' hc]
/-- Whatever is listed, what it waits for is listed. -/
def Closed (A : List Oper) (l : List Bool) : Prop := ∀ (i : Nat) (o : Oper), A[i]? = some o → l[i]? = some true → ∀ e ∈ o.after, Region.binds .any e = true → l[e.on]? = some true
/-- An operation, and what it waits for, so many steps down. -/
def anc (A : List Oper) : Nat → Nat → List Nat
  | 0, k => [k]
  | f + 1, k => k :: (match A[k]? with
    | some o => o.after.toList.flatMap fun e => if Region.binds .any e = true then anc A f e.on else []
    | none => [])
theorem anc_true {A : List Oper} {l : List Bool} (hc : Closed A l) : ∀ (f k : Nat), l[k]? = some true → ∀ x ∈ anc A f k, l[x]? = some true
  | 0, k, hk, x, hx => by
    obtain rfl := List.mem_singleton.1 hx
    exact hk
  | f + 1, k, hk, x, hx => by
    rcases List.mem_cons.1 hx with rfl | hx
    · exact hk
    · cases ho : A[k]? with
      | none => rw [ho] at hx; cases hx
      | some o =>
        rw [ho] at hx
        obtain ⟨e, he, hx⟩ := List.mem_flatMap.1 hx
        by_cases hb : Region.binds .any e = true
        · rw [if_pos hb] at hx
          exact anc_true hc f e.on (hc k o ho hk e (Array.mem_toList_iff.1 he) hb) x hx
        · rw [if_neg hb] at hx; cases hx
theorem split_main {P : Program} {Q : Exit → Act → World → Prop} {A B : List Oper} {l0 lB : List Bool} {m : Nat} (hlB : lB.length = B.length) (hG : ∀ o ∈ A, o.guard = none) (hback : ∀ (i : Nat) (o : Oper), A[i]? = some o → ∀ e ∈ o.after, Region.binds .any e = true → e.on < i) (hcov : ∀ (i : Nat) (o : Oper), B[i]? = some o → lB[i]? = some false → ∀ k : Nat, l0[k]? = some false → ∃ e ∈ o.after, Region.binds .any e = true ∧ e.on < A.length ∧ k ∈ anc A 20 e.on) :
    ∀ (k : Nat) (l : List Bool) (a : Act) (w : World), Closed A l → (∀ j : Nat, l[j]? = some false → l0[j]? = some false) → l.length = A.length → l.countP (!·) = k →
      wpAny P .any A.toArray (Behind (fun a w => wpAny P .any (A ++ B).toArray Q m (List.replicate A.length true ++ lB).toArray a w) Q) k l.toArray a w →
      wpAny P .any (A ++ B).toArray Q (k + m) (l ++ lB).toArray a w
  | 0, l, a, w, hcl, hmo, hl, hc, h => by
    have e := all_true l hc
    rw [hl] at e
    rw [Nat.zero_add, e]
    exact h.2
  | k + 1, l, a, w, hcl, hmo, hl, hc, h => by
    rw [Nat.add_right_comm]
    obtain ⟨j, hj, hlow⟩ := least_false l (by omega)
    have hjl := (List.getElem?_eq_some_iff.1 hj).1
    have hA : ∀ i, i < A.length → (A ++ B)[i]? = A[i]? := fun i hi => List.getElem?_append_left hi
    have hL : ∀ i, i < A.length → (l ++ lB)[i]? = l[i]? := fun i hi => List.getElem?_append_left (by omega)
    refine ⟨fun hr => ?_, fun i hi => ?_⟩
    · exfalso
      have hjA : j < A.length := by omega
      have hm : j ∈ Region.ready .any (A ++ B).toArray (l ++ lB).toArray := by
        refine mem_ready.2 ⟨by simp; omega, by rw [gd, hL j hjA, hj]; rfl, A[j], by rw [List.getElem?_toArray, hA j hjA]; exact List.getElem?_eq_getElem hjA, fun e he hb => ?_⟩
        have h1 := hback j _ (List.getElem?_eq_getElem hjA) e he hb
        rw [gd, hL e.on (by omega), hlow e.on h1]; rfl
      rw [hr] at hm
      cases hm
    · obtain ⟨h1, h2, o, h3, h4⟩ := mem_ready.1 hi
      rw [List.getElem?_toArray] at h3
      have hiA : i < A.length := by
        rcases Nat.lt_or_ge i A.length with h5 | h5
        · exact h5
        · exfalso
          rw [List.getElem?_append_right h5] at h3
          have h8 : lB[i - A.length]? = some false := by
            rw [gd, List.getElem?_append_right (by omega), hl] at h2
            cases hh : lB[i - A.length]? with
            | none => rw [hh] at h2; cases h2
            | some b => rw [hh] at h2; simp at h2; rw [h2]
          obtain ⟨e, he, hb, hon, hanc⟩ := hcov _ o h3 h8 j (hmo j hj)
          have h6 := h4 e he hb
          rw [gd, hL e.on hon] at h6
          have h9 : l[e.on]? = some true := by
            cases hh : l[e.on]? with
            | none => rw [hh] at h6; cases h6
            | some b => rw [hh] at h6; simp at h6; rw [h6]
          have h10 := anc_true hcl 20 e.on h9 j hanc
          rw [hj] at h10
          cases h10
      rw [hA i hiA] at h3
      have hli : l[i]? = some false := by
        rw [gd, hL i hiA] at h2
        cases hh : l[i]? with
        | none => rw [hh] at h2; cases h2
        | some b => rw [hh] at h2; simp at h2; rw [h2]
      have hiR : i ∈ Region.ready .any A.toArray l.toArray := by
        refine mem_ready.2 ⟨by simpa using hiA, by rw [gd, hli]; rfl, o, by rw [List.getElem?_toArray]; exact h3, fun e he hb => ?_⟩
        have h5 := h4 e he hb
        have h6 := hback i o h3 e he hb
        rw [gd, hL e.on (by omega)] at h5
        rw [gd]; exact h5
      have h7 := h.2 i hiR
      have hg := hG o (List.mem_of_getElem? h3)
      have hw : ∀ (ops : Array Oper), Region.wanted o (yielded ops a.tmps) = true := fun ops => by simp [Region.wanted, hg]
      have hA3 : A.toArray[i]? = some o := by rw [List.getElem?_toArray]; exact h3
      have hB3 : (A ++ B).toArray[i]? = some o := by rw [List.getElem?_toArray, hA i hiA]; exact h3
      unfold wpOp at h7 ⊢
      simp only [hA3, hB3, hw, if_true] at h7 ⊢
      refine h7.imp (wp_behind fun a' w' hk => ?_) id
      have hset : (l ++ lB).toArray.setIfInBounds i true = (l.set i true ++ lB).toArray := by
        rw [List.setIfInBounds_toArray, List.set_append_left _ _ (by omega)]
      rw [hset]
      have hcl' : Closed A (l.set i true) := fun x ox hx hlx e he hb => by
        rw [List.getElem?_set]
        by_cases e1 : i = e.on
        · rw [if_pos e1, if_pos (by omega)]
        · rw [if_neg e1]
          rw [List.getElem?_set] at hlx
          by_cases e2 : i = x
          · subst e2
            rw [h3] at hx
            injection hx with hx
            subst hx
            have h5 := h4 e he hb
            have h6 := hback i o h3 e he hb
            rw [gd, hL e.on (by omega)] at h5
            cases hh : l[e.on]? with
            | none => rw [hh] at h5; cases h5
            | some b => rw [hh] at h5; simp at h5; rw [h5]
          · rw [if_neg e2] at hlx
            exact hcl x ox hx hlx e he hb
      refine split_main hlB hG hback hcov k (l.set i true) a' w' hcl' (fun j' hj' => by
        rw [List.getElem?_set] at hj'
        by_cases e : i = j'
        · rw [if_pos e] at hj'
          split at hj' <;> cases hj'
        · rw [if_neg e] at hj'
          exact hmo j' hj') (by rw [List.length_set]; exact hl) (count_set l i k hli hc) ?_
      rw [← List.setIfInBounds_toArray]
      exact hk
/-- May the region be cut there? -/
def cutB (A B : List Oper) (l lB : List Bool) : Bool :=
 (A.all fun o => o.guard.isNone) && ((List.range A.length).all fun i => ((A[i]?).map fun o => o.after.all fun e => !Region.binds .any e || decide (e.on < i)).getD true) && ((List.range B.length).all fun i => lB[i]? == some true || ((B[i]?).map fun o => (List.range l.length).all fun k => l[k]? == some true || o.after.any fun e => Region.binds .any e && (decide (e.on < A.length) && (anc A 20 e.on).contains k)).getD true) && (decide (l.length = A.length) && decide (lB.length = B.length)) && ((List.range A.length).all fun i => !(l[i]? == some true) || ((A[i]?).map fun o => o.after.all fun e => !Region.binds .any e || l[e.on]? == some true).getD true)
theorem any_cut {P : Program} {Q : Exit → Act → World → Prop} {ops : Array Oper} (n : Nat) (l lB : List Bool) (m : Nat) {a : Act} {w : World} (hB : cutB (ops.toList.take n) (ops.toList.drop n) l lB = true)
  (h : wpAny P .any (ops.toList.take n).toArray (Behind (fun a w => wpAny P .any ops Q m (List.replicate (ops.toList.take n).length true ++ lB).toArray a w) Q) (l.countP (!·)) l.toArray a w) : wpAny P .any ops Q (l.countP (!·) + m) (l ++ lB).toArray a w := by
 have hop : (ops.toList.take n ++ ops.toList.drop n).toArray = ops := by rw [List.take_append_drop]
 generalize ops.toList.take n = A at *
 generalize ops.toList.drop n = B at *
 subst hop
 unfold cutB at hB
 simp only [Bool.and_eq_true, List.all_eq_true, Option.isNone_iff_eq_none, List.mem_range, decide_eq_true_eq] at hB
 obtain ⟨⟨⟨⟨h1, h2⟩, h3⟩, h4, h5⟩, h0⟩ := hB
 refine split_main (P := P) (Q := Q) (A := A) (B := B) (l0 := l) (m := m) h5 h1 (fun i o hi e he hb => by
  have h4 := h2 i (List.getElem?_eq_some_iff.1 hi).1
  rw [hi] at h4
  simp only [Option.map_some, Option.getD_some, Array.all_eq_true_iff_forall_mem, Bool.or_eq_true, Bool.not_eq_true', decide_eq_true_eq] at h4
  rcases h4 e he with h5 | h5
  ·rw [hb] at h5; cases h5
  ·exact h5) (fun i o ho hb0 k hk => by
  have h6 := h3 i (List.getElem?_eq_some_iff.1 ho).1
  rw [ho, hb0] at h6
  simp only [Option.map_some, Option.getD_some, Bool.or_eq_true, List.all_eq_true, List.mem_range, Array.any_eq_true', Bool.and_eq_true, beq_iff_eq, decide_eq_true_eq, List.contains_iff_mem] at h6
  rcases h6 with h6 | h6
  ·cases h6
  ·rcases h6 k (List.getElem?_eq_some_iff.1 hk).1 with h7 | ⟨e, he, hb, hon⟩
   ·rw [hk] at h7; cases h7
   ·exact ⟨e, he, hb, hon⟩) _ l a w (fun i o hi hli e he hb => by
  have h7 := h0 i (List.getElem?_eq_some_iff.1 hi).1
  rw [hi, hli] at h7
  simp only [Option.map_some, Option.getD_some, Bool.or_eq_true, Bool.not_eq_true', Array.all_eq_true_iff_forall_mem, beq_self_eq_true, Bool.true_eq_false, false_or, beq_iff_eq, reduceCtorEq] at h7
  rcases h7 e he with h8 | h8
  ·rw [hb] at h8; cases h8
  ·exact h8) (fun j hj => hj) h4 rfl h
theorem any_cut_at {P : Program} {Q : Exit → Act → World → Prop} {ops : Array Oper} {fuel : Nat} {listed : Array Bool} (n : Nat) (l lB : List Bool) (k m : Nat) {a : Act} {w : World} (hB : cutB (ops.toList.take n) (ops.toList.drop n) l lB = true) (hk : l.countP (!·) = k) (hf : fuel = k + m) (hl : listed = (l ++ lB).toArray)
  (h : wpAny P .any (ops.toList.take n).toArray (Behind (fun a w => wpAny P .any ops Q m (List.replicate l.length true ++ lB).toArray a w) Q) k l.toArray a w) : wpAny P .any ops Q fuel listed a w := by
 subst hf; subst hl; subst hk
 have e : l.length = (ops.toList.take n).length := by
  unfold cutB at hB
  simp only [Bool.and_eq_true, decide_eq_true_eq] at hB
  exact hB.1.2.1
 rw [e] at h
 exact any_cut n l lB m hB h
end Go.Proofs.Yteijlcfhenlanaa.flow
