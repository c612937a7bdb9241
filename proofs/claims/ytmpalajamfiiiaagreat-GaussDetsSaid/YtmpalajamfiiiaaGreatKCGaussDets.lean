/- GaussDets: the determinant, and the inverse. Condition: the arguments can be read as data. -/
import Derived.Test.YtmpalajamfiiiaaGreatKC6
import Derived.Deep.CutRange
import Derived.OpenShut
import Derived.LaidMore
import Derived.Lay
import Derived.Stop.Joined
set_option linter.unusedVariables false
set_option linter.unusedSimpArgs false
set_option maxRecDepth 100000
set_option maxHeartbeats 6400000
open And renaming intro -> zA
open List renaming setIfInBounds_toArray -> zA0, set_cons_succ -> zA1, set_cons_zero -> zA2, getElem_toArray -> zA8, getElem_cons_zero -> zA9, getElem_cons_succ -> zB
open Nat renaming le_refl -> zB3
namespace Go.Proofs.YtmpalajamfiiiaaGreat.gaussDets
open Go.ChangeShapes Go.WideShapes Go.ChangeAt Go.RowKit num mem nat txt str flow whl rat
theorem own : ownKnob Tryz.prog.godebug = none := by kernel_rfl
theorem laidOut : laidOutB Tryz.prog = true := by kernel_rfl
theorem cells_u : Tryz.prog.cellsOf 99 = 1 := by kernel_rfl
/-- The walk: the Go text returns true; what was there is as it was. -/
theorem walk (v0 : Value) (w : World) (h0 : zS9 w v0) :
  Calls Tryz.prog 4 #[v0] w (zD7 (.bool true) w) := by
 obtain ⟨A0, n0, c0, rfl, -, -⟩ := h0.shape
 go_enter Tryz.func4, Tryz.ntmps4
 go_wp2_with fail
 refine (yX4 _ 4 _ h0 (by omega)).mono ?_
 rintro e w1 ⟨V, U, p, rfl, hV, hU, hpl, hpr, hpx, b1⟩
 obtain ⟨AV, cV, rfl, -, -⟩ := hV.shape
 obtain ⟨AU, cU, rfl, -, -⟩ := hU.shape
 have HG := Lib.hid (jB9 hpl hpr hpx)
 have HF := Lib.hid (zA hpl (zA hpr hpx))
 have HN : Hid (p.length <= 200) := by show _ <= _; omega
 clear hpr hpx hpl
 go_wp2_with fail
 refine (yZ0 _ p 5 _ hV HG.out.1).mono ?_
 rintro e w2 (⟨hs, ⟨v2, rfl, k2, b2⟩, hl2, -⟩ | ⟨hs, rfl, b2⟩)
 ·obtain ⟨u2, t2, rfl, s2, d2⟩ := k2
  obtain ⟨D, hD⟩ : ∃ D, D = zE3 p.length (zC p) := ⟨_, rfl⟩
  rw [<- hD] at s2 d2 hl2 |-
  have HSD := Lib.hid (zA hs (zA hD hl2))
  obtain ⟨A2, c2, rfl, _⟩ := id s2
  obtain ⟨D2, e2, rfl, _⟩ := id d2
  clear hs hD hl2
  have ba2 := zC8 (w := w2) (zB3 _) (.cells #[.bool (ngB D.num), .slice A2 (digs 4294967296 D.num.natAbs).length c2, .slice D2 (digs 4294967296 D.den).length e2] 44)
  have bb1 := b1.trans (b2.mono b1.size)
  have bb2 := bb1.trans (ba2.mono bb1.size)
  have hV2 := (hV.below b2).below ba2
  have hU2 := (hU.below b2).below ba2
  have BA2 := Blk.new w2 44 #[.bool (ngB D.num), .slice A2 (digs 4294967296 D.num.natAbs).length c2, .slice D2 (digs 4294967296 D.den).length e2]
  have sA2 := s2.below ba2
  have dA2 := d2.below ba2
  clear s2 d2 hV hU b2 b1 bb1 ba2
  have CR : ∀ w, SlT .i64 10000 w (.slice AU p.length cU) p -> Calls Tryz.prog 18 #[.slice AU p.length cU] w (zQ2 D w) := fun w h => by rw [HSD.out.2.1]; exact jB _ p w h HF.out.1 (fun r hr => by rw [HSD.out.1.2]; exact HSD.out.1.1.2.2 r hr) HF.out.2.2
  have HP : Hid (shp p p.length p.length) := ⟨rfl, fun r hr => by rw [HSD.out.1.1.2.2 r hr, HSD.out.1.2]⟩
  have hneb : (((p.length : Nat) : Int) != ((zC4 p : Nat) : Int)) = false := by rw [bne_eq_false_iff_eq]; have := HSD.out.1.2; omega
  go_wp2_with fail
  refine (yG1 _ p 5 _ hV2 HG.out.2).mono ?_
  rintro e w3 (⟨-, hd, VX, X, rfl, sX3, hX, b3⟩ | ⟨-, hd, rfl, b3⟩ | ⟨hs, rfl, b3⟩)
  ·have HD : Hid (D ≠ 0) := fun e => hd (by rw [<- HSD.out.2.1]; exact e)
   obtain ⟨AX, cX, rfl, -, -⟩ := sX3.shape
   have HX := Lib.hid hX
   clear hX
   clear hd
   have bb3 := bb2.trans (b3.mono bb2.size)
   have hV3 := hV2.below b3
   have hU3 := hU2.below b3
   have BA3 := BA2.below b3
   have sA3 := sA2.below b3
   have dA3 := dA2.below b3
   clear hV2 hU2 BA2 sA2 dA2
   clear b3 bb2
   go_wp2_with fail
   refine (zS7 _ p _ hV3).mono ?_
   rintro e w4 ⟨rfl, b4⟩
   have bb4 := bb3.trans (b4.mono bb3.size)
   have hV4 := hV3.below b4
   have hU4 := hU3.below b4
   have BA4 := BA3.below b4
   have sA4 := sA3.below b4
   have dA4 := dA3.below b4
   have sX4 := sX3.below b4
   clear hV3 hU3 BA3 sA3 dA3 sX3
   clear b4 bb3
   go_wp2_with fail
   refine (qI9 _ p 0 _ hV4 (by rw [if_pos HSD.out.1.1])).mono ?_
   rintro e w5 ⟨rfl, b5⟩
   have bb5 := bb4.trans (b5.mono bb4.size)
   have hV5 := hV4.below b5
   have hU5 := hU4.below b5
   have BA5 := BA4.below b5
   have sA5 := sA4.below b5
   have dA5 := dA4.below b5
   have sX5 := sX4.below b5
   clear hV4 hU4 BA4 sA4 dA4 sX4
   clear b5 bb4
   go_wp2_with fail
   refine (CR _ hU5).mono ?_
   rintro e w6 ⟨v6, rfl, k6, b6⟩
   obtain ⟨u6, t6, rfl, s6, d6⟩ := k6
   obtain ⟨A6, c6, rfl, _⟩ := id s6
   obtain ⟨D6, e6, rfl, _⟩ := id d6
   clear hU5
   have ba6 := zC8 (w := w6) (zB3 _) (.cells #[.bool (ngB D.num), .slice A6 (digs 10000 D.num.natAbs).length c6, .slice D6 (digs 10000 D.den).length e6] 55)
   have BP7 := Blk.new w6 55 #[.bool (ngB D.num), .slice A6 (digs 10000 D.num.natAbs).length c6, .slice D6 (digs 10000 D.den).length e6]
   have bb6 := bb5.trans (b6.mono bb5.size)
   have bb7 := bb6.trans (ba6.mono bb6.size)
   have hV7 := (hV5.below b6).below ba6
   have BA7 := (BA5.below b6).below ba6
   have sA7 := (sA5.below b6).below ba6
   have dA7 := (dA5.below b6).below ba6
   have sX7 := (sX5.below b6).below ba6
   clear hV5 BA5 sA5 dA5 sX5
   have sP7 := s6.below ba6
   have dP7 := d6.below ba6
   clear s6 d6 b6 ba6 bb5 bb6 CR
   go_upto_region 8 with (fail)
   obtain ⟨w7, hw7⟩ : ∃ w7, w6.alloc (.cells #[.bool (ngB D.num), .slice A6 (digs 10000 D.num.natAbs).length c6, .slice D6 (digs 10000 D.den).length e6] 55) = w7 := ⟨_, rfl⟩
   rw [hw7] at hV7 BA7 sA7 dA7 sX7 BP7 sP7 dP7 bb7 |-
   clear hw7
   have bd := (Below.refl w7.heap.size w7).drew
   have bbd := bb7.trans (bd.mono bb7.size)
   have hVd := hV7.below bd
   have sXd := sX7.below bd
   have BPd := BP7.below bd
   have kDd : IsQ w7.drew (.agg #[.bool (ngB D.num), .slice A2 (digs 4294967296 D.num.natAbs).length c2, .slice D2 (digs 4294967296 D.den).length e2]) D := ⟨_, _, rfl, sA7.below bd, dA7.below bd⟩
   have kPd : IsP w7.drew (.agg #[.bool (ngB D.num), .slice A6 (digs 10000 D.num.natAbs).length c6, .slice D6 (digs 10000 D.den).length e6]) D := ⟨_, _, rfl, sP7.below bd, dP7.below bd⟩
   obtain ⟨x0, x1, x2, _, _, _⟩ := three (BA7.below bd)
   obtain ⟨z0, z1, z2, _, _, _⟩ := three BPd
   clear bb7 bd BP7 sP7 dP7 hV7 BA7 sA7 dA7 sX7
   refine wp_region_held_drew (S := fun w' : World => Below w7.drew.heap.size w7.drew w') (by kernel_rfl) (Below.refl _ _) (fun hHeld => ?_)
   refine wpAnyH_take (i := 0) (v := .int .i64 0) rfl (by kernel_rfl) (by kernel_rfl) (by kernel_rfl) (fun _ _ _ h => h) (Or.inl ⟨by kernel_rfl, fun w hSw => by (go_simp; first | done | with_reducible rfl)⟩) hHeld ?_
   simp only [Act.put, zA8, zA9, zB, zA0, zA2, zA1]
   refine wpAnyH_take (i := 1) (v := .bool false) rfl (by kernel_rfl) (by kernel_rfl) (by kernel_rfl) (fun _ _ _ h => h) (Or.inl ⟨by kernel_rfl, fun w hSw => by (go_simp; first | done | with_reducible rfl)⟩) hHeld ?_
   simp only [Act.put, zA8, zA9, zB, zA0, zA2, zA1]
   refine wpAnyH_take (i := 2) (v := .bool false) rfl (by kernel_rfl) (by kernel_rfl) (by kernel_rfl) (fun _ _ _ h => h) (Or.inl ⟨by kernel_rfl, fun w hSw => by (go_simp; first | done | with_reducible rfl)⟩) hHeld ?_
   simp only [Act.put, zA8, zA9, zB, zA0, zA2, zA1]
   refine wpAnyH_take (i := 3) (v := .agg #[.bool (ngB D.num), .slice A2 (digs 4294967296 D.num.natAbs).length c2, .slice D2 (digs 4294967296 D.den).length e2]) rfl (by kernel_rfl) (by kernel_rfl) (by kernel_rfl) (fun _ _ _ h => h) (Or.inl ⟨by kernel_rfl, fun w hSw => by (have hBw : Below w7.drew.heap.size w7.drew w := hSw; have f0 := (hBw.cell (World.block_lt_of_cell? _ _ x0)).trans x0; have f1 := (hBw.cell (World.block_lt_of_cell? _ _ x1)).trans x1; have f2 := (hBw.cell (World.block_lt_of_cell? _ _ x2)).trans x2; go_simp; first | done | with_reducible rfl)⟩) hHeld ?_
   simp only [Act.put, zA8, zA9, zB, zA0, zA2, zA1]
   refine wpAnyH_take (i := 4) (v := .agg #[.bool (ngB D.num), .slice A6 (digs 10000 D.num.natAbs).length c6, .slice D6 (digs 10000 D.den).length e6]) rfl (by kernel_rfl) (by kernel_rfl) (by kernel_rfl) (fun _ _ _ h => h) (Or.inl ⟨by kernel_rfl, fun w hSw => by (have hBw : Below w7.drew.heap.size w7.drew w := hSw; have f0 := (hBw.cell (World.block_lt_of_cell? _ _ z0)).trans z0; have f1 := (hBw.cell (World.block_lt_of_cell? _ _ z1)).trans z1; have f2 := (hBw.cell (World.block_lt_of_cell? _ _ z2)).trans z2; go_simp; first | done | with_reducible rfl)⟩) hHeld ?_
   simp only [Act.put, zA8, zA9, zB, zA0, zA2, zA1]
   refine wpAnyH_ready (rs := [5]) (by kernel_rfl) (by simp) ?_
   refine AllReadyH.cons rfl (fun K hK => ?_) AllReadyH.nil
   go_simp
   go_at_call 20
   refine (qG4 _ D _ kPd (HSD.out.2.2.mono (by omega))).mono ?_
   rintro e w8 ⟨v8, rfl, k8, -, b8⟩; obtain ⟨u8, t8, rfl, s8, d8⟩ := k8; obtain ⟨A8, c8, rfl, _⟩ := id s8; obtain ⟨D8, e8, rfl, _⟩ := id d8
   have bT := b8
   refine hK.out _ _ (by exact bT) (fun hHeld => ?_)
   clear hK K
   try simp only [Act.put, zA8, zA9, zB, zA0, zA2, zA1]
   refine wpAnyH_ready (rs := [6]) (by kernel_rfl) (by simp) ?_
   refine AllReadyH.cons rfl (fun K hK => ?_) AllReadyH.nil
   go_simp
   go_at_call 19
   refine (qY _ _ D D true _ (kDd.below bT) ⟨_, _, rfl, s8, d8⟩ (decide_eq_true rfl).symm).mono ?_
   rintro e w9 ⟨rfl, b9⟩
   have bT := bT.trans (b9.mono bT.size)
   refine hK.out _ _ (by exact bT) (fun hHeld => ?_)
   clear hK K
   try simp only [Act.put, zA8, zA9, zB, zA0, zA2, zA1]
   refine wpAnyH_take (i := 7) (v := .bool false) rfl (by kernel_rfl) (by kernel_rfl) (by kernel_rfl) (fun _ _ _ h => h) (Or.inl ⟨by kernel_rfl, fun w hSw => by (go_simp; first | done | with_reducible rfl)⟩) hHeld ?_
   simp only [Act.put, zA8, zA9, zB, zA0, zA2, zA1]
   refine wpAnyH_take (i := 8) (v := .bool false) rfl (by kernel_rfl) (by kernel_rfl) (by kernel_rfl) (fun _ _ _ h => h) (Or.inl ⟨by kernel_rfl, fun w hSw => by (go_simp; first | done | with_reducible rfl)⟩) hHeld ?_
   simp only [Act.put, zA8, zA9, zB, zA0, zA2, zA1]
   refine wpAnyH_done (by kernel_rfl) ?_ _
   have bb9 := bbd.trans (bT.mono bbd.size)
   have hV9 := hVd.below bT
   have sX9 := sXd.below bT
   have kP9 := kPd.below bT
   obtain ⟨y0, y1, y2, _, _, _⟩ := three (BPd.below bT)
   clear x0 x1 x2 z0 z1 z2 BPd kDd kPd bbd hVd s8 d8 sXd bT b8 b9
   go_wp2_with fail
   refine (qG5 _ D false _ kP9 (decide_eq_false HD.out).symm).mono ?_
   rintro e w10 ⟨rfl, b10⟩
   have bb10 := bb9.trans (b10.mono bb9.size)
   have hV10 := hV9.below b10
   have sX10 := sX9.below b10
   clear hV9 sX9
   clear b10 bb9
   clear kP9 y0 y1 y2
   go_wp2_with fail
   refine (yW7 _ p.length _ rfl HN.out).mono ?_
   rintro e w11 ⟨VI, rfl, sI11, b11⟩
   rw [if_pos rfl] at sI11
   obtain ⟨AI, cI, rfl, -, -⟩ := sI11.shape
   have bb11 := bb10.trans (b11.mono bb10.size)
   have hV11 := hV10.below b11
   have sX11 := sX10.below b11
   clear hV10 sX10
   clear b11 bb10
   have ba := zC8 (w := w11) (zB3 _) (.cells #[.slice AV p.length cV, .slice AX X.length cX] 22)
   have HLa := yC (zT3 w11 22 [.slice AV p.length cV, .slice AX X.length cX]) (hV11.below ba) (sX11.below ba)
   go_wp2_with fail
   refine (yG3 HLa HP.out HX.out.sh HF.out.1 (HF.out.2.2.mono (by omega)) HX.out.lens HX.out.right).mono ?_
   rintro e w12 ⟨VM, rfl, sM12, b12⟩
   rw [if_pos rfl] at sM12
   obtain ⟨AM, cM, rfl, -, -⟩ := sM12.shape
   have bq := ba.trans (b12.mono ba.size)
   have bb12 := bb11.trans (bq.mono bb11.size)
   have hV12 := hV11.below bq
   have sX12 := sX11.below bq
   have sI12 := sI11.below bq
   clear hV11 sX11 sI11
   clear b12 bb11 ba bq HLa
   have ba := zC8 (w := w12) (zB3 _) (.cells #[.slice AX X.length cX, .slice AV p.length cV] 22)
   have HLa := yC (zT3 w12 22 [.slice AX X.length cX, .slice AV p.length cV]) (sX12.below ba) (hV12.below ba)
   go_wp2_with fail
   refine (yG3 HLa HX.out.sh HP.out HF.out.1 HX.out.lens (HF.out.2.2.mono (by omega)) HX.out.left).mono ?_
   rintro e w13 ⟨VN, rfl, sN13, b13⟩
   rw [if_pos rfl] at sN13
   obtain ⟨AN, cN, rfl, -, -⟩ := sN13.shape
   have bq := ba.trans (b13.mono ba.size)
   have bb13 := bb12.trans (bq.mono bb12.size)
   have hV13 := hV12.below bq
   have sX13 := sX12.below bq
   have sI13 := sI12.below bq
   have sM13 := sM12.below bq
   clear hV12 sX12 sI12 sM12
   clear b13 bb12 ba bq HLa
   go_wp2_with fail
   refine (qQ0 _ _ (zF p.length) (zF p.length) true _ sM13 sI13 (decide_eq_true rfl).symm).mono ?_
   rintro e w14 ⟨rfl, b14⟩
   have bb14 := bb13.trans (b14.mono bb13.size)
   have sI14 := sI13.below b14
   have sN14 := sN13.below b14
   clear sI13 sN13
   clear b14 bb13
   go_wp2_with fail
   refine (qQ0 _ _ (zF p.length) (zF p.length) true _ sN14 sI14 (decide_eq_true rfl).symm).mono ?_
   rintro e w15 ⟨rfl, b15⟩
   have bb15 := bb14.trans (b15.mono bb14.size)
   have sI15 := sI14.below b15
   clear sI14
   clear b15 bb14
   go_wp2_with fail
   refine (qJ4 _).mono ?_
   rintro e w16 ⟨rfl, b16⟩
   have bb16 := bb15.trans (b16.mono bb15.size)
   go_wp2
   go_ret
   exact ⟨rfl, bb16⟩
  ·have HD : Hid (D = 0) := HSD.out.2.1.trans hd
   clear hd
   have bb3 := bb2.trans (b3.mono bb2.size)
   have hV3 := hV2.below b3
   have hU3 := hU2.below b3
   have BA3 := BA2.below b3
   have sA3 := sA2.below b3
   have dA3 := dA2.below b3
   clear hV2 hU2 BA2 sA2 dA2
   clear b3 bb2
   go_wp2_with fail
   refine (zS7 _ p _ hV3).mono ?_
   rintro e w4 ⟨rfl, b4⟩
   have bb4 := bb3.trans (b4.mono bb3.size)
   have hV4 := hV3.below b4
   have hU4 := hU3.below b4
   have BA4 := BA3.below b4
   have sA4 := sA3.below b4
   have dA4 := dA3.below b4
   clear hV3 hU3 BA3 sA3 dA3
   clear b4 bb3
   go_wp2_with fail
   refine (qI9 _ p 0 _ hV4 (by rw [if_pos HSD.out.1.1])).mono ?_
   rintro e w5 ⟨rfl, b5⟩
   have bb5 := bb4.trans (b5.mono bb4.size)
   have hV5 := hV4.below b5
   have hU5 := hU4.below b5
   have BA5 := BA4.below b5
   have sA5 := sA4.below b5
   have dA5 := dA4.below b5
   clear hV4 hU4 BA4 sA4 dA4
   clear b5 bb4
   go_wp2_with fail
   refine (CR _ hU5).mono ?_
   rintro e w6 ⟨v6, rfl, k6, b6⟩
   obtain ⟨u6, t6, rfl, s6, d6⟩ := k6
   obtain ⟨A6, c6, rfl, _⟩ := id s6
   obtain ⟨D6, e6, rfl, _⟩ := id d6
   clear hU5
   have ba6 := zC8 (w := w6) (zB3 _) (.cells #[.bool (ngB D.num), .slice A6 (digs 10000 D.num.natAbs).length c6, .slice D6 (digs 10000 D.den).length e6] 55)
   have BP7 := Blk.new w6 55 #[.bool (ngB D.num), .slice A6 (digs 10000 D.num.natAbs).length c6, .slice D6 (digs 10000 D.den).length e6]
   have bb6 := bb5.trans (b6.mono bb5.size)
   have bb7 := bb6.trans (ba6.mono bb6.size)
   have hV7 := (hV5.below b6).below ba6
   have BA7 := (BA5.below b6).below ba6
   have sA7 := (sA5.below b6).below ba6
   have dA7 := (dA5.below b6).below ba6
   clear hV5 BA5 sA5 dA5
   have sP7 := s6.below ba6
   have dP7 := d6.below ba6
   clear s6 d6 b6 ba6 bb5 bb6 CR
   go_upto_region 8 with (fail)
   obtain ⟨w7, hw7⟩ : ∃ w7, w6.alloc (.cells #[.bool (ngB D.num), .slice A6 (digs 10000 D.num.natAbs).length c6, .slice D6 (digs 10000 D.den).length e6] 55) = w7 := ⟨_, rfl⟩
   rw [hw7] at hV7 BA7 sA7 dA7 BP7 sP7 dP7 bb7 |-
   clear hw7
   have bd := (Below.refl w7.heap.size w7).drew
   have bbd := bb7.trans (bd.mono bb7.size)
   have hVd := hV7.below bd
   have BPd := BP7.below bd
   have kDd : IsQ w7.drew (.agg #[.bool (ngB D.num), .slice A2 (digs 4294967296 D.num.natAbs).length c2, .slice D2 (digs 4294967296 D.den).length e2]) D := ⟨_, _, rfl, sA7.below bd, dA7.below bd⟩
   have kPd : IsP w7.drew (.agg #[.bool (ngB D.num), .slice A6 (digs 10000 D.num.natAbs).length c6, .slice D6 (digs 10000 D.den).length e6]) D := ⟨_, _, rfl, sP7.below bd, dP7.below bd⟩
   obtain ⟨x0, x1, x2, _, _, _⟩ := three (BA7.below bd)
   obtain ⟨z0, z1, z2, _, _, _⟩ := three BPd
   clear bb7 bd BP7 sP7 dP7 hV7 BA7 sA7 dA7
   refine wp_region_held_drew (S := fun w' : World => Below w7.drew.heap.size w7.drew w') (by kernel_rfl) (Below.refl _ _) (fun hHeld => ?_)
   refine wpAnyH_take (i := 0) (v := .int .i64 0) rfl (by kernel_rfl) (by kernel_rfl) (by kernel_rfl) (fun _ _ _ h => h) (Or.inl ⟨by kernel_rfl, fun w hSw => by (go_simp; first | done | with_reducible rfl)⟩) hHeld ?_
   simp only [Act.put, zA8, zA9, zB, zA0, zA2, zA1]
   refine wpAnyH_take (i := 1) (v := .bool false) rfl (by kernel_rfl) (by kernel_rfl) (by kernel_rfl) (fun _ _ _ h => h) (Or.inl ⟨by kernel_rfl, fun w hSw => by (go_simp; first | done | with_reducible rfl)⟩) hHeld ?_
   simp only [Act.put, zA8, zA9, zB, zA0, zA2, zA1]
   refine wpAnyH_take (i := 2) (v := .bool false) rfl (by kernel_rfl) (by kernel_rfl) (by kernel_rfl) (fun _ _ _ h => h) (Or.inl ⟨by kernel_rfl, fun w hSw => by (go_simp; first | done | with_reducible rfl)⟩) hHeld ?_
   simp only [Act.put, zA8, zA9, zB, zA0, zA2, zA1]
   refine wpAnyH_take (i := 3) (v := .agg #[.bool (ngB D.num), .slice A2 (digs 4294967296 D.num.natAbs).length c2, .slice D2 (digs 4294967296 D.den).length e2]) rfl (by kernel_rfl) (by kernel_rfl) (by kernel_rfl) (fun _ _ _ h => h) (Or.inl ⟨by kernel_rfl, fun w hSw => by (have hBw : Below w7.drew.heap.size w7.drew w := hSw; have f0 := (hBw.cell (World.block_lt_of_cell? _ _ x0)).trans x0; have f1 := (hBw.cell (World.block_lt_of_cell? _ _ x1)).trans x1; have f2 := (hBw.cell (World.block_lt_of_cell? _ _ x2)).trans x2; go_simp; first | done | with_reducible rfl)⟩) hHeld ?_
   simp only [Act.put, zA8, zA9, zB, zA0, zA2, zA1]
   refine wpAnyH_take (i := 4) (v := .agg #[.bool (ngB D.num), .slice A6 (digs 10000 D.num.natAbs).length c6, .slice D6 (digs 10000 D.den).length e6]) rfl (by kernel_rfl) (by kernel_rfl) (by kernel_rfl) (fun _ _ _ h => h) (Or.inl ⟨by kernel_rfl, fun w hSw => by (have hBw : Below w7.drew.heap.size w7.drew w := hSw; have f0 := (hBw.cell (World.block_lt_of_cell? _ _ z0)).trans z0; have f1 := (hBw.cell (World.block_lt_of_cell? _ _ z1)).trans z1; have f2 := (hBw.cell (World.block_lt_of_cell? _ _ z2)).trans z2; go_simp; first | done | with_reducible rfl)⟩) hHeld ?_
   simp only [Act.put, zA8, zA9, zB, zA0, zA2, zA1]
   refine wpAnyH_ready (rs := [5]) (by kernel_rfl) (by simp) ?_
   refine AllReadyH.cons rfl (fun K hK => ?_) AllReadyH.nil
   go_simp
   go_at_call 20
   refine (qG4 _ D _ kPd (HSD.out.2.2.mono (by omega))).mono ?_
   rintro e w8 ⟨v8, rfl, k8, -, b8⟩; obtain ⟨u8, t8, rfl, s8, d8⟩ := k8; obtain ⟨A8, c8, rfl, _⟩ := id s8; obtain ⟨D8, e8, rfl, _⟩ := id d8
   have bT := b8
   refine hK.out _ _ (by exact bT) (fun hHeld => ?_)
   clear hK K
   try simp only [Act.put, zA8, zA9, zB, zA0, zA2, zA1]
   refine wpAnyH_ready (rs := [6]) (by kernel_rfl) (by simp) ?_
   refine AllReadyH.cons rfl (fun K hK => ?_) AllReadyH.nil
   go_simp
   go_at_call 19
   refine (qY _ _ D D true _ (kDd.below bT) ⟨_, _, rfl, s8, d8⟩ (decide_eq_true rfl).symm).mono ?_
   rintro e w9 ⟨rfl, b9⟩
   have bT := bT.trans (b9.mono bT.size)
   refine hK.out _ _ (by exact bT) (fun hHeld => ?_)
   clear hK K
   try simp only [Act.put, zA8, zA9, zB, zA0, zA2, zA1]
   refine wpAnyH_take (i := 7) (v := .bool false) rfl (by kernel_rfl) (by kernel_rfl) (by kernel_rfl) (fun _ _ _ h => h) (Or.inl ⟨by kernel_rfl, fun w hSw => by (go_simp; first | done | with_reducible rfl)⟩) hHeld ?_
   simp only [Act.put, zA8, zA9, zB, zA0, zA2, zA1]
   refine wpAnyH_take (i := 8) (v := .bool false) rfl (by kernel_rfl) (by kernel_rfl) (by kernel_rfl) (fun _ _ _ h => h) (Or.inl ⟨by kernel_rfl, fun w hSw => by (go_simp; first | done | with_reducible rfl)⟩) hHeld ?_
   simp only [Act.put, zA8, zA9, zB, zA0, zA2, zA1]
   refine wpAnyH_done (by kernel_rfl) ?_ _
   have bb9 := bbd.trans (bT.mono bbd.size)
   have hV9 := hVd.below bT
   have kP9 := kPd.below bT
   obtain ⟨y0, y1, y2, _, _, _⟩ := three (BPd.below bT)
   clear x0 x1 x2 z0 z1 z2 BPd kDd kPd bbd hVd s8 d8 bT b8 b9
   go_wp2_with fail
   refine (qG5 _ D true _ kP9 (decide_eq_true HD.out).symm).mono ?_
   rintro e w10 ⟨rfl, b10⟩
   have bb10 := bb9.trans (b10.mono bb9.size)
   go_wp2_with fail
   refine (qJ4 _).mono ?_
   rintro e w11 ⟨rfl, b11⟩
   have bb11 := bb10.trans (b11.mono bb10.size)
   go_wp2
   go_ret
   exact ⟨rfl, bb11⟩
  ·exact absurd HSD.out.1 hs
 ·have ba2 := zC8 (w := w2) (zB3 _) (.cells #[.bool false, .slice none 0 0, .slice none 0 0] 44)
  have bb1 := b1.trans (b2.mono b1.size)
  have bb2 := bb1.trans (ba2.mono bb1.size)
  have hV2 := (hV.below b2).below ba2
  have hU2 := (hU.below b2).below ba2
  clear hV hU hU2 b2 b1 bb1 ba2
  go_wp2_with fail
  refine (yG1 _ p 5 _ hV2 HG.out.2).mono ?_
  rintro e w3 (⟨hn, -⟩ | ⟨hn, -⟩ | ⟨-, rfl, b3⟩)
  ·exact absurd hn hs
  ·exact absurd hn hs
  ·have bb3 := bb2.trans (b3.mono bb2.size)
   have hV3 := hV2.below b3
   clear b3 bb2 hV2
   have HS := Lib.hid hs
   clear hs
   go_wp2_with fail
   refine (zS7 _ p _ hV3).mono ?_
   rintro e w4 ⟨rfl, b4⟩
   have bb4 := bb3.trans (b4.mono bb3.size)
   have hV4 := hV3.below b4
   clear hV3
   clear b4 bb3
   by_cases hm : zG8 p
   ·have hnep : (((p.length : Nat) : Int) != ((zC4 p : Nat) : Int)) = true := by rw [bne_iff_ne]; exact fun h => HS.out ⟨hm, by omega⟩
    have CC := qI9 _ p 0 _ hV4 (by rw [if_pos hm])
    clear hm
    go_wp2_with fail
    refine CC.mono ?_
    rintro e w5 ⟨rfl, b5⟩
    have bb5 := bb4.trans (b5.mono bb4.size)
    go_wp2_with fail
    refine (qJ4 _).mono ?_
    rintro e w6 ⟨rfl, b6⟩
    have bb6 := bb5.trans (b6.mono bb5.size)
    go_wp2
    go_ret
    exact ⟨rfl, bb6⟩
   ·have CC := qI9 _ p 8 _ hV4 (by rw [if_neg hm])
    clear hm
    go_wp2_with fail
    refine CC.mono ?_
    rintro e w5 ⟨rfl, b5⟩
    have bb5 := bb4.trans (b5.mono bb4.size)
    go_wp2_with fail
    refine (qJ4 _).mono ?_
    rintro e w6 ⟨rfl, b6⟩
    have bb6 := bb5.trans (b6.mono bb5.size)
    go_wp2
    go_ret
    exact ⟨rfl, bb6⟩
theorem lifted (os : Os) (started : os.Started) (H : Type) (enc : TypeId × Value -> H) :
  ReturnsInHanded {} Tryz.checked os 4 .any (Rows.gaussDetsSpec.pre6 enc Tryz.prog Tryz.f4 Rows.gaussDetsRow.domain false) (Rows.gaussDetsSpec.post enc Tryz.prog Tryz.f4 false true false false) := by
 refine returnsInHanded_of_change (C := Tryz.checked) own started (by kernel_rfl) Tryz.func4
  (ChangeSpec.witness6 (enc := enc) (C := Tryz.checked) false ⟨#[], #[.slice none 0 0], []⟩ 8 (by kernel_rfl) (by kernel_rfl) (by kernel_rfl) (by kernel_rfl)) ?_
 intro W base args ds gs before hval0 hW hcnd _
 have hval : ∀ (j : Nat) t v, Tryz.f4.params[j]? = some t -> args[j]? = some v -> Value.okWide Tryz.prog W .any base t v := hval0
 have hW' := hW
 obtain ⟨p, q, hA0, hV, rfl, hfz, hnd⟩ := hW
 have hA : DataW.TrodAll enc Tryz.prog W 0 (fun _ => true) true Tryz.f4.params.toList args.toList ds p := hA0
 rw [Tryz.params4] at hA hval
 obtain ⟨v0, vs0, d0, ds0, p0, q0, hargs, rfl, rfl, t0, r0⟩ := trodAll_cons hA
 obtain ⟨rfl, rfl, rfl⟩ := trodAll_nil r0
 obtain rfl : args = #[v0] := by cases args; simp_all
 obtain ⟨rfl, rfl⟩ := trodVars_none hV
 have hs0 := arg_t Tryz.underlying22 (by kernel_rfl) Tryz.underlying64 Tryz.underlying44 (by kernel_rfl) (by kernel_rfl) Tryz.underlying42 (by kernel_rfl) Tryz.underlying4 Tryz.underlying40 Tryz.underlying40 Tryz.underlying99 cells_u (hval 0 22 v0 rfl rfl) t0
 clear hA0 hval0
 simp only [List.append_nil] at hW'
 have hlt0 : ∀ x ∈ p0, x.block < W.heap.size := fun x hx => hW'.lt x (hx)
 refine (walk v0 W hs0).mono fun e W' ⟨he, hb⟩ => ?_
 subst he
 have s0 := Below.trod laidOut (by kernel_rfl) (of_decide_eq_true (by kernel_rfl)) t0 hb hlt0
 exact ⟨_, rfl, _, _, _, [] ++ [], _, [], hW', trodAll_cons_mk (shut_bool Tryz.underlying4 _) trodAll_mk0, trodAll_cons_mk s0 (trodAll_mk0), rfl, hb.frame _, fun h => by cases h⟩
theorem over : Rows.gaussDetsRow.holds Tryz.pinned (OpenSpec.ofChange Rows.gaussDetsSpec) :=
 OpenClaim.holds_of_wide 4 Tryz.f4 rfl rfl rfl rfl rfl rfl rfl ⟨rfl, rfl, rfl, rfl, rfl⟩ rfl rfl rfl rfl rfl (by kernel_rfl) Tryz.func4 (by kernel_rfl)
  (of_decide_eq_true (by kernel_rfl)) (by unfold Func.isWrapper; first | (rw [if_pos (by decide +kernel)]; kernel_rfl) | (rw [if_neg (by decide +kernel)]; exact ⟨rfl, rfl⟩))
  (fun os started H enc _ => lifted os started H enc)
/-- The statement. -/
theorem proved : Rows.GaussDetsSaid := over
end Go.Proofs.YtmpalajamfiiiaaGreat.gaussDets
