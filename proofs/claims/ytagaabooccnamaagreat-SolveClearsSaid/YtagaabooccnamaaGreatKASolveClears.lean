/- SolveClears: any row made whole. Condition: the arguments can be read as data. -/
import Derived.Test.YtagaabooccnamaaGreatKA7
import Derived.Deep.CutRange
import Derived.OpenShut
import Derived.LaidMore
import Derived.Lay
import Derived.Stop.Joined
set_option linter.unusedVariables false
set_option linter.unusedSimpArgs false
set_option maxRecDepth 100000
set_option maxHeartbeats 6400000
open List renaming getElem?_eq_getElem -> zA3, mem_of_getElem? -> zA5, getElem?_map -> zB1
namespace Go.Proofs.YtagaabooccnamaaGreat.solveClears
open Go.ChangeShapes Go.WideShapes Go.ChangeAt Go.RowKit num mem nat txt str flow whl rat
theorem own : ownKnob Tryz.prog.godebug = none := by kernel_rfl
theorem laidOut : laidOutB Tryz.prog = true := by kernel_rfl
theorem cells_u : Tryz.prog.cellsOf 98 = 1 := by kernel_rfl
/-- The walk: the Go text returns true; what was there is as it was. -/
theorem walk (v0 : Value) (w : World) (h0 : zT3 w v0) :
  Calls Tryz.prog 5 #[v0] w (zD8 (.bool true) w) := by
 obtain ⟨A0, n0, c0, rfl, -⟩ := id h0
 go_enter Tryz.func5, Tryz.ntmps5
 go_wp2_with fail
 refine (yX1 _ _ _ 6 _ h0 (by omega)).mono ?_
 rintro e w1 ⟨V, U, qs, rfl, sv, su, hql, hqs, b1, -, -⟩
 obtain ⟨n, hn⟩ : ∃ n, n = qs.length := ⟨_, rfl⟩
 have hn6 : n <= 6 := by rw [hn, hql]; exact Nat.min_le_right _ _
 have HQ := Lib.hid hqs
 obtain ⟨AV, cV, rfl, -, -⟩ := id sv.shape
 obtain ⟨AU, cU, rfl, -, -⟩ := id su.shape
 rw [<- hn] at sv su |-
 have HSU := Lib.hid su
 have CL := qS5 _ qs 1 w1 sv ⟨by omega, by omega, hqs⟩
 rw [<- hn] at CL
 have HNQ := Lib.hid hn
 obtain ⟨M, hM⟩ : ∃ M, M = zF1 qs := ⟨_, rfl⟩
 have hMl : (digs 4294967296 M).length <= 7 := by
  have h := qL3 qs HQ.out n
  rw [HNQ.out, List.take_length, <- HNQ.out] at h
  rw [hM]; omega
 have hMd := zU0 M
 rw [<- hM] at CL
 have HM := Lib.hid hM
 clear hn hqs hql sv su hM
 go_wp2_with fail
 refine CL.mono ?_
 rintro e w2 ⟨g, v2, rfl, hg, RI2, k2, b2⟩
 obtain ⟨A2, c2, rfl, _⟩ := id k2
 have HB2 : Hid (Below w.heap.size w w2) := b1.trans (b2.mono b1.size)
 have CR := jD8 _ qs 1 w2 (HSU.out.below b2) ⟨by rw [<- HNQ.out]; omega, by omega, HQ.out⟩
 unfold RetCl at CR
 rw [<- HM.out] at CR
 have HSZ2 := Lib.hid (RI2.sl (by rw [zR9, HNQ.out]) (by omega))
 clear b1 b2 CL RI2
 go_wp2_with fail
 refine CR.mono ?_
 rintro e w3 ⟨V3, v3, rfl, s3, k3, b3⟩
 obtain ⟨A3, c3, rfl, _⟩ := id k3
 obtain ⟨AX, cX, rfl, -, -⟩ := id s3.shape
 rw [yI6, <- HNQ.out] at s3 |-
 have k23 := k2.below b3
 have HB3 : Hid (Below w.heap.size w w3) := HB2.out.trans (b3.mono HB2.out.size)
 have HSX := Lib.hid s3
 have HSZ : Hid (SlZ .u64 4294967296 w3 (.slice (some ⟨g, 0, none⟩) n n) (zI qs)) := HSZ2.out.below b3
 clear b3 CR k2 s3
 have hnn : ((n : Int) == (n : Int)) = true := beq_self_eq_true _
 go_wp2_with fail
 refine (qM3 _ M _ k3 (by omega) (by omega)).mono ?_
 rintro e w4 ⟨v4, rfl, k4, -, b4⟩
 obtain ⟨A4, c4, rfl, _⟩ := id k4
 have k24 := k23.below b4
 have HB4 : Hid (Below w3.heap.size w3 w4) := b4
 clear k23 b4 k3
 go_wp2_with fail
 refine (qW8 _ _ M _ k24 k4).mono ?_
 rintro e w5 ⟨rfl, b5⟩
 have HB5 : Hid (Below w3.heap.size w3 w5) := HB4.out.trans (b5.mono HB4.out.size)
 clear k24 k4 b5 HB4
 go_wp2
 go_loopw [9] (fun v9 wr => ∃ k : Nat, k <= n /\ Hid (Below w3.heap.size w3 wr) /\ v9 = .int .i64 (k : Int)) (fun v9 _ => n - (intOf v9).toNat)
 case atStart => exact ⟨0, by omega, HB5, rfl⟩
 case round =>
  clear HB5
  obtain ⟨k, hk, HB, rfl⟩ := hrel
  obtain ⟨wi, hwi⟩ : ∃ wi, wi = wr := ⟨_, rfl⟩
  subst hwi
  by_cases hlt : k < n
  ·obtain ⟨z, hz⟩ : ∃ z, (zI qs)[k]? = some z := ⟨_, zA3 (by rw [zR9, <- HNQ.out]; exact hlt)⟩
   have hx : (zP2 qs)[k]? = some ((z : Int) : Rat) := by rw [jD7, zB1, hz]; rfl
   obtain ⟨gz, oz, uz, e1, -, z0, z1, sz⟩ := (HSZ.out.below HB.out).at_ hz
   injection e1 with e1
   injection e1 with e1 e2 _
   subst e1; subst e2
   obtain ⟨gx, ox, ux, tx, rfl, -, x0, x1, x2, sx, tx'⟩ := (HSX.out.below HB.out).at_ hx
   rw [show (((z : Int) : Rat)).num = z from rfl] at x0 sx
   rw [show (((z : Int) : Rat)).den = 1 from rfl] at tx'
   obtain ⟨Az, cz, rfl, _⟩ := id sz
   obtain ⟨Ax, cx, rfl, _⟩ := id sx
   obtain ⟨At, ct, rfl, _⟩ := id tx'
   rw [Nat.zero_add] at z0 z1
   have hixZ := fun w => qS0 (P := Tryz.prog) Tryz.underlying48 (by kernel_rfl) (g := g) (c := n) hlt w
   have hixX := fun w => zK (P := Tryz.prog) Tryz.underlying45 (by kernel_rfl) (g := gx) (o := ox) (c := cX) hlt w
   have hzl : zC1 z <= 30000 := by
    have h := yK7 (S := 1) HQ.out z (zA5 hz)
    rw [<- HNQ.out] at h
    omega
   have CB : ∀ w a, IsR w a z -> Calls Tryz.prog 25 #[a] w (zE2 z w) := fun w a h => yA2 a z w h hzl
   have CS : ∀ w a b, IsZ w a z -> IsZ w b z -> Calls Tryz.prog 24 #[a, b] w (zD8 (.bool true) w) := fun w a b h h' => yS7 a b z w h h'
   have CN : ∀ w, Calls Tryz.prog 27 #[.int .i64 1] w (zD1 .i64 (digs 10000 1) w) := fun w => yM7 1 1 w rfl (by omega)
   have CC : ∀ w a b, IsS w .i64 a (digs 10000 1) -> IsS w .i64 b (digs 10000 1) -> Calls Tryz.prog 26 #[a, b] w (zD8 (.int .i64 0) w) := fun w a b h h' => by have := qU8 a b 1 1 w h h'; rwa [zY3] at this
   have bd := (Below.refl wi.heap.size wi).drew
   clear hz hx hzl
   have z0d := (bd.cell (World.block_lt_of_cell? wi _ z0)).trans z0
   have z1d := (bd.cell (World.block_lt_of_cell? wi _ z1)).trans z1
   have x0d := (bd.cell (World.block_lt_of_cell? wi _ x0)).trans x0
   have x1d := (bd.cell (World.block_lt_of_cell? wi _ x1)).trans x1
   have x2d := (bd.cell (World.block_lt_of_cell? wi _ x2)).trans x2
   have szd := sz.below bd
   have sxd := sx.below bd
   have txd := tx'.below bd
   have HBd : Hid (Below w3.heap.size w3 wi.drew) := HB.out.trans (bd.mono HB.out.size)
   clear sz sx tx' z0 z1 x0 x1 x2 HB bd
   go_upto_region 9 with (fail)
   go_region_law (first | (go_simp; go_at_call 25; refine (CB _ _ ⟨_, rfl, (by exact sxd)⟩).mono ?_; rintro e w6 ⟨v6, rfl, k6, -, b6⟩; obtain ⟨u6, rfl, s6⟩ := k6; obtain ⟨A6, c6, rfl, _⟩ := id s6; have z06 := (b6.cell (World.block_lt_of_cell? wi.drew _ z0d)).trans z0d; have z16 := (b6.cell (World.block_lt_of_cell? wi.drew _ z1d)).trans z1d; have x26 := (b6.cell (World.block_lt_of_cell? wi.drew _ x2d)).trans x2d; have sz6 := szd.below b6; have tx6 := txd.below b6) | (go_simp; go_at_call 24; refine (CS _ _ _ ⟨_, rfl, (by exact sz6)⟩ ⟨_, rfl, (by exact s6)⟩).mono ?_; rintro e w7 ⟨rfl, b7⟩; have x27 := (b7.cell (World.block_lt_of_cell? w6 _ x26)).trans x26; have tx7 := tx6.below b7) | (go_simp; go_at_call 27; refine (CN _).mono ?_; rintro e w8 ⟨v8, rfl, s8, -, b8⟩; obtain ⟨A8, c8, rfl, _⟩ := id s8; have x28 := (b8.cell (World.block_lt_of_cell? w7 _ x27)).trans x27; have tx8 := tx7.below b8) | (go_simp; go_at_call 26; refine (CC _ _ _ (by exact tx8) (by exact s8)).mono ?_; rintro e w9 ⟨rfl, b9⟩))
   all_goals
    have B6 := HBd.out.trans (b6.mono HBd.out.size)
    have B7 := B6.trans (b7.mono B6.size)
    have B8 := B7.trans (b8.mono B7.size)
    have HB9 : Hid (Below w3.heap.size w3 w9) := B8.trans (b9.mono B8.size)
    clear B6 B7 B8 b6 b7 b8 b9 z0d z1d x0d x1d x2d szd sxd txd z06 z16 x26 sz6 tx6 x27 tx7 x28 tx8 CB CS CN CC hixZ hixX s6 s8
    go_wp2
    go_roundw
    case rel => exact ⟨k + 1, by omega, HB9, by go_num⟩
    case measure => simp [intOf]; omega
  ·have HBw : Hid (Below w.heap.size w wi) := HB3.out.trans (HB.out.mono HB3.out.size)
   clear HB
   go_wp2_with fail
   refine (jI3 _).mono ?_
   rintro e w9 ⟨rfl, b9⟩
   go_wp2
   go_ret
   exact ⟨rfl, HBw.out.trans (b9.mono HBw.out.size)⟩
theorem lifted (os : Os) (started : os.Started) (H : Type) (enc : TypeId × Value -> H) :
  ReturnsInHanded {} Tryz.checked os 5 .any (Rows.solveClearsSpec.pre6 enc Tryz.prog Tryz.f5 Rows.solveClearsRow.domain false) (Rows.solveClearsSpec.post enc Tryz.prog Tryz.f5 false true false false) := by
 refine returnsInHanded_of_change (C := Tryz.checked) own started (by kernel_rfl) Tryz.func5
  (ChangeSpec.witness6 (enc := enc) (C := Tryz.checked) false ⟨#[], #[.slice none 0 0], []⟩ 8 (by kernel_rfl) (by kernel_rfl) (by kernel_rfl) (by kernel_rfl)) ?_
 intro W base args ds gs before hval0 hW hcnd _
 have hval : ∀ (j : Nat) t v, Tryz.f5.params[j]? = some t -> args[j]? = some v -> Value.okWide Tryz.prog W .any base t v := hval0
 have hW' := hW
 obtain ⟨p, q, hA0, hV, rfl, hfz, hnd⟩ := hW
 have hA : DataW.TrodAll enc Tryz.prog W 0 (fun _ => true) true Tryz.f5.params.toList args.toList ds p := hA0
 rw [Tryz.params5] at hA hval
 obtain ⟨v0, vs0, d0, ds0, p0, q0, hargs, rfl, rfl, t0, r0⟩ := trodAll_cons hA
 obtain ⟨rfl, rfl, rfl⟩ := trodAll_nil r0
 obtain rfl : args = #[v0] := by cases args; simp_all
 obtain ⟨rfl, rfl⟩ := trodVars_none hV
 have hs0 := arg_qs Tryz.underlying44 Tryz.underlying83 (by kernel_rfl) (by kernel_rfl) Tryz.underlying60 (by kernel_rfl) Tryz.underlying4 Tryz.underlying50 Tryz.underlying50 Tryz.underlying98 cells_u (hval 0 44 v0 rfl rfl) t0
 clear hA0 hval0
 simp only [List.append_nil] at hW'
 have hlt0 : ∀ x ∈ p0, x.block < W.heap.size := fun x hx => hW'.lt x (hx)
 refine (walk v0 W hs0).mono fun e W' ⟨he, hb⟩ => ?_
 subst he
 have s0 := Below.trod laidOut (by kernel_rfl) (of_decide_eq_true (by kernel_rfl)) t0 hb hlt0
 exact ⟨_, rfl, _, _, _, [] ++ [], _, [], hW', trodAll_cons_mk (shut_bool Tryz.underlying4 _) trodAll_mk0, trodAll_cons_mk s0 (trodAll_mk0), rfl, hb.frame _, fun h => by cases h⟩
theorem over : Rows.solveClearsRow.holds Tryz.pinned (OpenSpec.ofChange Rows.solveClearsSpec) :=
 OpenClaim.holds_of_wide 5 Tryz.f5 rfl rfl rfl rfl rfl rfl rfl ⟨rfl, rfl, rfl, rfl, rfl⟩ rfl rfl rfl rfl rfl (by kernel_rfl) Tryz.func5 (by kernel_rfl)
  (of_decide_eq_true (by kernel_rfl)) (by unfold Func.isWrapper; first | (rw [if_pos (by decide +kernel)]; kernel_rfl) | (rw [if_neg (by decide +kernel)]; exact ⟨rfl, rfl⟩))
  (fun os started H enc _ => lifted os started H enc)
/-- The statement. -/
theorem proved : Rows.SolveClearsSaid := over
end Go.Proofs.YtagaabooccnamaaGreat.solveClears
