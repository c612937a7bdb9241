/- Package fold: Shares. Condition: as each says.
A copy of ints that a region makes: an empty row, and an append to it.
Package fold: Mean. Condition: as each says.
Regions that draw their order: of some operations, that yield in every world that holds what was there, each may come behind a store, whatever the others do.
The chapter's example of layer 10. -/
import Derived.Test.YtlnmoledijlemaaGreatK5
namespace Go.Proofs.YtlnmoledijlemaaGreat.rat
open Go.RowKit Go.Proofs.YtlnmoledijlemaaGreat.num Go.Proofs.YtlnmoledijlemaaGreat.mem Go.Proofs.YtlnmoledijlemaaGreat.nat Go.Proofs.YtlnmoledijlemaaGreat.txt Go.Proofs.YtlnmoledijlemaaGreat.str Go.Proofs.YtlnmoledijlemaaGreat.flow Go.Proofs.YtlnmoledijlemaaGreat.whl
set_option linter.unusedVariables false
set_option linter.unusedSimpArgs false
/-- A row of these, made by the call, and an error's number. -/
def RetRN (qs : List Rat) (w : World) (e : Ending) (w' : World) : Prop := ∃ g, e = .returned (.tuple #[.slice (some ⟨g, 0, none⟩) qs.length qs.length, .int .i64 0]) ∧ RowN w' g qs.length qs ∧ w.heap.size ≤ g ∧ Below w.heap.size w w'
/-- No row, and an error's number. -/
def RetNN (n : Int) (w : World) (e : Ending) (w' : World) : Prop := e = .returned (.tuple #[.slice none 0 0, .int .i64 n]) ∧ Below w.heap.size w w'
theorem ratsI_int (z : Int) : ((z : Int) : Rat) = mkRat z 1 := by rw [Rat.mkRat_one]
set_option maxHeartbeats 1600000 in
set_option maxRecDepth 100000 in
theorem fshares_nil (a0 : Value) (w : World) (h0 : IsI w a0 []) :
    Calls Tryz.prog 27 #[a0] w (RetNN 9 w) := by
  obtain ⟨A0, c0, rfl, hc0, hm0⟩ := h0.shape
  go_enter Tryz.func27, Tryz.ntmps27
  go_wp2
  go_ret2
  exact ⟨rfl, Below.refl _ _⟩
set_option maxHeartbeats 6400000 in
set_option maxRecDepth 100000 in
theorem fshares_some (a0 : Value) (l : List Int) (n : Int) (w : World) (h0 : IsI w a0 l) (hne : l ≠ []) (hl : l.length ≤ 300) (hnE : n = sharesE l) :
    Calls Tryz.prog 27 #[a0] w (fun e w' => (n = 0 ∧ RetRN (sharesL l) w e w') ∨ (n ≠ 0 ∧ RetNN n w e w')) := by
  have bb : Below w.heap.size w w := Below.refl _ _
  have sl0 := h0
  obtain ⟨A0, c0, rfl, hc0, hm0⟩ := h0.shape
  unfold maxLen at hm0
  have HNE := Lib.hid hne
  have HLE := Lib.hid hl
  have hln : 0 < l.length := List.length_pos_iff.2 hne
  have hl300 : l.length ≤ 300 := hl
  clear hne
  have hl0 : (((l.length : Nat) : Int) == 0) = false := by rw [beq_eq_false_iff_ne]; omega
  have HR2 : Hid (∀ q ∈ ratsI l, lenQ q 2) := by
    show ∀ q ∈ _, _
    intro q hq
    obtain ⟨z, hz, rfl⟩ := List.mem_map.1 hq
    obtain ⟨_, _, _, _, _, hr, _⟩ := sl0
    exact lenQ_int (hr z hz)
  have HRL : Hid ((ratsI l).length = l.length) := ratsI_len l
  have lsum : lenQ (sumq (ratsI l)) 1000 := (lenQ_sumq HR2.out).mono (by rw [HRL.out]; omega)
  have HN := Lib.hid hnE
  clear hnE
  go_enter Tryz.func27, Tryz.ntmps27
  go_upto_region 1 with (fail)
  have hsz0 := bb.size
  go_wp2_with (at_make; refine wpList_make_q rfl _ _ rfl Tryz.underlying22 info_rat l.length rfl rfl (by omega) ?_; intro w1 RN hb1)
  replace bb := bb.trans (hb1.mono bb.size)
  have hsz1 := bb.size
  have hgl := RN.lt
  obtain ⟨g, hg⟩ : ∃ g, g = w.heap.size := ⟨_, rfl⟩
  rw [← hg] at RN hgl ⊢
  have hg_ : w.heap.size ≤ g := by omega
  clear hg
  have hg := hg_
  clear hg_
  go_wp2
  go_loopw [19] (fun v19 wr => ∃ k : Nat, k ≤ l.length ∧ Hid (∀ z ∈ l.take k, ¬ z < 0) ∧ RowN wr g l.length ((ratsI l).take k) ∧ Below w.heap.size w wr ∧ v19 = .int .i64 (k : Int)) (fun v19 _ => l.length - (intOf v19).toNat)
  case atStart => exact ⟨0, by omega, by show ∀ z ∈ _, _; intro z hz; simp at hz, RN, bb, rfl⟩
  case round =>
    obtain ⟨k, hk, HA, hR, hbw, rfl⟩ := hrel
    clear RN bb hgl
    have RN := hR
    have bb := hbw
    clear hR hbw
    have hszr := bb.size
    have hgl := RN.lt
    by_cases hlt : k < l.length
    · obtain ⟨z, hz_⟩ : ∃ z, l[k]? = some z := ⟨_, List.getElem?_eq_getElem hlt⟩
      obtain ⟨ad_, hA_, _, ec, hz1, hz2⟩ := (sl0.below bb).at_ hz_
      subst hA_
      have HZ_ := Lib.hid hz_
      clear hz_
      by_cases h0 : z < 0
      · have HW : Hid (n = 2) := by show _ = _; rw [HN.out, sharesE, if_neg HNE.out, if_pos ⟨z, List.mem_of_getElem? HZ_.out, h0⟩]
        clear RN
        go_wp2
        go_ret2
        exact .inr ⟨by rw [HW.out]; decide, by rw [HW.out]; rfl, bb⟩
      · have HA2 : Hid (∀ z ∈ l.take (k + 1), ¬ z < 0) := by
          show ∀ z ∈ _, _
          rw [List.take_add_one, HZ_.out]
          intro r hr
          rcases List.mem_append.1 hr with hr | hr
          · exact HA.out r hr
          · obtain rfl : r = z := by simpa using hr
            exact h0
        have HH0 := Lib.hid h0
        have h0b : decide (z < 0) = false := decide_eq_false h0
        clear h0
        have HQZ : Hid (((z : Int) : Rat) = mkRat z 1) := ratsI_int z
        have HTK : Hid ((ratsI l).take (k + 1) = (ratsI l).take k ++ [mkRat z 1]) := take_snoc (ratsI_at HZ_.out)
        have HLK : Hid (k = ((ratsI l).take k).length) := by show _ = _; rw [List.length_take, HRL.out]; omega
        have hcell := ec
        have sB := bb.size
        go_upto_region 6 with (fail)
        refine flowp 5 [Pd.eq (.int .i64 (k : Int)), Pd.eq (.pointer (some (ad_.add k))), Pd.eq (.int .i64 z), Pd.eq (.int .i64 (k : Int)), Pd.eq (.int .i64 z)] (by kernel_rfl) ?ob1 ?done1
        case ob1 =>
          refine And.intro (ob_move rfl (wt_none rfl) (ev_far rfl rfl) (fun _ _ h => h)) ?_
          refine And.intro (ob_indexAddr rfl (wt_none rfl) (ev_far rfl rfl) (ev_far rfl rfl) (fun _ _ _ hx hy => ⟨_, by rw [hx, hy]; exact index1_any Tryz.underlying36 (by kernel_rfl) ad_ hlt _, rfl⟩)) ?_
          refine And.intro (ob_load rfl (wt_none rfl) (ev_dep (j := 1) (by kernel_rfl) rfl rfl) (fun w2 hb => run_load1 Tryz.underlying3 rfl ((hb.cell (World.block_lt_of_cell? wr _ ec)).trans ec)) (fun _ _ => rfl)) ?_
          refine And.intro (ob_assign rfl (wt_none rfl) (ev_dep (j := 0) (by kernel_rfl) rfl rfl) (fun _ _ h => h)) ?_
          refine And.intro (ob_assign rfl (wt_none rfl) (ev_dep (j := 2) (by kernel_rfl) rfl rfl) (fun _ _ h => h)) ?_
          trivial
        case done1 =>
          refine fun w3 hb3 v0 h0 v1 h1 v2 h2 v3 h3 v4 h4 b hbf => ?_
          obtain rfl := h0; obtain rfl := h1; obtain rfl := h2; obtain rfl := h3; obtain rfl := h4
          simp only [Act.put, List.setIfInBounds_toArray, List.set_cons_zero, List.set_cons_succ] at hbf
          subst hbf
          replace RN := RN.below hb3
          replace bb := bb.trans (hb3.mono bb.size)
          have hsz3 := bb.size
          refine ops_done ?_
          clear ec hcell
          have sB := bb.size
          go_upto_region 9 with (fail)
          refine flowp 5 [Pd.eq (.slice (some ⟨g, 0, none⟩) l.length l.length), Pd.eq (.int .i64 (k : Int)), Pd.eq (.int .i64 z), pq (mkRat z 1) w3.heap.size, Pd.eq (.pointer (some ⟨g, 0 + k * 3, none⟩))] (by kernel_rfl) ?ob2 ?done2
          case ob2 =>
            refine And.intro (ob_move rfl (wt_none rfl) (ev_far rfl rfl) (fun _ _ h => h)) ?_
            refine And.intro (ob_move rfl (wt_none rfl) (ev_far rfl rfl) (fun _ _ h => h)) ?_
            refine And.intro (ob_move rfl (wt_none rfl) (ev_far rfl rfl) (fun _ _ h => h)) ?_
            refine And.intro (ob_call1 rfl Tryz.func45 (by kernel_rfl) (wt_none rfl) (ev_dep (j := 2) (by kernel_rfl) rfl rfl) (fun w2 u0 hb h0 => by obtain rfl := h0; exact (HQZ.out ▸ of8_any z _ hz1 hz2).mono fun e w3 h => RetQ.pd h hb.size)) ?_
            refine And.intro (ob_indexAddr rfl (wt_none rfl) (ev_dep (j := 0) (by kernel_rfl) rfl rfl) (ev_dep (j := 1) (by kernel_rfl) rfl rfl) (fun _ _ _ hx hy => ⟨_, by rw [hx, hy]; exact index3 (k := k) Tryz.underlying22 (by kernel_rfl) hlt _, rfl⟩)) ?_
            trivial
          case done2 =>
            refine fun w4 hb4 v0 h0 v1 h1 v2 h2 v3 h3 v4 h4 b hbf => ?_
            obtain rfl := h0; obtain rfl := h1; obtain rfl := h2; obtain rfl := h4
            obtain ⟨q3, f3⟩ := h3
            simp only [Act.put, List.setIfInBounds_toArray, List.set_cons_zero, List.set_cons_succ] at hbf
            subst hbf
            replace RN := RN.below hb4
            replace bb := bb.trans (hb4.mono bb.size)
            have hsz4 := bb.size
            have s_3 := sB
            obtain ⟨u3, t3, rfl, q3, d3⟩ := q3
            obtain ⟨A9, c9, rfl, _⟩ := id q3
            obtain ⟨D9, e9, rfl, _⟩ := id d3
            refine ops_store_q (j := 5) rfl rfl rfl rfl (g := g) (i := k) (q := (mkRat z 1)) rfl rfl (by kernel_rfl) RN hlt q3 d3 fun w5 hg5 hP5 => ?_
            replace bb := bb.trans ((Below.refl _ _).grown hg5 bb.size (fun g hg => by injection hg with hg; omega))
            have hsz5 := bb.size
            replace RN := hP5.1 HLK.out
            clear hP5
            refine ops_done ?_
            rw [← HTK.out] at RN
            go_wp2
            go_roundw
            case rel => exact ⟨k + 1, by omega, HA2, RN, bb, by go_num⟩
            case measure => simp [intOf]; omega
    · have HAL : Hid (∀ z ∈ l, ¬ z < 0) := by have := HA.out; rwa [List.take_of_length_le (by omega)] at this
      have HNN : Hid (¬ ∃ z ∈ l, z < 0) := fun ⟨z, hz, h⟩ => HAL.out z hz h
      rw [List.take_of_length_le (by rw [HRL.out]; omega)] at RN
      have hS := RN.sl HRL.out (by omega)
      obtain ⟨s, hs⟩ : ∃ s, s = sumq (ratsI l) := ⟨_, rfl⟩
      have HS := Lib.hid hs
      rw [← hs] at lsum
      by_cases hs0 : s = 0
      · have HW : Hid (n = 3) := by show _ = _; rw [HN.out, sharesE, if_neg HNE.out, if_neg HNN.out, if_pos (HS.out ▸ hs0)]
        have HZ := Lib.hid hs0
        clear hs0 hs
        have sB := bb.size
        go_upto_region 11 with (fail)
        refine flowp 7 [Pd.eq (.slice (some ⟨g, 0, none⟩) l.length l.length), pqn (s), Pd.eq (.tuple #[.agg #[.bool false, .slice none 0 0, .slice none 0 0], .int .i64 3]), Pd.eq (.tuple #[.agg #[.bool false, .slice none 0 0, .slice none 0 0], .int .i64 3]), Pd.eq (.agg #[.bool false, .slice none 0 0, .slice none 0 0]), Pd.eq (.int .i64 3), pn 28 #[.bool false, .slice none 0 0, .slice none 0 0] wr.heap.size] (by kernel_rfl) ?ob3 ?done3
        case ob3 =>
          refine And.intro (ob_move rfl (wt_none rfl) (ev_far rfl rfl) (fun _ _ h => h)) ?_
          refine And.intro (ob_call1 rfl Tryz.func12 (by kernel_rfl) (wt_none rfl) (ev_dep (j := 0) (by kernel_rfl) rfl rfl) (fun w2 u0 hb h0 => by obtain rfl := h0; exact (HS.out ▸ fsum_any _ (ratsI l) 2 _ (hS.below hb) ⟨HR2.out, by rw [HRL.out]; omega⟩).mono fun e w3 h => RetQn.pd h)) ?_
          refine And.intro (ob_call1 rfl Tryz.func60 (by kernel_rfl) (wt_none rfl) (ev_dep (j := 1) (by kernel_rfl) rfl rfl) (fun w2 u0 hb h0 => by exact (finv_zero _ s _ h0 HZ.out).mono fun e w3 h => RetQN.pd h)) ?_
          refine And.intro (ob_move rfl (wt_none rfl) (ev_dep (j := 2) (by kernel_rfl) rfl rfl) (fun _ _ h => h)) ?_
          refine And.intro (ob_extract rfl (wt_none rfl) (ev_dep (j := 3) (by kernel_rfl) rfl rfl) (fun w2 u hu => by obtain rfl := hu; exact ⟨_, rfl, rfl⟩)) ?_
          refine And.intro (ob_extract rfl (wt_none rfl) (ev_dep (j := 3) (by kernel_rfl) rfl rfl) (fun w2 u hu => by obtain rfl := hu; exact ⟨_, rfl, rfl⟩)) ?_
          refine And.intro (ob_alloc (z := .agg #[.bool false, .slice none 0 0, .slice none 0 0]) rfl rfl (fun _ => by kernel_rfl) (fun _ _ hB h => ⟨_, rfl, hB, h⟩)) ?_
          trivial
        case done3 =>
          refine fun w3 hb3 v0 h0 v1 h1 v2 h2 v3 h3 v4 h4 v5 h5 v6 h6 d6 b hbf => ?_
          obtain rfl := h0; obtain rfl := h2; obtain rfl := h3; obtain rfl := h4; obtain rfl := h5
          have q1 := h1
          obtain ⟨g3_6, rfl, hg6, B6⟩ := h6
          simp only [Act.put, List.setIfInBounds_toArray, List.set_cons_zero, List.set_cons_succ] at hbf
          subst hbf
          replace RN := RN.below hb3
          replace hS := hS.below hb3
          replace bb := bb.trans (hb3.mono bb.size)
          have hsz3 := bb.size
          have BA7 := B6
          refine ops_store (i := 7) rfl rfl rfl rfl rfl rfl (cells := [.bool false, .slice none 0 0, .slice none 0 0]) rfl BA7 rfl (by kernel_rfl) (one3 rfl rfl rfl) fun w4 hg4 BN4 => ?_
          replace bb := bb.trans ((Below.refl _ _).grown hg4 bb.size (fun g hg => by injection hg with hg; omega))
          have hsz4 := bb.size
          replace BA7 : Blk w4 (g3_6) _ #[.bool false, .slice none 0 0, .slice none 0 0] := BN4
          refine ops_assign (i := 8) (.int .i64 3) rfl rfl rfl rfl rfl fun b hbf => ?_
          simp only [Act.put, List.setIfInBounds_toArray, List.set_cons_zero, List.set_cons_succ] at hbf
          subst hbf
          refine ops_done ?_
          go_wp2
          go_ret2
          exact .inr ⟨by rw [HW.out]; decide, by rw [HW.out]; rfl, bb⟩
      · have HW : Hid (n = 0) := by show _ = _; rw [HN.out, sharesE, if_neg HNE.out, if_neg HNN.out, if_neg (HS.out ▸ hs0)]
        have HZ := Lib.hid hs0
        have HDV : Hid (∀ q : Rat, q * s⁻¹ = q / s) := fun q => (Rat.div_def q s).symm
        have HSL : Hid (sharesL l = (ratsI l).map (· / s)) := by show _ = _; rw [sharesL, HS.out]
        have HLL : Hid ((sharesL l).length = (ratsI l).length) := by show _ = _; rw [HSL.out, List.length_map]
        clear hs0 hs
        have sB := bb.size
        go_upto_region 11 with (fail)
        refine flowp 7 [Pd.eq (.slice (some ⟨g, 0, none⟩) l.length l.length), pqn (s), pqe (s⁻¹) 0, pqe (s⁻¹) 0, pqn (s⁻¹), Pd.eq (.int .i64 0), pn 28 #[.bool false, .slice none 0 0, .slice none 0 0] wr.heap.size] (by kernel_rfl) ?ob4 ?done4
        case ob4 =>
          refine And.intro (ob_move rfl (wt_none rfl) (ev_far rfl rfl) (fun _ _ h => h)) ?_
          refine And.intro (ob_call1 rfl Tryz.func12 (by kernel_rfl) (wt_none rfl) (ev_dep (j := 0) (by kernel_rfl) rfl rfl) (fun w2 u0 hb h0 => by obtain rfl := h0; exact (HS.out ▸ fsum_any _ (ratsI l) 2 _ (hS.below hb) ⟨HR2.out, by rw [HRL.out]; omega⟩).mono fun e w3 h => RetQn.pd h)) ?_
          refine And.intro (ob_call1 rfl Tryz.func60 (by kernel_rfl) (wt_none rfl) (ev_dep (j := 1) (by kernel_rfl) rfl rfl) (fun w2 u0 hb h0 => by exact (finv_ok _ s _ h0 lsum HZ.out).mono fun e w3 h => RetQE.pd h)) ?_
          refine And.intro (ob_move rfl (wt_none rfl) (ev_dep (j := 2) (by kernel_rfl) rfl rfl) (fun _ _ h => h)) ?_
          refine And.intro (ob_extract rfl (wt_none rfl) (ev_dep (j := 3) (by kernel_rfl) rfl rfl) (fun w2 u hu => by obtain ⟨v, rfl, q1⟩ := hu; exact ⟨v, rfl, q1⟩)) ?_
          refine And.intro (ob_extract rfl (wt_none rfl) (ev_dep (j := 3) (by kernel_rfl) rfl rfl) (fun w2 u hu => by obtain ⟨v, rfl, q1⟩ := hu; exact ⟨_, rfl, rfl⟩)) ?_
          refine And.intro (ob_alloc (z := .agg #[.bool false, .slice none 0 0, .slice none 0 0]) rfl rfl (fun _ => by kernel_rfl) (fun _ _ hB h => ⟨_, rfl, hB, h⟩)) ?_
          trivial
        case done4 =>
          refine fun w3 hb3 v0 h0 v1 h1 v2 h2 v3 h3 v4 h4 v5 h5 v6 h6 d6 b hbf => ?_
          obtain rfl := h0; obtain rfl := h5
          have q1 := h1
          clear h2
          clear h3
          have q4 := h4
          obtain ⟨g4_6, rfl, hg6, B6⟩ := h6
          simp only [Act.put, List.setIfInBounds_toArray, List.set_cons_zero, List.set_cons_succ] at hbf
          subst hbf
          replace RN := RN.below hb3
          replace hS := hS.below hb3
          replace bb := bb.trans (hb3.mono bb.size)
          have hsz3 := bb.size
          have BA7 := B6
          obtain ⟨u4, t4, rfl, q4, d4⟩ := q4
          obtain ⟨A7, c7, rfl, _⟩ := id q4
          obtain ⟨D7, e7, rfl, _⟩ := id d4
          refine ops_store (i := 7) rfl rfl rfl rfl rfl rfl (cells := [.bool (ngB (s⁻¹).num), .slice A7 (digs 4294967296 (s⁻¹).num.natAbs).length c7, .slice D7 (digs 4294967296 (s⁻¹).den).length e7]) rfl BA7 rfl (by kernel_rfl) (one3 rfl rfl rfl) fun w4 hg4 BN4 => ?_
          replace q4 := off q4 BA7 no_ints3 hg4
          replace d4 := off d4 BA7 no_ints3 hg4
          replace RN := RowN.offb RN BA7 no_ints3 hg4 (by omega)
          replace bb := bb.trans ((Below.refl _ _).grown hg4 bb.size (fun g hg => by injection hg with hg; omega))
          have hsz4 := bb.size
          have B7 : Blk w4 (g4_6) _ _ := BN4
          have k7s := q4
          have k7d := d4
          have k7z : IsZ w4 (.agg #[.bool (ngB (s⁻¹).num), .slice A7 (digs 4294967296 (s⁻¹).num.natAbs).length c7]) ((s⁻¹).num) := ⟨_, rfl, k7s⟩
          have k7 : IsQ w4 (.agg #[.bool (ngB (s⁻¹).num), .slice A7 (digs 4294967296 (s⁻¹).num.natAbs).length c7, .slice D7 (digs 4294967296 (s⁻¹).den).length e7]) (s⁻¹) := ⟨_, _, rfl, k7s, k7d⟩
          refine ops_assign (i := 8) (.int .i64 0) rfl rfl rfl rfl rfl fun b hbf => ?_
          simp only [Act.put, List.setIfInBounds_toArray, List.set_cons_zero, List.set_cons_succ] at hbf
          subst hbf
          refine ops_done ?_
          have linv : lenQ s⁻¹ 1000 := lenQ_inv HZ.out lsum
          have hne7 : g ≠ g4_6 := by omega
          go_wp2
          go_loopw [43] (fun v43 wr => ∃ k : Nat, k ≤ l.length ∧ RowN wr g l.length ((sharesL l).take k ++ (ratsI l).drop k) ∧ HoldQ wr g4_6 s⁻¹ ∧ Below w.heap.size w wr ∧ v43 = .int .i64 (k : Int)) (fun v43 _ => l.length - (intOf v43).toNat)
          case atStart => exact ⟨0, by omega, by simpa using RN, ⟨_, _, B7, k7s, k7d⟩, bb, rfl⟩
          case round =>
            obtain ⟨k, hk, hR, hH, hbw, rfl⟩ := hrel
            clear RN bb hgl B7 k7s k7d k7z k7
            have RN := hR
            have bb := hbw
            clear hR hbw
            have hszr := bb.size
            have hgl := RN.lt
            obtain ⟨u7, t7, B7, k7s, k7d⟩ := hH
            obtain ⟨A7, c7, rfl, _⟩ := id k7s
            obtain ⟨D7, e7, rfl, _⟩ := id k7d
            have k7z : IsZ wr (.agg #[.bool (ngB ((s⁻¹)).num), .slice A7 (digs 4294967296 ((s⁻¹)).num.natAbs).length c7]) ((s⁻¹)).num := ⟨_, rfl, k7s⟩
            have k7 : IsQ wr (.agg #[.bool (ngB ((s⁻¹)).num), .slice A7 (digs 4294967296 ((s⁻¹)).num.natAbs).length c7, .slice D7 (digs 4294967296 ((s⁻¹)).den).length e7]) ((s⁻¹)) := ⟨_, _, rfl, k7s, k7d⟩
            have hG7 := B7.lt
            by_cases hlt2 : k < l.length
            · obtain ⟨q, hq⟩ : ∃ q, (ratsI l)[k]? = some q := ⟨_, List.getElem?_eq_getElem (by rw [HRL.out]; exact hlt2)⟩
              have lq : lenQ q 2 := HR2.out q (List.mem_of_getElem? hq)
              have HAT : Hid (((sharesL l).take k ++ (ratsI l).drop k)[k]? = some q) := front_at hq HLL.out
              have HSK : Hid ((sharesL l)[k]? = some (q * s⁻¹)) := by show _ = _; rw [HSL.out, List.getElem?_map, hq, HDV.out]; rfl
              have HFS : Hid (((sharesL l).take k ++ (ratsI l).drop k).set k (q * s⁻¹) = (sharesL l).take (k + 1) ++ (ratsI l).drop (k + 1)) := front_set HSK.out HLL.out
              have HFL : Hid (k < ((sharesL l).take k ++ (ratsI l).drop k).length) := by show _ < _; rw [front_len _ _ _ HLL.out, HRL.out]; exact hlt2
              clear hq
              obtain ⟨uq, tq, hltq, zq0, zq1, zq2, zqs, zqd⟩ := RN.at_ HAT.out
              obtain ⟨Aq, cq, rfl, _⟩ := id zqs
              obtain ⟨Dq, eq, rfl, _⟩ := id zqd
              have zq : IsQ wr (.agg #[.bool (ngB (q).num), .slice Aq (digs 4294967296 (q).num.natAbs).length cq, .slice Dq (digs 4294967296 (q).den).length eq]) (q) := ⟨_, _, rfl, zqs, zqd⟩
              have sB := bb.size
              go_upto_region 16 with (fail)
              have lt5_7 := Blk.lt B7
              refine flowp 5 [Pd.eq (.int .i64 (k : Int)), Pd.eq (.pointer (some ⟨g, 0 + k * 3, none⟩)), Pd.eq (.agg #[.bool (ngB (q).num), .slice Aq (digs 4294967296 (q).num.natAbs).length cq, .slice Dq (digs 4294967296 (q).den).length eq]), pn 28 #[.bool false, .slice none 0 0, .slice none 0 0] wr.heap.size, Pd.eq (.int .i64 (k : Int))] (by kernel_rfl) ?ob5 ?done5
              case ob5 =>
                refine And.intro (ob_move rfl (wt_none rfl) (ev_far rfl rfl) (fun _ _ h => h)) ?_
                refine And.intro (ob_indexAddr rfl (wt_none rfl) (ev_far rfl rfl) (ev_far rfl rfl) (fun _ _ _ hx hy => ⟨_, by rw [hx, hy]; exact index3 (k := k) Tryz.underlying22 (by kernel_rfl) hltq _, rfl⟩)) ?_
                refine And.intro (ob_load rfl (wt_none rfl) (ev_dep (j := 1) (by kernel_rfl) rfl rfl) (fun w2 hb => load3 Tryz.underlying28 rfl (by kernel_rfl) ((hb.cell (World.block_lt_of_cell? wr _ zq0)).trans zq0) ((hb.cell (World.block_lt_of_cell? wr _ zq1)).trans zq1) ((hb.cell (World.block_lt_of_cell? wr _ zq2)).trans zq2)) (fun _ _ => rfl)) ?_
                refine And.intro (ob_alloc (z := .agg #[.bool false, .slice none 0 0, .slice none 0 0]) rfl rfl (fun _ => by kernel_rfl) (fun _ _ hB h => ⟨_, rfl, hB, h⟩)) ?_
                refine And.intro (ob_assign rfl (wt_none rfl) (ev_dep (j := 0) (by kernel_rfl) rfl rfl) (fun _ _ h => h)) ?_
                trivial
              case done5 =>
                refine fun w6 hb6 v0 h0 v1 h1 v2 h2 v3 h3 d3 v4 h4 b hbf => ?_
                obtain rfl := h0; obtain rfl := h1; obtain rfl := h2; obtain rfl := h4
                obtain ⟨g5_3, rfl, hg3, B3⟩ := h3
                simp only [Act.put, List.setIfInBounds_toArray, List.set_cons_zero, List.set_cons_succ] at hbf
                subst hbf
                replace B7 := B7.below hb6
                replace k7s := k7s.below hb6
                replace k7d := k7d.below hb6
                replace k7z := k7z.below hb6
                replace k7 := k7.below hb6
                replace RN := RN.below hb6
                replace zqs := zqs.below hb6
                replace zqd := zqd.below hb6
                replace bb := bb.trans (hb6.mono bb.size)
                have hsz6 := bb.size
                have BA10 := B3
                have q2 := zqs
                have d2 := zqd
                refine ops_store (i := 5) rfl rfl rfl rfl rfl rfl (cells := [.bool (ngB (q).num), .slice Aq (digs 4294967296 (q).num.natAbs).length cq, .slice Dq (digs 4294967296 (q).den).length eq]) rfl BA10 rfl (by kernel_rfl) (one3 rfl rfl rfl) fun w7 hg7 BN7 => ?_
                replace q2 := off q2 BA10 no_ints3 hg7
                replace d2 := off d2 BA10 no_ints3 hg7
                replace RN := RowN.offb RN BA10 no_ints3 hg7 (by omega)
                replace k7s := off k7s BA10 no_ints3 hg7
                replace k7d := off k7d BA10 no_ints3 hg7
                replace k7z : IsZ w7 (.agg #[.bool (ngB ((s⁻¹)).num), .slice A7 (digs 4294967296 ((s⁻¹)).num.natAbs).length c7]) (((s⁻¹)).num) := ⟨_, rfl, k7s⟩
                replace k7 : IsQ w7 (.agg #[.bool (ngB ((s⁻¹)).num), .slice A7 (digs 4294967296 ((s⁻¹)).num.natAbs).length c7, .slice D7 (digs 4294967296 ((s⁻¹)).den).length e7]) ((s⁻¹)) := ⟨_, _, rfl, k7s, k7d⟩
                replace B7 := B7.grown hg7 (by omega)
                replace bb := bb.trans ((Below.refl _ _).grown hg7 bb.size (fun g hg => by injection hg with hg; omega))
                have hsz7 := bb.size
                have Bq : Blk w7 (g5_3) _ _ := BN7
                have kqs := q2
                have kqd := d2
                have kqz : IsZ w7 (.agg #[.bool (ngB (q).num), .slice Aq (digs 4294967296 (q).num.natAbs).length cq]) ((q).num) := ⟨_, rfl, kqs⟩
                have kq : IsQ w7 (.agg #[.bool (ngB (q).num), .slice Aq (digs 4294967296 (q).num.natAbs).length cq, .slice Dq (digs 4294967296 (q).den).length eq]) (q) := ⟨_, _, rfl, kqs, kqd⟩
                refine ops_done ?_
                have sB := bb.size
                go_upto_region 17 with (fail)
                refine flowp 6 [Pd.eq (.slice (some ⟨g, 0, none⟩) l.length l.length), Pd.eq (.int .i64 (k : Int)), Pd.eq (.agg #[.bool (ngB (q).num), .slice Aq (digs 4294967296 (q).num.natAbs).length cq, .slice Dq (digs 4294967296 (q).den).length eq]), Pd.eq (.agg #[.bool (ngB ((s⁻¹)).num), .slice A7 (digs 4294967296 ((s⁻¹)).num.natAbs).length c7, .slice D7 (digs 4294967296 ((s⁻¹)).den).length e7]), pq ((q * s⁻¹)) w7.heap.size, Pd.eq (.pointer (some ⟨g, 0 + k * 3, none⟩))] (by kernel_rfl) ?ob6 ?done6
                case ob6 =>
                  refine And.intro (ob_move rfl (wt_none rfl) (ev_far rfl rfl) (fun _ _ h => h)) ?_
                  refine And.intro (ob_move rfl (wt_none rfl) (ev_far rfl rfl) (fun _ _ h => h)) ?_
                  refine And.intro (ob_load rfl (wt_none rfl) (ev_far rfl rfl) (fun w2 hb => run_loadAll Tryz.underlying28 rfl (by kernel_rfl) (Bq.below hb)) (fun _ _ => rfl)) ?_
                  refine And.intro (ob_load rfl (wt_none rfl) (ev_far rfl rfl) (fun w2 hb => run_loadAll Tryz.underlying28 rfl (by kernel_rfl) (B7.below hb)) (fun _ _ => rfl)) ?_
                  refine And.intro (ob_call2 rfl Tryz.func49 (by kernel_rfl) (wt_none rfl) (ev_dep (j := 2) (by kernel_rfl) rfl rfl) (ev_dep (j := 3) (by kernel_rfl) rfl rfl) (fun w2 u0 u1 hb h0 h1 => by obtain rfl := h0; obtain rfl := h1; exact (mul8_any _ q _ s⁻¹ _ (kq.below hb) (k7.below hb) (lq.mono (by decide)) (linv.mono (by decide))).mono fun e w3 h => RetQ.pd h hb.size)) ?_
                  refine And.intro (ob_indexAddr rfl (wt_none rfl) (ev_dep (j := 0) (by kernel_rfl) rfl rfl) (ev_dep (j := 1) (by kernel_rfl) rfl rfl) (fun _ _ _ hx hy => ⟨_, by rw [hx, hy]; exact index3 (k := k) Tryz.underlying22 (by kernel_rfl) hlt2 _, rfl⟩)) ?_
                  trivial
                case done6 =>
                  refine fun w8 hb8 v0 h0 v1 h1 v2 h2 v3 h3 v4 h4 v5 h5 b hbf => ?_
                  obtain rfl := h0; obtain rfl := h1; obtain rfl := h2; obtain rfl := h3; obtain rfl := h5
                  obtain ⟨q4, f4⟩ := h4
                  simp only [Act.put, List.setIfInBounds_toArray, List.set_cons_zero, List.set_cons_succ] at hbf
                  subst hbf
                  replace B7 := B7.below hb8
                  replace k7s := k7s.below hb8
                  replace k7d := k7d.below hb8
                  replace k7z := k7z.below hb8
                  replace k7 := k7.below hb8
                  replace Bq := Bq.below hb8
                  replace kqs := kqs.below hb8
                  replace kqd := kqd.below hb8
                  replace kqz := kqz.below hb8
                  replace kq := kq.below hb8
                  replace RN := RN.below hb8
                  replace bb := bb.trans (hb8.mono bb.size)
                  have hsz8 := bb.size
                  have s_4 := sB
                  obtain ⟨u4, t4, rfl, q4, d4⟩ := q4
                  obtain ⟨A9, c9, rfl, _⟩ := id q4
                  obtain ⟨D9, e9, rfl, _⟩ := id d4
                  refine ops_store_q (j := 6) rfl rfl rfl rfl (g := g) (i := k) (q := (q * s⁻¹)) rfl rfl (by kernel_rfl) RN hlt2 q4 d4 fun w9 hg9 hP9 => ?_
                  replace k7s := RN.keep hg9 k7s
                  replace k7d := RN.keep hg9 k7d
                  replace k7z : IsZ w9 (.agg #[.bool (ngB ((s⁻¹)).num), .slice A7 (digs 4294967296 ((s⁻¹)).num.natAbs).length c7]) (((s⁻¹)).num) := ⟨_, rfl, k7s⟩
                  replace k7 : IsQ w9 (.agg #[.bool (ngB ((s⁻¹)).num), .slice A7 (digs 4294967296 ((s⁻¹)).num.natAbs).length c7, .slice D7 (digs 4294967296 ((s⁻¹)).den).length e7]) ((s⁻¹)) := ⟨_, _, rfl, k7s, k7d⟩
                  replace B7 := B7.grown hg9 (by omega)
                  replace kqs := RN.keep hg9 kqs
                  replace kqd := RN.keep hg9 kqd
                  replace kqz : IsZ w9 (.agg #[.bool (ngB (q).num), .slice Aq (digs 4294967296 (q).num.natAbs).length cq]) ((q).num) := ⟨_, rfl, kqs⟩
                  replace kq : IsQ w9 (.agg #[.bool (ngB (q).num), .slice Aq (digs 4294967296 (q).num.natAbs).length cq, .slice Dq (digs 4294967296 (q).den).length eq]) (q) := ⟨_, _, rfl, kqs, kqd⟩
                  replace Bq := Bq.grown hg9 (by omega)
                  replace bb := bb.trans ((Below.refl _ _).grown hg9 bb.size (fun g hg => by injection hg with hg; omega))
                  have hsz9 := bb.size
                  replace RN := hP9.2 HFL.out
                  clear hP9
                  refine ops_done ?_
                  rw [HFS.out] at RN
                  have hsk : l.length - (k + 1) < l.length - k := by omega
                  go_wp2
                  go_roundw
                  case rel => exact ⟨k + 1, by omega, RN, ⟨_, _, B7, k7s, k7d⟩, bb, by go_num⟩
                  case measure => simp [intOf]; omega
            · have HE : Hid ((sharesL l).take k ++ (ratsI l).drop k = sharesL l) := by
                show _ = _
                rw [List.take_of_length_le (by rw [HLL.out, HRL.out]; omega), List.drop_eq_nil_of_le (by rw [HRL.out]; omega), List.append_nil]
              rw [HE.out] at RN
              have HLS : Hid ((sharesL l).length = l.length) := by show _ = _; rw [HLL.out, HRL.out]
              rw [← HLS.out] at RN
              go_wp2
              go_ret2
              exact .inl ⟨HW.out, g, by rw [HLS.out]; rfl, RN, hg, bb⟩
/-- Shares of any weights. -/
theorem fshares_both (a0 : Value) (l : List Int) (w : World) (h0 : IsI w a0 l) (hl : l.length ≤ 300) : Calls Tryz.prog 27 #[a0] w (fun e w' => (sharesE l = 0 ∧ RetRN (sharesL l) w e w') ∨ (sharesE l ≠ 0 ∧ RetNN (sharesE l) w e w')) := by
  by_cases h : l = []
  · subst h; exact (fshares_nil a0 w h0).mono fun e w' k => .inr ⟨by decide, k⟩
  · exact fshares_some a0 l _ w h0 h hl rfl
theorem fshares_any (a0 : Value) (l : List Int) (w : World) (h0 : IsI w a0 l) (hl : l.length ≤ 300) : Calls Tryz.prog 27 #[a0] w (RetQLE (sharesL l) (sharesE l) w) :=
  (fshares_both a0 l w h0 hl).mono fun e w' k => by
    rcases k with ⟨h, g, he, hR, _, hb⟩ | ⟨h, he, hb⟩
    · exact ⟨_, by rw [he, h], by rw [if_pos h]; exact hR.sl rfl (by rw [sharesL_len]; omega), hb⟩
    · exact ⟨_, he, by rw [if_neg h]; exact slF_nil _ _ _, hb⟩
end Go.Proofs.YtlnmoledijlemaaGreat.rat
namespace Go.Proofs.YtlnmoledijlemaaGreat.flow
open Go.RowKit Go.Proofs.YtlnmoledijlemaaGreat.num Go.Proofs.YtlnmoledijlemaaGreat.mem Go.Proofs.YtlnmoledijlemaaGreat.rat
set_option linter.unusedVariables false
/-- An empty row of the call's own; these ints. -/
def Row0 (w : World) (B : Nat) (e : TypeId) (v : Value) : Prop := ∃ g, v = .slice (some ⟨g, 0, none⟩) 0 0 ∧ RowV w B e v []
def prow (e : TypeId) (B : Nat) : Pd := ⟨fun w v => Row0 w B e v, fun h hb => by obtain ⟨g, h1, h2⟩ := h; exact ⟨g, h1, h2.below hb⟩⟩
def pil (l : List Int) : Pd := ⟨fun w v => IsI w v l, fun h hb => h.below hb⟩
section
variable {P : Program} {Q : Exit → Act → World → Prop} {ops : Array Oper} {L : List Oper} {Φ : List Pd} {w0 : World} {a0 : Act} {i : Nat} {o : Oper}
theorem ob_row0 {t e : TypeId} (hop : o.op = .buildSlice t 0 #[]) (hg : o.guard = none) (hu : P.underlying t = some (.slice e)) (hI : (P.info? e).isSome = true) (hF : ∀ w v, w0.heap.size ≤ w.heap.size → Row0 w w0.heap.size e v → (ph Φ i).p w v) : Ob P Q ops L Φ w0 a0 i o := by
  intro ms w hS
  rw [if_pos (wt_none (ops := ops) (L := L) (Φ := Φ) (w0 := w0) (a0 := a0) hg ms w hS)]
  obtain ⟨inf, hi⟩ := Option.isSome_iff_exists.1 hI
  have hr : (execOp (putM a0 L ms).eval o).run P w = .ok (.value (.slice (some ⟨w.heap.size, 0, none⟩) 0 0)) (w.alloc (.cells #[] e)) := by
    unfold execOp
    simp [hop, go_sem, run_underlying hu, sizeOf, typeInfo, hi, newRow]
  unfold Oper.wp
  rw [hr]
  exact ⟨_, rfl, below_alloc (Nat.le_refl _) _, hF _ _ (Nat.le_trans hS.below.size (by simp)) ⟨_, rfl, rowV_lit0 w w0.heap.size e hS.below.size⟩, fun h => by unfold isA at h; rw [hop] at h; cases h⟩
/-- An append to an empty row of no room: a new row, or none. -/
theorem run_append_row0 {w : World} {base g : Nat} {t ty e : TypeId} (hT : P.underlying t = some (.slice e)) (hI : ∃ i, P.info? e = some i ∧ i.zero = some (.int .i64 0) ∧ i.size = 1 ∧ i.bytes = 8) {news : List Value} (hown : RowV w base e (.slice (some ⟨g, 0, none⟩) 0 0) []) {A : Option Addr} {m c : Nat} (hm : m = news.length)
    (hr : ∀ (i : Nat) (u : Value), news[i]? = some u → ∃ ad, A = some ad ∧ w.cell? (ad.add i) = some u) (h1 : ∀ u ∈ news, u.oneCell' = true) (hlen : m ≤ 1000) (hbase : base ≤ w.heap.size) :
    ∃ v' w', (Builtin.append_ #[t, t] ty #[.slice (some ⟨g, 0, none⟩) 0 0, .slice A m c]).run P w = .ok v' w' ∧ RowV w' base e v' news ∧ Below w.heap.size w w' := by
  obtain ⟨inf, hi, hz, hs, hb⟩ := id hI
  subst hm
  rcases news with _ | ⟨d, news⟩
  · refine ⟨.slice (some ⟨g, 0, none⟩) 0 0, w, ?_, hown, Below.refl _ _⟩
    cases A <;> simp [Builtin.append_, run_underlying hT, sizeOf, typeInfo, hi, Builtin.lenOf, Builtin.firstCells, loadCells, loadCellsFrom, storeCells]
  · obtain ⟨ad, rfl, _⟩ := hr 0 d rfl
    have hcells : ∀ j u, (d :: news)[j]? = some u → w.cell? (ad.add j) = some u := by
      intro j u hu
      obtain ⟨ad', h, hc⟩ := hr j u hu
      injection h with h; subst h; exact hc
    obtain ⟨v', w', g1, g2, _⟩ := run_append_own_at (P := P) w base t ty e inf (.int .i64 0) 1 8 hT hi hz hs hb rfl (by decide) _ 0 [] hown ad (d :: news).length c (d :: news) (by simp) hcells h1 (by unfold maxLen; omega) (by omega) hbase
    have hg := run_append_grow (P := P) w t ty e inf (.int .i64 0) hT hi hz ⟨g, 0, none⟩ 0 0 [] (by simp) (by intro j u h; simp at h) ad (d :: news).length c (d :: news) (by rw [hs]; simp) hcells (by simp) (by have := hlen; omega) (growslice_fits (by simp) (by have := hlen; rw [hb]; omega))
    rw [hg] at g1
    injection g1 with e1 e2
    refine ⟨v', w', by rw [hg, e1, e2], by simpa [RowV] using g2, ?_⟩
    rw [← e2]
    exact (Below.refl _ w).drew.alloc (by simp) _
theorem ob_append_int {s x : Operand} {t e : TypeId} {l : List Int} (hop : o.op = .call { callee := .builtin .append, args := #[s, x], argTypes := #[t, t] }) {F G : World → Value → Prop} (hw : Wt ops L Φ w0 a0 o true) (hs : Ev L Φ w0 a0 o s F) (hx : Ev L Φ w0 a0 o x G) (hsF : ∀ w v, F w v → Row0 w w0.heap.size e v) (hxG : ∀ w v, Below w0.heap.size w0 w → G w v → IsI w v l)
    (hT : P.underlying t = some (.slice e)) (hI : ∃ i, P.info? e = some i ∧ i.zero = some (.int .i64 0) ∧ i.size = 1 ∧ i.bytes = 8) (hl : l.length ≤ 1000) (hF : ∀ w v, IsI w v l → (ph Φ i).p w v) : Ob P Q ops L Φ w0 a0 i o := by
  intro ms w hS
  rw [if_pos (hw ms w hS)]
  have h1 := hsF _ _ (hs ms w hS)
  have h2 := hxG _ _ hS.below (hx ms w hS)
  generalize hu : (putM a0 L ms).eval x = u at h2
  obtain ⟨A, c, rfl, _, _⟩ := h2.shape
  have hzb : ∀ z ∈ l, -9223372036854775808 ≤ z ∧ z ≤ 9223372036854775807 := by obtain ⟨_, _, _, _, _, hz, _⟩ := h2; exact hz
  obtain ⟨g, hv, hrow⟩ := h1
  generalize hsv : (putM a0 L ms).eval s = sv at hv hrow
  subst hv
  obtain ⟨v', w', hrun, hr, hb⟩ := run_append_row0 (P := P) (ty := o.type) hT hI hrow (c := c) (by rw [vi_len]) h2.news (vi_one l) (by omega) hS.below.size
  unfold Oper.wp execOp
  simp only [hop, resolve, invoke, builtin, Sem.run_bind, Sem.run_pure, Result.andThen_ok, List.map_toArray, List.map_cons, List.map_nil, hsv, hu, hrun]
  exact ⟨v', rfl, hb, hF _ _ (RowV.isI hr hzb), fun h => by unfold isA at h; rw [hop] at h; cases h⟩
end
end Go.Proofs.YtlnmoledijlemaaGreat.flow
namespace Go.Proofs.YtlnmoledijlemaaGreat.rat
open Go.RowKit Go.Proofs.YtlnmoledijlemaaGreat.num Go.Proofs.YtlnmoledijlemaaGreat.mem Go.Proofs.YtlnmoledijlemaaGreat.nat Go.Proofs.YtlnmoledijlemaaGreat.txt Go.Proofs.YtlnmoledijlemaaGreat.str Go.Proofs.YtlnmoledijlemaaGreat.flow Go.Proofs.YtlnmoledijlemaaGreat.whl
theorem IsI.drew {w : World} {v : Value} {l : List Int} (h : IsI w v l) : IsI w.drew v l := h
theorem IsI.off {w w' : World} {v : Value} {l : List Int} {g : Nat} {e : TypeId} {cs : Array Value} (h : IsI w v l) (hB : w.heap[g]? = some (.cells cs e (0, 0))) (hno : ∀ c ∈ cs, ∀ n, c ≠ .int .i64 n) (hg : w.grownBy w' (some g)) : IsI w' v l := by
  obtain ⟨A, c, rfl, h1, h2, h3, h4⟩ := h
  refine ⟨A, c, rfl, h1, h2, h3, fun i z hz => ?_⟩
  obtain ⟨ad, rfl, hc⟩ := h4 i z hz
  refine ⟨ad, rfl, hg.cell hc fun e1 => ?_⟩
  injection e1 with e1
  have hcell : ∀ q : Addr, q.block = g → w.cell? q = some (.int .i64 z) → False := by
    intro p hp hpc
    unfold World.cell? at hpc
    rw [hp, hB] at hpc
    simp only [] at hpc
    split at hpc
    · cases hpc
    · exact hno _ (Array.mem_of_getElem? hpc) _ rfl
  exact hcell _ e1 hc
/-- A slice of these, and an error's number. -/
def psl (k : IntKind) (B : Nat) (L : List Rat) (n : Int) : Pd := ⟨fun w t => ∃ V, t = .tuple #[V, .int .i64 n] ∧ SlF k B w V L, fun h hb => by obtain ⟨V, e, h1⟩ := h; exact ⟨V, e, h1.below hb⟩⟩
def pslv (k : IntKind) (B : Nat) (L : List Rat) : Pd := ⟨fun w v => SlF k B w v L, fun h hb => h.below hb⟩
theorem RetQLE.pd {l : List Rat} {n : Int} {w : World} {e : Ending} {w' : World} (h : RetQLE l n w e w') : RetPd (psl .u64 4294967296 (if n = 0 then l else []) n) w e w' := by
  obtain ⟨V, h1, h2, h3⟩ := h
  exact ⟨_, h1, ⟨V, rfl, h2⟩, h3⟩
theorem RetLE.pd {l : List Rat} {n : Int} {w : World} {e : Ending} {w' : World} (h : RetLE l n w e w') : RetPd (psl .i64 10000 (if n = 0 then l else []) n) w e w' := by
  obtain ⟨V, h1, h2, h3⟩ := h
  exact ⟨_, h1, ⟨V, rfl, h2⟩, h3⟩
theorem bin_leq_int {P : Program} {t : TypeId} {k : IntKind} (x y : Operand) (a b : Int) (w : World) : (do eqGuard .leq t x y (.int k a) (.int k b); binOp .leq t (.int k a) (.int k b)).run P w = .ok (.bool (decide (a ≤ b))) w := by
  have h : (eqGuard .leq t x y (.int k a) (.int k b)).run P w = .ok () w := by simp [eqGuard]
  rw [Sem.run_bind, h, Result.andThen_ok]
  simp [binOp, Op.intCmp, go_sem]
theorem meanq_len {l : List Int} {y : List Rat} (hs : ∀ s ∈ sharesL l, lenQ s 27) (hy : ∀ q ∈ y, lenQ q 2) (hl : y.length ≤ 8) : lenQ (meanq l y) 241 := by
  have h : ∀ z ∈ List.zipWith (· * ·) (sharesL l) y, lenQ z 29 := by
    intro z hz
    obtain ⟨i, hi⟩ := List.mem_iff_getElem?.1 hz
    rw [List.getElem?_zipWith] at hi
    cases ha : (sharesL l)[i]? with
    | none => rw [ha] at hi; cases hi
    | some a =>
      cases hb : y[i]? with
      | none => rw [ha, hb] at hi; cases hi
      | some b =>
        rw [ha, hb] at hi
        obtain rfl := Option.some.inj hi
        exact lenQ_mul (hs a (List.mem_of_getElem? ha)) (hy b (List.mem_of_getElem? hb))
  exact (lenQ_sumq h).mono (by rw [List.length_zipWith]; omega)
theorem shares_len {l : List Int} (hz : ∀ z ∈ l, -9223372036854775808 ≤ z ∧ z ≤ 9223372036854775807) (hl : l.length ≤ 8) (hE : sharesE l = 0) : ∀ s ∈ sharesL l, lenQ s 27 := by
  intro s hs
  obtain ⟨x, hx, rfl⟩ := List.mem_map.1 hs
  obtain ⟨z, hz2, rfl⟩ := List.mem_map.1 hx
  have h0 : sumq (ratsI l) ≠ 0 := by
    intro h
    unfold sharesE at hE
    (repeat' split at hE) <;> first | (exact absurd hE (by decide)) | contradiction
  have h1 : lenQ (sumq (ratsI l)) 25 := (lenQ_sumq (m := 2) (fun q hq => by obtain ⟨z, hz3, rfl⟩ := List.mem_map.1 hq; exact lenQ_int (hz z hz3))).mono (by rw [ratsI_len]; omega)
  exact (lenQ_div h0 (lenQ_int (hz z hz2)) h1).mono (by omega)
set_option linter.unusedVariables false
set_option linter.unusedSimpArgs false
/-- A row of these, made by the call. -/
def prn (n : Nat) (qs : List Rat) (B : Nat) : Pd := ⟨fun w t => ∃ g, t = .tuple #[.slice (some ⟨g, 0, none⟩) n n, .int .i64 0] ∧ RowN w g n qs ∧ B ≤ g, fun h hb => by obtain ⟨g, e, h1, h2⟩ := h; exact ⟨g, e, h1.below hb, h2⟩⟩
def pro (n : Nat) (qs : List Rat) (B : Nat) : Pd := ⟨fun w v => ∃ g, v = .slice (some ⟨g, 0, none⟩) n n ∧ RowN w g n qs ∧ B ≤ g, fun h hb => by obtain ⟨g, e, h1, h2⟩ := h; exact ⟨g, e, h1.below hb, h2⟩⟩
theorem RetRN.pd {n : Nat} {qs : List Rat} {w : World} {e : Ending} {w' : World} {B : Nat} (h : RetRN qs w e w') (hn : qs.length = n) (hB : B ≤ w.heap.size) : RetPd (prn n qs B) w e w' := by
  obtain ⟨g, h1, h2, h3, h4⟩ := h
  rw [hn] at h1 h2
  exact ⟨_, h1, ⟨g, rfl, h2, Nat.le_trans hB h3⟩, h4⟩
theorem RetNN.pd {n : Int} {w : World} {e : Ending} {w' : World} (h : RetNN n w e w') : RetPd (Pd.eq (.tuple #[.slice none 0 0, .int .i64 n])) w e w' := ⟨_, h.1, rfl, h.2⟩
section
variable {P : Program} {Q : Exit → Act → World → Prop} {ops : Array Oper} {L : List Oper} {Φ : List Pd} {w0 : World} {a0 : Act} {i : Nat} {o : Oper}
end
/-- The variable's fraction is laid into the row: the variable stays as it is, even if it should be that row. -/
theorem HoldQ.row {w w' : World} {g G n : Nat} {ls : List Rat} {s : Rat} (h : HoldQ w G s) (hR : RowN w g n ls) (hg : w.grownBy w' (some g)) (hR' : RowN w' g n (ls ++ [s])) : HoldQ w' G s := by
  obtain ⟨u, t, h1, h2, h3⟩ := h
  by_cases e : g = G
  · subst e
    obtain ⟨ps, k1, k2, k3, k4, k5⟩ := id hR
    have e1 : ps.length = 1 := by
      unfold Blk at k3 h1
      rw [k3] at h1
      injection h1 with h1
      injection h1 with h1
      have := congrArg Array.size h1
      rw [List.size_toArray, flat3_len] at this
      simp at this
      omega
    obtain ⟨rs, r1, r2, r3, r4, r5⟩ := hR'
    have e2 : ls = [] := by
      rw [List.length_append, List.length_singleton] at r2
      exact List.length_eq_zero_iff.1 (by omega)
    subst e2
    obtain ⟨p, q1, q2, q3⟩ := r5 0 s rfl
    obtain ⟨r, rfl⟩ : ∃ r, rs = [r] := List.length_eq_one_iff.1 (by omega)
    obtain rfl : r = p := by simpa using q1
    subst q2
    exact ⟨r.2.1, r.2.2, r3, q3.1, q3.2⟩
  · exact ⟨u, t, h1.grown hg (fun e' => e e'.symm), hR.keep hg h2, hR.keep hg h3⟩
set_option maxHeartbeats 1600000 in
set_option maxRecDepth 100000 in
theorem fmean_unlike (a0 a1 : Value) (l : List Int) (qs : List Rat) (w : World) (h0 : IsI w a0 l) (h1 : SlF .u64 4294967296 w a1 qs) (hx : 0 < l.length ∧ l.length ≠ qs.length) :
    Calls Tryz.prog 29 #[a0, a1] w (RetQN 2 w) := by
  have sl0 := h0
  obtain ⟨A0, c0, rfl, hc0, hm0⟩ := h0.shape
  unfold maxLen at hm0
  have sl1 := h1
  obtain ⟨A1, c1, rfl, hc1, hm1⟩ := h1.shape
  unfold maxLen at hm1
  have hne : 0 < l.length ∧ l.length ≠ qs.length := hx
  have HG1 : Hid (decide ((0 : Int) < ((l.length : Nat) : Int)) = true) := decide_eq_true (by omega)
  have HNE : Hid ((((l.length : Nat) : Int) != ((qs.length : Nat) : Int)) = true) := by show _ = _; rw [bne_iff_ne]; omega
  clear hne hx
  go_enter Tryz.func29, Tryz.ntmps29
  go_upto_region 1 with (fail)
  obtain ⟨wx, hwx, bb, BR0, hsz⟩ := vars1 w 28 #[.bool false, .slice none 0 0, .slice none 0 0]
  rw [hwx]
  clear hwx
  have hsz0 := bb.size
  have sB := bb.size
  refine flowp 10 [Pd.eq (.slice A0 l.length c0), Pd.eq (.int .i64 ((l.length : Nat) : Int)), Pd.eq (.bool true), Pd.eq (.bool true), Pd.eq (.slice A0 l.length c0), Pd.eq (.int .i64 ((l.length : Nat) : Int)), Pd.eq (.slice A1 qs.length c1), Pd.eq (.int .i64 ((qs.length : Nat) : Int)), Pd.eq (.bool true), Pd.eq (.bool true)] (by kernel_rfl) ?ob1 ?done1
  case ob1 =>
    refine And.intro (ob_move rfl (wt_none rfl) (ev_far rfl rfl) (fun _ _ h => h)) ?_
    refine And.intro (ob_len rfl (wt_none rfl) (ev_dep (j := 0) (by kernel_rfl) rfl rfl) (fun _ _ hx => ⟨_, by rw [hx]; exact len_slice Tryz.underlying36 _ _ _ _, rfl⟩)) ?_
    refine And.intro (ob_bin rfl (wt_none rfl) (ev_dep (j := 1) (by kernel_rfl) rfl rfl) (ev_const _) (fun _ _ _ hx hy => ⟨.bool true, by rw [hx, hy, bin_gtr_int, HG1.out], rfl⟩)) ?_
    refine And.intro (ob_move rfl (wt_none rfl) (ev_dep (j := 2) (by kernel_rfl) rfl rfl) (fun _ _ h => h)) ?_
    refine And.intro (ob_move rfl (wt_dep (c := true) (b := true) (g := 3) rfl (by kernel_rfl) rfl rfl rfl (by exact fun _ _ h => h)) (ev_far rfl rfl) (fun _ _ h => h)) ?_
    refine And.intro (ob_len rfl (wt_dep (c := true) (b := true) (g := 3) rfl (by kernel_rfl) rfl rfl rfl (by exact fun _ _ h => h)) (ev_dep (j := 4) (by kernel_rfl) rfl rfl) (fun _ _ hx => ⟨_, by rw [hx]; exact len_slice Tryz.underlying36 _ _ _ _, rfl⟩)) ?_
    refine And.intro (ob_move rfl (wt_dep (c := true) (b := true) (g := 3) rfl (by kernel_rfl) rfl rfl rfl (by exact fun _ _ h => h)) (ev_far rfl rfl) (fun _ _ h => h)) ?_
    refine And.intro (ob_len rfl (wt_dep (c := true) (b := true) (g := 3) rfl (by kernel_rfl) rfl rfl rfl (by exact fun _ _ h => h)) (ev_dep (j := 6) (by kernel_rfl) rfl rfl) (fun _ _ hx => ⟨_, by rw [hx]; exact len_slice Tryz.underlying22 _ _ _ _, rfl⟩)) ?_
    refine And.intro (ob_bin rfl (wt_dep (c := true) (b := true) (g := 3) rfl (by kernel_rfl) rfl rfl rfl (by exact fun _ _ h => h)) (ev_dep (j := 5) (by kernel_rfl) rfl rfl) (ev_dep (j := 7) (by kernel_rfl) rfl rfl) (fun _ _ _ hx hy => ⟨.bool true, by rw [hx, hy, bin_neq_int, HNE.out], rfl⟩)) ?_
    refine And.intro (ob_pick (b := true) rfl (wt_none rfl) (ev_dep (j := 3) (by kernel_rfl) rfl rfl) (ev_dep (j := 8) (by kernel_rfl) rfl rfl) (fun _ _ h => h)) ?_
    trivial
  case done1 =>
    refine fun w1 hb1 v0 h0 v1 h1 v2 h2 v3 h3 v4 h4 v5 h5 v6 h6 v7 h7 v8 h8 v9 h9 b hbf => ?_
    obtain rfl := h0; obtain rfl := h1; obtain rfl := h2; obtain rfl := h3; obtain rfl := h4; obtain rfl := h5; obtain rfl := h6; obtain rfl := h7; obtain rfl := h8; obtain rfl := h9
    simp only [Act.put, List.setIfInBounds_toArray, List.set_cons_zero, List.set_cons_succ] at hbf
    subst hbf
    replace BR0 := BR0.below hb1
    replace bb := bb.trans (hb1.mono bb.size)
    have hsz1 := bb.size
    refine ops_done ?_
    have sB := bb.size
    go_upto_region 2 with (fail)
    refine flowp 1 [Pd.eq (.agg #[.bool false, .slice none 0 0, .slice none 0 0])] (by kernel_rfl) ?ob2 ?done2
    case ob2 =>
      refine And.intro (ob_build0 (v := .agg #[.bool false, .slice none 0 0, .slice none 0 0]) rfl (wt_none rfl) (fun _ => by kernel_rfl) (fun _ => rfl)) ?_
      trivial
    case done2 =>
      refine fun w2 hb2 v0 h0 b hbf => ?_
      obtain rfl := h0
      simp only [Act.put, List.setIfInBounds_toArray, List.set_cons_zero, List.set_cons_succ] at hbf
      subst hbf
      replace BR0 := BR0.below hb2
      replace bb := bb.trans (hb2.mono bb.size)
      have hsz2 := bb.size
      refine ops_store (i := 1) rfl rfl rfl rfl rfl rfl (cells := [.bool false, .slice none 0 0, .slice none 0 0]) rfl BR0 rfl (by kernel_rfl) (one3 rfl rfl rfl) fun w9 hg9 B9 => ?_
      have bb9 := bb.trans ((Below.refl _ _).grown hg9 bb.size (fun g hg => by injection hg with hg; omega))
      obtain ⟨C0, C1, C2, _, _, _⟩ := three B9
      refine ops_assign (i := 2) (.int .i64 2) rfl rfl rfl rfl rfl fun b hbf => ?_
      simp only [Act.put, List.setIfInBounds_toArray, List.set_cons_zero, List.set_cons_succ] at hbf
      subst hbf
      refine ops_done ?_
      go_wp2
      exact bodyPost_ret (v := .tuple #[.agg #[.bool false, .slice none 0 0, .slice none 0 0], .int .i64 2]) (by simp [results, Tryz.results29, go_sem, C0, C1, C2]) rfl ⟨rfl, bb9⟩
set_option maxHeartbeats 1600000 in
set_option maxRecDepth 100000 in
theorem fmean_err (a0 a1 : Value) (l : List Int) (qs : List Rat) (n : Int) (w : World) (h0 : IsI w a0 l) (h1 : SlF .u64 4294967296 w a1 qs) (hE : sharesE l = n) (hn : n ≠ 0) (hx : l.length = 0 ∨ l.length = qs.length) (hl : l.length ≤ 8) :
    Calls Tryz.prog 29 #[a0, a1] w (RetQN n w) := by
  by_cases hz : l.length = 0
  · have hz : l.length = 0 := hz
    have sl0 := h0
    obtain ⟨A0, c0, rfl, hc0, hm0⟩ := h0.shape
    unfold maxLen at hm0
    have sl1 := h1
    obtain ⟨A1, c1, rfl, hc1, hm1⟩ := h1.shape
    unfold maxLen at hm1
    have hl300 : l.length ≤ 300 := by omega
    have HSE := Lib.hid hE
    have HN := Lib.hid hn
    have HNB : Hid ((n != 0) = true) := by show _ = _; rw [bne_iff_ne]; exact hn
    have HG1 : Hid (decide ((0 : Int) < ((l.length : Nat) : Int)) = false) := decide_eq_false (by omega)
    clear hE hn hx
    go_enter Tryz.func29, Tryz.ntmps29
    go_upto_region 1 with (fail)
    obtain ⟨wx, hwx, bb, BR0, hsz⟩ := vars1 w 28 #[.bool false, .slice none 0 0, .slice none 0 0]
    rw [hwx]
    clear hwx
    have hsz0 := bb.size
    have k0 := sl0.below bb
    have sB := bb.size
    refine flowp 10 [Pd.eq (.slice A0 l.length c0), Pd.eq (.int .i64 ((l.length : Nat) : Int)), Pd.eq (.bool false), Pd.eq (.bool false), Pd.any, Pd.any, Pd.any, Pd.any, Pd.any, Pd.eq (.bool false)] (by kernel_rfl) ?ob3 ?done3
    case ob3 =>
      refine And.intro (ob_move rfl (wt_none rfl) (ev_far rfl rfl) (fun _ _ h => h)) ?_
      refine And.intro (ob_len rfl (wt_none rfl) (ev_dep (j := 0) (by kernel_rfl) rfl rfl) (fun _ _ hx => ⟨_, by rw [hx]; exact len_slice Tryz.underlying36 _ _ _ _, rfl⟩)) ?_
      refine And.intro (ob_bin rfl (wt_none rfl) (ev_dep (j := 1) (by kernel_rfl) rfl rfl) (ev_const _) (fun _ _ _ hx hy => ⟨.bool false, by rw [hx, hy, bin_gtr_int, HG1.out], rfl⟩)) ?_
      refine And.intro (ob_move rfl (wt_none rfl) (ev_dep (j := 2) (by kernel_rfl) rfl rfl) (fun _ _ h => h)) ?_
      refine And.intro (ob_not (wt_dep (c := false) (b := true) (g := 3) rfl (by kernel_rfl) rfl rfl rfl (by exact fun _ _ h => h)) (fun _ => trivial) rfl) ?_
      refine And.intro (ob_not (wt_dep (c := false) (b := true) (g := 3) rfl (by kernel_rfl) rfl rfl rfl (by exact fun _ _ h => h)) (fun _ => trivial) rfl) ?_
      refine And.intro (ob_not (wt_dep (c := false) (b := true) (g := 3) rfl (by kernel_rfl) rfl rfl rfl (by exact fun _ _ h => h)) (fun _ => trivial) rfl) ?_
      refine And.intro (ob_not (wt_dep (c := false) (b := true) (g := 3) rfl (by kernel_rfl) rfl rfl rfl (by exact fun _ _ h => h)) (fun _ => trivial) rfl) ?_
      refine And.intro (ob_not (wt_dep (c := false) (b := true) (g := 3) rfl (by kernel_rfl) rfl rfl rfl (by exact fun _ _ h => h)) (fun _ => trivial) rfl) ?_
      refine And.intro (ob_pick (b := false) rfl (wt_none rfl) (ev_dep (j := 3) (by kernel_rfl) rfl rfl) (ev_const _) (fun _ _ h => h)) ?_
      trivial
    case done3 =>
      refine fun w1 hb1 v0 h0 v1 h1 v2 h2 v3 h3 v4 h4 v5 h5 v6 h6 v7 h7 v8 h8 v9 h9 b hbf => ?_
      obtain rfl := h0; obtain rfl := h1; obtain rfl := h2; obtain rfl := h3; obtain rfl := h9
      clear h4
      clear h5
      clear h6
      clear h7
      clear h8
      simp only [Act.put, List.setIfInBounds_toArray, List.set_cons_zero, List.set_cons_succ] at hbf
      subst hbf
      replace BR0 := BR0.below hb1
      replace bb := bb.trans (hb1.mono bb.size)
      have hsz1 := bb.size
      refine ops_done ?_
      clear k0
      have k0 := sl0.below bb
      have sB := bb.size
      go_upto_region 3 with (fail)
      refine flowp 7 [Pd.eq (.slice A0 l.length c0), Pd.eq (.tuple #[.slice none 0 0, .int .i64 n]), Pd.eq (.tuple #[.slice none 0 0, .int .i64 n]), Pd.eq (.slice none 0 0), Pd.eq (.int .i64 n), Pd.eq (.slice none 0 0), Pd.eq (.int .i64 n)] (by kernel_rfl) ?ob4 ?done4
      case ob4 =>
        refine And.intro (ob_move rfl (wt_none rfl) (ev_far rfl rfl) (fun _ _ h => h)) ?_
        refine And.intro (ob_call1 rfl Tryz.func27 (by kernel_rfl) (wt_none rfl) (ev_dep (j := 0) (by kernel_rfl) rfl rfl) (fun w2 u0 hb h0 => by obtain rfl := h0; exact (fshares_both _ l _ (k0.below hb) hl300).mono fun e w3 h => by rcases h with ⟨h, _⟩ | ⟨_, h⟩; exact absurd (HSE.out.symm.trans h) HN.out; rw [HSE.out] at h; exact RetNN.pd h)) ?_
        refine And.intro (ob_move rfl (wt_none rfl) (ev_dep (j := 1) (by kernel_rfl) rfl rfl) (fun _ _ h => h)) ?_
        refine And.intro (ob_extract rfl (wt_none rfl) (ev_dep (j := 2) (by kernel_rfl) rfl rfl) (fun w2 u hu => by obtain rfl := hu; exact ⟨_, rfl, rfl⟩)) ?_
        refine And.intro (ob_extract rfl (wt_none rfl) (ev_dep (j := 2) (by kernel_rfl) rfl rfl) (fun w2 u hu => by obtain rfl := hu; exact ⟨_, rfl, rfl⟩)) ?_
        refine And.intro (ob_assign rfl (wt_none rfl) (ev_dep (j := 3) (by kernel_rfl) rfl rfl) (fun _ _ h => h)) ?_
        refine And.intro (ob_assign rfl (wt_none rfl) (ev_dep (j := 4) (by kernel_rfl) rfl rfl) (fun _ _ h => h)) ?_
        trivial
      case done4 =>
        refine fun w2 hb2 v0 h0 v1 h1 v2 h2 v3 h3 v4 h4 v5 h5 v6 h6 b hbf => ?_
        obtain rfl := h0; obtain rfl := h1; obtain rfl := h2; obtain rfl := h3; obtain rfl := h4; obtain rfl := h5; obtain rfl := h6
        simp only [Act.put, List.setIfInBounds_toArray, List.set_cons_zero, List.set_cons_succ] at hbf
        subst hbf
        replace BR0 := BR0.below hb2
        replace bb := bb.trans (hb2.mono bb.size)
        have hsz2 := bb.size
        refine ops_done ?_
        have sB := bb.size
        go_upto_region 4 with (fail)
        refine flowp 2 [Pd.eq (.int .i64 n), Pd.eq (.bool true)] (by kernel_rfl) ?ob5 ?done5
        case ob5 =>
          refine And.intro (ob_move rfl (wt_none rfl) (ev_far rfl rfl) (fun _ _ h => h)) ?_
          refine And.intro (ob_bin rfl (wt_none rfl) (ev_dep (j := 0) (by kernel_rfl) rfl rfl) (ev_const _) (fun _ _ _ hx hy => ⟨.bool true, by rw [hx, hy, bin_neq_int, HNB.out], rfl⟩)) ?_
          trivial
        case done5 =>
          refine fun w3 hb3 v0 h0 v1 h1 b hbf => ?_
          obtain rfl := h0; obtain rfl := h1
          simp only [Act.put, List.setIfInBounds_toArray, List.set_cons_zero, List.set_cons_succ] at hbf
          subst hbf
          replace BR0 := BR0.below hb3
          replace bb := bb.trans (hb3.mono bb.size)
          have hsz3 := bb.size
          refine ops_done ?_
          have sB := bb.size
          go_upto_region 5 with (fail)
          refine flowp 2 [Pd.eq (.agg #[.bool false, .slice none 0 0, .slice none 0 0]), Pd.eq (.int .i64 n)] (by kernel_rfl) ?ob6 ?done6
          case ob6 =>
            refine And.intro (ob_build0 (v := .agg #[.bool false, .slice none 0 0, .slice none 0 0]) rfl (wt_none rfl) (fun _ => by kernel_rfl) (fun _ => rfl)) ?_
            refine And.intro (ob_move rfl (wt_none rfl) (ev_far rfl rfl) (fun _ _ h => h)) ?_
            trivial
          case done6 =>
            refine fun w4 hb4 v0 h0 v1 h1 b hbf => ?_
            obtain rfl := h0; obtain rfl := h1
            simp only [Act.put, List.setIfInBounds_toArray, List.set_cons_zero, List.set_cons_succ] at hbf
            subst hbf
            replace BR0 := BR0.below hb4
            replace bb := bb.trans (hb4.mono bb.size)
            have hsz4 := bb.size
            refine ops_store (i := 2) rfl rfl rfl rfl rfl rfl (cells := [.bool false, .slice none 0 0, .slice none 0 0]) rfl BR0 rfl (by kernel_rfl) (one3 rfl rfl rfl) fun w9 hg9 B9 => ?_
            have bb9 := bb.trans ((Below.refl _ _).grown hg9 bb.size (fun g hg => by injection hg with hg; omega))
            obtain ⟨C0, C1, C2, _, _, _⟩ := three B9
            refine ops_assign (i := 3) (.int .i64 n) rfl rfl rfl rfl rfl fun b hbf => ?_
            simp only [Act.put, List.setIfInBounds_toArray, List.set_cons_zero, List.set_cons_succ] at hbf
            subst hbf
            refine ops_done ?_
            go_wp2
            exact bodyPost_ret (v := .tuple #[.agg #[.bool false, .slice none 0 0, .slice none 0 0], .int .i64 n]) (by simp [results, Tryz.results29, go_sem, C0, C1, C2]) rfl ⟨rfl, bb9⟩
  · have sl0 := h0
    obtain ⟨A0, c0, rfl, hc0, hm0⟩ := h0.shape
    unfold maxLen at hm0
    have sl1 := h1
    obtain ⟨A1, c1, rfl, hc1, hm1⟩ := h1.shape
    unfold maxLen at hm1
    have hl300 : l.length ≤ 300 := by omega
    have HSE := Lib.hid hE
    have HN := Lib.hid hn
    have HNB : Hid ((n != 0) = true) := by show _ = _; rw [bne_iff_ne]; exact hn
    have HG1 : Hid (decide ((0 : Int) < ((l.length : Nat) : Int)) = true) := decide_eq_true (by omega)
    have HNE : Hid ((((l.length : Nat) : Int) != ((qs.length : Nat) : Int)) = false) := by show _ = _; rw [bne_eq_false_iff_eq]; omega
    clear hE hn hx hz
    go_enter Tryz.func29, Tryz.ntmps29
    go_upto_region 1 with (fail)
    obtain ⟨wx, hwx, bb, BR0, hsz⟩ := vars1 w 28 #[.bool false, .slice none 0 0, .slice none 0 0]
    rw [hwx]
    clear hwx
    have hsz0 := bb.size
    have k0 := sl0.below bb
    have sB := bb.size
    refine flowp 10 [Pd.eq (.slice A0 l.length c0), Pd.eq (.int .i64 ((l.length : Nat) : Int)), Pd.eq (.bool true), Pd.eq (.bool true), Pd.eq (.slice A0 l.length c0), Pd.eq (.int .i64 ((l.length : Nat) : Int)), Pd.eq (.slice A1 qs.length c1), Pd.eq (.int .i64 ((qs.length : Nat) : Int)), Pd.eq (.bool false), Pd.eq (.bool false)] (by kernel_rfl) ?ob7 ?done7
    case ob7 =>
      refine And.intro (ob_move rfl (wt_none rfl) (ev_far rfl rfl) (fun _ _ h => h)) ?_
      refine And.intro (ob_len rfl (wt_none rfl) (ev_dep (j := 0) (by kernel_rfl) rfl rfl) (fun _ _ hx => ⟨_, by rw [hx]; exact len_slice Tryz.underlying36 _ _ _ _, rfl⟩)) ?_
      refine And.intro (ob_bin rfl (wt_none rfl) (ev_dep (j := 1) (by kernel_rfl) rfl rfl) (ev_const _) (fun _ _ _ hx hy => ⟨.bool true, by rw [hx, hy, bin_gtr_int, HG1.out], rfl⟩)) ?_
      refine And.intro (ob_move rfl (wt_none rfl) (ev_dep (j := 2) (by kernel_rfl) rfl rfl) (fun _ _ h => h)) ?_
      refine And.intro (ob_move rfl (wt_dep (c := true) (b := true) (g := 3) rfl (by kernel_rfl) rfl rfl rfl (by exact fun _ _ h => h)) (ev_far rfl rfl) (fun _ _ h => h)) ?_
      refine And.intro (ob_len rfl (wt_dep (c := true) (b := true) (g := 3) rfl (by kernel_rfl) rfl rfl rfl (by exact fun _ _ h => h)) (ev_dep (j := 4) (by kernel_rfl) rfl rfl) (fun _ _ hx => ⟨_, by rw [hx]; exact len_slice Tryz.underlying36 _ _ _ _, rfl⟩)) ?_
      refine And.intro (ob_move rfl (wt_dep (c := true) (b := true) (g := 3) rfl (by kernel_rfl) rfl rfl rfl (by exact fun _ _ h => h)) (ev_far rfl rfl) (fun _ _ h => h)) ?_
      refine And.intro (ob_len rfl (wt_dep (c := true) (b := true) (g := 3) rfl (by kernel_rfl) rfl rfl rfl (by exact fun _ _ h => h)) (ev_dep (j := 6) (by kernel_rfl) rfl rfl) (fun _ _ hx => ⟨_, by rw [hx]; exact len_slice Tryz.underlying22 _ _ _ _, rfl⟩)) ?_
      refine And.intro (ob_bin rfl (wt_dep (c := true) (b := true) (g := 3) rfl (by kernel_rfl) rfl rfl rfl (by exact fun _ _ h => h)) (ev_dep (j := 5) (by kernel_rfl) rfl rfl) (ev_dep (j := 7) (by kernel_rfl) rfl rfl) (fun _ _ _ hx hy => ⟨.bool false, by rw [hx, hy, bin_neq_int, HNE.out], rfl⟩)) ?_
      refine And.intro (ob_pick (b := true) rfl (wt_none rfl) (ev_dep (j := 3) (by kernel_rfl) rfl rfl) (ev_dep (j := 8) (by kernel_rfl) rfl rfl) (fun _ _ h => h)) ?_
      trivial
    case done7 =>
      refine fun w1 hb1 v0 h0 v1 h1 v2 h2 v3 h3 v4 h4 v5 h5 v6 h6 v7 h7 v8 h8 v9 h9 b hbf => ?_
      obtain rfl := h0; obtain rfl := h1; obtain rfl := h2; obtain rfl := h3; obtain rfl := h4; obtain rfl := h5; obtain rfl := h6; obtain rfl := h7; obtain rfl := h8; obtain rfl := h9
      simp only [Act.put, List.setIfInBounds_toArray, List.set_cons_zero, List.set_cons_succ] at hbf
      subst hbf
      replace BR0 := BR0.below hb1
      replace bb := bb.trans (hb1.mono bb.size)
      have hsz1 := bb.size
      refine ops_done ?_
      clear k0
      have k0 := sl0.below bb
      have sB := bb.size
      go_upto_region 3 with (fail)
      refine flowp 7 [Pd.eq (.slice A0 l.length c0), Pd.eq (.tuple #[.slice none 0 0, .int .i64 n]), Pd.eq (.tuple #[.slice none 0 0, .int .i64 n]), Pd.eq (.slice none 0 0), Pd.eq (.int .i64 n), Pd.eq (.slice none 0 0), Pd.eq (.int .i64 n)] (by kernel_rfl) ?ob8 ?done8
      case ob8 =>
        refine And.intro (ob_move rfl (wt_none rfl) (ev_far rfl rfl) (fun _ _ h => h)) ?_
        refine And.intro (ob_call1 rfl Tryz.func27 (by kernel_rfl) (wt_none rfl) (ev_dep (j := 0) (by kernel_rfl) rfl rfl) (fun w2 u0 hb h0 => by obtain rfl := h0; exact (fshares_both _ l _ (k0.below hb) hl300).mono fun e w3 h => by rcases h with ⟨h, _⟩ | ⟨_, h⟩; exact absurd (HSE.out.symm.trans h) HN.out; rw [HSE.out] at h; exact RetNN.pd h)) ?_
        refine And.intro (ob_move rfl (wt_none rfl) (ev_dep (j := 1) (by kernel_rfl) rfl rfl) (fun _ _ h => h)) ?_
        refine And.intro (ob_extract rfl (wt_none rfl) (ev_dep (j := 2) (by kernel_rfl) rfl rfl) (fun w2 u hu => by obtain rfl := hu; exact ⟨_, rfl, rfl⟩)) ?_
        refine And.intro (ob_extract rfl (wt_none rfl) (ev_dep (j := 2) (by kernel_rfl) rfl rfl) (fun w2 u hu => by obtain rfl := hu; exact ⟨_, rfl, rfl⟩)) ?_
        refine And.intro (ob_assign rfl (wt_none rfl) (ev_dep (j := 3) (by kernel_rfl) rfl rfl) (fun _ _ h => h)) ?_
        refine And.intro (ob_assign rfl (wt_none rfl) (ev_dep (j := 4) (by kernel_rfl) rfl rfl) (fun _ _ h => h)) ?_
        trivial
      case done8 =>
        refine fun w2 hb2 v0 h0 v1 h1 v2 h2 v3 h3 v4 h4 v5 h5 v6 h6 b hbf => ?_
        obtain rfl := h0; obtain rfl := h1; obtain rfl := h2; obtain rfl := h3; obtain rfl := h4; obtain rfl := h5; obtain rfl := h6
        simp only [Act.put, List.setIfInBounds_toArray, List.set_cons_zero, List.set_cons_succ] at hbf
        subst hbf
        replace BR0 := BR0.below hb2
        replace bb := bb.trans (hb2.mono bb.size)
        have hsz2 := bb.size
        refine ops_done ?_
        have sB := bb.size
        go_upto_region 4 with (fail)
        refine flowp 2 [Pd.eq (.int .i64 n), Pd.eq (.bool true)] (by kernel_rfl) ?ob9 ?done9
        case ob9 =>
          refine And.intro (ob_move rfl (wt_none rfl) (ev_far rfl rfl) (fun _ _ h => h)) ?_
          refine And.intro (ob_bin rfl (wt_none rfl) (ev_dep (j := 0) (by kernel_rfl) rfl rfl) (ev_const _) (fun _ _ _ hx hy => ⟨.bool true, by rw [hx, hy, bin_neq_int, HNB.out], rfl⟩)) ?_
          trivial
        case done9 =>
          refine fun w3 hb3 v0 h0 v1 h1 b hbf => ?_
          obtain rfl := h0; obtain rfl := h1
          simp only [Act.put, List.setIfInBounds_toArray, List.set_cons_zero, List.set_cons_succ] at hbf
          subst hbf
          replace BR0 := BR0.below hb3
          replace bb := bb.trans (hb3.mono bb.size)
          have hsz3 := bb.size
          refine ops_done ?_
          have sB := bb.size
          go_upto_region 5 with (fail)
          refine flowp 2 [Pd.eq (.agg #[.bool false, .slice none 0 0, .slice none 0 0]), Pd.eq (.int .i64 n)] (by kernel_rfl) ?ob10 ?done10
          case ob10 =>
            refine And.intro (ob_build0 (v := .agg #[.bool false, .slice none 0 0, .slice none 0 0]) rfl (wt_none rfl) (fun _ => by kernel_rfl) (fun _ => rfl)) ?_
            refine And.intro (ob_move rfl (wt_none rfl) (ev_far rfl rfl) (fun _ _ h => h)) ?_
            trivial
          case done10 =>
            refine fun w4 hb4 v0 h0 v1 h1 b hbf => ?_
            obtain rfl := h0; obtain rfl := h1
            simp only [Act.put, List.setIfInBounds_toArray, List.set_cons_zero, List.set_cons_succ] at hbf
            subst hbf
            replace BR0 := BR0.below hb4
            replace bb := bb.trans (hb4.mono bb.size)
            have hsz4 := bb.size
            refine ops_store (i := 2) rfl rfl rfl rfl rfl rfl (cells := [.bool false, .slice none 0 0, .slice none 0 0]) rfl BR0 rfl (by kernel_rfl) (one3 rfl rfl rfl) fun w9 hg9 B9 => ?_
            have bb9 := bb.trans ((Below.refl _ _).grown hg9 bb.size (fun g hg => by injection hg with hg; omega))
            obtain ⟨C0, C1, C2, _, _, _⟩ := three B9
            refine ops_assign (i := 3) (.int .i64 n) rfl rfl rfl rfl rfl fun b hbf => ?_
            simp only [Act.put, List.setIfInBounds_toArray, List.set_cons_zero, List.set_cons_succ] at hbf
            subst hbf
            refine ops_done ?_
            go_wp2
            exact bodyPost_ret (v := .tuple #[.agg #[.bool false, .slice none 0 0, .slice none 0 0], .int .i64 n]) (by simp [results, Tryz.results29, go_sem, C0, C1, C2]) rfl ⟨rfl, bb9⟩
set_option maxHeartbeats 3200000 in
set_option maxRecDepth 100000 in
theorem fmean_val (a0 a1 : Value) (l : List Int) (qs : List Rat) (w : World) (h0 : IsI w a0 l) (h1 : SlF .u64 4294967296 w a1 qs) (hE : sharesE l = 0) (hx : 0 < l.length ∧ l.length = qs.length) (hl : l.length ≤ 8 ∧ ∀ q ∈ qs, lenQ q 2) :
    Calls Tryz.prog 29 #[a0, a1] w (RetQE (meanq l qs) 0 w) := by
  have sl0 := h0
  obtain ⟨A0, c0, rfl, hc0, hm0⟩ := h0.shape
  unfold maxLen at hm0
  have sl1 := h1
  obtain ⟨A1, c1, rfl, hc1, hm1⟩ := h1.shape
  unfold maxLen at hm1
  have HSE := Lib.hid hE
  have hl8 : l.length ≤ 8 := hl.1
  have HLQ := Lib.hid hl.2
  have hlq : l.length = qs.length := hx.2
  have hl0 : 0 < l.length := hx.1
  have hneq : qs ≠ [] := List.length_pos_iff.1 (by omega)
  have hls : ∀ s ∈ sharesL l, lenQ s 27 := by
    obtain ⟨_, _, _, _, _, hr, _⟩ := sl0
    exact shares_len hr hl8 hE
  have HLS := Lib.hid hls
  obtain ⟨ZP, hZP⟩ : ∃ ZP, ZP = List.zipWith (· * ·) (sharesL l) qs := ⟨_, rfl⟩
  have HZP := Lib.hid hZP
  have HSL : Hid ((sharesL l).length = l.length) := sharesL_len l
  have HZL : Hid (ZP.length = (sharesL l).length) := by show _ = _; rw [hZP, List.length_zipWith, sharesL_len]; omega
  have HZ29 : Hid (∀ z ∈ ZP, lenQ z 29) := by
    show ∀ z ∈ _, _
    intro z hz
    rw [hZP] at hz
    obtain ⟨i, hi⟩ := List.mem_iff_getElem?.1 hz
    rw [List.getElem?_zipWith] at hi
    rcases ha : (sharesL l)[i]? with _ | a
    · rw [ha] at hi; cases hi
    · rcases hb : qs[i]? with _ | b
      · rw [ha, hb] at hi; cases hi
      · rw [ha, hb] at hi
        obtain rfl := Option.some.inj hi
        exact lenQ_mul (hls a (List.mem_of_getElem? ha)) (HLQ.out b (List.mem_of_getElem? hb))
  have HG1 : Hid (decide ((0 : Int) < ((l.length : Nat) : Int)) = true) := decide_eq_true (by omega)
  have HNE : Hid ((((l.length : Nat) : Int) != ((qs.length : Nat) : Int)) = false) := by show _ = _; rw [bne_eq_false_iff_eq]; omega
  have HLX := Lib.hid hlq
  clear hE hx hlq hZP hls hl
  go_enter Tryz.func29, Tryz.ntmps29
  go_upto_region 1 with (fail)
  obtain ⟨wx, hwx, bb, BR0, hsz⟩ := vars1 w 28 #[.bool false, .slice none 0 0, .slice none 0 0]
  rw [hwx]
  clear hwx
  have hsz0 := bb.size
  obtain ⟨g1_, o1_, cp1_, hA1_, _, _, _⟩ := sl1.place hneq
  injection hA1_ with e1_ _ e3_
  subst e1_
  subst e3_
  have sB := bb.size
  refine flowp 10 [Pd.eq (.slice A0 l.length c0), Pd.eq (.int .i64 ((l.length : Nat) : Int)), Pd.eq (.bool true), Pd.eq (.bool true), Pd.eq (.slice A0 l.length c0), Pd.eq (.int .i64 ((l.length : Nat) : Int)), Pd.eq (.slice (some ⟨g1_, o1_, none⟩) qs.length c1), Pd.eq (.int .i64 ((qs.length : Nat) : Int)), Pd.eq (.bool false), Pd.eq (.bool false)] (by kernel_rfl) ?ob11 ?done11
  case ob11 =>
    refine And.intro (ob_move rfl (wt_none rfl) (ev_far rfl rfl) (fun _ _ h => h)) ?_
    refine And.intro (ob_len rfl (wt_none rfl) (ev_dep (j := 0) (by kernel_rfl) rfl rfl) (fun _ _ hx => ⟨_, by rw [hx]; exact len_slice Tryz.underlying36 _ _ _ _, rfl⟩)) ?_
    refine And.intro (ob_bin rfl (wt_none rfl) (ev_dep (j := 1) (by kernel_rfl) rfl rfl) (ev_const _) (fun _ _ _ hx hy => ⟨.bool true, by rw [hx, hy, bin_gtr_int, HG1.out], rfl⟩)) ?_
    refine And.intro (ob_move rfl (wt_none rfl) (ev_dep (j := 2) (by kernel_rfl) rfl rfl) (fun _ _ h => h)) ?_
    refine And.intro (ob_move rfl (wt_dep (c := true) (b := true) (g := 3) rfl (by kernel_rfl) rfl rfl rfl (by exact fun _ _ h => h)) (ev_far rfl rfl) (fun _ _ h => h)) ?_
    refine And.intro (ob_len rfl (wt_dep (c := true) (b := true) (g := 3) rfl (by kernel_rfl) rfl rfl rfl (by exact fun _ _ h => h)) (ev_dep (j := 4) (by kernel_rfl) rfl rfl) (fun _ _ hx => ⟨_, by rw [hx]; exact len_slice Tryz.underlying36 _ _ _ _, rfl⟩)) ?_
    refine And.intro (ob_move rfl (wt_dep (c := true) (b := true) (g := 3) rfl (by kernel_rfl) rfl rfl rfl (by exact fun _ _ h => h)) (ev_far rfl rfl) (fun _ _ h => h)) ?_
    refine And.intro (ob_len rfl (wt_dep (c := true) (b := true) (g := 3) rfl (by kernel_rfl) rfl rfl rfl (by exact fun _ _ h => h)) (ev_dep (j := 6) (by kernel_rfl) rfl rfl) (fun _ _ hx => ⟨_, by rw [hx]; exact len_slice Tryz.underlying22 _ _ _ _, rfl⟩)) ?_
    refine And.intro (ob_bin rfl (wt_dep (c := true) (b := true) (g := 3) rfl (by kernel_rfl) rfl rfl rfl (by exact fun _ _ h => h)) (ev_dep (j := 5) (by kernel_rfl) rfl rfl) (ev_dep (j := 7) (by kernel_rfl) rfl rfl) (fun _ _ _ hx hy => ⟨.bool false, by rw [hx, hy, bin_neq_int, HNE.out], rfl⟩)) ?_
    refine And.intro (ob_pick (b := true) rfl (wt_none rfl) (ev_dep (j := 3) (by kernel_rfl) rfl rfl) (ev_dep (j := 8) (by kernel_rfl) rfl rfl) (fun _ _ h => h)) ?_
    trivial
  case done11 =>
    refine fun w1 hb1 v0 h0 v1 h1 v2 h2 v3 h3 v4 h4 v5 h5 v6 h6 v7 h7 v8 h8 v9 h9 b hbf => ?_
    obtain rfl := h0; obtain rfl := h1; obtain rfl := h2; obtain rfl := h3; obtain rfl := h4; obtain rfl := h5; obtain rfl := h6; obtain rfl := h7; obtain rfl := h8; obtain rfl := h9
    simp only [Act.put, List.setIfInBounds_toArray, List.set_cons_zero, List.set_cons_succ] at hbf
    subst hbf
    replace BR0 := BR0.below hb1
    replace bb := bb.trans (hb1.mono bb.size)
    have hsz1 := bb.size
    refine ops_done ?_
    have k0 := sl0.below bb
    have ltR := BR0.lt
    have sB := bb.size
    go_upto_region 3 with (fail)
    refine flowp 7 [Pd.eq (.slice A0 l.length c0), prn l.length (sharesL l) w1.heap.size, prn l.length (sharesL l) w1.heap.size, pro l.length (sharesL l) w1.heap.size, Pd.eq (.int .i64 0), pro l.length (sharesL l) w1.heap.size, Pd.eq (.int .i64 0)] (by kernel_rfl) ?ob12 ?done12
    case ob12 =>
      refine And.intro (ob_move rfl (wt_none rfl) (ev_far rfl rfl) (fun _ _ h => h)) ?_
      refine And.intro (ob_call1 rfl Tryz.func27 (by kernel_rfl) (wt_none rfl) (ev_dep (j := 0) (by kernel_rfl) rfl rfl) (fun w2 u0 hb h0 => by obtain rfl := h0; exact (fshares_both _ l _ (k0.below hb) (by omega)).mono fun e w3 h => by rcases h with ⟨_, h⟩ | ⟨h, _⟩; exact RetRN.pd h HSL.out hb.size; exact absurd HSE.out h)) ?_
      refine And.intro (ob_move rfl (wt_none rfl) (ev_dep (j := 1) (by kernel_rfl) rfl rfl) (fun _ _ h => h)) ?_
      refine And.intro (ob_extract rfl (wt_none rfl) (ev_dep (j := 2) (by kernel_rfl) rfl rfl) (fun w2 u hu => by obtain ⟨g_, rfl, q1, q2⟩ := hu; exact ⟨_, rfl, g_, rfl, q1, q2⟩)) ?_
      refine And.intro (ob_extract rfl (wt_none rfl) (ev_dep (j := 2) (by kernel_rfl) rfl rfl) (fun w2 u hu => by obtain ⟨g_, rfl, q1, q2⟩ := hu; exact ⟨_, rfl, rfl⟩)) ?_
      refine And.intro (ob_assign rfl (wt_none rfl) (ev_dep (j := 3) (by kernel_rfl) rfl rfl) (fun _ _ h => h)) ?_
      refine And.intro (ob_assign rfl (wt_none rfl) (ev_dep (j := 4) (by kernel_rfl) rfl rfl) (fun _ _ h => h)) ?_
      trivial
    case done12 =>
      refine fun w2 hb2 v0 h0 v1 h1 v2 h2 v3 h3 v4 h4 v5 h5 v6 h6 b hbf => ?_
      obtain rfl := h0; obtain rfl := h4; obtain rfl := h6
      clear h1
      clear h2
      obtain ⟨gr, rfl, RN, hgr⟩ := h3
      obtain ⟨gr, rfl, RN, hgr⟩ := h5
      simp only [Act.put, List.setIfInBounds_toArray, List.set_cons_zero, List.set_cons_succ] at hbf
      subst hbf
      replace BR0 := BR0.below hb2
      replace bb := bb.trans (hb2.mono bb.size)
      have hsz2 := bb.size
      refine ops_done ?_
      have sB := bb.size
      go_upto_region 4 with (fail)
      refine flowp 2 [Pd.eq (.int .i64 0), Pd.eq (.bool false)] (by kernel_rfl) ?ob13 ?done13
      case ob13 =>
        refine And.intro (ob_move rfl (wt_none rfl) (ev_far rfl rfl) (fun _ _ h => h)) ?_
        refine And.intro (ob_bin rfl (wt_none rfl) (ev_dep (j := 0) (by kernel_rfl) rfl rfl) (ev_const _) (fun _ _ _ hx hy => ⟨.bool ((0 : Int) != 0), by rw [hx, hy]; exact bin_neq_int _ _ _ _ _, congrArg Value.bool (by decide)⟩)) ?_
        trivial
      case done13 =>
        refine fun w3 hb3 v0 h0 v1 h1 b hbf => ?_
        obtain rfl := h0; obtain rfl := h1
        simp only [Act.put, List.setIfInBounds_toArray, List.set_cons_zero, List.set_cons_succ] at hbf
        subst hbf
        replace BR0 := BR0.below hb3
        replace RN := RN.below hb3
        replace bb := bb.trans (hb3.mono bb.size)
        have hsz3 := bb.size
        refine ops_done ?_
        have hgw : w.heap.size < gr := by omega
        go_wp2
        go_loopw [32] (fun v32 wr => ∃ k : Nat, k ≤ l.length ∧ RowN wr gr l.length (ZP.take k ++ (sharesL l).drop k) ∧ Blk wr w.heap.size 28 #[.bool false, .slice none 0 0, .slice none 0 0] ∧ Below w.heap.size w wr ∧ v32 = .int .i64 (k : Int)) (fun v32 _ => l.length - (intOf v32).toNat)
        case atStart => exact ⟨0, by omega, by simpa using RN, BR0, bb, rfl⟩
        case round =>
          obtain ⟨k, hk, hR, hR0, hbw, rfl⟩ := hrel
          clear RN bb BR0 k0
          have RN := hR
          have bb := hbw
          have BR0 := hR0
          clear hR hbw hR0
          have hszr := bb.size
          have hgl := RN.lt
          by_cases hlt : k < l.length
          · obtain ⟨s, hs⟩ : ∃ s, (sharesL l)[k]? = some s := ⟨_, List.getElem?_eq_getElem (by rw [HSL.out]; exact hlt)⟩
            obtain ⟨x, hx⟩ : ∃ x, qs[k]? = some x := ⟨_, List.getElem?_eq_getElem (by have := HLX.out; omega)⟩
            have ls : lenQ s 27 := HLS.out s (List.mem_of_getElem? hs)
            have lx : lenQ x 2 := HLQ.out x (List.mem_of_getElem? hx)
            have HAT : Hid ((ZP.take k ++ (sharesL l).drop k)[k]? = some s) := front_at hs HZL.out
            have HSK : Hid (ZP[k]? = some (s * x)) := by show _ = _; rw [HZP.out, List.getElem?_zipWith, hs, hx]
            have HFS : Hid ((ZP.take k ++ (sharesL l).drop k).set k (s * x) = ZP.take (k + 1) ++ (sharesL l).drop (k + 1)) := front_set HSK.out HZL.out
            have HFL : Hid (k < (ZP.take k ++ (sharesL l).drop k).length) := by show _ < _; rw [front_len _ _ _ HZL.out, HSL.out]; exact hlt
            have HX := Lib.hid hx
            clear hs hx
            obtain ⟨us, ts, hlts, zs0, zs1, zs2, zss, zsd⟩ := RN.at_ HAT.out
            obtain ⟨As, cs, rfl, _⟩ := id zss
            obtain ⟨Ds, es, rfl, _⟩ := id zsd
            have zs : IsQ wr (.agg #[.bool (ngB (s).num), .slice As (digs 4294967296 (s).num.natAbs).length cs, .slice Ds (digs 4294967296 (s).den).length es]) (s) := ⟨_, _, rfl, zss, zsd⟩
            have sB := bb.size
            go_upto_region 8 with (fail)
            have lt4_4 := Blk.lt BR0
            refine flowp 5 [Pd.eq (.int .i64 (k : Int)), Pd.eq (.pointer (some ⟨gr, 0 + k * 3, none⟩)), Pd.eq (.agg #[.bool (ngB (s).num), .slice As (digs 4294967296 (s).num.natAbs).length cs, .slice Ds (digs 4294967296 (s).den).length es]), pn 28 #[.bool false, .slice none 0 0, .slice none 0 0] wr.heap.size, Pd.eq (.int .i64 (k : Int))] (by kernel_rfl) ?ob14 ?done14
            case ob14 =>
              refine And.intro (ob_move rfl (wt_none rfl) (ev_far rfl rfl) (fun _ _ h => h)) ?_
              refine And.intro (ob_indexAddr rfl (wt_none rfl) (ev_far rfl rfl) (ev_far rfl rfl) (fun _ _ _ hx hy => ⟨_, by rw [hx, hy]; exact index3 (k := k) Tryz.underlying22 (by kernel_rfl) hlts _, rfl⟩)) ?_
              refine And.intro (ob_load rfl (wt_none rfl) (ev_dep (j := 1) (by kernel_rfl) rfl rfl) (fun w2 hb => load3 Tryz.underlying28 rfl (by kernel_rfl) ((hb.cell (World.block_lt_of_cell? wr _ zs0)).trans zs0) ((hb.cell (World.block_lt_of_cell? wr _ zs1)).trans zs1) ((hb.cell (World.block_lt_of_cell? wr _ zs2)).trans zs2)) (fun _ _ => rfl)) ?_
              refine And.intro (ob_alloc (z := .agg #[.bool false, .slice none 0 0, .slice none 0 0]) rfl rfl (fun _ => by kernel_rfl) (fun _ _ hB h => ⟨_, rfl, hB, h⟩)) ?_
              refine And.intro (ob_assign rfl (wt_none rfl) (ev_dep (j := 0) (by kernel_rfl) rfl rfl) (fun _ _ h => h)) ?_
              trivial
            case done14 =>
              refine fun w5 hb5 v0 h0 v1 h1 v2 h2 v3 h3 d3 v4 h4 b hbf => ?_
              obtain rfl := h0; obtain rfl := h1; obtain rfl := h2; obtain rfl := h4
              obtain ⟨g14_3, rfl, hg3, B3⟩ := h3
              simp only [Act.put, List.setIfInBounds_toArray, List.set_cons_zero, List.set_cons_succ] at hbf
              subst hbf
              replace BR0 := BR0.below hb5
              replace RN := RN.below hb5
              replace zss := zss.below hb5
              replace zsd := zsd.below hb5
              replace bb := bb.trans (hb5.mono bb.size)
              have hsz5 := bb.size
              have BA9 := B3
              have q2 := zss
              have d2 := zsd
              refine ops_store (i := 5) rfl rfl rfl rfl rfl rfl (cells := [.bool (ngB (s).num), .slice As (digs 4294967296 (s).num.natAbs).length cs, .slice Ds (digs 4294967296 (s).den).length es]) rfl BA9 rfl (by kernel_rfl) (one3 rfl rfl rfl) fun w6 hg6 BN6 => ?_
              replace q2 := off q2 BA9 no_ints3 hg6
              replace d2 := off d2 BA9 no_ints3 hg6
              replace RN := RowN.offb RN BA9 no_ints3 hg6 (by omega)
              replace BR0 := BR0.grown hg6 (by omega)
              replace bb := bb.trans ((Below.refl _ _).grown hg6 bb.size (fun g hg => by injection hg with hg; omega))
              have hsz6 := bb.size
              have Bs : Blk w6 (g14_3) _ _ := BN6
              have kss := q2
              have ksd := d2
              have ksz : IsZ w6 (.agg #[.bool (ngB (s).num), .slice As (digs 4294967296 (s).num.natAbs).length cs]) ((s).num) := ⟨_, rfl, kss⟩
              have ks : IsQ w6 (.agg #[.bool (ngB (s).num), .slice As (digs 4294967296 (s).num.natAbs).length cs, .slice Ds (digs 4294967296 (s).den).length es]) (s) := ⟨_, _, rfl, kss, ksd⟩
              refine ops_done ?_
              obtain ⟨ux, tx, hltx, zx0, zx1, zx2, zxs, zxd⟩ := (sl1.below bb).at2 HX.out
              obtain ⟨Ax, cx, rfl, _⟩ := id zxs
              obtain ⟨Dx, ex, rfl, _⟩ := id zxd
              have zx : IsQ w6 (.agg #[.bool (ngB (x).num), .slice Ax (digs 4294967296 (x).num.natAbs).length cx, .slice Dx (digs 4294967296 (x).den).length ex]) (x) := ⟨_, _, rfl, zxs, zxd⟩
              clear hlts
              have hG9 := Bs.lt
              have hne9 : gr ≠ g14_3 := by omega
              have sB := bb.size
              go_upto_region 9 with (fail)
              refine flow 9 [Pd.eq (.slice (some ⟨gr, 0, none⟩) l.length l.length), Pd.eq (.int .i64 (k : Int)), Pd.eq (.agg #[.bool (ngB (s).num), .slice As (digs 4294967296 (s).num.natAbs).length cs, .slice Ds (digs 4294967296 (s).den).length es]), Pd.eq (.slice (some ⟨g1_, o1_, none⟩) qs.length c1), Pd.eq (.int .i64 (k : Int)), Pd.eq (.pointer (some ⟨g1_, o1_ + k * 3, none⟩)), Pd.eq (.agg #[.bool (ngB (x).num), .slice Ax (digs 4294967296 (x).num.natAbs).length cx, .slice Dx (digs 4294967296 (x).den).length ex]), pq ((s * x)) w6.heap.size, Pd.eq (.pointer (some ⟨gr, 0 + k * 3, none⟩))] (by kernel_rfl) (by kernel_rfl) ?ob15 ?done15
              case ob15 =>
                refine And.intro (ob_move rfl (wt_none rfl) (ev_far rfl rfl) (fun _ _ h => h)) ?_
                refine And.intro (ob_move rfl (wt_none rfl) (ev_far rfl rfl) (fun _ _ h => h)) ?_
                refine And.intro (ob_load rfl (wt_none rfl) (ev_far rfl rfl) (fun w2 hb => run_loadAll Tryz.underlying28 rfl (by kernel_rfl) (Bs.drew.below hb)) (fun _ _ => rfl)) ?_
                refine And.intro (ob_move rfl (wt_none rfl) (ev_far rfl rfl) (fun _ _ h => h)) ?_
                refine And.intro (ob_move rfl (wt_none rfl) (ev_far rfl rfl) (fun _ _ h => h)) ?_
                refine And.intro (ob_indexAddr rfl (wt_none rfl) (ev_dep (j := 3) (by kernel_rfl) rfl rfl) (ev_dep (j := 4) (by kernel_rfl) rfl rfl) (fun _ _ _ hx hy => ⟨_, by rw [hx, hy]; exact index3 (k := k) Tryz.underlying22 (by kernel_rfl) hltx _, rfl⟩)) ?_
                refine And.intro (ob_load rfl (wt_none rfl) (ev_dep (j := 5) (by kernel_rfl) rfl rfl) (fun w2 hb => load3 Tryz.underlying28 rfl (by kernel_rfl) ((hb.cell (World.block_lt_of_cell? w6 _ zx0)).trans zx0) ((hb.cell (World.block_lt_of_cell? w6 _ zx1)).trans zx1) ((hb.cell (World.block_lt_of_cell? w6 _ zx2)).trans zx2)) (fun _ _ => rfl)) ?_
                refine And.intro (ob_call2 rfl Tryz.func49 (by kernel_rfl) (wt_none rfl) (ev_dep (j := 2) (by kernel_rfl) rfl rfl) (ev_dep (j := 6) (by kernel_rfl) rfl rfl) (fun w2 u0 u1 hb h0 h1 => by obtain rfl := h0; obtain rfl := h1; exact (mul8_any _ s _ x _ (ks.drew.below hb) (zx.drew.below hb) (ls.mono (by decide)) (lx.mono (by decide))).mono fun e w3 h => RetQ.pd h hb.size)) ?_
                refine And.intro (ob_indexAddr rfl (wt_none rfl) (ev_dep (j := 0) (by kernel_rfl) rfl rfl) (ev_dep (j := 1) (by kernel_rfl) rfl rfl) (fun _ _ _ hx hy => ⟨_, by rw [hx, hy]; exact index3 (k := k) Tryz.underlying22 (by kernel_rfl) hlt _, rfl⟩)) ?_
                trivial
              case done15 =>
                refine fun w7 hb7 v0 h0 v1 h1 v2 h2 v3 h3 v4 h4 v5 h5 v6 h6 v7 h7 v8 h8 b hbf => ?_
                obtain rfl := h0; obtain rfl := h1; obtain rfl := h2; obtain rfl := h3; obtain rfl := h4; obtain rfl := h5; obtain rfl := h6; obtain rfl := h8
                obtain ⟨q7, f7⟩ := h7
                simp only [Act.put, List.setIfInBounds_toArray, List.set_cons_zero, List.set_cons_succ] at hbf
                subst hbf
                replace BR0 := BR0.below hb7
                replace Bs := Bs.below hb7
                replace kss := kss.below hb7
                replace ksd := ksd.below hb7
                replace ksz := ksz.below hb7
                replace ks := ks.below hb7
                replace RN := RN.below hb7
                replace bb := bb.trans (hb7.mono bb.size)
                have hsz7 := bb.size
                have s_7 := sB
                obtain ⟨u7, t7, rfl, q7, d7⟩ := q7
                obtain ⟨A9, c9, rfl, _⟩ := id q7
                obtain ⟨D9, e9, rfl, _⟩ := id d7
                refine any_store_q (j := 9) (by kernel_rfl) rfl rfl rfl rfl (g := gr) (i := k) (q := (s * x)) rfl rfl (by kernel_rfl) RN hlt q7 d7 fun w8 hg8 hP8 => ?_
                replace BR0 := BR0.grown hg8 (by omega)
                replace kss := RN.keep hg8 kss
                replace ksd := RN.keep hg8 ksd
                replace ksz : IsZ w8 (.agg #[.bool (ngB (s).num), .slice As (digs 4294967296 (s).num.natAbs).length cs]) ((s).num) := ⟨_, rfl, kss⟩
                replace ks : IsQ w8 (.agg #[.bool (ngB (s).num), .slice As (digs 4294967296 (s).num.natAbs).length cs, .slice Ds (digs 4294967296 (s).den).length es]) (s) := ⟨_, _, rfl, kss, ksd⟩
                replace Bs := Bs.grown hg8 (by omega)
                replace bb := bb.trans ((Below.refl _ _).grown hg8 bb.size (fun g hg => by injection hg with hg; omega))
                have hsz8 := bb.size
                replace RN := hP8.2 HFL.out
                clear hP8
                refine any_done (by kernel_rfl) ?_
                rw [HFS.out] at RN
                have hsk : l.length - (k + 1) < l.length - k := by omega
                go_wp2
                go_roundw
                case rel => exact ⟨k + 1, by omega, RN, BR0, bb, by go_num⟩
                case measure => simp [intOf]; omega
          · have HE : Hid (ZP.take k ++ (sharesL l).drop k = ZP) := by
              show _ = _
              rw [List.take_of_length_le (by rw [HZL.out, HSL.out]; omega), List.drop_eq_nil_of_le (by rw [HSL.out]; omega), List.append_nil]
            rw [HE.out] at RN
            have hS := RN.sl (by rw [HZL.out, HSL.out]) (by omega)
            have HMQ : Hid (sumq ZP = meanq l qs) := by show _ = _; rw [HZP.out]; rfl
            have HBD : Hid ((∀ q ∈ ZP, lenQ q 29) ∧ (29 + 1) * ZP.length + 1 ≤ 1000) := ⟨HZ29.out, by rw [HZL.out, HSL.out]; omega⟩
            have sB := bb.size
            go_upto_region 11 with (fail)
            refine flowp 2 [Pd.eq (.slice (some ⟨gr, 0, none⟩) l.length l.length), pqn (sumq ZP)] (by kernel_rfl) ?ob16 ?done16
            case ob16 =>
              refine And.intro (ob_move rfl (wt_none rfl) (ev_far rfl rfl) (fun _ _ h => h)) ?_
              refine And.intro (ob_call1 rfl Tryz.func12 (by kernel_rfl) (wt_none rfl) (ev_dep (j := 0) (by kernel_rfl) rfl rfl) (fun w2 u0 hb h0 => by obtain rfl := h0; exact (fsum_any _ ZP 29 _ (hS.below hb) HBD.out).mono fun e w3 h => RetQn.pd h)) ?_
              trivial
            case done16 =>
              refine fun w5 hb5 v0 h0 v1 h1 b hbf => ?_
              obtain rfl := h0
              have q1 := h1
              simp only [Act.put, List.setIfInBounds_toArray, List.set_cons_zero, List.set_cons_succ] at hbf
              subst hbf
              replace BR0 := BR0.below hb5
              replace hS := hS.below hb5
              replace bb := bb.trans (hb5.mono bb.size)
              have hsz5 := bb.size
              obtain ⟨u1, t1, rfl, q1, d1⟩ := q1
              obtain ⟨A9, c9, rfl, _⟩ := id q1
              obtain ⟨D9, e9, rfl, _⟩ := id d1
              refine ops_store (i := 2) rfl rfl rfl rfl rfl rfl (cells := [.bool (ngB ((sumq ZP)).num), .slice A9 (digs 4294967296 ((sumq ZP)).num.natAbs).length c9, .slice D9 (digs 4294967296 ((sumq ZP)).den).length e9]) rfl BR0 rfl (by kernel_rfl) (one3 rfl rfl rfl) fun w9 hg9 B9 => ?_
              have k9 := off q1 BR0 no_ints3 hg9
              have d9 := off d1 BR0 no_ints3 hg9
              have bb9 := bb.trans ((Below.refl _ _).grown hg9 bb.size (fun g hg => by injection hg with hg; omega))
              obtain ⟨C0, C1, C2, _, _, _⟩ := three B9
              refine ops_assign (i := 3) (.int .i64 0) rfl rfl rfl rfl rfl fun b hbf => ?_
              simp only [Act.put, List.setIfInBounds_toArray, List.set_cons_zero, List.set_cons_succ] at hbf
              subst hbf
              refine ops_done ?_
              go_wp2
              rw [← HMQ.out]
              exact bodyPost_ret (v := .tuple #[.agg #[.bool (ngB ((sumq ZP)).num), .slice A9 (digs 4294967296 ((sumq ZP)).num.natAbs).length c9, .slice D9 (digs 4294967296 ((sumq ZP)).den).length e9], .int .i64 0]) (by simp [results, Tryz.results29, go_sem, C0, C1, C2]) rfl ⟨_, rfl, ⟨_, _, rfl, k9, d9⟩, bb9⟩
theorem fmean_ok (a0 a1 : Value) (l : List Int) (qs : List Rat) (w : World) (h0 : IsI w a0 l) (h1 : SlF .u64 4294967296 w a1 qs) (hE : meanE l qs = 0) (hl : l.length ≤ 8 ∧ qs.length ≤ 8 ∧ ∀ q ∈ qs, lenQ q 2) : Calls Tryz.prog 29 #[a0, a1] w (RetQE (meanq l qs) 0 w) := by
  unfold meanE at hE
  split at hE
  · cases hE
  · split at hE
    · cases hE
    · rename_i h2 h3
      exact fmean_val a0 a1 l qs w h0 h1 hE ⟨List.length_pos_iff.2 h2, by omega⟩ ⟨hl.1, hl.2.2⟩
theorem fmean_no (a0 a1 : Value) (l : List Int) (qs : List Rat) (n : Int) (w : World) (h0 : IsI w a0 l) (h1 : SlF .u64 4294967296 w a1 qs) (hE : meanE l qs = n) (hn : n ≠ 0) (hl : l.length ≤ 8 ∧ qs.length ≤ 8 ∧ ∀ q ∈ qs, lenQ q 2) : Calls Tryz.prog 29 #[a0, a1] w (RetQN n w) := by
  unfold meanE at hE
  split at hE
  · rename_i h2
    subst h2
    exact fmean_err a0 a1 [] qs n w h0 h1 (by rw [← hE]; decide) hn (.inl rfl) (by simp)
  · split at hE
    · rename_i h2 h3
      subst hE
      exact fmean_unlike a0 a1 l qs w h0 h1 ⟨List.length_pos_iff.2 h2, h3⟩
    · rename_i h2 h3
      exact fmean_err a0 a1 l qs n w h0 h1 hE hn (.inr (by omega)) hl.1
end Go.Proofs.YtlnmoledijlemaaGreat.rat
namespace Go.Proofs.YtlnmoledijlemaaGreat.flow
open Go.RowKit Go.Proofs.YtlnmoledijlemaaGreat.num Go.Proofs.YtlnmoledijlemaaGreat.mem
set_option linter.unusedVariables false
/-- What each of them owes: in each such state it yields a value as told, in every world that keeps what HW says. -/
def LatesI (P : Program) (ops : Array Oper) (L : List Oper) (Φ : List Pd) (HW : World → Prop) (w0 : World) (a0 : Act) : List Nat → Prop
  | [] => True
  | q :: qs => (∃ oq, L[q]? = some oq ∧ ∀ ms w1, St L Φ w0 oq ms w1 → ∃ v, YieldsIf P ops HW oq v (putM a0 L ms) ∧ (ph Φ q).p w1 v) ∧ LatesI P ops L Φ HW w0 a0 qs
theorem LatesI.mem {P : Program} {ops : Array Oper} {L : List Oper} {Φ : List Pd} {HW : World → Prop} {w0 : World} {a0 : Act} {q : Nat} : ∀ {S : List Nat}, LatesI P ops L Φ HW w0 a0 S → q ∈ S → ∃ oq, L[q]? = some oq ∧ ∀ ms w1, St L Φ w0 oq ms w1 → ∃ v, YieldsIf P ops HW oq v (putM a0 L ms) ∧ (ph Φ q).p w1 v
  | a :: S, h, hq => by
    rcases List.mem_cons.1 hq with rfl | hq
    · exact h.1
    · exact LatesI.mem h.2 hq
section
variable {P : Program} {ops : Array Oper} {L : List Oper} {Φ : List Pd} {HW : World → Prop} {w0 : World} {a0 : Act} {o : Oper} {G : Pd} {Q : Exit → Act → World → Prop}
end
end Go.Proofs.YtlnmoledijlemaaGreat.flow
namespace Go.Proofs.YtlnmoledijlemaaGreat.rat
open Go.RowKit Go.Proofs.YtlnmoledijlemaaGreat.num Go.Proofs.YtlnmoledijlemaaGreat.mem Go.Proofs.YtlnmoledijlemaaGreat.nat Go.Proofs.YtlnmoledijlemaaGreat.txt Go.Proofs.YtlnmoledijlemaaGreat.str Go.Proofs.YtlnmoledijlemaaGreat.flow Go.Proofs.YtlnmoledijlemaaGreat.whl
set_option linter.unusedVariables false
set_option maxHeartbeats 1600000 in
set_option maxRecDepth 100000 in
theorem works10_any (w : World) :
    Calls Tryz.prog 23 #[] w (RetV (.bool true) w) := by
  have hE : sharesE [1, 3] = 0 := by decide +kernel
  have hL : sharesL [1, 3] = [mkRat 1 4, mkRat 3 4] := by decide +kernel
  have HWB : Hid (true = decide (wholeQ [mkRat 1 4, mkRat 3 4])) := by show _ = _; decide +kernel
  have lA : lenQ (mkRat 1 4) 2 := lenQ_mk (by omega) (dig32 (by decide)) (dig32 (by decide))
  have lB : lenQ (mkRat 3 4) 2 := lenQ_mk (by omega) (dig32 (by decide)) (dig32 (by decide))
  have HLS : Hid ((∀ q ∈ [mkRat 1 4, mkRat 3 4], lenQ q 2) ∧ (2 + 1) * [mkRat 1 4, mkRat 3 4].length + 1 ≤ 1000) := ⟨fun q hq => by rcases List.mem_cons.1 hq with rfl | hq; exact lA; obtain rfl := List.mem_singleton.1 hq; exact lB, by decide⟩
  obtain ⟨x0, x1, _, _⟩ := Blk.two (Blk.new w 3 #[.int .i64 1, .int .i64 3])
  have hI : IsI (w.alloc (.cells #[.int .i64 1, .int .i64 3] 3)) (.slice (some ⟨w.heap.size, 0, none⟩) 2 2) [1, 3] := ⟨_, 2, rfl, by decide, by decide, by decide, fun i z hz => by
    match i, hz with
    | 0, hz => obtain rfl : (1 : Int) = z := by simpa using hz
               exact ⟨_, rfl, x0⟩
    | 1, hz => obtain rfl : (3 : Int) = z := by simpa using hz
               exact ⟨_, rfl, x1⟩
    | i + 2, hz => simp at hz⟩
  have con := fshares_any _ [1, 3] _ hI (by decide)
  rw [hE, hL] at con
  have b0 := below_alloc (w := w) (Nat.le_refl _) (.cells #[.int .i64 1, .int .i64 3] 3)
  clear x0 x1 hI hE hL
  go_enter Tryz.func23, Tryz.ntmps23
  go_wp2_with fail
  refine con.mono ?_
  rintro e w1 ⟨V, rfl, hV0, hb1⟩
  clear con
  rw [if_pos rfl] at hV0
  have hV : SlF .u64 4294967296 w1 V [mkRat 1 4, mkRat 3 4] := hV0
  clear hV0
  have bb := b0.trans (hb1.mono b0.size)
  have hsz1 := bb.size
  obtain ⟨A_, c_, rfl, _, _⟩ := hV.shape
  obtain ⟨g_, o_, ua, ta, hA_, lt0, e0, e1, e2, es, ed⟩ := hV.at_ (i := 0) (q := mkRat 1 4) rfl
  subst hA_
  obtain ⟨g2, o2, ub, tb, hA_, lt1, y0, y1, y2, ys, yd⟩ := hV.at_ (i := 1) (q := mkRat 3 4) rfl
  injection hA_ with hA_
  injection hA_ with hg_ ho_ _
  subst hg_
  subst ho_
  obtain ⟨Aa, ca, rfl, _⟩ := id es
  obtain ⟨Da, da, rfl, _⟩ := id ed
  obtain ⟨Ab, cb, rfl, _⟩ := id ys
  obtain ⟨Db, db, rfl, _⟩ := id yd
  have ka : IsQ w1 (.agg #[.bool (ngB (mkRat 1 4).num), .slice Aa (digs 4294967296 (mkRat 1 4).num.natAbs).length ca, .slice Da (digs 4294967296 (mkRat 1 4).den).length da]) (mkRat 1 4) := ⟨_, _, rfl, es, ed⟩
  have kb : IsQ w1 (.agg #[.bool (ngB (mkRat 3 4).num), .slice Ab (digs 4294967296 (mkRat 3 4).num.natAbs).length cb, .slice Db (digs 4294967296 (mkRat 3 4).den).length db]) (mkRat 3 4) := ⟨_, _, rfl, ys, yd⟩
  clear b0 hb1
  go_upto_region 2 with (fail)
  refine flow 28 [Pd.eq (.int .i64 0), Pd.eq (.bool true), Pd.eq (.bool true), Pd.eq (.slice (some ⟨g_, o_, none⟩) [mkRat 1 4, mkRat 3 4].length c_), Pd.eq (.int .i64 ((2 : Nat) : Int)), Pd.eq (.bool true), Pd.eq (.bool true), Pd.eq (.bool true), Pd.eq (.slice (some ⟨g_, o_, none⟩) [mkRat 1 4, mkRat 3 4].length c_), Pd.eq (.pointer (some ⟨g_, o_ + 0 * 3, none⟩)), Pd.eq (.agg #[.bool (ngB (mkRat 1 4).num), .slice Aa (digs 4294967296 (mkRat 1 4).num.natAbs).length ca, .slice Da (digs 4294967296 (mkRat 1 4).den).length da]), pp ((mkRat 1 4)), pqn ((mkRat 1 4)), Pd.eq (.bool true), Pd.eq (.bool true), Pd.eq (.bool true), Pd.eq (.slice (some ⟨g_, o_, none⟩) [mkRat 1 4, mkRat 3 4].length c_), Pd.eq (.pointer (some ⟨g_, o_ + 1 * 3, none⟩)), Pd.eq (.agg #[.bool (ngB (mkRat 3 4).num), .slice Ab (digs 4294967296 (mkRat 3 4).num.natAbs).length cb, .slice Db (digs 4294967296 (mkRat 3 4).den).length db]), pp ((mkRat 3 4)), pqn ((mkRat 3 4)), Pd.eq (.bool true), Pd.eq (.bool true), Pd.eq (.bool true), Pd.eq (.slice (some ⟨g_, o_, none⟩) [mkRat 1 4, mkRat 3 4].length c_), Pd.eq (.bool true), Pd.eq (.bool true), Pd.eq (.bool true)] (by kernel_rfl) (by kernel_rfl) ?ob1 ?done1
  case ob1 =>
    refine And.intro (ob_move rfl (wt_none rfl) (ev_far rfl rfl) (fun _ _ h => h)) ?_
    refine And.intro (ob_bin rfl (wt_none rfl) (ev_dep (j := 0) (by kernel_rfl) rfl rfl) (ev_const _) (fun _ _ _ hx hy => ⟨.bool ((0 : Int) == 0), by rw [hx, hy]; exact bin_eql_int _ _ _ _ _, congrArg Value.bool (by decide)⟩)) ?_
    refine And.intro (ob_move rfl (wt_none rfl) (ev_dep (j := 1) (by kernel_rfl) rfl rfl) (fun _ _ h => h)) ?_
    refine And.intro (ob_move rfl (wt_dep (c := true) (b := true) (g := 2) rfl (by kernel_rfl) rfl rfl rfl (by exact fun _ _ h => h)) (ev_far rfl rfl) (fun _ _ h => h)) ?_
    refine And.intro (ob_len rfl (wt_dep (c := true) (b := true) (g := 2) rfl (by kernel_rfl) rfl rfl rfl (by exact fun _ _ h => h)) (ev_dep (j := 3) (by kernel_rfl) rfl rfl) (fun _ _ hx => ⟨_, by rw [hx]; exact len_slice Tryz.underlying22 _ _ _ _, rfl⟩)) ?_
    refine And.intro (ob_bin rfl (wt_dep (c := true) (b := true) (g := 2) rfl (by kernel_rfl) rfl rfl rfl (by exact fun _ _ h => h)) (ev_dep (j := 4) (by kernel_rfl) rfl rfl) (ev_const _) (fun _ _ _ hx hy => ⟨.bool true, by rw [hx, hy, bin_eql_int]; rfl, rfl⟩)) ?_
    refine And.intro (ob_pick (b := true) rfl (wt_none rfl) (ev_dep (j := 2) (by kernel_rfl) rfl rfl) (ev_dep (j := 5) (by kernel_rfl) rfl rfl) (fun _ _ h => h)) ?_
    refine And.intro (ob_move rfl (wt_none rfl) (ev_dep (j := 6) (by kernel_rfl) rfl rfl) (fun _ _ h => h)) ?_
    refine And.intro (ob_move rfl (wt_dep (c := true) (b := true) (g := 7) rfl (by kernel_rfl) rfl rfl rfl (by exact fun _ _ h => h)) (ev_far rfl rfl) (fun _ _ h => h)) ?_
    refine And.intro (ob_indexAddr rfl (wt_dep (c := true) (b := true) (g := 7) rfl (by kernel_rfl) rfl rfl rfl (by exact fun _ _ h => h)) (ev_dep (j := 8) (by kernel_rfl) rfl rfl) (ev_const _) (fun _ _ _ hx hy => ⟨_, by rw [hx, hy]; exact index3 (k := 0) Tryz.underlying22 (by kernel_rfl) lt0 _, rfl⟩)) ?_
    refine And.intro (ob_load rfl (wt_dep (c := true) (b := true) (g := 7) rfl (by kernel_rfl) rfl rfl rfl (by exact fun _ _ h => h)) (ev_dep (j := 9) (by kernel_rfl) rfl rfl) (fun w2 hb => load3 Tryz.underlying28 rfl (by kernel_rfl) ((hb.cell (World.block_lt_of_cell? w1 _ e0)).trans e0) ((hb.cell (World.block_lt_of_cell? w1 _ e1)).trans e1) ((hb.cell (World.block_lt_of_cell? w1 _ e2)).trans e2)) (fun _ _ => rfl)) ?_
    refine And.intro (ob_call2 rfl Tryz.func21 (by kernel_rfl) (wt_dep (c := true) (b := true) (g := 7) rfl (by kernel_rfl) rfl rfl rfl (by exact fun _ _ h => h)) (ev_const _) (ev_const _) (fun w2 u0 u1 hb h0 h1 => by obtain rfl := h0; obtain rfl := h1; exact (qnum_any 1 4 _ 4 rfl (by omega) (by omega) (by omega) (by omega)).mono fun e w3 h => RetPF.pd h)) ?_
    refine And.intro (ob_call1 rfl Tryz.func13 (by kernel_rfl) (wt_dep (c := true) (b := true) (g := 7) rfl (by kernel_rfl) rfl rfl rfl (by exact fun _ _ h => h)) (ev_dep (j := 11) (by kernel_rfl) rfl rfl) (fun w2 u0 hb h0 => by exact (qback_any _ _ _ h0 (lA.mono (by decide))).mono fun e w3 h => RetQn.pd (RetQ.n h))) ?_
    refine And.intro (ob_call2 rfl Tryz.func11 (by kernel_rfl) (wt_dep (c := true) (b := true) (g := 7) rfl (by kernel_rfl) rfl rfl rfl (by exact fun _ _ h => h)) (ev_dep (j := 10) (by kernel_rfl) rfl rfl) (ev_dep (j := 12) (by kernel_rfl) rfl rfl) (fun w2 u0 u1 hb h0 h1 => by obtain rfl := h0; exact (qsame_eq _ _ ((mkRat 1 4)) ((mkRat 1 4)) _ (ka.drew.below hb) h1 rfl).mono fun e w3 h => RetV.pd h)) ?_
    refine And.intro (ob_pick (b := true) rfl (wt_none rfl) (ev_dep (j := 7) (by kernel_rfl) rfl rfl) (ev_dep (j := 13) (by kernel_rfl) rfl rfl) (fun _ _ h => h)) ?_
    refine And.intro (ob_move rfl (wt_none rfl) (ev_dep (j := 14) (by kernel_rfl) rfl rfl) (fun _ _ h => h)) ?_
    refine And.intro (ob_move rfl (wt_dep (c := true) (b := true) (g := 15) rfl (by kernel_rfl) rfl rfl rfl (by exact fun _ _ h => h)) (ev_far rfl rfl) (fun _ _ h => h)) ?_
    refine And.intro (ob_indexAddr rfl (wt_dep (c := true) (b := true) (g := 15) rfl (by kernel_rfl) rfl rfl rfl (by exact fun _ _ h => h)) (ev_dep (j := 16) (by kernel_rfl) rfl rfl) (ev_const _) (fun _ _ _ hx hy => ⟨_, by rw [hx, hy]; exact index3 (k := 1) Tryz.underlying22 (by kernel_rfl) lt1 _, rfl⟩)) ?_
    refine And.intro (ob_load rfl (wt_dep (c := true) (b := true) (g := 15) rfl (by kernel_rfl) rfl rfl rfl (by exact fun _ _ h => h)) (ev_dep (j := 17) (by kernel_rfl) rfl rfl) (fun w2 hb => load3 Tryz.underlying28 rfl (by kernel_rfl) ((hb.cell (World.block_lt_of_cell? w1 _ y0)).trans y0) ((hb.cell (World.block_lt_of_cell? w1 _ y1)).trans y1) ((hb.cell (World.block_lt_of_cell? w1 _ y2)).trans y2)) (fun _ _ => rfl)) ?_
    refine And.intro (ob_call2 rfl Tryz.func21 (by kernel_rfl) (wt_dep (c := true) (b := true) (g := 15) rfl (by kernel_rfl) rfl rfl rfl (by exact fun _ _ h => h)) (ev_const _) (ev_const _) (fun w2 u0 u1 hb h0 h1 => by obtain rfl := h0; obtain rfl := h1; exact (qnum_any 3 4 _ 4 rfl (by omega) (by omega) (by omega) (by omega)).mono fun e w3 h => RetPF.pd h)) ?_
    refine And.intro (ob_call1 rfl Tryz.func13 (by kernel_rfl) (wt_dep (c := true) (b := true) (g := 15) rfl (by kernel_rfl) rfl rfl rfl (by exact fun _ _ h => h)) (ev_dep (j := 19) (by kernel_rfl) rfl rfl) (fun w2 u0 hb h0 => by exact (qback_any _ _ _ h0 (lB.mono (by decide))).mono fun e w3 h => RetQn.pd (RetQ.n h))) ?_
    refine And.intro (ob_call2 rfl Tryz.func11 (by kernel_rfl) (wt_dep (c := true) (b := true) (g := 15) rfl (by kernel_rfl) rfl rfl rfl (by exact fun _ _ h => h)) (ev_dep (j := 18) (by kernel_rfl) rfl rfl) (ev_dep (j := 20) (by kernel_rfl) rfl rfl) (fun w2 u0 u1 hb h0 h1 => by obtain rfl := h0; exact (qsame_eq _ _ ((mkRat 3 4)) ((mkRat 3 4)) _ (kb.drew.below hb) h1 rfl).mono fun e w3 h => RetV.pd h)) ?_
    refine And.intro (ob_pick (b := true) rfl (wt_none rfl) (ev_dep (j := 15) (by kernel_rfl) rfl rfl) (ev_dep (j := 21) (by kernel_rfl) rfl rfl) (fun _ _ h => h)) ?_
    refine And.intro (ob_move rfl (wt_none rfl) (ev_dep (j := 22) (by kernel_rfl) rfl rfl) (fun _ _ h => h)) ?_
    refine And.intro (ob_move rfl (wt_dep (c := true) (b := true) (g := 23) rfl (by kernel_rfl) rfl rfl rfl (by exact fun _ _ h => h)) (ev_far rfl rfl) (fun _ _ h => h)) ?_
    refine And.intro (ob_call1 rfl Tryz.func17 (by kernel_rfl) (wt_dep (c := true) (b := true) (g := 23) rfl (by kernel_rfl) rfl rfl rfl (by exact fun _ _ h => h)) (ev_dep (j := 24) (by kernel_rfl) rfl rfl) (fun w2 u0 hb h0 => by obtain rfl := h0; exact (fwhole_any _ [mkRat 1 4, mkRat 3 4] 2 true _ (hV.drew.below hb) HLS.out HWB.out).mono fun e w3 h => RetV.pd h)) ?_
    refine And.intro (ob_pick (b := true) rfl (wt_none rfl) (ev_dep (j := 23) (by kernel_rfl) rfl rfl) (ev_dep (j := 25) (by kernel_rfl) rfl rfl) (fun _ _ h => h)) ?_
    refine And.intro (ob_assign rfl (wt_none rfl) (ev_dep (j := 26) (by kernel_rfl) rfl rfl) (fun _ _ h => h)) ?_
    trivial
  case done1 =>
    refine fun w2 hb2 v0 h0 v1 h1 v2 h2 v3 h3 v4 h4 v5 h5 v6 h6 v7 h7 v8 h8 v9 h9 v10 h10 v11 h11 v12 h12 v13 h13 v14 h14 v15 h15 v16 h16 v17 h17 v18 h18 v19 h19 v20 h20 v21 h21 v22 h22 v23 h23 v24 h24 v25 h25 v26 h26 v27 h27 b hbf => ?_
    obtain rfl := h0; obtain rfl := h1; obtain rfl := h2; obtain rfl := h3; obtain rfl := h4; obtain rfl := h5; obtain rfl := h6; obtain rfl := h7; obtain rfl := h8; obtain rfl := h9; obtain rfl := h10; obtain rfl := h13; obtain rfl := h14; obtain rfl := h15; obtain rfl := h16; obtain rfl := h17; obtain rfl := h18; obtain rfl := h21; obtain rfl := h22; obtain rfl := h23; obtain rfl := h24; obtain rfl := h25; obtain rfl := h26; obtain rfl := h27
    have q11 := h11
    have q12 := h12
    have q19 := h19
    have q20 := h20
    simp only [Act.put, List.setIfInBounds_toArray, List.set_cons_zero, List.set_cons_succ] at hbf
    subst hbf
    replace bb := bb.trans (hb2.mono bb.size)
    have hsz2 := bb.size
    refine any_done (by kernel_rfl) ?_
    go_wp2
    go_ret
    exact ⟨rfl, bb⟩
end Go.Proofs.YtlnmoledijlemaaGreat.rat
