/- Few: two rows of fractions out of an argument. Condition: as it says.
Tables: rows of rows of fractions, as they come in, as a call makes them by append, or by make. Condition: as each says.
A region that draws its order, a chain of whose operations may come behind the first store and reads what was there: the stores write new variables alone, so it yields the same then. No program stands here.
Rows of fractions that the call makes at their full length: one block, written element by element; calls through a function's value. Condition: as each says.
Rows that a call makes, and hands on: words for its end. Condition: as each says.
Tables that a call makes at their full length: one block of slices, written place by place; rows of the call's own that grow within such a table. Condition: as each says.
Rows of tables, as a variadic call takes them: written out in a region; read. Condition: as each says.
Rows of one fraction written out in a region; a table's place; what the types of rows and tables are. Condition: as each says.
Package sparse: copied, Get. Condition: as each says.
Package sparse: Put, More. Condition: as each says.
Package sparse: Get of none, More. Condition: as each says.
Package sparse, of none: Apply, Row, Full; the example. Condition: as each says.
Rows of cells (a number, and a fraction: four cells each): a row of the call's own that grows by append. Condition: as each says.
Package vect: noughts, Zero, Unit. Condition: as each says.
Package vect: vanishes, Scale, Dot, Lead. Condition: as each says.
Tables of fractions: what loops over rows and places keep; rows of tables multiplied, laid side by side; how long numbers grow. Mathematics alone.
Package sparse: fits, dot, Apply. Condition: as each says.
Package sparse: dot. Condition: as it says.
Package sparse: Apply. Condition: as it says.
Package vect: own, EqualFunc, Less, Same, Greatest. Condition: as each says.
Package matrix: what only reads: Size, fit, alike, Same; the document's Wide; the statements' even, Is. Condition: as each says.
Package matrix: whether a table may be (a function's value with a captured variable), Check. Condition: as each says. -/
import Derived.Test.YtpcdkepkipadaaaGreatKF3
import Derived.OrdersHeld
import Derived.Laws.IdiomRangeMap
import Derived.BigRegion
import Derived.Deep.CutRange
namespace Go.Proofs.YtpcdkepkipadaaaGreat.rat
open Go.RowKit Go.Proofs.YtpcdkepkipadaaaGreat.num Go.Proofs.YtpcdkepkipadaaaGreat.mem Go.Proofs.YtpcdkepkipadaaaGreat.nat Go.Proofs.YtpcdkepkipadaaaGreat.txt Go.Proofs.YtpcdkepkipadaaaGreat.str Go.Proofs.YtpcdkepkipadaaaGreat.flow Go.Proofs.YtpcdkepkipadaaaGreat.whl
set_option linter.unusedVariables false
/-- Two slices of the same fractions, so many of one limb each: the program's, and the document's own. -/
def RetFewN (n : Nat) (w : World) (e : Ending) (w' : World) : Prop := ∃ V U qs, e = .returned (.tuple #[V, U]) ∧ SlF .u64 4294967296 w' V qs ∧ SlF .i64 10000 w' U qs ∧ qs.length = n ∧ (∀ q ∈ qs, lenQ q 1) ∧ Below w.heap.size w w' ∧ (∀ g, V.ownBlock = some g → w.heap.size ≤ g ∧ g < w'.heap.size) ∧ (∀ g, U.ownBlock = some g → w.heap.size ≤ g ∧ g < w'.heap.size)
/-- Limbs in new memory; a row in new memory, limbs and all. -/
def NewL (B : Nat) (ps : List Elt) : Prop := ∀ p ∈ ps, Fresh B p.2.1 ∧ Fresh B p.2.2
theorem NewL.nil (B : Nat) : NewL B [] := fun p hp => by cases hp
theorem NewL.snoc {B : Nat} {ps : List Elt} {p : Elt} (h : NewL B ps) (h1 : Fresh B p.2.1) (h2 : Fresh B p.2.2) : NewL B (ps ++ [p]) := fun a ha => by
  rcases List.mem_append.1 ha with ha | ha
  · exact h a ha
  · rw [List.mem_singleton.1 ha]; exact ⟨h1, h2⟩
def IsN (k : IntKind) (B : Nat) (w : World) (B0 : Nat) (v : Value) (r : List Rat) : Prop := ∃ ps : List Elt, ps.map (·.1) = r ∧ IsVF w v ps ∧ (∀ p ∈ ps, IsE k B w p ∧ Fresh B0 p.2.1 ∧ Fresh B0 p.2.2) ∧ ∀ g, v.ownBlock = some g → B0 ≤ g ∧ g < w.heap.size
theorem IsN.sl {k : IntKind} {B : Nat} {w : World} {B0 : Nat} {v : Value} {r : List Rat} (h : IsN k B w B0 v r) : SlF k B w v r := by
  obtain ⟨ps, h1, h2, h3, _⟩ := h
  exact ⟨ps, h1, h2, fun p hp => (h3 p hp).1⟩
theorem IsN.below {k : IntKind} {B : Nat} {w w' : World} {B0 : Nat} {v : Value} {r : List Rat} (h : IsN k B w B0 v r) (hb : Below w.heap.size w w') : IsN k B w' B0 v r := by
  obtain ⟨ps, h1, h2, h3, h4⟩ := h
  exact ⟨ps, h1, h2.below hb, fun p hp => ⟨(h3 p hp).1.below hb, (h3 p hp).2⟩, fun g hg => ⟨(h4 g hg).1, Nat.lt_of_lt_of_le (h4 g hg).2 hb.size⟩⟩
theorem IsN.mono {k : IntKind} {B : Nat} {w : World} {B0 B1 : Nat} {v : Value} {r : List Rat} (h : IsN k B w B0 v r) (hb : B1 ≤ B0) : IsN k B w B1 v r := by
  obtain ⟨ps, h1, h2, h3, h4⟩ := h
  exact ⟨ps, h1, h2, fun p hp => ⟨(h3 p hp).1, (h3 p hp).2.1.mono hb, (h3 p hp).2.2.mono hb⟩, fun g hg => ⟨Nat.le_trans hb (h4 g hg).1, (h4 g hg).2⟩⟩
/-- Two rows of the same fractions, in new memory. -/
def RetFewG (n : Nat) (w : World) (e : Ending) (w' : World) : Prop := ∃ V U qs, e = .returned (.tuple #[V, U]) ∧ IsN .u64 4294967296 w' w.heap.size V qs ∧ IsN .i64 10000 w' w.heap.size U qs ∧ qs.length = n ∧ (∀ q ∈ qs, lenQ q 1) ∧ Below w.heap.size w w'
set_option maxHeartbeats 6400000 in
set_option maxRecDepth 100000 in
theorem few11_new (A0 : Option Addr) (n0 c0 M : Nat) (w : World) (h0 : ArgQs w (.slice A0 n0 c0)) (hM : M ≤ 8) :
    Calls Tryz.prog 18 #[.slice A0 n0 c0, .int .i64 (M : Int)] w (RetFewG (min n0 M) w) := by
  obtain ⟨A0_, n0_, c0_, e_, hn0, hc0, hel⟩ := h0
  injection e_ with e1_ e2_ e3_
  subst e1_
  subst e2_
  subst e3_
  have HEL := Lib.hid hel
  clear hel
  unfold maxLen at hc0
  have bb : Below w.heap.size w w := Below.refl _ _
  go_enter Tryz.func18, Tryz.ntmps18
  go_wp2
  go_loopw [6, 7, 8] (fun v4 v5 v6 wr => ∃ (k : Nat) (ps rs : List Elt), k ≤ M ∧ k ≤ n0 ∧ Hid (ps.length = k) ∧ Hid (rs.map (·.1) = ps.map (·.1)) ∧ Hid (∀ p ∈ ps, lenQ p.1 1) ∧ TwoRows w wr v4 v5 ps rs ∧ NewL w.heap.size ps ∧ NewL w.heap.size rs ∧ v6 = .int .i64 (k : Int)) (fun _ _ v6 _ => M - (intOf v6).toNat)
  case atStart =>
    have r0 := rowF_lit0 36 w w.heap.size (Nat.le_refl _)
    have r1 := rowF_lit0 47 (w.alloc (.cells #[] 36)) w.heap.size (by simp)
    have r0' := r0.below (below_alloc (Nat.le_refl _) (.cells #[] 47))
    refine ⟨0, [], [], by omega, by omega, rfl, rfl, (by show ∀ p ∈ _, _; intro p hp; cases hp), ⟨r0', ?_, ⟨FarF.nil _ _ _ _, FarF.nil _ _ _ _⟩, ⟨FarF.nil _ _ _ _, FarF.nil _ _ _ _⟩, ?_, (below_alloc (Nat.le_refl _) _).alloc (by simp) _⟩, NewL.nil _, NewL.nil _, rfl⟩
    · simpa using r1
    · intro g h1 h2
      simp [Value.ownBlock] at h1 h2
      omega
  case round =>
    obtain ⟨k, ps, rs, hk8, hkn, HPL, HRP, HLQ, hTR, hNP, hNR, rfl⟩ := hrel
    obtain ⟨u4, hu4⟩ : ∃ u4, u4 = u6 := ⟨_, rfl⟩
    obtain ⟨u5, hu5⟩ : ∃ u5, u5 = u7 := ⟨_, rfl⟩
    subst hu4
    subst hu5
    have bb' := hTR.2.2.2.2.2
    clear bb
    have bb := bb'
    clear bb'
    by_cases hlt : k < n0 ∧ k < M
    · obtain ⟨hlt1, hlt2⟩ := hlt
      obtain ⟨ad, b, ue, te, l, m, hA0, e0, e1, e2, hu, lu, ht, lt⟩ := HEL.out k hlt1
      subst hA0
      obtain ⟨Ae, ce, rfl, _⟩ := id hu
      obtain ⟨De, ee, rfl, _⟩ := id ht
      replace e0 := (bb.cell (World.block_lt_of_cell? w _ e0)).trans e0
      replace e1 := (bb.cell (World.block_lt_of_cell? w _ e1)).trans e1
      replace e2 := (bb.cell (World.block_lt_of_cell? w _ e2)).trans e2
      replace hu := hu.below bb
      replace ht := ht.below bb
      obtain ⟨q, hq⟩ : ∃ q, q = cleanQ b l m 1 := ⟨_, rfl⟩
      have lq : lenQ q 1 := by rw [hq]; exact cleanQ_len _ _ _ (by omega)
      have HQ := Lib.hid hq.symm
      clear hq
      have bl : Below wr.heap.size wr wr := Below.refl _ _
      have hszr := bb.size
      go_upto_region 5 with (fail)
      refine flowp 6 [Pd.eq (.slice (some ad) n0 c0), Pd.eq (.int .i64 (k : Int)), Pd.eq (.pointer (some (ad.add (k * 3)))), Pd.eq (.agg #[.bool b, .slice Ae l.length ce, .slice De m.length ee]), pq (q) wr.heap.size, pn 36 #[.bool false, .slice none 0 0, .slice none 0 0] wr.heap.size] (by kernel_rfl) ?ob1 ?done1
      case ob1 =>
        refine And.intro (ob_move rfl (wt_none rfl) (ev_far rfl rfl) (fun _ _ h => h)) ?_
        refine And.intro (ob_move rfl (wt_none rfl) (ev_far rfl rfl) (fun _ _ h => h)) ?_
        refine And.intro (ob_indexAddr rfl (wt_none rfl) (ev_dep (j := 0) (by kernel_rfl) rfl rfl) (ev_dep (j := 1) (by kernel_rfl) rfl rfl) (fun _ _ _ hx hy => ⟨_, by rw [hx, hy]; exact index3_any Tryz.underlying53 (by kernel_rfl) ad hlt1 _, rfl⟩)) ?_
        refine And.intro (ob_load rfl (wt_none rfl) (ev_dep (j := 2) (by kernel_rfl) rfl rfl) (fun w2 hb => load3_any Tryz.underlying36 rfl (by kernel_rfl) ((hb.cell (World.block_lt_of_cell? wr _ e0)).trans e0) ((hb.cell (World.block_lt_of_cell? wr _ e1)).trans e1) ((hb.cell (World.block_lt_of_cell? wr _ e2)).trans e2)) (fun _ _ => rfl)) ?_
        refine And.intro (ob_call2 rfl Tryz.func9 (by kernel_rfl) (wt_none rfl) (ev_dep (j := 3) (by kernel_rfl) rfl rfl) (ev_const _) (fun w2 u0 u1 hb h0 h1 => by obtain rfl := h0; obtain rfl := h1; exact (HQ.out ▸ qclean_any b _ _ l m 1 1 _ rfl (hu.below hb) lu (ht.below hb) lt (by omega) (by omega)).mono fun e w3 h => RetQ.pd h hb.size)) ?_
        refine And.intro (ob_alloc (z := .agg #[.bool false, .slice none 0 0, .slice none 0 0]) rfl rfl (fun _ => by kernel_rfl) (fun _ _ hB h => ⟨_, rfl, hB, h⟩)) ?_
        trivial
      case done1 =>
        refine fun w2 hb2 v0 h0 v1 h1 v2 h2 v3 h3 v4 h4 v5 h5 d5 b hbf => ?_
        obtain rfl := h0; obtain rfl := h1; obtain rfl := h2; obtain rfl := h3
        obtain ⟨q4, f4⟩ := h4
        obtain ⟨g1_5, rfl, hg5, B5⟩ := h5
        simp only [Act.put, List.setIfInBounds_toArray, List.set_cons_zero, List.set_cons_succ] at hbf
        subst hbf
        replace bb := bb.trans (hb2.mono bb.size)
        have hsz2 := bb.size
        replace bl := bl.trans (hb2.mono bl.size)
        have BA9 := B5
        obtain ⟨u4, t4, rfl, q4, d4⟩ := q4
        obtain ⟨A7, c7, rfl, _⟩ := id q4
        obtain ⟨D7, e7, rfl, _⟩ := id d4
        refine ops_store (i := 6) rfl rfl rfl rfl rfl rfl (cells := [.bool (ngB (q).num), .slice A7 (digs 4294967296 (q).num.natAbs).length c7, .slice D7 (digs 4294967296 (q).den).length e7]) rfl BA9 rfl (by kernel_rfl) (one3 rfl rfl rfl) fun w3 hg3 BN3 => ?_
        replace q4 := off q4 BA9 no_ints3 hg3
        replace d4 := off d4 BA9 no_ints3 hg3
        replace bb := bb.trans ((Below.refl _ _).grown hg3 bb.size (fun g hg => by injection hg with hg; omega))
        have hsz3 := bb.size
        have B7 : Blk w3 (g1_5) _ _ := BN3
        have k7s := q4
        have k7d := d4
        have k7z : IsZ w3 (.agg #[.bool (ngB (q).num), .slice A7 (digs 4294967296 (q).num.natAbs).length c7]) ((q).num) := ⟨_, rfl, k7s⟩
        have k7 : IsQ w3 (.agg #[.bool (ngB (q).num), .slice A7 (digs 4294967296 (q).num.natAbs).length c7, .slice D7 (digs 4294967296 (q).den).length e7]) (q) := ⟨_, _, rfl, k7s, k7d⟩
        have hq_ := bl.size
        replace bl := bl.trans ((Below.refl _ _).grown hg3 bl.size (fun g hg => by injection hg with hg; omega))
        clear hq_
        refine ops_done ?_
        have g1 := (f4 _ _ _ rfl).1
        have g2 := (f4 _ _ _ rfl).2
        have under4 := hTR.1.under
        have under5 := hTR.2.1.under
        have far4 : Far u4 (.slice A7 (digs 4294967296 (q).num.natAbs).length c7) ∧ Far u4 (.slice D7 (digs 4294967296 (q).den).length e7) := ⟨g1.far under4, g2.far under4⟩
        have far5 : Far u5 (.slice A7 (digs 4294967296 (q).num.natAbs).length c7) ∧ Far u5 (.slice D7 (digs 4294967296 (q).den).length e7) := ⟨g1.far under5, g2.far under5⟩
        have hT2 := hTR.below bl
        have HT2 := Lib.hid hT2
        have hr4 : RowF 36 w3 w.heap.size u4 ps := hT2.1
        have hszT : w.heap.size ≤ w3.heap.size := hT2.2.2.2.2.2.size
        have hne4 : u4.ownBlock ≠ some g1_5 := fun e => by have := under4 _ e; omega
        obtain ⟨x70, x71, x72, _, _, _⟩ := three B7
        obtain ⟨P1, hP1⟩ : ∃ P1 : Elt, P1 = (q, .slice A7 (digs 4294967296 (q).num.natAbs).length c7, .slice D7 (digs 4294967296 (q).den).length e7) := ⟨_, rfl⟩
        have HP1 := Lib.hid hP1
        have k7d_ : IsE .u64 4294967296 w3 (q, .slice A7 (digs 4294967296 (q).num.natAbs).length c7, .slice D7 (digs 4294967296 (q).den).length e7) := ⟨k7s, k7d⟩
        have lq3 : lenQ q 30000 := ⟨Nat.le_trans lq.1 (by decide), Nat.le_trans lq.2 (by decide)⟩
        have HL8 : Hid (ps.length ≤ 1000000000 ∧ rs.length ≤ 1000000000) := by
          have h1 := HPL.out
          have h2 := congrArg List.length HRP.out
          rw [List.length_map, List.length_map] at h2
          exact ⟨by omega, by omega⟩
        clear hT2 hTR e0 e1 e2 hu ht lu lt hP1
        obtain ⟨cA0, cA1, cA2⟩ := new_cells w3 36 (.bool (ngB (q).num)) (.slice A7 (digs 4294967296 (q).num.natAbs).length c7) (.slice D7 (digs 4294967296 (q).den).length e7)
        have bA := below_alloc (w := w3) (Nat.le_refl _) (.cells #[.bool (ngB (q).num), .slice A7 (digs 4294967296 (q).num.natAbs).length c7, .slice D7 (digs 4294967296 (q).den).length e7] 36)
        obtain ⟨wA, hwA⟩ : ∃ wA, wA = w3.alloc (.cells #[.bool (ngB (q).num), .slice A7 (digs 4294967296 (q).num.natAbs).length c7, .slice D7 (digs 4294967296 (q).den).length e7] 36) := ⟨_, rfl⟩
        have HWA := Lib.hid hwA
        rw [← hwA] at cA0 cA1 cA2 bA
        replace bA := bA.drew
        have rA := hr4.below bA
        have eA := k7d_.below bA
        have tA := HT2.out.below bA
        have BA_ := B7.below bA
        have hszA : w.heap.size ≤ wA.drew.heap.size := tA.2.2.2.2.2.size
        have TA := Lib.hid tA
        clear tA
        subst hwA
        obtain ⟨xA0, xA1, xA2, _, _, _⟩ := three BA_
        go_upto_region 6 with (fail)
        go_region_law (first
          | (refine step_append_q rfl (.tmp 28) (.tmp 30) rfl Tryz.underlying53 info_rat (v := u4) (p := (q, .slice A7 (digs 4294967296 (q).num.natAbs).length c7, .slice D7 (digs 4294967296 (q).den).length e7)) (ps := ps) (by rfl) (by exact rA) (ad := ⟨w3.heap.size, 0, none⟩) (c := 1) (by rfl) (by exact cA0) (by exact cA1) (by exact cA2) rfl rfl HL8.out.1 (by exact hszA) ?_; intro v5 w5 row5 bb5 HK5; have T5 := Lib.hid (TA.out.one row5 HK5.out bb5 eA far4 far5); have s5 := (HK5.out.1 _ _ _ eA.1 far4.1).1; have d5 := (HK5.out.1 _ _ _ eA.2 far4.2).1; have B5_ := BA_.other HK5.out.2.1 hne4; obtain ⟨x50, x51, x52, _, _, _⟩ := three B5_)
          | (go_simp; go_at_call 12; refine (qoff_any _ q _ ⟨_, _, rfl, (by exact s5), (by exact d5)⟩ lq3).mono ?_; rintro e w6 ⟨v6, rfl, k6, f6, b6⟩; have T6 := Lib.hid (T5.out.below b6); have row6 := T6.out.2.1; obtain ⟨u6, t6, rfl, q6, d6⟩ := k6; obtain ⟨A6, c6, rfl, _⟩ := id q6; obtain ⟨D6, e6, rfl, _⟩ := id d6; have hsz6 : w.heap.size ≤ w6.heap.size := T6.out.2.2.2.2.2.size; obtain ⟨cC0, cC1, cC2⟩ := new_cells w6 47 (.bool (ngB (q).num)) (.slice A6 (digs 10000 (q).num.natAbs).length c6) (.slice D6 (digs 10000 (q).den).length e6); have rC := row6.below (below_alloc (Nat.le_refl _) (.cells #[.bool (ngB (q).num), .slice A6 (digs 10000 (q).num.natAbs).length c6, .slice D6 (digs 10000 (q).den).length e6] 47)); have hszC := Nat.le_trans hsz6 (below_alloc (w := w6) (Nat.le_refl _) (.cells #[.bool (ngB (q).num), .slice A6 (digs 10000 (q).num.natAbs).length c6, .slice D6 (digs 10000 (q).den).length e6] 47)).size)
          | (refine step_append_q rfl (.tmp 32) (.tmp 35) rfl Tryz.underlying57 info_q (v := u5) (p := (q, .slice A6 (digs 10000 (q).num.natAbs).length c6, .slice D6 (digs 10000 (q).den).length e6)) (ps := rs) (by rfl) (by exact rC) (ad := ⟨w6.heap.size, 0, none⟩) (c := 1) (by rfl) (by exact cC0) (by exact cC1) (by exact cC2) rfl rfl HL8.out.2 (by exact hszC) ?_; intro v7 w7 row7 bb7 HK7))
        all_goals
          have ba6 := below_alloc (w := w6) (Nat.le_refl _) (.cells #[.bool (ngB (q).num), .slice A6 (digs 10000 (q).num.natAbs).length c6, .slice D6 (digs 10000 (q).den).length e6] 47)
          have TC := T6.out.below ba6
          have EC : IsE .i64 10000 (w6.alloc (.cells #[.bool (ngB (q).num), .slice A6 (digs 10000 (q).num.natAbs).length c6, .slice D6 (digs 10000 (q).den).length e6] 47)) (q, .slice A6 (digs 10000 (q).num.natAbs).length c6, .slice D6 (digs 10000 (q).den).length e6) := ⟨q6.below ba6, d6.below ba6⟩
          have j1 := (f6 _ _ _ rfl).1
          have j2 := (f6 _ _ _ rfl).2
          have n4 := T5.out.1.under
          have n5 := T5.out.2.1.under
          have T7 := TC.two row7 HK7.out bb7 EC ⟨j1.far n4, j2.far n4⟩ ⟨j1.far n5, j2.far n5⟩
          have NP7 := hNP.snoc (p := (q, .slice A7 (digs 4294967296 (q).num.natAbs).length c7, .slice D7 (digs 4294967296 (q).den).length e7)) (g1.mono hszr) (g2.mono hszr)
          have hs5 : w.heap.size ≤ w5.heap.size := T5.out.2.2.2.2.2.size
          have NR7 := hNR.snoc (p := (q, .slice A6 (digs 10000 (q).num.natAbs).length c6, .slice D6 (digs 10000 (q).den).length e6)) (j1.mono hs5) (j2.mono hs5)
          have HPL7 : Hid ((ps ++ [((q, .slice A7 (digs 4294967296 (q).num.natAbs).length c7, .slice D7 (digs 4294967296 (q).den).length e7) : Elt)]).length = k + 1) := by show _ = _; rw [List.length_append, HPL.out]; rfl
          have HRP7 : Hid ((rs ++ [((q, .slice A6 (digs 10000 (q).num.natAbs).length c6, .slice D6 (digs 10000 (q).den).length e6) : Elt)]).map (·.1) = (ps ++ [((q, .slice A7 (digs 4294967296 (q).num.natAbs).length c7, .slice D7 (digs 4294967296 (q).den).length e7) : Elt)]).map (·.1)) := by show _ = _; rw [List.map_append, List.map_append, HRP.out]; rfl
          have HLQ7 : Hid (∀ p ∈ ps ++ [((q, .slice A7 (digs 4294967296 (q).num.natAbs).length c7, .slice D7 (digs 4294967296 (q).den).length e7) : Elt)], lenQ p.1 1) := fun p hp => by
            rcases List.mem_append.1 hp with hp | hp
            · exact HLQ.out p hp
            · rw [List.mem_singleton.1 hp]; exact lq
          have hme : M - (k + 1) < M - k := by omega
          go_wp2
          go_roundw
          case rel => exact ⟨k + 1, _, _, by omega, by omega, HPL7, HRP7, HLQ7, T7, NP7, NR7, rfl⟩
          case measure => exact hme
    · have hV0 := fun g h => And.intro (hTR.1.base_le g h) (hTR.1.under g h)
      have hU0 := fun g h => And.intro (hTR.2.1.base_le g h) (hTR.2.1.under g h)
      have HEND : Hid (IsN .u64 4294967296 wr w.heap.size u4 (ps.map (·.1)) ∧ IsN .i64 10000 wr w.heap.size u5 (ps.map (·.1)) ∧ (ps.map (·.1)).length = min n0 M ∧ (∀ q ∈ ps.map (·.1), lenQ q 1)) := by
        show _ ∧ _ ∧ _ ∧ _
        refine ⟨⟨ps, rfl, hTR.1.isVF, fun p hp => ⟨(hTR.2.2.1.1 p hp).1, hNP p hp⟩, fun g hg => ⟨hTR.1.base_le g hg, hTR.1.under g hg⟩⟩, ⟨rs, HRP.out, hTR.2.1.isVF, fun p hp => ⟨(hTR.2.2.2.1.2 p hp).1, hNR p hp⟩, fun g hg => ⟨hTR.2.1.base_le g hg, hTR.2.1.under g hg⟩⟩, by rw [List.length_map, HPL.out]; omega, fun x hx => ?_⟩
        obtain ⟨p, hp, rfl⟩ := List.mem_map.1 hx
        exact HLQ.out p hp
      clear hTR HRP HLQ HPL hNP hNR hV0 hU0
      have hx : ¬ k < n0 ∨ (k < n0 ∧ ¬ k < M) := by omega
      rcases hx with hx | ⟨hx1, hx2⟩
      all_goals
        go_wp2
        go_ret2
        exact ⟨_, _, _, rfl, HEND.out.1, HEND.out.2.1, HEND.out.2.2.1, HEND.out.2.2.2, bb⟩
theorem few11_any (A0 : Option Addr) (n0 c0 M : Nat) (w : World) (h0 : ArgQs w (.slice A0 n0 c0)) (hM : M ≤ 8) : Calls Tryz.prog 18 #[.slice A0 n0 c0, .int .i64 (M : Int)] w (RetFewN (min n0 M) w) :=
  (few11_new A0 n0 c0 M w h0 hM).mono fun e w' h => by
    obtain ⟨V, U, qs, h1, h2, h3, h4, h5, h6⟩ := h
    obtain ⟨_, _, _, _, hV⟩ := id h2
    obtain ⟨_, _, _, _, hU⟩ := id h3
    exact ⟨V, U, qs, h1, h2.sl, h3.sl, h4, h5, h6, hV, hU⟩
/-- A slice of slices of fractions. -/
def SlT (k : IntKind) (B : Nat) (w : World) (v : Value) (t : List (List Rat)) : Prop := ∃ us : List Value, us.length = t.length ∧ (∃ A c, v = .slice A us.length c ∧ us.length ≤ c ∧ c ≤ maxLen ∧ ∀ (i : Nat) (u : Value), us[i]? = some u → ∃ ad, A = some ad ∧ w.cell? (ad.add i) = some u) ∧ ∀ (i : Nat) (u : Value) (r : List Rat), us[i]? = some u → t[i]? = some r → SlF k B w u r
theorem SlT.below {k : IntKind} {B : Nat} {w w' : World} {v : Value} {t : List (List Rat)} (h : SlT k B w v t) (hb : Below w.heap.size w w') : SlT k B w' v t := by
  obtain ⟨us, h1, ⟨A, c, e, h2, h3, h4⟩, h5⟩ := h
  refine ⟨us, h1, ⟨A, c, e, h2, h3, fun i u hu => ?_⟩, fun i u r hu hr => (h5 i u r hu hr).below hb⟩
  obtain ⟨ad, ha, hc⟩ := h4 i u hu
  exact ⟨ad, ha, (hb.cell (World.block_lt_of_cell? w _ hc)).trans hc⟩
theorem SlT.shape {k : IntKind} {B : Nat} {w : World} {v : Value} {t : List (List Rat)} (h : SlT k B w v t) : ∃ A c, v = .slice A t.length c ∧ t.length ≤ c ∧ c ≤ maxLen := by
  obtain ⟨us, h1, ⟨A, c, e, h2, h3, _⟩, _⟩ := h
  exact ⟨A, c, by rw [e, h1], by omega, h3⟩
theorem SlT.at_ {k : IntKind} {B : Nat} {w : World} {A : Option Addr} {n c i : Nat} {t : List (List Rat)} {r : List Rat} (h : SlT k B w (.slice A n c) t) (hr : t[i]? = some r) : ∃ ad Ar cr, A = some ad ∧ i < n ∧ w.cell? (ad.add i) = some (.slice Ar r.length cr) ∧ SlF k B w (.slice Ar r.length cr) r := by
  obtain ⟨us, h1, ⟨A', c', e, h2, h3, h4⟩, h5⟩ := h
  injection e with e1 e2 e3
  subst e1; subst e2; subst e3
  have hi : i < us.length := by have := (List.getElem?_eq_some_iff.1 hr).1; omega
  obtain ⟨ad, ha, hc⟩ := h4 i _ (List.getElem?_eq_getElem hi)
  have hs := h5 i _ r (List.getElem?_eq_getElem hi) hr
  obtain ⟨Ar, cr, e, _, _⟩ := hs.shape
  rw [e] at hc hs
  exact ⟨ad, Ar, cr, ha, hi, hc, hs⟩
/-- A slice of these rows; and an error's number. -/
def RetSlT (k : IntKind) (B : Nat) (t : List (List Rat)) (w : World) (e : Ending) (w' : World) : Prop := ∃ V, e = .returned V ∧ SlT k B w' V t ∧ Below w.heap.size w w'
def RetTE (t : List (List Rat)) (n : Int) (w : World) (e : Ending) (w' : World) : Prop := ∃ V, e = .returned (.tuple #[V, .int .i64 n]) ∧ SlT .u64 4294967296 w' V (if n = 0 then t else []) ∧ Below w.heap.size w w'
def pst (k : IntKind) (B : Nat) (t : List (List Rat)) : Pd := ⟨fun w v => SlT k B w v t, fun h hb => h.below hb⟩
def pste (t : List (List Rat)) (n : Int) : Pd := ⟨fun w v => ∃ V, v = .tuple #[V, .int .i64 n] ∧ SlT .u64 4294967296 w V t, fun h hb => by obtain ⟨V, e, h1⟩ := h; exact ⟨V, e, h1.below hb⟩⟩
theorem RetTE.pd {t : List (List Rat)} {n : Int} {w : World} {e : Ending} {w' : World} (h : RetTE t n w e w') : RetPd (pste (if n = 0 then t else []) n) w e w' := by
  obtain ⟨V, h1, h2, h3⟩ := h
  exact ⟨_, h1, ⟨V, rfl, h2⟩, h3⟩
theorem RetSlT.pd {k : IntKind} {B : Nat} {t : List (List Rat)} {w : World} {e : Ending} {w' : World} (h : RetSlT k B t w e w') : RetPd (pst k B t) w e w' := by
  obtain ⟨V, h1, h2, h3⟩ := h
  exact ⟨V, h1, h2, h3⟩
/-! Tables that a call makes by append. -/
/-- A row of fractions that lies elsewhere, limbs and all. -/
def FarS (k : IntKind) (B : Nat) (w : World) (v u : Value) (r : List Rat) : Prop := ∃ ps : List Elt, ps.map (·.1) = r ∧ IsVF w u ps ∧ FarF k B w v ps ∧ ∀ g, u.ownBlock = some g → g < w.heap.size ∧ v.ownBlock ≠ some g
theorem FarS.sl {k : IntKind} {B : Nat} {w : World} {v u : Value} {r : List Rat} (h : FarS k B w v u r) : SlF k B w u r := by
  obtain ⟨ps, h1, h2, h3, _⟩ := h
  exact ⟨ps, h1, h2, fun p hp => (h3 p hp).1⟩
theorem FarS.below {k : IntKind} {B : Nat} {w w' : World} {v u : Value} {r : List Rat} (h : FarS k B w v u r) (hb : Below w.heap.size w w') : FarS k B w' v u r := by
  obtain ⟨ps, h1, h2, h3, h4⟩ := h
  exact ⟨ps, h1, h2.below hb, h3.below hb, fun g hg => ⟨Nat.lt_of_lt_of_le (h4 g hg).1 hb.size, (h4 g hg).2⟩⟩
theorem FarS.keep {k : IntKind} {B : Nat} {w w' : World} {v v' u : Value} {r : List Rat} (h : FarS k B w v u r) (hk : Grew w w' v v') : FarS k B w' v' u r := by
  obtain ⟨ps, h1, ⟨A, c, e, h2, h2', h2''⟩, h3, h4⟩ := h
  obtain ⟨k1, k2, k3⟩ := hk
  refine ⟨ps, h1, ⟨A, c, e, h2, h2', fun i p hp => ?_⟩, h3.keep k1, fun g hg => ⟨Nat.lt_of_lt_of_le (h4 g hg).1 k2.size, k3 g (h4 g hg).1 (h4 g hg).2⟩⟩
  obtain ⟨g, o, rfl, c0, c1, c2⟩ := h2'' i p hp
  have hne : some g ≠ v.ownBlock := fun e' => (h4 g (by rw [e]; rfl)).2 e'.symm
  exact ⟨g, o, rfl, k2.cell c0 hne, k2.cell c1 hne, k2.cell c2 hne⟩
theorem IsN.far {k : IntKind} {B : Nat} {w : World} {B0 : Nat} {v u : Value} {r : List Rat} (h : IsN k B w B0 u r) (hv : ∀ g, v.ownBlock = some g → g < B0) : FarS k B w v u r := by
  obtain ⟨ps, h1, h2, h3, h4⟩ := h
  exact ⟨ps, h1, h2, fun p hp => ⟨(h3 p hp).1, (h3 p hp).2.1.far hv, (h3 p hp).2.2.far hv⟩, fun g hg => ⟨(h4 g hg).2, fun e => by have h5 := hv _ e; have h6 := (h4 g hg).1; omega⟩⟩
def TabF (k : IntKind) (B : Nat) (w : World) (v : Value) (us : List Value) (t : List (List Rat)) : Prop := us.length = t.length ∧ ∀ (i : Nat) (u : Value) (r : List Rat), us[i]? = some u → t[i]? = some r → FarS k B w v u r
theorem TabF.nil (k : IntKind) (B : Nat) (w : World) (v : Value) : TabF k B w v [] [] := ⟨rfl, fun i u r hu => by simp at hu⟩
theorem TabF.below {k : IntKind} {B : Nat} {w w' : World} {v : Value} {us : List Value} {t : List (List Rat)} (h : TabF k B w v us t) (hb : Below w.heap.size w w') : TabF k B w' v us t := ⟨h.1, fun i u r hu hr => (h.2 i u r hu hr).below hb⟩
theorem TabF.keep {k : IntKind} {B : Nat} {w w' : World} {v v' : Value} {us : List Value} {t : List (List Rat)} (h : TabF k B w v us t) (hk : Grew w w' v v') : TabF k B w' v' us t := ⟨h.1, fun i u r hu hr => (h.2 i u r hu hr).keep hk⟩
theorem TabF.snoc {k : IntKind} {B : Nat} {w w' : World} {v v' u : Value} {us : List Value} {t : List (List Rat)} {r : List Rat} (h : TabF k B w v us t) (hk : Grew w w' v v') (hu : FarS k B w v u r) : TabF k B w' v' (us ++ [u]) (t ++ [r]) := by
  have h0 := h.1
  have hk2 := h.keep hk
  refine ⟨by simp [h0], fun i a b ha hb => ?_⟩
  by_cases hi : i < us.length
  · rw [List.getElem?_append_left hi] at ha
    rw [List.getElem?_append_left (by omega)] at hb
    exact hk2.2 i a b ha hb
  · rw [List.getElem?_append_right (by omega)] at ha
    rw [List.getElem?_append_right (by omega), ← h0] at hb
    rcases hj : i - us.length with _ | j
    · rw [hj] at ha hb
      obtain rfl : u = a := by simpa using ha
      obtain rfl : r = b := by simpa using hb
      exact hu.keep hk
    · rw [hj] at ha
      simp at ha
theorem RowV.tab {k : IntKind} {B : Nat} {w : World} {base : Nat} {e : TypeId} {v : Value} {us : List Value} {t : List (List Rat)} (h : RowV w base e v us) (hf : TabF k B w v us t) : SlT k B w v t := by
  refine ⟨us, hf.1, ?_, fun i u r hu hr => (hf.2 i u r hu hr).sl⟩
  rcases h.2 with ⟨rfl, h0⟩ | ⟨g, cap, cur, rfl, _, hg, hn, hm, _, _⟩
  · obtain rfl : us = [] := List.length_eq_zero_iff.1 h0
    exact ⟨none, 0, rfl, by simp, by unfold maxLen; omega, fun i u hu => by simp at hu⟩
  · exact ⟨_, cap, rfl, hn, hm, fun i u hu => ⟨_, rfl, World.ownsRow.cells h (g := g) rfl i u hu⟩⟩
end Go.Proofs.YtpcdkepkipadaaaGreat.rat
namespace Go.Proofs.YtpcdkepkipadaaaGreat.flow
open Go.RowKit Go.Proofs.YtpcdkepkipadaaaGreat.num Go.Proofs.YtpcdkepkipadaaaGreat.mem Go.Proofs.YtpcdkepkipadaaaGreat.whl Go.Proofs.YtpcdkepkipadaaaGreat.rat
set_option linter.unusedVariables false
section
variable {P : Program} {Q : Exit → Act → World → Prop} {ops : Array Oper} {L : List Oper} {Φ : List Pd} {w0 : World} {a0 : Act} {i : Nat} {o : Oper}
end
end Go.Proofs.YtpcdkepkipadaaaGreat.flow
namespace Go.Proofs.YtpcdkepkipadaaaGreat.flow
open Go.RowKit Go.Proofs.YtpcdkepkipadaaaGreat.num Go.Proofs.YtpcdkepkipadaaaGreat.mem
set_option linter.unusedVariables false
/-- What the chain owes: in each such state it yields a value as told, in every world that holds what was there. -/
def LatesH (P : Program) (ops : Array Oper) (L : List Oper) (Φ : List Pd) (wB w0 : World) (a0 : Act) : List Nat → Prop
  | [] => True
  | q :: qs => (∃ oq, L[q]? = some oq ∧ ∀ ms w1, St L Φ w0 oq ms w1 → ∃ v, YieldsIf P ops (fun w2 => Below wB.heap.size wB w2) oq v (putM a0 L ms) ∧ (ph Φ q).p w1 v) ∧ LatesH P ops L Φ wB w0 a0 qs
theorem LatesH.at_ {P : Program} {ops : Array Oper} {L : List Oper} {Φ : List Pd} {wB w0 : World} {a0 : Act} : ∀ (pre : List Nat) (q : Nat) (rest : List Nat), LatesH P ops L Φ wB w0 a0 (pre ++ q :: rest) → ∃ oq, L[q]? = some oq ∧ ∀ ms w1, St L Φ w0 oq ms w1 → ∃ v, YieldsIf P ops (fun w2 => Below wB.heap.size wB w2) oq v (putM a0 L ms) ∧ (ph Φ q).p w1 v
  | [], q, rest, h => h.1
  | a :: pre, q, rest, h => LatesH.at_ pre q rest h.2
section
variable {P : Program} {ops : Array Oper} {L : List Oper} {Φ : List Pd} {wB w0 : World} {a0 : Act} {o : Oper} {G : Pd} {Q : Exit → Act → World → Prop}
variable {S : World → Prop}
end
end Go.Proofs.YtpcdkepkipadaaaGreat.flow
namespace Go.Proofs.YtpcdkepkipadaaaGreat.rat
open Go.RowKit Go.Proofs.YtpcdkepkipadaaaGreat.num Go.Proofs.YtpcdkepkipadaaaGreat.mem Go.Proofs.YtpcdkepkipadaaaGreat.nat Go.Proofs.YtpcdkepkipadaaaGreat.txt Go.Proofs.YtpcdkepkipadaaaGreat.str Go.Proofs.YtpcdkepkipadaaaGreat.flow Go.Proofs.YtpcdkepkipadaaaGreat.whl
set_option linter.unusedVariables false
theorem cells3_len (p : Elt) : (cells3 p).length = 3 := rfl
theorem flat3_len (ps : List Elt) : (flat3 ps).length = ps.length * 3 := by
  induction ps with
  | nil => rfl
  | cons p ps ih => show (cells3 p ++ flat3 ps).length = _; rw [List.length_append, ih, cells3_len, List.length_cons]; omega
theorem flat3_cons (p : Elt) (ps : List Elt) : flat3 (p :: ps) = cells3 p ++ flat3 ps := rfl
theorem flat3_set : ∀ (ps : List Elt) (i : Nat) (p : Elt), i < ps.length → (flat3 ps).take (i * 3) ++ cells3 p ++ (flat3 ps).drop (i * 3 + 3) = flat3 (ps.set i p)
  | [], i, p, h => by simp at h
  | q :: ps, 0, p, h => by
    rw [List.set_cons_zero, flat3_cons, flat3_cons]
    simp [cells3]
  | q :: ps, i + 1, p, h => by
    have ih := flat3_set ps i p (by simpa using h)
    rw [List.set_cons_succ, flat3_cons, flat3_cons, ← ih, show (i + 1) * 3 = i * 3 + 1 + 1 + 1 from by omega, show i * 3 + 1 + 1 + 1 + 3 = i * 3 + 3 + 1 + 1 + 1 from by omega]
    simp [cells3]
/-- The block holds so many elements; the first ones read as these fractions. -/
def RowN (w : World) (g n : Nat) (qs : List Rat) : Prop := ∃ ps : List Elt, ps.length = n ∧ qs.length ≤ n ∧ Blk w g 36 (flat3 ps).toArray ∧ (∀ p ∈ ps, (∃ A m c, p.2.1 = .slice A m c) ∧ ∃ A m c, p.2.2 = .slice A m c) ∧ ∀ (i : Nat) (q : Rat), qs[i]? = some q → ∃ p, ps[i]? = some p ∧ p.1 = q ∧ IsE .u64 4294967296 w p
theorem RowN.below {w w' : World} {g n : Nat} {qs : List Rat} (h : RowN w g n qs) (hb : Below w.heap.size w w') : RowN w' g n qs := by
  obtain ⟨ps, h1, h2, h3, h4, h5⟩ := h
  refine ⟨ps, h1, h2, h3.below hb, h4, fun i q hq => ?_⟩
  obtain ⟨p, k1, k2, k3⟩ := h5 i q hq
  exact ⟨p, k1, k2, k3.below hb⟩
theorem RowN.drew {w : World} {g n : Nat} {qs : List Rat} (h : RowN w g n qs) : RowN w.drew g n qs := h
theorem RowN.lt {w : World} {g n : Nat} {qs : List Rat} (h : RowN w g n qs) : g < w.heap.size := by
  obtain ⟨ps, _, _, h3, _⟩ := h
  exact h3.lt
theorem RowN.le {w : World} {g n : Nat} {qs : List Rat} (h : RowN w g n qs) : qs.length ≤ n := by
  obtain ⟨ps, _, h2, _⟩ := h
  exact h2
/-- Another variable, without ints, is set. -/
theorem RowN.offb {w w' : World} {g g2 n : Nat} {qs : List Rat} {e : TypeId} {cs : Array Value} (h : RowN w g n qs) (hB : w.heap[g2]? = some (.cells cs e (0, 0))) (hno : ∀ c ∈ cs, ∀ n, c ≠ .int .u64 n) (hg : w.grownBy w' (some g2)) (hne : g ≠ g2) : RowN w' g n qs := by
  obtain ⟨ps, h1, h2, h3, h4, h5⟩ := h
  refine ⟨ps, h1, h2, h3.grown hg hne, h4, fun i q hq => ?_⟩
  obtain ⟨p, k1, k2, k3⟩ := h5 i q hq
  exact ⟨p, k1, k2, Go.Proofs.YtpcdkepkipadaaaGreat.flow.off k3.1 hB hno hg, Go.Proofs.YtpcdkepkipadaaaGreat.flow.off k3.2 hB hno hg⟩
theorem flat3_mem {ps : List Elt} {c : Value} (h : c ∈ flat3 ps) : ∃ p ∈ ps, c ∈ cells3 p := List.mem_flatMap.1 h
theorem no_ints_flat {k : IntKind} {ps : List Elt} (h4 : ∀ p ∈ ps, (∃ A m c, p.2.1 = .slice A m c) ∧ ∃ A m c, p.2.2 = .slice A m c) : ∀ c ∈ (flat3 ps).toArray, ∀ n, c ≠ .int k n := by
  intro c hc n
  obtain ⟨p, hp, hc⟩ := flat3_mem (List.mem_toArray.1 hc)
  obtain ⟨⟨A, m, d, e1⟩, ⟨A', m', d', e2⟩⟩ := h4 p hp
  simp only [cells3, e1, e2, List.mem_cons, List.not_mem_nil, or_false] at hc
  rcases hc with rfl | rfl | rfl <;> simp
/-- A list of limbs is kept where the row is written. -/
theorem RowN.keep {w w' : World} {g n : Nat} {qs : List Rat} {k : IntKind} {v : Value} {l : List Nat} (h : RowN w g n qs) (hg : w.grownBy w' (some g)) (hs : IsS w k v l) : IsS w' k v l := by
  obtain ⟨ps, _, _, h3, h4, _⟩ := h
  exact Go.Proofs.YtpcdkepkipadaaaGreat.flow.off hs h3 (no_ints_flat h4) hg
/-- One of them. -/
theorem RowN.at_ {w : World} {g n i : Nat} {qs : List Rat} {q : Rat} (h : RowN w g n qs) (hq : qs[i]? = some q) : ∃ u t, i < n ∧ w.cell? ⟨g, 0 + i * 3, none⟩ = some (.bool (ngB q.num)) ∧ w.cell? ⟨g, 0 + i * 3 + 1, none⟩ = some u ∧ w.cell? ⟨g, 0 + i * 3 + 2, none⟩ = some t ∧ IsS w .u64 u (digs 4294967296 q.num.natAbs) ∧ IsS w .u64 t (digs 4294967296 q.den) := by
  obtain ⟨ps, h1, h2, h3, h4, h5⟩ := h
  obtain ⟨p, k1, rfl, k3⟩ := h5 i q hq
  obtain ⟨f0, f1, f2⟩ := flat3_at ps i p k1
  have hi := (List.getElem?_eq_some_iff.1 k1).1
  rw [Nat.zero_add]
  refine ⟨p.2.1, p.2.2, by omega, ?_, ?_, ?_, k3.1, k3.2⟩
  · rw [h3.cell, List.getElem?_toArray]; exact f0
  · rw [h3.cell, List.getElem?_toArray]; exact f1
  · rw [h3.cell, List.getElem?_toArray]; exact f2
/-- A full row is a slice of these fractions. -/
theorem RowN.sl {w : World} {g n : Nat} {qs : List Rat} (h : RowN w g n qs) (hn : qs.length = n) (hm : n ≤ 1000000000) : SlF .u64 4294967296 w (.slice (some ⟨g, 0, none⟩) n n) qs := by
  obtain ⟨ps, h1, h2, h3, h4, h5⟩ := h
  have key : ∀ (i : Nat) (p : Elt), ps[i]? = some p → qs[i]? = some p.1 ∧ IsE .u64 4294967296 w p := by
    intro i p hp
    have hi := (List.getElem?_eq_some_iff.1 hp).1
    have hq : qs[i]? = some (qs[i]'(by omega)) := List.getElem?_eq_getElem (by omega)
    obtain ⟨p', k1, k2, k3⟩ := h5 i _ hq
    rw [hp] at k1
    injection k1 with k1
    subst k1
    exact ⟨by rw [hq, k2], k3⟩
  refine ⟨ps, ?_, ⟨some ⟨g, 0, none⟩, n, by rw [h1], by omega, by unfold maxLen; omega, fun i p hp => ⟨g, 0, rfl, ?_⟩⟩, fun p hp => ?_⟩
  · refine List.ext_getElem? fun i => ?_
    rw [List.getElem?_map]
    cases hp : ps[i]? with
    | none =>
      have : ps.length ≤ i := List.getElem?_eq_none_iff.1 hp
      rw [List.getElem?_eq_none (by omega)]; rfl
    | some p => rw [(key i p hp).1]; rfl
  · obtain ⟨f0, f1, f2⟩ := flat3_at ps i p hp
    rw [Nat.zero_add]
    refine ⟨?_, ?_, ?_⟩
    · rw [h3.cell, List.getElem?_toArray]; exact f0
    · rw [h3.cell, List.getElem?_toArray]; exact f1
    · rw [h3.cell, List.getElem?_toArray]; exact f2
  · obtain ⟨i, hi⟩ := List.mem_iff_getElem?.1 hp
    exact (key i p hi).2
/-- A row that 'make' made. -/
theorem rowN_made {w : World} {g n : Nat} (h : Blk w g 36 (flat3 (List.replicate n ((0, .slice none 0 0, .slice none 0 0) : Elt))).toArray) : RowN w g n [] :=
  ⟨_, List.length_replicate, Nat.zero_le _, h, fun p hp => by obtain rfl := (List.mem_replicate.1 hp).2; exact ⟨⟨_, _, _, rfl⟩, ⟨_, _, _, rfl⟩⟩, fun i q hq => by simp at hq⟩
theorem made3 (n : Nat) : (madeCells #[.bool false, .slice none 0 0, .slice none 0 0] (n * 3)).toList = flat3 (List.replicate n ((0, .slice none 0 0, .slice none 0 0) : Elt)) := by
  have key : ∀ n j : Nat, (flat3 (List.replicate n ((0, .slice none 0 0, .slice none 0 0) : Elt)))[j]? = if j < n * 3 then some ((#[.bool false, .slice none 0 0, .slice none 0 0] : Array Value)[j % 3]?.getD undef) else none := by
    intro n
    induction n with
    | zero => intro j; simp [flat3]
    | succ n ih =>
      intro j
      rw [List.replicate_succ, flat3_cons]
      match j with
      | 0 => simp [cells3, ngB]
      | 1 => simp [cells3]; omega
      | 2 => simp [cells3]; omega
      | j + 3 =>
        have e : (cells3 ((0, .slice none 0 0, .slice none 0 0) : Elt) ++ flat3 (List.replicate n ((0, .slice none 0 0, .slice none 0 0) : Elt)))[j + 3]? = (flat3 (List.replicate n ((0, .slice none 0 0, .slice none 0 0) : Elt)))[j]? := by simp [cells3]
        rw [e, ih j]
        have h1 : (j + 3) % 3 = j % 3 := by omega
        rw [h1]
        by_cases h : j < n * 3
        · rw [if_pos h, if_pos (by omega)]
        · rw [if_neg h, if_neg (by omega)]
  apply List.ext_getElem?
  intro j
  rw [key n j]
  have h3 : j % 3 < 3 := Nat.mod_lt _ (by omega)
  by_cases h : j < n * 3
  · rw [if_pos h]
    rcases (by omega : j % 3 = 0 ∨ j % 3 = 1 ∨ j % 3 = 2) with e | e | e <;> simp [madeCells, h, e]
  · rw [if_neg h]
    simp [madeCells, h]
section
variable {P : Program}
theorem run_make_q {w : World} {t : TypeId} (ht : P.underlying t = some (.slice 36)) (hI : ∃ i, P.info? 36 = some i ∧ i.zero = some (.agg #[.bool false, .slice none 0 0, .slice none 0 0]) ∧ i.size = 3 ∧ i.bytes = 56) (n : Nat) (hn : n ≤ 1000000000) :
    ∃ w', (Instr.makeSlice t (.int .i64 (n : Int)) (.int .i64 (n : Int))).run P w = .ok (.slice (some ⟨w.heap.size, 0, none⟩) n n) w' ∧ RowN w' w.heap.size n [] ∧ Below w.heap.size w w' := by
  obtain ⟨i, hi, hz, hs, hb⟩ := hI
  obtain ⟨w', h1, h2, h3⟩ := run_make_full (P := P) w w.heap.size t 36 i _ 3 ht hi hz hs .i64 .i64 n (by rw [hb]; omega) (by unfold maxLen; omega) (Nat.le_refl _)
  refine ⟨w', h1, rowN_made ?_, (Below.refl _ w).grown h3 (Nat.le_refl _) (fun g hg => by cases hg)⟩
  obtain ⟨hl, h2⟩ := h2
  rcases h2 with ⟨h4, _⟩ | ⟨g, cap, cur, h4, _, h5, _, _, h6, h7⟩
  · cases h4
  · injection h4 with h4 _ h8
    injection h4 with h4
    injection h4 with h4 _ _
    subst h4; subst h8
    rw [List.take_of_length_le (by simp [h6])] at h7
    have e : cur = (flat3 (List.replicate n ((0, .slice none 0 0, .slice none 0 0) : Elt))).toArray := by
      rw [← made3]
      rw [show (Value.agg #[.bool false, .slice none 0 0, .slice none 0 0]).cells = #[.bool false, .slice none 0 0, .slice none 0 0] from rfl] at h7
      rw [← h7]
    rw [← e]
    exact h5
theorem wpList_make_q {w : World} {ops : Array Oper} {rest : List Oper} {o : Oper} {a : Act} {Q : Exit → Act → World → Prop} (hgd : o.guard = none) (lo co : Operand) {t : TypeId} (ho : o.op = Op.makeSlice t lo co)
    (ht : P.underlying t = some (.slice 36)) (hI : ∃ i, P.info? 36 = some i ∧ i.zero = some (.agg #[.bool false, .slice none 0 0, .slice none 0 0]) ∧ i.size = 3 ∧ i.bytes = 56) (n : Nat) (hl : a.eval lo = .int .i64 (n : Int)) (hc : a.eval co = .int .i64 (n : Int)) (hn : n ≤ 1000000000)
    (h : ∀ w', RowN w' w.heap.size n [] → Below w.heap.size w w' → wpList P ops Q rest (a.put o.dst (.slice (some ⟨w.heap.size, 0, none⟩) n n)) w') : wpList P ops Q (o :: rest) a w := by
  obtain ⟨w', h1, h2, h3⟩ := run_make_q (P := P) (w := w) ht hI n hn
  refine wpList_plain hgd fun K hK => ?_
  unfold Oper.wp execOp
  simp only [ho, hl, hc, Sem.run_bind, h1, Result.andThen_ok]
  exact hK _ _ (h w' h2 h3)
/-- The row is written at one place. -/
theorem RowN.put {w w' : World} {g n i : Nat} {qs : List Rat} {q : Rat} {u t : Value} (h : RowN w g n qs) (hi : i < n) (hu : IsS w .u64 u (digs 4294967296 q.num.natAbs)) (ht : IsS w .u64 t (digs 4294967296 q.den)) (hg : w.grownBy w' (some g)) (hc : ∀ cs, Blk w g 36 cs → Blk w' g 36 (cs.toList.take (0 + i * 3) ++ [.bool (ngB q.num), u, t] ++ cs.toList.drop (0 + i * 3 + 3)).toArray) : (i = qs.length → RowN w' g n (qs ++ [q])) ∧ (i < qs.length → RowN w' g n (qs.set i q)) := by
  have keep := fun {k v l} => h.keep (k := k) (v := v) (l := l) hg
  obtain ⟨ps, h1, h2, h3, h4, h5⟩ := h
  have hB : Blk w' g 36 (flat3 (ps.set i (q, u, t))).toArray := by
    have h6 := hc _ h3
    rw [Nat.zero_add, List.toList_toArray] at h6
    rw [← flat3_set ps i (q, u, t) (by omega)]
    exact h6
  have hS : ∀ p ∈ ps.set i (q, u, t), (∃ A m c, p.2.1 = .slice A m c) ∧ ∃ A m c, p.2.2 = .slice A m c := by
    intro p hp
    rcases List.mem_or_eq_of_mem_set hp with hp | rfl
    · exact h4 p hp
    · obtain ⟨A, c, e1, _⟩ := hu
      obtain ⟨D, d, e2, _⟩ := ht
      exact ⟨⟨_, _, _, e1⟩, ⟨_, _, _, e2⟩⟩
  have hE : IsE .u64 4294967296 w' ((q, u, t) : Elt) := ⟨keep hu, keep ht⟩
  have old : ∀ (j : Nat) (x : Rat), j ≠ i → qs[j]? = some x → ∃ p, (ps.set i (q, u, t))[j]? = some p ∧ p.1 = x ∧ IsE .u64 4294967296 w' p := by
    intro j x hj hx
    obtain ⟨p, k1, k2, k3⟩ := h5 j x hx
    exact ⟨p, by rw [List.getElem?_set_ne (fun e => hj e.symm)]; exact k1, k2, keep k3.1, keep k3.2⟩
  have new : (ps.set i (q, u, t))[i]? = some ((q, u, t) : Elt) := by rw [List.getElem?_set_self (by omega)]
  constructor
  · intro hiq
    refine ⟨ps.set i (q, u, t), by rw [List.length_set]; exact h1, by simp; omega, hB, hS, fun j x hx => ?_⟩
    by_cases hj : j = i
    · subst hj
      rw [hiq, List.getElem?_concat_length] at hx
      injection hx with hx
      subst hx
      exact ⟨_, new, rfl, hE⟩
    · refine old j x hj ?_
      have hl := (List.getElem?_eq_some_iff.1 hx).1
      rw [List.length_append, List.length_singleton] at hl
      rwa [List.getElem?_append_left (by omega)] at hx
  · intro hiq
    refine ⟨ps.set i (q, u, t), by rw [List.length_set]; exact h1, by simp; omega, hB, hS, fun j x hx => ?_⟩
    by_cases hj : j = i
    · subst hj
      rw [List.getElem?_set_self hiq] at hx
      injection hx with hx
      subst hx
      exact ⟨_, new, rfl, hE⟩
    · rw [List.getElem?_set_ne (fun e => hj e.symm)] at hx
      exact old j x hj hx
theorem grownBy_setRow (w : World) (g : Nat) (cs : Array Value) : w.grownBy (w.setRow g cs) (some g) := ⟨rfl, rfl, rfl, by simp [World.setRow], fun k _ hk => setRow_other w g k cs (fun e => hk (by rw [e]))⟩
theorem wp_store_q {o : Oper} {a : Act} {w : World} {K : Act → World → Prop} {Q : Exit → Act → World → Prop} {ty : TypeId} {x y : Operand} {g n i : Nat} {qs : List Rat} {q : Rat} {u t : Value} (hd : o.dst = none) (hop : o.op = .store ty x y) (hx : a.eval x = .pointer (some ⟨g, 0 + i * 3, none⟩)) (hy : a.eval y = .agg #[.bool (ngB q.num), u, t])
    (hI : (P.info? ty).map (·.size) = some 3) (hR : RowN w g n qs) (hi : i < n) (hu : IsS w .u64 u (digs 4294967296 q.num.natAbs)) (ht : IsS w .u64 t (digs 4294967296 q.den))
    (h : ∀ w', w.grownBy w' (some g) → (i = qs.length → RowN w' g n (qs ++ [q])) ∧ (i < qs.length → RowN w' g n (qs.set i q)) → K a w') : o.wp P a w K Q := by
  obtain ⟨ps, h1, h2, h3, h4, h5⟩ := id hR
  have one : ∀ v ∈ [Value.bool (ngB q.num), u, t], v.oneCell' = true := by
    obtain ⟨A, c, rfl, _⟩ := id hu
    obtain ⟨D, d, rfl, _⟩ := id ht
    exact one3 rfl rfl rfl
  have hrun := run_storeCells_at (P := P) g (0 + i * 3) 36 [Value.bool (ngB q.num), u, t] 0 (flat3 ps).toArray w h3 (by simp [flat3_len]; omega) one
  rw [Nat.add_zero] at hrun
  have key : ∀ (A : Addr) (W : World), (storeCells A [Value.bool (ngB q.num), u, t] 0).run P w = .ok () W → (storeVar ty A (.agg #[.bool (ngB q.num), u, t])).run P w = .ok () W := by
    intro A W hrun
    cases hq : P.info? ty with
    | none => simp [hq] at hI
    | some inf =>
      have hsz : 3 = inf.size := by simp [hq] at hI; omega
      have e : (Value.agg #[.bool (ngB q.num), u, t]).cells = ([Value.bool (ngB q.num), u, t] : List Value).toArray := rfl
      simp [storeVar, sizeOf, typeInfo, hq, e, ← hsz, hrun]
  have hst := key _ _ hrun
  unfold Oper.wp execOp
  simp only [hop, hx, hy, Instr.storeAt, Instr.sureAddr, Sem.run_bind, Sem.run_pure, Result.andThen_ok, hst, Oper.upon_skip, hd]
  refine h _ (grownBy_setRow _ _ _) (hR.put hi hu ht (grownBy_setRow _ _ _) fun cs hcs => ?_)
  unfold Blk at hcs h3 ⊢
  rw [h3] at hcs
  injection hcs with hcs
  injection hcs with hcs
  subst hcs
  exact setRow_heap w g _ _ _ _ h3
theorem ops_store_q {Q : Exit → Act → World → Prop} {ops : Array Oper} {o : Oper} {j : Nat} {rest : List Nat} {a : Act} {w : World} {ty : TypeId} {x y : Operand} {g n i : Nat} {qs : List Rat} {q : Rat} {u t : Value} (ho : ops[j]? = some o) (hgd : o.guard = none) (hd : o.dst = none) (hop : o.op = .store ty x y) (hx : a.eval x = .pointer (some ⟨g, 0 + i * 3, none⟩)) (hy : a.eval y = .agg #[.bool (ngB q.num), u, t])
    (hI : (P.info? ty).map (·.size) = some 3) (hR : RowN w g n qs) (hi : i < n) (hu : IsS w .u64 u (digs 4294967296 q.num.natAbs)) (ht : IsS w .u64 t (digs 4294967296 q.den))
    (h : ∀ w', w.grownBy w' (some g) → (i = qs.length → RowN w' g n (qs ++ [q])) ∧ (i < qs.length → RowN w' g n (qs.set i q)) → wpOps P ops Q rest a w') : wpOps P ops Q (j :: rest) a w :=
  ops_one ho hgd (wp_store_q hd hop hx hy hI hR hi hu ht h)
end
/-! Calls through a function's value. -/
section
variable {P : Program} {Q : Exit → Act → World → Prop} {ops : Array Oper} {L : List Oper} {Φ : List Pd} {w0 : World} {a0 : Act} {i : Nat} {o : Oper}
theorem ev_func (f : FuncId) : Ev L Φ w0 a0 o (.func f) (fun _ u => u = .func (.func f) #[] #[]) := fun _ _ _ => rfl
theorem exec_callv {ρ : Operand → Value} {f : FuncId} {z : Operand} {xs : Array Operand} {at_ : Array TypeId} {w : World} (hop : o.op = .call { callee := .value z, args := xs, argTypes := at_ }) (hρ : ρ z = .func (.func f) #[] #[]) {args : Array Value} (ha : xs.map ρ = args) : (execOp ρ o).run P w = (callFunc f args).run P w := by
  subst ha
  unfold execOp
  simp [hop, resolve, hρ, Deferred.ofValue, invoke]
theorem ob_callv2 {f : FuncId} {fn : Func} {z x y : Operand} {at_ : Array TypeId} {F G : World → Value → Prop} (hop : o.op = .call { callee := .value z, args := #[x, y], argTypes := at_ }) (hz : Ev L Φ w0 a0 o z (fun _ u => u = .func (.func f) #[] #[])) (hf : P.funcs[f]? = some fn) (hB : (!(fn.name == "runtime.NumGoroutine") && fn.body.isSome) = true) (hw : Wt ops L Φ w0 a0 o true)
    (hx : Ev L Φ w0 a0 o x F) (hy : Ev L Φ w0 a0 o y G) (hc : ∀ w u v, Below w0.heap.size w0 w → F w u → G w v → Calls P f #[u, v] w (RetPd (ph Φ i) w)) : Ob P Q ops L Φ w0 a0 i o :=
  ob_enter hf hB hw (by unfold isA; rw [hop]) fun ms w hS => ⟨#[(putM a0 L ms).eval x, (putM a0 L ms).eval y], exec_callv hop (hz ms w hS) (by simp), hc w _ _ hS.below (hx ms w hS) (hy ms w hS)⟩
end
/-- A row of these, made by the call, and an error's number. -/
def RetRN (qs : List Rat) (w : World) (e : Ending) (w' : World) : Prop := ∃ g, e = .returned (.tuple #[.slice (some ⟨g, 0, none⟩) qs.length qs.length, .int .i64 0]) ∧ RowN w' g qs.length qs ∧ w.heap.size ≤ g ∧ Below w.heap.size w w'
/-- No row, and an error's number. -/
def RetNN (n : Int) (w : World) (e : Ending) (w' : World) : Prop := e = .returned (.tuple #[.slice none 0 0, .int .i64 n]) ∧ Below w.heap.size w w'
/-- A row of these, made by the call. -/
def prn (n : Nat) (qs : List Rat) (B : Nat) : Pd := ⟨fun w t => ∃ g, t = .tuple #[.slice (some ⟨g, 0, none⟩) n n, .int .i64 0] ∧ RowN w g n qs ∧ B ≤ g, fun h hb => by obtain ⟨g, e, h1, h2⟩ := h; exact ⟨g, e, h1.below hb, h2⟩⟩
def pro (n : Nat) (qs : List Rat) (B : Nat) : Pd := ⟨fun w v => ∃ g, v = .slice (some ⟨g, 0, none⟩) n n ∧ RowN w g n qs ∧ B ≤ g, fun h hb => by obtain ⟨g, e, h1, h2⟩ := h; exact ⟨g, e, h1.below hb, h2⟩⟩
theorem RetRN.pd {n : Nat} {qs : List Rat} {w : World} {e : Ending} {w' : World} {B : Nat} (h : RetRN qs w e w') (hn : qs.length = n) (hB : B ≤ w.heap.size) : RetPd (prn n qs B) w e w' := by
  obtain ⟨g, h1, h2, h3, h4⟩ := h
  rw [hn] at h1 h2
  exact ⟨_, h1, ⟨g, rfl, h2, Nat.le_trans hB h3⟩, h4⟩
theorem RetNN.pd {n : Int} {w : World} {e : Ending} {w' : World} (h : RetNN n w e w') : RetPd (Pd.eq (.tuple #[.slice none 0 0, .int .i64 n])) w e w' := ⟨_, h.1, rfl, h.2⟩
section
variable {P : Program} {Q : Exit → Act → World → Prop} {ops : Array Oper} {L : List Oper} {Φ : List Pd} {w0 : World} {a0 : Act} {i : Nat} {o : Oper}
theorem ob_make_q {t : TypeId} {x y : Operand} (n : Nat) (hop : o.op = .makeSlice t x y) (hg : o.guard = none) (hx : Ev L Φ w0 a0 o x (fun _ u => u = .int .i64 (n : Int))) (hy : Ev L Φ w0 a0 o y (fun _ u => u = .int .i64 (n : Int))) (ht : P.underlying t = some (.slice 36)) (hI : ∃ i, P.info? 36 = some i ∧ i.zero = some (.agg #[.bool false, .slice none 0 0, .slice none 0 0]) ∧ i.size = 3 ∧ i.bytes = 56) (hn : n ≤ 1000000000)
    (hP : ∀ w v, (pro n [] w0.heap.size).p w v → (ph Φ i).p w v) : Ob P Q ops L Φ w0 a0 i o := by
  intro ms w hS
  rw [if_pos (wt_none (ops := ops) (L := L) (Φ := Φ) (w0 := w0) (a0 := a0) hg ms w hS)]
  obtain ⟨w', h1, h2, h3⟩ := run_make_q (P := P) (w := w) ht hI n hn
  have hr : (execOp (putM a0 L ms).eval o).run P w = .ok (.value (.slice (some ⟨w.heap.size, 0, none⟩) n n)) w' := by
    unfold execOp
    simp only [hop, hx ms w hS, hy ms w hS, Sem.run_bind, h1, Result.andThen_ok]
    rfl
  unfold Oper.wp
  rw [hr]
  exact ⟨_, rfl, h3, hP _ _ ⟨_, rfl, h2, hS.below.size⟩, fun h => by unfold isA at h; rw [hop] at h; cases h⟩
end
/-- The variable's fraction is laid into the row: the variable stays as it is, even if it should be that row. -/
theorem HoldQ.row {w w' : World} {g G n : Nat} {ls : List Rat} {s : Rat} (h : HoldQ w G s) (hR : RowN w g n ls) (hg : w.grownBy w' (some g)) (hR' : RowN w' g n (ls ++ [s])) : HoldQ w' G s := by
  obtain ⟨u, t, h1, h2, h3⟩ := h
  by_cases e : g = G
  · subst e
    obtain ⟨ps, k1, k2, k3, k4, k5⟩ := id hR
    have e1 : ps.length = 1 := by
      unfold Blk at k3 h1
      rw [k3] at h1
      injection h1 with h1
      injection h1 with h1
      have := congrArg Array.size h1
      rw [List.size_toArray, flat3_len] at this
      simp at this
      omega
    obtain ⟨rs, r1, r2, r3, r4, r5⟩ := hR'
    have e2 : ls = [] := by
      rw [List.length_append, List.length_singleton] at r2
      exact List.length_eq_zero_iff.1 (by omega)
    subst e2
    obtain ⟨p, q1, q2, q3⟩ := r5 0 s rfl
    obtain ⟨r, rfl⟩ : ∃ r, rs = [r] := List.length_eq_one_iff.1 (by omega)
    obtain rfl : r = p := by simpa using q1
    subst q2
    exact ⟨r.2.1, r.2.2, r3, q3.1, q3.2⟩
  · exact ⟨u, t, h1.grown hg (fun e' => e e'.symm), hR.keep hg h2, hR.keep hg h3⟩
theorem addr_zero (g i : Nat) : (⟨g, 0, none⟩ : Addr).add i = ⟨g, i, none⟩ := by
  unfold Addr.add
  by_cases h : i = 0
  · simp [h]
  · simp [h]
/-- Block g is a table of slices, at its full length. -/
def TabB (w : World) (g : Nat) (TS : TypeId) (us : List Value) : Prop := Blk w g TS us.toArray ∧ ∀ u ∈ us, ∃ A n c, u = .slice A n c
theorem TabB.below {w w' : World} {g : Nat} {TS : TypeId} {us : List Value} (h : TabB w g TS us) (hb : Below w.heap.size w w') : TabB w' g TS us := ⟨h.1.below hb, h.2⟩
theorem TabB.lt {w : World} {g : Nat} {TS : TypeId} {us : List Value} (h : TabB w g TS us) : g < w.heap.size := h.1.lt
theorem TabB.drew {w : World} {g : Nat} {TS : TypeId} {us : List Value} (h : TabB w g TS us) : TabB w.drew g TS us := h
theorem TabB.cell {w : World} {g : Nat} {TS : TypeId} {us : List Value} (h : TabB w g TS us) {i : Nat} {u : Value} (hu : us[i]? = some u) : w.cell? ((⟨g, 0, none⟩ : Addr).add i) = some u := by
  rw [addr_zero, h.1.cell, List.getElem?_toArray]; exact hu
theorem TabB.keep {w w' : World} {g : Nat} {TS : TypeId} {us : List Value} {k : IntKind} {v : Value} {l : List Nat} (h : TabB w g TS us) (hg : w.grownBy w' (some g)) (hs : IsS w k v l) : IsS w' k v l :=
  Go.Proofs.YtpcdkepkipadaaaGreat.flow.off hs h.1 (fun c hc n e => by
    obtain ⟨A, m, d, e1⟩ := h.2 c (List.mem_toArray.1 hc)
    rw [e1] at e
    cases e) hg
theorem TabB.keepF {w w' : World} {g : Nat} {TS : TypeId} {us : List Value} {k : IntKind} {B : Nat} {v : Value} {r : List Rat} (h : TabB w g TS us) (hg : w.grownBy w' (some g)) (hs : SlF k B w v r) : SlF k B w' v r := by
  obtain ⟨ps, h1, ⟨A, c, e, h2, h3, h4⟩, h5⟩ := hs
  refine ⟨ps, h1, ⟨A, c, e, h2, h3, fun i p hp => ?_⟩, fun p hp => ⟨h.keep hg (h5 p hp).1, h.keep hg (h5 p hp).2⟩⟩
  obtain ⟨g', o, e2, c0, c1, c2⟩ := h4 i p hp
  have hne : some g' ≠ some g := by
    intro e3
    injection e3 with e3
    subst e3
    rw [h.1.cell, List.getElem?_toArray] at c0
    obtain ⟨A', m, d, e4⟩ := h.2 _ (List.mem_of_getElem? c0)
    cases e4
  exact ⟨g', o, e2, hg.cell c0 hne, hg.cell c1 hne, hg.cell c2 hne⟩
theorem TabB.put {w w' : World} {g i : Nat} {TS : TypeId} {us : List Value} {u : Value} (h : TabB w g TS us) (hB : w'.heap[g]? = some (.cells (us.toArray.setIfInBounds i u) TS (0, 0))) (hu : ∃ A n c, u = .slice A n c) : TabB w' g TS (us.set i u) := by
  refine ⟨by unfold Blk; rw [hB]; simp, fun v hv => ?_⟩
  rcases List.mem_or_eq_of_mem_set hv with hv | rfl
  · exact h.2 v hv
  · exact hu
theorem TabB.grown {w w' : World} {g : Nat} {TS : TypeId} {us : List Value} {row : Option Nat} (h : TabB w g TS us) (hg : w.grownBy w' row) (hne : row ≠ some g) : TabB w' g TS us :=
  ⟨(hg.block g h.1.lt (fun e => hne e.symm)).trans h.1, h.2⟩
/-- A table whose rows read as these. -/
def TabS (k : IntKind) (B : Nat) (w : World) (g : Nat) (TS : TypeId) (us : List Value) (t : List (List Rat)) : Prop := TabB w g TS us ∧ us.length = t.length ∧ ∀ (i : Nat) (u : Value) (r : List Rat), us[i]? = some u → t[i]? = some r → SlF k B w u r
theorem TabS.below {k : IntKind} {B : Nat} {w w' : World} {g : Nat} {TS : TypeId} {us : List Value} {t : List (List Rat)} (h : TabS k B w g TS us t) (hb : Below w.heap.size w w') : TabS k B w' g TS us t := ⟨h.1.below hb, h.2.1, fun i u r hu hr => (h.2.2 i u r hu hr).below hb⟩
theorem TabS.drew {k : IntKind} {B : Nat} {w : World} {g : Nat} {TS : TypeId} {us : List Value} {t : List (List Rat)} (h : TabS k B w g TS us t) : TabS k B w.drew g TS us t := h.below (Below.refl _ w).drew
theorem TabS.lt {k : IntKind} {B : Nat} {w : World} {g : Nat} {TS : TypeId} {us : List Value} {t : List (List Rat)} (h : TabS k B w g TS us t) : g < w.heap.size := h.1.lt
theorem TabS.put {k : IntKind} {B : Nat} {w w' : World} {g i : Nat} {TS : TypeId} {us : List Value} {t : List (List Rat)} {u : Value} {r : List Rat} (h : TabS k B w g TS us t) (hg : w.grownBy w' (some g)) (hB : w'.heap[g]? = some (.cells (us.toArray.setIfInBounds i u) TS (0, 0))) (hu : SlF k B w u r) : TabS k B w' g TS (us.set i u) (t.set i r) := by
  obtain ⟨A, c, eu, _⟩ := hu.shape
  refine ⟨h.1.put hB ⟨_, _, _, eu⟩, by rw [List.length_set, List.length_set]; exact h.2.1, fun j x y hx hy => ?_⟩
  by_cases hj : i = j
  · subst hj
    have hi : i < us.length := by have := (List.getElem?_eq_some_iff.1 hx).1; rwa [List.length_set] at this
    rw [List.getElem?_set_self hi] at hx
    rw [List.getElem?_set_self (by rw [← h.2.1]; exact hi)] at hy
    injection hx with hx
    injection hy with hy
    subst hx; subst hy
    exact h.1.keepF hg hu
  · rw [List.getElem?_set_ne hj] at hx hy
    exact h.1.keepF hg (h.2.2 j x y hx hy)
theorem TabS.slT {k : IntKind} {B : Nat} {w : World} {g n : Nat} {TS : TypeId} {us : List Value} {t : List (List Rat)} (h : TabS k B w g TS us t) (hn : t.length = n) (hm : n ≤ 1000000000) : SlT k B w (.slice (some ⟨g, 0, none⟩) n n) t :=
  ⟨us, h.2.1, ⟨some ⟨g, 0, none⟩, n, by rw [h.2.1, hn], by rw [h.2.1, hn]; exact Nat.le_refl _, by unfold maxLen; omega, fun i u hu => ⟨_, rfl, h.1.cell hu⟩⟩, h.2.2⟩
theorem TabB.bare {k : IntKind} {B : Nat} {w : World} {g n : Nat} {TS : TypeId} (h : TabB w g TS (List.replicate n (.slice none 0 0))) : TabS k B w g TS (List.replicate n (.slice none 0 0)) (List.replicate n []) :=
  ⟨h, by simp, fun i u r hu hr => by
    have h1 := (List.mem_replicate.1 (List.mem_of_getElem? hu)).2
    have h2 := (List.mem_replicate.1 (List.mem_of_getElem? hr)).2
    subst h1; subst h2
    exact slF_nil _ _ _⟩
/-- The first rows of a table, and behind them rows that have no places yet. -/
def partq {α : Type} (T : List (List α)) (k n : Nat) : List (List α) := T.take k ++ List.replicate (n - k) []
theorem partq_zero {α : Type} (T : List (List α)) (n : Nat) : partq T 0 n = List.replicate n [] := by simp [partq]
theorem partq_full {α : Type} {T : List (List α)} {n : Nat} (h : T.length = n) : partq T n n = T := by simp [partq, ← h]
theorem partq_set {α : Type} {T : List (List α)} {k n : Nat} {r : List α} (h : T.length = n) (hr : T[k]? = some r) : (partq T k n).set k r = partq T (k + 1) n := by
  have hk : k < T.length := (List.getElem?_eq_some_iff.1 hr).1
  unfold partq
  have hl : (T.take k).length = k := by rw [List.length_take]; omega
  rw [List.set_append_right _ _ (by omega), hl, Nat.sub_self, show n - k = (n - (k + 1)) + 1 from by omega, List.replicate_succ, List.set_cons_zero, List.take_add_one, hr]
  simp
section
variable {P : Program}
theorem run_make_v {w : World} {t TS : TypeId} (ht : P.underlying t = some (.slice TS)) (hI : ∃ i, P.info? TS = some i ∧ i.zero = some (.slice none 0 0) ∧ i.size = 1 ∧ i.bytes = 24) (n : Nat) (hn : n ≤ 1000000000) :
    ∃ w', (Instr.makeSlice t (.int .i64 (n : Int)) (.int .i64 (n : Int))).run P w = .ok (.slice (some ⟨w.heap.size, 0, none⟩) n n) w' ∧ TabB w' w.heap.size TS (List.replicate n (.slice none 0 0)) ∧ Below w.heap.size w w' := by
  obtain ⟨i, hi, hz, hs, hb⟩ := hI
  obtain ⟨w', h1, h2, h3⟩ := run_make_full (P := P) w w.heap.size t TS i _ 1 ht hi hz hs .i64 .i64 n (by rw [hb]; omega) (by unfold maxLen; omega) (Nat.le_refl _)
  refine ⟨w', h1, ⟨?_, fun u hu => ⟨_, _, _, (List.mem_replicate.1 hu).2⟩⟩, (Below.refl _ w).grown h3 (Nat.le_refl _) (fun g hg => by cases hg)⟩
  obtain ⟨hl, h2⟩ := h2
  rcases h2 with ⟨h4, _⟩ | ⟨g, cap, cur, h4, _, h5, _, _, h6, h7⟩
  · cases h4
  · injection h4 with h4 _ h8
    injection h4 with h4
    injection h4 with h4 _ _
    subst h4; subst h8
    rw [List.take_of_length_le (by simp [h6])] at h7
    have e : cur = (List.replicate n (Value.slice none 0 0)).toArray := by
      have e1 : (madeCells (Value.slice none 0 0).cells (n * 1)).toList = List.replicate n (.slice none 0 0) := by rw [Nat.mul_one]; exact toList_madeCells_one _ _
      rw [← e1, ← h7]
    rw [← e]
    exact h5
end
end Go.Proofs.YtpcdkepkipadaaaGreat.rat
namespace Go.Proofs.YtpcdkepkipadaaaGreat.flow
open Go.RowKit Go.Proofs.YtpcdkepkipadaaaGreat.num Go.Proofs.YtpcdkepkipadaaaGreat.mem Go.Proofs.YtpcdkepkipadaaaGreat.whl Go.Proofs.YtpcdkepkipadaaaGreat.rat
set_option linter.unusedVariables false
/-- A table of rows that have no places yet, made by the call. -/
def pbar (n : Nat) (TS : TypeId) (B : Nat) : Pd := ⟨fun w v => ∃ g, v = .slice (some ⟨g, 0, none⟩) n n ∧ TabB w g TS (List.replicate n (.slice none 0 0)) ∧ B ≤ g, fun h hb => by obtain ⟨g, e, h1, h2⟩ := h; exact ⟨g, e, h1.below hb, h2⟩⟩
section
variable {P : Program} {Q : Exit → Act → World → Prop} {ops : Array Oper} {L : List Oper} {Φ : List Pd} {w0 : World} {a0 : Act} {i : Nat} {o : Oper}
theorem ob_make_v {t TS : TypeId} {x y : Operand} (n : Nat) (hop : o.op = .makeSlice t x y) (hg : o.guard = none) (hx : Ev L Φ w0 a0 o x (fun _ u => u = .int .i64 (n : Int))) (hy : Ev L Φ w0 a0 o y (fun _ u => u = .int .i64 (n : Int))) (ht : P.underlying t = some (.slice TS)) (hI : ∃ i, P.info? TS = some i ∧ i.zero = some (.slice none 0 0) ∧ i.size = 1 ∧ i.bytes = 24) (hn : n ≤ 1000000000)
    (hP : ∀ w v, (pbar n TS w0.heap.size).p w v → (ph Φ i).p w v) : Ob P Q ops L Φ w0 a0 i o := by
  intro ms w hS
  rw [if_pos (wt_none (ops := ops) (L := L) (Φ := Φ) (w0 := w0) (a0 := a0) hg ms w hS)]
  obtain ⟨w', h1, h2, h3⟩ := run_make_v (P := P) (w := w) ht hI n hn
  have hr : (execOp (putM a0 L ms).eval o).run P w = .ok (.value (.slice (some ⟨w.heap.size, 0, none⟩) n n)) w' := by
    unfold execOp
    simp only [hop, hx ms w hS, hy ms w hS, Sem.run_bind, h1, Result.andThen_ok]
    rfl
  unfold Oper.wp
  rw [hr]
  exact ⟨_, rfl, h3, hP _ _ ⟨_, rfl, h2, hS.below.size⟩, fun h => by unfold isA at h; rw [hop] at h; cases h⟩
end
end Go.Proofs.YtpcdkepkipadaaaGreat.flow
namespace Go.Proofs.YtpcdkepkipadaaaGreat.rat
open Go.RowKit Go.Proofs.YtpcdkepkipadaaaGreat.num Go.Proofs.YtpcdkepkipadaaaGreat.mem Go.Proofs.YtpcdkepkipadaaaGreat.nat Go.Proofs.YtpcdkepkipadaaaGreat.txt Go.Proofs.YtpcdkepkipadaaaGreat.str Go.Proofs.YtpcdkepkipadaaaGreat.flow Go.Proofs.YtpcdkepkipadaaaGreat.whl
set_option linter.unusedVariables false
/-- A table whose rows the call owns, each in a block of its own; their elements' limbs lie elsewhere than all rows, and than the table. -/
structure TabO (k : IntKind) (B : Nat) (T : TypeId) (w : World) (base : Nat) (TS : TypeId) (V : Value) (us : List Value) (pss : List (List Elt)) : Prop where
  row : RowV w base TS V us
  len : us.length = pss.length
  own : ∀ (i : Nat) (u : Value) (ps : List Elt), us[i]? = some u → pss[i]? = some ps → RowF T w base u ps
  far : ∀ u ∈ us, ∀ ps ∈ pss, FarF k B w u ps
  farV : ∀ ps ∈ pss, FarF k B w V ps
  apart : ∀ (i j : Nat) (u v : Value), i ≠ j → us[i]? = some u → us[j]? = some v → ∀ h, u.ownBlock = some h → v.ownBlock ≠ some h
theorem TabO.below {k : IntKind} {B : Nat} {T : TypeId} {w w' : World} {base : Nat} {TS : TypeId} {V : Value} {us : List Value} {pss : List (List Elt)} (h : TabO k B T w base TS V us pss) (hb : Below w.heap.size w w') : TabO k B T w' base TS V us pss :=
  ⟨h.row.below hb, h.len, fun i u ps hu hp => (h.own i u ps hu hp).below hb, fun u hu ps hp => (h.far u hu ps hp).below hb, fun ps hp => (h.farV ps hp).below hb, h.apart⟩
theorem TabO.drew {k : IntKind} {B : Nat} {T : TypeId} {w : World} {base : Nat} {TS : TypeId} {V : Value} {us : List Value} {pss : List (List Elt)} (h : TabO k B T w base TS V us pss) : TabO k B T w.drew base TS V us pss := h.below (Below.refl _ w).drew
/-- The rows as fractions. -/
def valq (pss : List (List Elt)) : List (List Rat) := pss.map fun ps => ps.map (·.1)
theorem TabO.slT {k : IntKind} {B : Nat} {T : TypeId} {w : World} {base : Nat} {TS : TypeId} {V : Value} {us : List Value} {pss : List (List Elt)} (h : TabO k B T w base TS V us pss) : SlT k B w V (valq pss) := by
  refine ⟨us, by rw [valq, List.length_map]; exact h.len, ?_, fun i u r hu hr => ?_⟩
  · rcases h.row.2 with ⟨rfl, h0⟩ | ⟨g, cap, cur, rfl, _, hg, hn, hm, _, _⟩
    · obtain rfl : us = [] := List.length_eq_zero_iff.1 h0
      exact ⟨none, 0, rfl, by simp, by unfold maxLen; omega, fun i u hu => by simp at hu⟩
    · exact ⟨_, cap, rfl, hn, hm, fun i u hu => ⟨_, rfl, World.ownsRow.cells h.row (g := g) rfl i u hu⟩⟩
  rw [valq, List.getElem?_map] at hr
  cases hp : pss[i]? with
  | none => rw [hp] at hr; cases hr
  | some ps =>
    rw [hp] at hr
    obtain rfl : ps.map (·.1) = r := by simpa using hr
    exact (h.own i u ps hu hp).sl (h.far u (List.mem_of_getElem? hu) ps (List.mem_of_getElem? hp))
theorem TabB.rowV {w : World} {base g n : Nat} {TS : TypeId} {us : List Value} (h : TabB w g TS us) (hn : us.length = n) (hb : base ≤ g) (hm : n ≤ 1000000000) : RowV w base TS (.slice (some ⟨g, 0, none⟩) n n) us := by
  unfold RowV
  rw [hn]
  exact ⟨by simp [hn], .inr ⟨g, n, us.toArray, rfl, hb, h.1, Nat.le_refl _, by unfold maxLen; omega, by simp [hn], by simp [← hn]⟩⟩
theorem TabB.owned {k : IntKind} {B : Nat} {T : TypeId} {w : World} {base g n : Nat} {TS : TypeId} (h : TabB w g TS (List.replicate n (.slice none 0 0))) (hb : base ≤ g) (hm : n ≤ 1000000000) : TabO k B T w base TS (.slice (some ⟨g, 0, none⟩) n n) (List.replicate n (.slice none 0 0)) (List.replicate n []) := by
  have key : ∀ u ∈ List.replicate n (Value.slice none 0 0), u = .slice none 0 0 := fun u hu => (List.mem_replicate.1 hu).2
  refine ⟨h.rowV (by simp) hb hm, by simp, fun i u ps hu hp => ?_, fun u hu ps hp => ?_, fun ps hp => ?_, fun i j u v _ hu hv q hq => ?_⟩
  · have h1 := key u (List.mem_of_getElem? hu)
    have h2 := (List.mem_replicate.1 (List.mem_of_getElem? hp)).2
    subst h1; subst h2
    exact rowF_nil _ _ _
  · rw [(List.mem_replicate.1 hp).2]
    exact FarF.nil _ _ _ _
  · rw [(List.mem_replicate.1 hp).2]
    exact FarF.nil _ _ _ _
  · rw [key u (List.mem_of_getElem? hu)] at hq
    cases hq
theorem RowF.notRow {T TS : TypeId} {w : World} {base base' : Nat} {v V : Value} {ps : List Elt} {us : List Value} (h : RowF T w base v ps) (hV : RowV w base' TS V us) (hne : T ≠ TS) : ∀ g, v.ownBlock = some g → V.ownBlock ≠ some g := by
  intro g e e2
  rcases h.2 with ⟨rfl, _⟩ | ⟨g', cap, cur, rfl, _, hg, _⟩
  · cases e
  · rcases hV.2 with ⟨rfl, _⟩ | ⟨g2, cap2, cur2, rfl, _, hg2, _⟩
    · cases e2
    · have e1 : g' = g := by simpa [Value.ownBlock] using e
      have e3 : g2 = g := by simpa [Value.ownBlock] using e2
      subst e1; subst e3
      rw [hg] at hg2
      injection hg2 with hg2
      injection hg2 with _ hg2
      exact hne hg2
theorem mem_set_at {α : Type} {l : List α} {i j : Nat} {a x : α} (h : (l.set i a)[j]? = some x) : (i = j ∧ x = a) ∨ (i ≠ j ∧ l[j]? = some x) := by
  by_cases e : i = j
  · subst e
    have hi : i < l.length := by have := (List.getElem?_eq_some_iff.1 h).1; rwa [List.length_set] at this
    rw [List.getElem?_set_self hi] at h
    injection h with h
    exact .inl ⟨rfl, h.symm⟩
  · rw [List.getElem?_set_ne e] at h
    exact .inr ⟨e, h⟩
/-- A row grows: the table stands as it was, but for that row. -/
theorem TabO.put {k : IntKind} {B : Nat} {T : TypeId} {w w1 : World} {base g n c i : Nat} {TS : TypeId} {us : List Value} {pss : List (List Elt)} {u u' : Value} {ps new : List Elt} (hT : T ≠ TS) (h : TabO k B T w base TS (.slice (some ⟨g, 0, none⟩) n c) us pss) (hu : us[i]? = some u) (hps : pss[i]? = some ps) (hrow : RowF T w1 base u' (ps ++ new)) (hgr : Grew w w1 u u') (hnew : FarF k B w1 u' new) (hfar : ∀ v ∈ us, ∀ p ∈ new, Far v p.2.1 ∧ Far v p.2.2) (hfarV : ∀ p ∈ new, Far (.slice (some ⟨g, 0, none⟩) n c) p.2.1 ∧ Far (.slice (some ⟨g, 0, none⟩) n c) p.2.2) :
    TabO k B T (w1.setCell ⟨g, i, none⟩ u') base TS (.slice (some ⟨g, 0, none⟩) n c) (us.set i u') (pss.set i (ps ++ new)) := by
  obtain ⟨k1, k2, k3⟩ := hgr
  have hui := h.own i u ps hu hps
  have hs := grown_set w1 g i u'
  have hV : Value.ownBlock (.slice (some ⟨g, 0, none⟩) n c) = some g := rfl
  have hng : u.ownBlock ≠ some g := fun e => hui.notRow h.row hT g e hV
  have ht1 : RowV w1 base TS (.slice (some ⟨g, 0, none⟩) n c) us := World.ownsRow.kept (row := u.ownBlock) h.row k2 (.inr (by rw [hV]; exact fun e => hng e.symm))
  have hum := List.mem_of_getElem? hu
  have off2 : ∀ {l : List Nat} {x : Value}, IsS w1 k x l → Far (.slice (some ⟨g, 0, none⟩) n c) x → IsS (w1.setCell ⟨g, i, none⟩ u') k x l := fun a b => a.farKept b hs
  have lift : ∀ p, IsE k B w p → Far u p.2.1 → Far u p.2.2 → Far (.slice (some ⟨g, 0, none⟩) n c) p.2.1 → Far (.slice (some ⟨g, 0, none⟩) n c) p.2.2 → IsE k B (w1.setCell ⟨g, i, none⟩ u') p ∧ Far u' p.2.1 ∧ Far u' p.2.2 := fun p a b c d e => by
    have x1 := k1 _ _ _ a.1 b
    have x2 := k1 _ _ _ a.2 c
    exact ⟨⟨off2 x1.1 d, off2 x2.1 e⟩, x1.2, x2.2⟩
  have hall : ∀ qs ∈ pss.set i (ps ++ new), ∀ p ∈ qs, IsE k B (w1.setCell ⟨g, i, none⟩ u') p ∧ (Far u' p.2.1 ∧ Far u' p.2.2) ∧ (∀ v ∈ us, Far v p.2.1 ∧ Far v p.2.2) ∧ Far (.slice (some ⟨g, 0, none⟩) n c) p.2.1 ∧ Far (.slice (some ⟨g, 0, none⟩) n c) p.2.2 := by
    intro qs hqs p hp
    have hpq : (p ∈ new) ∨ ∃ qs' ∈ pss, p ∈ qs' := by
      rcases List.mem_or_eq_of_mem_set hqs with hqs | rfl
      · exact .inr ⟨qs, hqs, hp⟩
      · rcases List.mem_append.1 hp with hp | hp
        · exact .inr ⟨ps, List.mem_of_getElem? hps, hp⟩
        · exact .inl hp
    rcases hpq with hp | ⟨qs', hq', hp⟩
    · obtain ⟨e1, f1, f2⟩ := hnew p hp
      have fV := hfarV p hp
      exact ⟨⟨off2 e1.1 fV.1, off2 e1.2 fV.2⟩, ⟨f1, f2⟩, fun v hv => hfar v hv p hp, fV⟩
    · obtain ⟨e1, f1, f2⟩ := h.far u hum qs' hq' p hp
      have fV := (h.farV qs' hq' p hp).2
      obtain ⟨e2, f3, f4⟩ := lift p e1 f1 f2 fV.1 fV.2
      exact ⟨e2, ⟨f3, f4⟩, fun v hv => (h.far v hv qs' hq' p hp).2, fV⟩
  refine ⟨ht1.stored i u', by rw [List.length_set, List.length_set]; exact h.len, fun j x y hx hy => ?_, fun v hv qs hqs p hp => ?_, fun qs hqs p hp => ⟨(hall qs hqs p hp).1, (hall qs hqs p hp).2.2.2⟩, fun a b x y hab hx hy q hq hq2 => ?_⟩
  · rcases mem_set_at hx with ⟨rfl, rfl⟩ | ⟨hj, hx⟩
    · rcases mem_set_at hy with ⟨_, rfl⟩ | ⟨hj, _⟩
      · exact hrow.other hs fun q hq e => hrow.notRow ht1 hT q hq e
      · exact absurd rfl hj
    · rcases mem_set_at hy with ⟨e, _⟩ | ⟨_, hy⟩
      · exact absurd e hj
      · have r0 := h.own j x y hx hy
        have r1 := r0.other k2 fun q hq e => h.apart i j u x hj hu hx q e hq
        exact r1.other hs fun q hq e => r1.notRow ht1 hT q hq e
  · obtain ⟨e1, f1, f2, _⟩ := hall qs hqs p hp
    refine ⟨e1, ?_⟩
    rcases List.mem_or_eq_of_mem_set hv with hv | rfl
    · exact f2 v hv
    · exact f1
  · rcases mem_set_at hx with ⟨rfl, rfl⟩ | ⟨ha, hx1⟩
    · rcases mem_set_at hy with ⟨e, _⟩ | ⟨_, hy⟩
      · exact hab e
      · obtain ⟨pb, hpb⟩ : ∃ pb, pss[b]? = some pb := ⟨_, List.getElem?_eq_getElem (by rw [← h.len]; exact (List.getElem?_eq_some_iff.1 hy).1)⟩
        have hlt := (h.own b y pb hy hpb).under q hq2
        exact k3 q hlt (fun e => h.apart i b u y hab hu hy q e hq2) hq
    · rcases mem_set_at hy with ⟨rfl, rfl⟩ | ⟨hb, hy1⟩
      · obtain ⟨pa, hpa⟩ : ∃ pa, pss[a]? = some pa := ⟨_, List.getElem?_eq_getElem (by rw [← h.len]; exact (List.getElem?_eq_some_iff.1 hx1).1)⟩
        have hlt := (h.own a x pa hx1 hpa).under q hq
        exact k3 q hlt (fun e => h.apart i a u x ha hu hx1 q e hq) hq2
      · exact h.apart a b x y hab hx1 hy1 q hq hq2
theorem TabO.cell {k : IntKind} {B : Nat} {T : TypeId} {w : World} {base g n c : Nat} {TS : TypeId} {us : List Value} {pss : List (List Elt)} (h : TabO k B T w base TS (.slice (some ⟨g, 0, none⟩) n c) us pss) {i : Nat} {u : Value} (hu : us[i]? = some u) : w.cell? ⟨g, i, none⟩ = some u := h.row.cellAt hu
theorem TabO.frozen {k : IntKind} {B : Nat} {T : TypeId} {w : World} {base g n c : Nat} {TS : TypeId} {us : List Value} {pss : List (List Elt)} (h : TabO k B T w base TS (.slice (some ⟨g, 0, none⟩) n c) us pss) (i : Nat) : w.frozen? ⟨g, i, none⟩ = false := h.row.frozenAt i
theorem valq_len (pss : List (List Elt)) : (valq pss).length = pss.length := List.length_map _
/-- A slice of tables. -/
def ListT (w : World) (v : Value) (ts : List (List (List Rat))) : Prop := ∃ us : List Value, us.length = ts.length ∧ IsV w v us ∧ us.length ≤ 1000000 ∧ ∀ (i : Nat) (u : Value) (t : List (List Rat)), us[i]? = some u → ts[i]? = some t → SlT .u64 4294967296 w u t
theorem ListT.below {w w' : World} {v : Value} {ts : List (List (List Rat))} (h : ListT w v ts) (hb : Below w.heap.size w w') : ListT w' v ts := by
  obtain ⟨us, h1, h2, h3, h4⟩ := h
  exact ⟨us, h1, h2.below hb, h3, fun i u t hu ht => (h4 i u t hu ht).below hb⟩
theorem ListT.shape {w : World} {v : Value} {ts : List (List (List Rat))} (h : ListT w v ts) : ∃ A c, v = .slice A ts.length c ∧ ts.length ≤ c := by
  obtain ⟨us, h1, ⟨A, c, e, h2, _⟩, _⟩ := h
  exact ⟨A, c, by rw [e, h1], by omega⟩
theorem ListT.at_ {w : World} {A : Option Addr} {n c i : Nat} {ts : List (List (List Rat))} {t : List (List Rat)} (h : ListT w (.slice A n c) ts) (hr : ts[i]? = some t) : ∃ ad Ar cr, A = some ad ∧ i < n ∧ w.cell? (ad.add i) = some (.slice Ar t.length cr) ∧ SlT .u64 4294967296 w (.slice Ar t.length cr) t := by
  obtain ⟨us, h1, ⟨A', c', e, h2, h3⟩, _, h5⟩ := h
  injection e with e1 e2 e3
  subst e1; subst e2; subst e3
  have hi : i < us.length := by have := (List.getElem?_eq_some_iff.1 hr).1; omega
  obtain ⟨ad, ha, hc⟩ := h3 i _ (List.getElem?_eq_getElem hi)
  have hs := h5 i _ t (List.getElem?_eq_getElem hi) hr
  obtain ⟨Ar, cr, e, _, _⟩ := hs.shape
  rw [e] at hc hs
  exact ⟨ad, Ar, cr, ha, hi, hc, hs⟩
theorem SlT.place {k : IntKind} {B : Nat} {w : World} {A : Option Addr} {n c : Nat} {t : List (List Rat)} (h : SlT k B w (.slice A n c) t) (hne : t ≠ []) : ∃ ad, A = some ad := by
  obtain ⟨r, hr⟩ : ∃ r, t[0]? = some r := ⟨_, List.getElem?_eq_getElem (List.length_pos_iff.2 hne)⟩
  obtain ⟨ad, _, _, e, _⟩ := h.at_ hr
  exact ⟨ad, e⟩
theorem SlT.at2 {k : IntKind} {B : Nat} {w : World} {ad : Addr} {n c i : Nat} {t : List (List Rat)} {r : List Rat} (h : SlT k B w (.slice (some ad) n c) t) (hr : t[i]? = some r) : ∃ Ar cr, i < n ∧ w.cell? (ad.add i) = some (.slice Ar r.length cr) ∧ SlF k B w (.slice Ar r.length cr) r := by
  obtain ⟨ad', Ar, cr, e, h1, h2, h3⟩ := h.at_ hr
  injection e with e
  subst e
  exact ⟨Ar, cr, h1, h2, h3⟩
theorem ListT.place {w : World} {A : Option Addr} {n c : Nat} {ts : List (List (List Rat))} (h : ListT w (.slice A n c) ts) (hne : ts ≠ []) : ∃ ad, A = some ad := by
  obtain ⟨r, hr⟩ : ∃ r, ts[0]? = some r := ⟨_, List.getElem?_eq_getElem (List.length_pos_iff.2 hne)⟩
  obtain ⟨ad, _, _, e, _⟩ := h.at_ hr
  exact ⟨ad, e⟩
theorem ListT.at2 {w : World} {ad : Addr} {n c i : Nat} {ts : List (List (List Rat))} {t : List (List Rat)} (h : ListT w (.slice (some ad) n c) ts) (hr : ts[i]? = some t) : ∃ Ar cr, i < n ∧ w.cell? (ad.add i) = some (.slice Ar t.length cr) ∧ SlT .u64 4294967296 w (.slice Ar t.length cr) t := by
  obtain ⟨ad', Ar, cr, e, h1, h2, h3⟩ := h.at_ hr
  injection e with e
  subst e
  exact ⟨Ar, cr, h1, h2, h3⟩
section
variable {P : Program} {Q : Exit → Act → World → Prop} {ops : Array Oper} {L : List Oper} {Φ : List Pd} {w0 : World} {a0 : Act} {i : Nat} {o : Oper}
end
theorem SlT.drew {k : IntKind} {B : Nat} {w : World} {v : Value} {t : List (List Rat)} (h : SlT k B w v t) : SlT k B w.drew v t := h.below (Below.refl _ w).drew
theorem ListT.drew {w : World} {v : Value} {ts : List (List (List Rat))} (h : ListT w v ts) : ListT w.drew v ts := h.below (Below.refl _ w).drew
theorem index_tab {P : Program} {t e : TypeId} (hu : P.underlying t = some (.slice e)) (hs : (P.info? e).map (·.size) = some 1) {g n c k : Nat} (hk : k < n) (w : World) : (Instr.indexAt t (.slice (some ⟨g, 0, none⟩) n c) (.int .i64 (k : Int))).run P w = .ok (.pointer (some ⟨g, k, none⟩)) w := by
  have h := index1_any (c := c) hu hs ⟨g, 0, none⟩ hk w
  rw [addr_zero] at h
  exact h
theorem slF_lit1 {k : IntKind} {B : Nat} (w : World) (T : TypeId) {q : Rat} {u t : Value} (h1 : IsS w k u (digs B q.num.natAbs)) (h2 : IsS w k t (digs B q.den)) : SlF k B (w.alloc (.cells #[.bool (ngB q.num), u, t] T)) (.slice (some ⟨w.heap.size, 0, none⟩) 1 1) [q] := by
  have hbb := below_alloc (w := w) (Nat.le_refl _) (.cells #[.bool (ngB q.num), u, t] T)
  have hB := Blk.new w T #[.bool (ngB q.num), u, t]
  refine ⟨[(q, u, t)], rfl, ⟨some ⟨w.heap.size, 0, none⟩, 1, rfl, Nat.le_refl _, by unfold maxLen; omega, fun i p hp => ?_⟩, fun p hp => ?_⟩
  · rcases i with _ | i
    · obtain rfl : ((q, u, t) : Elt) = p := by simpa using hp
      exact ⟨_, _, rfl, hB.cell 0, hB.cell 1, hB.cell 2⟩
    · simp at hp
  · obtain rfl := List.mem_singleton.1 hp
    exact ⟨h1.below hbb, h2.below hbb⟩
/-- A slice of these, of this kind. -/
def psk (k : IntKind) (B : Nat) (qs : List Rat) : Pd := ⟨fun w v => SlF k B w v qs, fun h hb => h.below hb⟩
section
variable {P : Program} {Q : Exit → Act → World → Prop} {ops : Array Oper} {L : List Oper} {Φ : List Pd} {w0 : World} {a0 : Act} {i : Nat} {o : Oper}
theorem ob_lit1 {k : IntKind} {B : Nat} {t T : TypeId} {x : Operand} {q : Rat} {F : World → Value → Prop} (hop : o.op = .buildSlice t 1 #[(0, x)]) (hw : Wt ops L Φ w0 a0 o true) (hx : Ev L Φ w0 a0 o x F) (hu : P.underlying t = some (.slice T)) (hI : ∃ i, P.info? T = some i ∧ i.zero = some (.agg #[.bool false, .slice none 0 0, .slice none 0 0]) ∧ i.size = 3 ∧ i.bytes = 56)
    (hF : ∀ w v, Below w0.heap.size w0 w → F w v → ∃ u t, v = .agg #[.bool (ngB q.num), u, t] ∧ IsS w k u (digs B q.num.natAbs) ∧ IsS w k t (digs B q.den)) (hP : ∀ w v, SlF k B w v [q] → (ph Φ i).p w v) : Ob P Q ops L Φ w0 a0 i o := by
  intro ms w hS
  rw [if_pos (hw ms w hS)]
  obtain ⟨u, t1, hv, h1, h2⟩ := hF _ _ hS.below (hx ms w hS)
  have sl := slF_lit1 w T h1 h2
  have hbb := below_alloc (w := w) (Nat.le_refl _) (.cells #[.bool (ngB q.num), u, t1] T)
  obtain ⟨A1, c1, rfl, _⟩ := id h1
  obtain ⟨A2, c2, rfl, _⟩ := id h2
  obtain ⟨inf, hi, hz, hs, hb⟩ := hI
  have hr : (execOp (putM a0 L ms).eval o).run P w = .ok (.value (.slice (some ⟨w.heap.size, 0, none⟩) 1 1)) (w.alloc (.cells #[.bool (ngB q.num), .slice A1 (digs B q.num.natAbs).length c1, .slice A2 (digs B q.den).length c2] T)) := by
    generalize putM a0 L ms = A at hv
    have hz0 : (zeroValue T).run P w = .ok (.agg #[.bool false, .slice none 0 0, .slice none 0 0]) w := by simp [zeroValue, go_sem, typeInfo, hi, hz]
    simp only [hop, execOp, List.map_toArray, List.map_cons, List.map_nil, hv]
    generalize A.eval = ev
    simp [go_sem, run_underlying hu, sizeOf, typeInfo, hi, newRow, hs, hz0]
  unfold Oper.wp
  rw [hr]
  exact ⟨_, rfl, hbb, hP _ _ sl, fun h => by unfold isA at h; rw [hop] at h; cases h⟩
end
theorem info_vec : ∃ i, Tryz.prog.info? 53 = some i ∧ i.zero = some (.slice none 0 0) ∧ i.size = 1 ∧ i.bytes = 24 := info_parts (P := Tryz.prog) (e := 53) (z := .slice none 0 0) (size := 1) (bytes := 24) (by kernel_rfl)
theorem info_veq : ∃ i, Tryz.prog.info? 57 = some i ∧ i.zero = some (.slice none 0 0) ∧ i.size = 1 ∧ i.bytes = 24 := info_parts (P := Tryz.prog) (e := 57) (z := .slice none 0 0) (size := 1) (bytes := 24) (by kernel_rfl)
set_option linter.unusedSimpArgs false
set_option maxHeartbeats 1600000 in
set_option maxRecDepth 100000 in
theorem scopied_any (a0 : Value) (x : Rat) (w : World) (h0 : IsQ w a0 x) (hl : lenQ x 100000) :
    Calls Tryz.prog 44 #[a0] w (RetQ x w) := by
  obtain ⟨u0, t0, rfl, s0, r0⟩ := h0
  obtain ⟨A0, c0, rfl, _⟩ := id s0
  obtain ⟨D0, e0, rfl, _⟩ := id r0
  go_enter Tryz.func44, Tryz.ntmps44
  go_upto_region 1 with (fail)
  obtain ⟨wx, hwx, bb, B0, BR0, hsz⟩ := vars2 w 36 36 #[.bool (ngB (x).num), .slice A0 (digs 4294967296 (x).num.natAbs).length c0, .slice D0 (digs 4294967296 (x).den).length e0] #[.bool false, .slice none 0 0, .slice none 0 0]
  rw [hwx]
  clear hwx
  have k0s := s0.below bb
  have k0d := r0.below bb
  have k0z : IsZ wx (.agg #[.bool (ngB (x).num), .slice A0 (digs 4294967296 (x).num.natAbs).length c0]) (x).num := ⟨_, rfl, k0s⟩
  have k0 : IsQ wx (.agg #[.bool (ngB (x).num), .slice A0 (digs 4294967296 (x).num.natAbs).length c0, .slice D0 (digs 4294967296 (x).den).length e0]) (x) := ⟨_, _, rfl, k0s, k0d⟩
  have hsz0 := bb.size
  have sB := bb.size
  refine flow 12 [Pd.eq (.pointer (some ⟨w.heap.size, 0, none⟩)), Pd.eq (.pointer (some ⟨w.heap.size, 0, none⟩)), Pd.eq (.bool (ngB (x).num)), Pd.eq (.pointer (some ⟨w.heap.size, 0, none⟩)), Pd.eq (.pointer (some ⟨w.heap.size, 1, none⟩)), Pd.eq (.slice A0 (digs 4294967296 (x).num.natAbs).length c0), ps .u64 (digs 4294967296 (x).num.natAbs) wx.heap.size, pz ((x).num) wx.heap.size, Pd.eq (.pointer (some ⟨w.heap.size, 2, none⟩)), Pd.eq (.slice D0 (digs 4294967296 (x).den).length e0), ps .u64 (digs 4294967296 (x).den) wx.heap.size, pq (x) wx.heap.size] (by kernel_rfl) (by kernel_rfl) ?ob1 ?done1
  case ob1 =>
    refine And.intro (ob_fieldAddr rfl (wt_none rfl) (ev_far rfl rfl) (fun _ => by kernel_rfl) (fun _ => rfl)) ?_
    refine And.intro (ob_fieldAddr rfl (wt_none rfl) (ev_dep (j := 0) (by kernel_rfl) rfl rfl) (fun _ => by kernel_rfl) (fun _ => rfl)) ?_
    refine And.intro (ob_load rfl (wt_none rfl) (ev_dep (j := 1) (by kernel_rfl) rfl rfl) (fun w2 hb => run_load1 Tryz.underlying4 rfl ((B0.drew.below hb).cell 0)) (fun _ _ => rfl)) ?_
    refine And.intro (ob_fieldAddr rfl (wt_none rfl) (ev_far rfl rfl) (fun _ => by kernel_rfl) (fun _ => rfl)) ?_
    refine And.intro (ob_fieldAddr rfl (wt_none rfl) (ev_dep (j := 3) (by kernel_rfl) rfl rfl) (fun _ => by kernel_rfl) (fun _ => rfl)) ?_
    refine And.intro (ob_load rfl (wt_none rfl) (ev_dep (j := 4) (by kernel_rfl) rfl rfl) (fun w2 hb => run_load1 Tryz.underlying32 rfl ((B0.drew.below hb).cell 1)) (fun _ _ => rfl)) ?_
    refine And.intro (ob_call1 rfl Tryz.func79 (by kernel_rfl) (wt_none rfl) (ev_dep (j := 5) (by kernel_rfl) rfl rfl) (fun w2 u0 hb h0 => by obtain rfl := h0; exact (clone_any _ _ _ (k0s.drew.below hb) (Nat.le_trans hl.1 (by decide))).mono fun e w3 h => RetS.pd h hb.size)) ?_
    refine And.intro (ob_build2b rfl (wt_none rfl) (ev_dep (j := 2) (by kernel_rfl) rfl rfl) (ev_dep (j := 6) (by kernel_rfl) rfl rfl) (fun w2 u v hb hu hv => by obtain rfl := hu; obtain ⟨A7, c7, rfl, _⟩ := id hv.1; exact ⟨.agg #[.bool (ngB (x).num), .slice A7 (digs 4294967296 (x).num.natAbs).length c7], by kernel_rfl, ⟨_, rfl, hv.1⟩, freshZ_mk hv.2⟩)) ?_
    refine And.intro (ob_fieldAddr rfl (wt_none rfl) (ev_far rfl rfl) (fun _ => by kernel_rfl) (fun _ => rfl)) ?_
    refine And.intro (ob_load rfl (wt_none rfl) (ev_dep (j := 8) (by kernel_rfl) rfl rfl) (fun w2 hb => run_load1 Tryz.underlying32 rfl ((B0.drew.below hb).cell 2)) (fun _ _ => rfl)) ?_
    refine And.intro (ob_call1 rfl Tryz.func79 (by kernel_rfl) (wt_none rfl) (ev_dep (j := 9) (by kernel_rfl) rfl rfl) (fun w2 u0 hb h0 => by obtain rfl := h0; exact (clone_any _ _ _ (k0d.drew.below hb) (Nat.le_trans hl.2 (by decide))).mono fun e w3 h => RetS.pd h hb.size)) ?_
    refine And.intro (ob_build2b rfl (wt_none rfl) (ev_dep (j := 7) (by kernel_rfl) rfl rfl) (ev_dep (j := 10) (by kernel_rfl) rfl rfl) (fun w2 u v hb hu hv => by obtain ⟨u7, rfl, hu7⟩ := hu.1; obtain ⟨A7, c7, rfl, _⟩ := id hu7; obtain ⟨A8, c8, rfl, _⟩ := id hv.1; exact ⟨.agg #[.bool (ngB (x).num), .slice A7 (digs 4294967296 (x).num.natAbs).length c7, .slice A8 (digs 4294967296 (x).den).length c8], by kernel_rfl, ⟨⟨_, _, rfl, hu7, hv.1⟩, freshQ_mk (hu.2 _ _ rfl) hv.2⟩⟩)) ?_
    trivial
  case done1 =>
    refine fun w11 hb11 v0 h0 v1 h1 v2 h2 v3 h3 v4 h4 v5 h5 v6 h6 v7 h7 v8 h8 v9 h9 v10 h10 v11 h11 b hbf => ?_
    obtain rfl := h0; obtain rfl := h1; obtain rfl := h2; obtain rfl := h3; obtain rfl := h4; obtain rfl := h5; obtain rfl := h8; obtain rfl := h9
    obtain ⟨q6, f6⟩ := h6
    obtain ⟨q7, f7⟩ := h7
    obtain ⟨q10, f10⟩ := h10
    obtain ⟨q11, f11⟩ := h11
    simp only [Act.put, List.setIfInBounds_toArray, List.set_cons_zero, List.set_cons_succ] at hbf
    subst hbf
    replace B0 := B0.below hb11
    replace k0s := k0s.below hb11
    replace k0d := k0d.below hb11
    replace k0z := k0z.below hb11
    replace k0 := k0.below hb11
    replace BR0 := BR0.below hb11
    replace bb := bb.trans (hb11.mono bb.size)
    have hsz11 := bb.size
    have s_6 := sB
    have s_7 := sB
    have s_10 := sB
    have s_11 := sB
    obtain ⟨u11, t11, rfl, q11, d11⟩ := q11
    obtain ⟨A9, c9, rfl, _⟩ := id q11
    obtain ⟨D9, e9, rfl, _⟩ := id d11
    refine any_store (i := 12) (by kernel_rfl) rfl rfl rfl rfl rfl rfl (cells := [.bool (ngB (x).num), .slice A9 (digs 4294967296 (x).num.natAbs).length c9, .slice D9 (digs 4294967296 (x).den).length e9]) rfl BR0 rfl (by kernel_rfl) (one3 rfl rfl rfl) fun w9 hg9 B9 => ?_
    have k9 := off q11 BR0 no_ints3 hg9
    have d9 := off d11 BR0 no_ints3 hg9
    have f9 := f11.mono (show w.heap.size ≤ _ from s_11)
    have bb9 := bb.trans ((Below.refl _ _).grown hg9 bb.size (fun g hg => by injection hg with hg; omega))
    obtain ⟨C0, C1, C2, _, _, _⟩ := three B9
    refine any_done (by kernel_rfl) ?_
    go_wp2
    exact bodyPost_ret (v := .agg #[.bool (ngB (x).num), .slice A9 (digs 4294967296 (x).num.natAbs).length c9, .slice D9 (digs 4294967296 (x).den).length e9]) (by simp [results, Tryz.results44, go_sem, C0, C1, C2]) rfl ⟨_, rfl, ⟨_, _, rfl, k9, d9⟩, f9, bb9⟩
theorem blk_set1 {w : World} {g i : Nat} {t : TypeId} {cs : Array Value} (h : Blk w g t cs) (u : Value) : Blk (w.setCell ⟨g, i, none⟩ u) g t (cs.setIfInBounds i u) := by
  unfold Blk at h ⊢
  simp [World.setCell, Array.getElem?_modify, h]
theorem blk_set3 {w : World} {g : Nat} {t : TypeId} {a b c : Value} (h : Blk w g t #[a, b, c]) (x y z : Value) : Blk (((w.setCell ⟨g, 0, none⟩ x).setCell ⟨g, 1, none⟩ y).setCell ⟨g, 2, none⟩ z) g t #[x, y, z] := blk_set1 (blk_set1 (blk_set1 h x) y) z
/-- All fractions are of so many limbs at most. -/
def lenS (T : List (List Rat)) (m : Nat) : Prop := ∀ (i j : Nat) (q : Rat), cellq T i j = some q → lenQ q m
theorem lenS.mono {T : List (List Rat)} {m n : Nat} (h : lenS T m) (hn : m ≤ n) : lenS T n := fun i j q hq => (h i j q hq).mono hn
theorem RatS_of0 (w : World) : Calls Tryz.prog 53 #[.int .i64 0] w (RetQ (0 : Rat) w) := of8_any 0 w (by omega) (by omega)
theorem grown_below {w w2 w3 : World} {row : Option Nat} (hb : Below w.heap.size w w2) (hg : w2.grownBy w3 row) : w.grownBy w3 row :=
  ⟨hg.os.trans hb.os, hg.tape.trans hb.tape, hg.output.trans hb.output, Nat.le_trans hb.size hg.size, fun k hk hne => (hg.block k (Nat.lt_of_lt_of_le hk hb.size) hne).trans (hb.block k hk)⟩
theorem below_none {w w2 : World} (hb : Below w.heap.size w w2) (row : Option Nat) : w.grownBy w2 row := ⟨hb.os, hb.tape, hb.output, hb.size, fun k hk _ => hb.block k hk⟩
theorem num_ordz0 {x : Rat} : (ordz x.num 0 == 0) = decide (x = 0) := by
  by_cases h : x = 0
  · rw [h, decide_eq_true rfl]; rfl
  · rw [decide_eq_false h, beq_eq_false_iff_ne]
    intro e
    have hz : x.num ≠ 0 := fun k => h (Rat.num_eq_zero.1 k)
    rcases Int.lt_or_gt_of_ne hz with k | k
    · rw [ordz_lt k] at e; cases e
    · rw [ordz_gt k] at e; cases e
section
variable {w : World} {ops : Array Oper} {o : Oper} {a : Act} {K : Act → World → Prop} {Q : Exit → Act → World → Prop} {E : Prop} {b R C i j : Nat} {T : List (List Rat)}
/-- 'delete(m, k)'. -/
theorem wpList_drop_q {rest : List Oper} (hgd : o.guard = none) (m x : Operand) (hop : o.op = Op.call { callee := Callee.builtin Builtin.delete, args := #[m, x], argTypes := #[80, 93] }) (hm : a.eval m = .map (some b)) (hx : a.eval x = .agg #[.int .i64 (i : Int), .int .i64 (j : Int)])
    (h : MapQ w b T) (hs : shp T R C) (hR : R ≤ 200) (hC : C ≤ 200) (hi : i < R) (hj : j < C)
    (hK : ∀ w', MapQ w' b (setq T i j 0) → w.grownBy w' (some b) → wpList Tryz.prog ops Q rest (a.put o.dst (.tuple #[])) w') : wpList Tryz.prog ops Q (o :: rest) a w := by
  refine wpList_plain hgd fun K' hK' => ?_
  obtain ⟨w', hrun, h1, h2⟩ := h.drop hs hR hC hi hj o.type
  unfold Oper.wp
  simp [execOp, hop, resolve, invoke, builtin, hm, hx, hrun, Result.andThen]
  exact hK' _ _ (hK w' h1 h2)
end
/-- The sparse table behind a store. -/
def RetPut (g b R C : Nat) (T : List (List Rat)) (w : World) (e : Ending) (w' : World) : Prop := e = .returned (.int .i64 0) ∧ Spt w' g b R C T ∧ w.grownBy w' (some b)
set_option maxHeartbeats 3200000 in
set_option maxRecDepth 100000 in
theorem sput_ok (g b R C i j : Nat) (T : List (List Rat)) (a3 : Value) (q : Rat) (w : World) (h : Spt w g b R C T) (h3 : IsQ w a3 q) (hi : i < R) (hj : j < C) (hl : lenQ q 100000) : Calls Tryz.prog 10 #[.pointer (some ⟨g, 0, none⟩), .int .i64 (i : Int), .int .i64 (j : Int), a3] w (RetPut g b R C (setq T i j q) w) := by
  obtain ⟨u, t, rfl, s3, d3⟩ := h3
  obtain ⟨A3, c3, rfl, _⟩ := id s3
  obtain ⟨D3, e3, rfl, _⟩ := id d3
  have HI : Hid (i < R ∧ j < C) := ⟨hi, hj⟩
  clear hi hj
  have ba := below_alloc (w := w) (Nat.le_refl _) (.cells #[.bool (ngB q.num), .slice A3 (digs 4294967296 q.num.natAbs).length c3, .slice D3 (digs 4294967296 q.den).length e3] 36)
  have BV := Blk.new w 36 #[.bool (ngB q.num), .slice A3 (digs 4294967296 q.num.natAbs).length c3, .slice D3 (digs 4294967296 q.den).length e3]
  go_enter Tryz.func10, Tryz.ntmps10
  go_wp2_with fail
  refine (made_any _ _ _ _ _ _ (h.below ba)).mono ?_
  rintro e w2 ⟨rfl, b2⟩
  have bb := ba.trans (b2.mono ba.size)
  have BV := BV.below b2
  obtain ⟨c0, c1, -⟩ := (h.below bb).cells
  go_wp2_with fail
  refine (among_any i R true _ (decide_eq_true ⟨by omega, by have := HI.out; omega⟩).symm).mono ?_
  rintro e w3 ⟨rfl, b3⟩
  have bb := bb.trans (b3.mono bb.size)
  have BV := BV.below b3
  clear c0 c1
  obtain ⟨c0, c1, -⟩ := (h.below bb).cells
  go_wp2_with fail
  refine (among_any j C true _ (decide_eq_true ⟨by omega, by have := HI.out; omega⟩).symm).mono ?_
  rintro e w4 ⟨rfl, b4⟩
  have bb := bb.trans (b4.mono bb.size)
  have BV := BV.below b4
  clear c0 c1
  obtain ⟨V0, V1, V2, _, _, _⟩ := three BV
  obtain ⟨t, ht⟩ : ∃ t, t = ordz q.num 0 := ⟨_, rfl⟩
  have k4 : IsQ w4 (.agg #[.bool (ngB q.num), .slice A3 (digs 4294967296 q.num.natAbs).length c3, .slice D3 (digs 4294967296 q.den).length e3]) q := ⟨_, _, rfl, s3.below bb, d3.below bb⟩
  have hz : (t == 0) = decide (q = 0) := by rw [ht]; exact num_ordz0
  go_wp2_with fail
  refine (fsign0_any _ q t _ k4 ht).mono ?_
  rintro e w5 ⟨rfl, b5⟩
  have bb := bb.trans (b5.mono bb.size)
  have BV := BV.below b5
  clear V0 V1 V2 ht k4
  by_cases h0 : q = 0
  · have hz1 : (t == 0) = true := by rw [hz, decide_eq_true h0]
    have hz2 : t = 0 := by simpa using hz1
    have S5 := h.below bb
    obtain ⟨c0, c1, c2⟩ := S5.cells
    subst hz2
    have H0 := Lib.hid h0
    clear hz hz1 h0
    go_wp2_with (at_delete; refine wpList_drop_q rfl (.tmp 34) (.tmp 37) rfl rfl rfl S5.map S5.shp S5.hR S5.hC HI.out.1 HI.out.2 ?_; intro w6 M6 g6)
    rw [← H0.out] at M6
    have S6 : Spt w6 g b R C (setq T i j q) := ⟨S5.map.isM.offBlk S5.blk g6, M6, setq_shp S5.shp i j q, S5.hR, S5.hC⟩
    have HE := Lib.hid (And.intro S6 (grown_below bb g6))
    clear M6 S6 g6
    go_wp2
    go_ret
    exact ⟨rfl, HE.out⟩
  · have hz1 : (t == 0) = false := by rw [hz, decide_eq_false h0]
    have hz2 : ¬ t = 0 := by simpa using hz1
    have H0 := Lib.hid h0
    clear hz h0
    have S5 := (h.below bb).drew
    obtain ⟨-, -, c2⟩ := S5.cells
    have BV5 : Blk w5.drew _ _ _ := BV.drew
    obtain ⟨V0, V1, V2, _, _, _⟩ := three BV5
    have bd := bb.trans ((Below.refl w5.heap.size w5).drew.mono bb.size)
    have k5 : IsQ w5.drew (.agg #[.bool (ngB q.num), .slice A3 (digs 4294967296 q.num.natAbs).length c3, .slice D3 (digs 4294967296 q.den).length e3]) q := ⟨_, _, rfl, s3.below bd, d3.below bd⟩
    go_upto_region 7 with (fail)
    go_region_law (go_simp; go_at_call 44; refine (scopied_any _ q _ (by exact k5) hl).mono ?_; rintro e w6 ⟨v6, rfl, k6, f6, b6⟩; have S6 := S5.below b6; have c26 := S6.cells.2.2; obtain ⟨u6, t6, rfl, s6, d6⟩ := k6; obtain ⟨A6, c6, rfl, _⟩ := id s6; obtain ⟨D6, e6, rfl, _⟩ := id d6; have hst := S6.map.store S6.shp S6.hR S6.hC HI.out.1 HI.out.2 (p := (q, .slice A6 (digs 4294967296 q.num.natAbs).length c6, .slice D6 (digs 4294967296 q.den).length e6)) H0.out ⟨s6, d6⟩; unfold qv at hst; obtain ⟨w7, hr7, M7, g7⟩ := hst)
    all_goals
      have S7 : Spt w7 g b R C (setq T i j q) := ⟨S6.map.isM.offBlk S6.blk g7, M7, setq_shp S6.shp i j q, S6.hR, S6.hC⟩
      have HE := Lib.hid (And.intro S7 (grown_below (bd.trans (b6.mono bd.size)) g7))
      clear M7 S7 g7 S6 S5
      go_wp2
      go_ret
      exact ⟨rfl, HE.out⟩
theorem lenQ_nought (m : Nat) (h : 1 ≤ m) : lenQ (0 : Rat) m := lenQ.mono (m := 1) ⟨digs_len_le (k := 1) (by omega) (by decide +kernel), digs_len_le (k := 1) (by omega) (by decide +kernel)⟩ h
theorem info_vec13 : ∃ i, Tryz.prog.info? 53 = some i ∧ i.zero = some (.slice none 0 0) ∧ i.size = 1 ∧ i.bytes = 24 := info_parts (P := Tryz.prog) (e := 53) (z := .slice none 0 0) (size := 1) (bytes := 24) (by kernel_rfl)
set_option maxHeartbeats 3200000 in
set_option maxRecDepth 100000 in
theorem works13_any (w : World) : Calls Tryz.prog 16 #[] w (RetV (.bool true) w) := by
  obtain ⟨F, hF⟩ : ∃ F : Rat, F = ((5 : Int) : Rat) := ⟨_, rfl⟩
  have C5 : ∀ w, Calls Tryz.prog 53 #[.int .i64 5] w (RetQ F w) := fun w => by rw [hF]; exact of8_any 5 w (by omega) (by omega)
  have hF0 : F ≠ 0 := by rw [hF]; decide +kernel
  have hFl : lenQ F 100000 := lenQ.mono (m := 1) (by rw [hF]; exact ⟨digs_len_le (k := 1) (by omega) (by decide +kernel), digs_len_le (k := 1) (by omega) (by decide +kernel)⟩) (by omega)
  obtain ⟨Z, hZ⟩ : ∃ Z : Rat, Z = 0 := ⟨_, rfl⟩
  have C0 : ∀ w, Calls Tryz.prog 53 #[.int .i64 0] w (RetQ Z w) := fun w => by rw [hZ]; exact RatS_of0 w
  have hZl : lenQ Z 100000 := by rw [hZ]; exact lenQ_nought _ (by omega)
  obtain ⟨T0, hT0⟩ : ∃ T, T = zerosT 2 2 := ⟨_, rfl⟩
  obtain ⟨T1, hT1⟩ : ∃ T, T = setq T0 0 1 F := ⟨_, rfl⟩
  obtain ⟨T2, hT2⟩ : ∃ T, T = setq T1 0 1 Z := ⟨_, rfl⟩
  have s0 := shp_zeros 2 2
  rw [← hT0] at s0
  have s1 := setq_shp s0 0 1 F
  rw [← hT1] at s1
  obtain ⟨q0, hq0⟩ := cellq_ex s0 (show 0 < 2 by omega) (show 1 < 2 by omega)
  have hz0 : q0 = 0 := cellq_zeros (by rw [← hT0]; exact hq0)
  have hc0 : cntT T0 = 0 := by rw [hT0]; exact cntT_zeros 2 2
  have hq1 : cellq T1 0 1 = some F := by rw [hT1, cellq_setq s0 (by omega) (by omega), if_pos ⟨rfl, rfl⟩]
  have hc1 : cntT T1 = 1 := by
    have h := cntT_setq hq0 F
    rw [← hT1, hz0, oneq_zero, oneq_pos hF0, hc0] at h
    omega
  have hc2 : cntT T2 = 0 := by
    have h := cntT_setq hq1 Z
    rw [← hT2, hZ, oneq_zero, oneq_pos hF0, hc1] at h
    omega
  clear hF hZ hq0 hz0 hc0 hq1 s0 s1
  go_enter Tryz.func16, Tryz.ntmps16
  go_wp2_with fail
  refine (snew_ok 2 2 _ (by omega) (by omega)).mono ?_
  rintro e w1 ⟨g, b, rfl, S1, hg, hb, b1⟩
  rw [← hT0] at S1
  go_wp2_with fail
  refine (C5 _).mono ?_
  rintro e w2 ⟨v2, rfl, k2, f2, b2⟩
  have bb2 := b1.trans (b2.mono b1.size)
  have S2 := S1.below b2
  have kk2 := k2
  obtain ⟨u2, t2, rfl, s2, d2⟩ := k2
  obtain ⟨A2, c2, rfl, _⟩ := id s2
  obtain ⟨D2, e2, rfl, _⟩ := id d2
  go_wp2_with fail
  refine (sput_ok g b 2 2 0 1 T0 _ F _ S2 kk2 (by omega) (by omega) hFl).mono ?_
  rintro e w3 ⟨rfl, S3, g3⟩
  rw [← hT1] at S3
  have bb3 := bb2.grown g3 bb2.size (fun k hk => by injection hk with hk; omega)
  have hcn := scount_any g b 2 2 T1 w3 S3
  rw [hc1] at hcn
  clear S1 S2 kk2 s2 d2 g3
  go_wp2_with fail
  refine hcn.mono ?_
  rintro e w4 ⟨rfl, b4⟩
  have bb4 := bb3.trans (b4.mono bb3.size)
  have S4 := S3.below b4
  clear hcn S3
  go_wp2_with fail
  refine (C0 _).mono ?_
  rintro e w5 ⟨v5, rfl, k5, f5, b5⟩
  have bb5 := bb4.trans (b5.mono bb4.size)
  have S5 := S4.below b5
  have kk5 := k5
  obtain ⟨u5, t5, rfl, s5, d5⟩ := k5
  obtain ⟨A5, c5, rfl, _⟩ := id s5
  obtain ⟨D5, e5, rfl, _⟩ := id d5
  go_wp2_with fail
  refine (sput_ok g b 2 2 0 1 T1 _ Z _ S5 kk5 (by omega) (by omega) hZl).mono ?_
  rintro e w6 ⟨rfl, S6, g6⟩
  rw [← hT2] at S6
  have bb6 := bb5.grown g6 bb5.size (fun k hk => by injection hk with hk; omega)
  have hcn := scount_any g b 2 2 T2 w6 S6
  rw [hc2] at hcn
  clear S4 S5 kk5 s5 d5 g6
  go_wp2_with fail
  refine hcn.mono ?_
  rintro e w7 ⟨rfl, b7⟩
  have bb7 := bb6.trans (b7.mono bb6.size)
  go_wp2
  go_ret
  exact ⟨rfl, bb7⟩
/-- A place, and what stands there. -/
abbrev Cel := Nat × Elt
def cells4 (x : Cel) : List Value := [.int .i64 (x.1 : Int), .bool (ngB x.2.1.num), x.2.2.1, x.2.2.2]
def flat4 (xs : List Cel) : List Value := xs.flatMap cells4
theorem flat4_snoc (xs : List Cel) (x : Cel) : flat4 (xs ++ [x]) = flat4 xs ++ cells4 x := by simp [flat4]
theorem flat4_at : ∀ (xs : List Cel) (i : Nat) (x : Cel), xs[i]? = some x → (flat4 xs)[i * 4]? = some (.int .i64 (x.1 : Int)) ∧ (flat4 xs)[i * 4 + 1]? = some (.bool (ngB x.2.1.num)) ∧ (flat4 xs)[i * 4 + 2]? = some x.2.2.1 ∧ (flat4 xs)[i * 4 + 3]? = some x.2.2.2
  | [], i, x, h => by simp at h
  | y :: xs, 0, x, h => by
    obtain rfl : y = x := by simpa using h
    exact ⟨rfl, rfl, rfl, rfl⟩
  | y :: xs, i + 1, x, h => by
    have ih := flat4_at xs i x (by simpa using h)
    have e : flat4 (y :: xs) = .int .i64 (y.1 : Int) :: .bool (ngB y.2.1.num) :: y.2.2.1 :: y.2.2.2 :: flat4 xs := rfl
    rw [e, show (i + 1) * 4 = i * 4 + 1 + 1 + 1 + 1 from by omega]
    simpa using ih
/-- The value is a slice of these cells. -/
def IsVC (w : World) (v : Value) (xs : List Cel) : Prop := ∃ A c, v = .slice A xs.length c ∧ xs.length ≤ c ∧ c ≤ maxLen ∧ ∀ i x, xs[i]? = some x → ∃ g o, A = some ⟨g, o, none⟩ ∧ w.cell? ⟨g, o + i * 4, none⟩ = some (.int .i64 (x.1 : Int)) ∧ w.cell? ⟨g, o + i * 4 + 1, none⟩ = some (.bool (ngB x.2.1.num)) ∧ w.cell? ⟨g, o + i * 4 + 2, none⟩ = some x.2.2.1 ∧ w.cell? ⟨g, o + i * 4 + 3, none⟩ = some x.2.2.2
theorem IsVC.below {w w' : World} {v : Value} {xs : List Cel} (h : IsVC w v xs) (hb : Below w.heap.size w w') : IsVC w' v xs := by
  obtain ⟨A, c, e, h1, h2, h3⟩ := h
  refine ⟨A, c, e, h1, h2, fun i x hx => ?_⟩
  obtain ⟨g, o, e2, c0, c1, c2, c3⟩ := h3 i x hx
  exact ⟨g, o, e2, (hb.cell (World.block_lt_of_cell? w _ c0)).trans c0, (hb.cell (World.block_lt_of_cell? w _ c1)).trans c1, (hb.cell (World.block_lt_of_cell? w _ c2)).trans c2, (hb.cell (World.block_lt_of_cell? w _ c3)).trans c3⟩
def celq (x : Cel) : Nat × Rat := (x.1, x.2.1)
/-- The value reads as these places and fractions. -/
def SlC (w : World) (v : Value) (l : List (Nat × Rat)) : Prop := ∃ xs : List Cel, xs.map celq = l ∧ IsVC w v xs ∧ ∀ x ∈ xs, IsE .u64 4294967296 w x.2
theorem SlC.below {w w' : World} {v : Value} {l : List (Nat × Rat)} (h : SlC w v l) (hb : Below w.heap.size w w') : SlC w' v l := by
  obtain ⟨xs, e, h1, h2⟩ := h
  exact ⟨xs, e, h1.below hb, fun x hx => (h2 x hx).below hb⟩
theorem SlC.shape {w : World} {v : Value} {l : List (Nat × Rat)} (h : SlC w v l) : ∃ A c, v = .slice A l.length c ∧ l.length ≤ c ∧ c ≤ maxLen := by
  obtain ⟨xs, rfl, ⟨A, c, e, h1, h2, _⟩, _⟩ := h
  rw [List.length_map]
  exact ⟨A, c, e, h1, h2⟩
/-- One of them. -/
theorem SlC.at_ {w : World} {A : Option Addr} {n c : Nat} {l : List (Nat × Rat)} {i : Nat} {y : Nat × Rat} (h : SlC w (.slice A n c) l) (hy : l[i]? = some y) : ∃ g o u t, A = some ⟨g, o, none⟩ ∧ i < n ∧ w.cell? ⟨g, o + i * 4, none⟩ = some (.int .i64 (y.1 : Int)) ∧ w.cell? ⟨g, o + i * 4 + 1, none⟩ = some (.bool (ngB y.2.num)) ∧ w.cell? ⟨g, o + i * 4 + 2, none⟩ = some u ∧ w.cell? ⟨g, o + i * 4 + 3, none⟩ = some t ∧ IsS w .u64 u (digs 4294967296 y.2.num.natAbs) ∧ IsS w .u64 t (digs 4294967296 y.2.den) := by
  obtain ⟨xs, rfl, ⟨A', c', e, h1, h2, h3⟩, h4⟩ := h
  injection e with e1 e2 e3
  subst e1; subst e2; subst e3
  rw [List.getElem?_map] at hy
  cases hx : xs[i]? with
  | none => rw [hx] at hy; cases hy
  | some x =>
    rw [hx] at hy
    obtain rfl : celq x = y := by simpa using hy
    obtain ⟨g, o, e4, c0, c1, c2, c3⟩ := h3 i x hx
    have h5 := h4 x (List.mem_of_getElem? hx)
    exact ⟨g, o, x.2.2.1, x.2.2.2, e4, (List.getElem?_eq_some_iff.1 hx).1, c0, c1, c2, c3, h5.1, h5.2⟩
/-- A row of the call's own. -/
def RowZ4 (w : World) (base : Nat) (v : Value) (xs : List Cel) : Prop := w.ownsRow base 103 4 v xs.length (flat4 xs)
theorem RowZ4.below {w w' : World} {base : Nat} {v : Value} {xs : List Cel} (h : RowZ4 w base v xs) (hb : Below w.heap.size w w') : RowZ4 w' base v xs :=
  World.ownsRow.kept (row := none) h ⟨hb.os, hb.tape, hb.output, hb.size, fun i hi _ => hb.block i hi⟩ (by cases hv : v.ownBlock <;> simp)
theorem RowZ4.under {w : World} {base : Nat} {v : Value} {xs : List Cel} (h : RowZ4 w base v xs) : ∀ g, v.ownBlock = some g → g < w.heap.size := fun g hg => (World.ownsRow.lt h g hg).2
theorem RowZ4.base_le {w : World} {base : Nat} {v : Value} {xs : List Cel} (h : RowZ4 w base v xs) : ∀ g, v.ownBlock = some g → base ≤ g := fun g hg => (World.ownsRow.lt h g hg).1
theorem rowZ4_nil (w : World) (base : Nat) : RowZ4 w base (.slice none 0 0) [] := World.ownsRow_nil w base 103 4
theorem RowZ4.isVC {w : World} {base : Nat} {v : Value} {xs : List Cel} (h : RowZ4 w base v xs) : IsVC w v xs := by
  rcases h.2 with ⟨rfl, h0⟩ | ⟨g, cap, cur, rfl, _, hg, hn, hm, _, _⟩
  · obtain rfl : xs = [] := List.length_eq_zero_iff.1 h0
    exact ⟨none, 0, rfl, by simp, by unfold maxLen; omega, fun i u hu => by simp at hu⟩
  · refine ⟨_, cap, rfl, hn, hm, fun i x hx => ⟨g, 0, rfl, ?_⟩⟩
    have e : ∀ j, (⟨g, 0, none⟩ : Addr).add j = ⟨g, 0 + j, none⟩ := by
      intro j
      unfold Addr.add
      by_cases h : j = 0
      · simp [h]
      · simp [h]
    obtain ⟨f0, f1, f2, f3⟩ := flat4_at xs i x hx
    have k0 := World.ownsRow.cells h (g := g) rfl _ _ f0
    have k1 := World.ownsRow.cells h (g := g) rfl _ _ f1
    have k2 := World.ownsRow.cells h (g := g) rfl _ _ f2
    have k3 := World.ownsRow.cells h (g := g) rfl _ _ f3
    rw [e] at k0 k1 k2 k3
    exact ⟨k0, by rw [Nat.add_assoc]; exact k1, by rw [Nat.add_assoc]; exact k2, by rw [Nat.add_assoc]; exact k3⟩
theorem info_cell : ∃ i, Tryz.prog.info? 103 = some i ∧ i.zero = some (.agg #[.int .i64 0, .bool false, .slice none 0 0, .slice none 0 0]) ∧ i.size = 4 ∧ i.bytes = 64 := info_parts (P := Tryz.prog) (e := 103) (z := .agg #[.int .i64 0, .bool false, .slice none 0 0, .slice none 0 0]) (size := 4) (bytes := 64) (by kernel_rfl)
theorem run_append_c {w : World} {base : Nat} {ty : TypeId} {v : Value} {x : Cel} {xs : List Cel} (hown : RowZ4 w base v xs) {ad : Addr} {c : Nat}
    (h0 : w.cell? (ad.add 0) = some (.int .i64 (x.1 : Int))) (h1 : w.cell? (ad.add 1) = some (.bool (ngB x.2.1.num))) (h2 : w.cell? (ad.add 2) = some x.2.2.1) (h3 : w.cell? (ad.add 3) = some x.2.2.2) (k1 : x.2.2.1.oneCell' = true) (k2 : x.2.2.2.oneCell' = true) (hlen : xs.length ≤ 1000000000) (hbase : base ≤ w.heap.size) :
    ∃ v' w', (Builtin.append_ #[98, 98] ty #[v, .slice (some ad) 1 c]).run Tryz.prog w = .ok v' w' ∧ RowZ4 w' base v' (xs ++ [x]) ∧ Grew w w' v v' := by
  obtain ⟨i, hi, hz, hs, hb⟩ := info_cell
  obtain ⟨v', w', g1, g2, g3, _, g5⟩ := run_append_own_at (P := Tryz.prog) w base 98 ty 103 i (.agg #[.int .i64 0, .bool false, .slice none 0 0, .slice none 0 0]) 4 64 Tryz.underlying98 hi hz hs hb rfl (by decide) v xs.length (flat4 xs) hown ad 1 c (cells4 x) rfl (fun j a ha => by
    match j, ha with
    | 0, ha => simp [cells4] at ha; subst ha; exact h0
    | 1, ha => simp [cells4] at ha; subst ha; exact h1
    | 2, ha => simp [cells4] at ha; subst ha; exact h2
    | 3, ha => simp [cells4] at ha; subst ha; exact h3
    | j + 4, ha => simp [cells4] at ha) (fun a ha => by
      simp only [cells4, List.mem_cons, List.not_mem_nil, or_false] at ha
      rcases ha with rfl | rfl | rfl | rfl
      · rfl
      · rfl
      · exact k1
      · exact k2) (by unfold maxLen; omega) (by omega) hbase
  refine ⟨v', w', g1, by unfold RowZ4; rw [List.length_append, flat4_snoc]; exact g2, keeps_of g3 g5, g3, fun g hg hne e1 => ?_⟩
  rcases g5 with h | h
  · exact hne (h ▸ e1)
  · rw [h] at e1; injection e1 with e1; omega
theorem wpList_append_c {w : World} {ops : Array Oper} {rest : List Oper} {o : Oper} {a : Act} {Q : Exit → Act → World → Prop} (hgd : o.guard = none) (s y : Operand) (ho : o.op = .call { callee := .builtin .append, args := #[s, y], argTypes := #[98, 98] })
    {base : Nat} {v : Value} {x : Cel} {xs : List Cel} (hs : a.eval s = v) (hown : RowZ4 w base v xs) {ad : Addr} {c : Nat} (hy : a.eval y = .slice (some ad) 1 c)
    (h0 : w.cell? (ad.add 0) = some (.int .i64 (x.1 : Int))) (h1 : w.cell? (ad.add 1) = some (.bool (ngB x.2.1.num))) (h2 : w.cell? (ad.add 2) = some x.2.2.1) (h3 : w.cell? (ad.add 3) = some x.2.2.2) (k1 : x.2.2.1.oneCell' = true) (k2 : x.2.2.2.oneCell' = true) (hlen : xs.length ≤ 1000000000) (hbase : base ≤ w.heap.size)
    (h : ∀ v' w', RowZ4 w' base v' (xs ++ [x]) → Below base w w' → Hid (Grew w w' v v') → wpList Tryz.prog ops Q rest (a.put o.dst v') w') : wpList Tryz.prog ops Q (o :: rest) a w := by
  obtain ⟨v', w', hrun, g2, g3⟩ := run_append_c (ty := o.type) hown (c := c) h0 h1 h2 h3 k1 k2 hlen hbase
  refine wpList_plain hgd fun K hK => ?_
  unfold Oper.wp execOp
  simp only [ho, resolve, invoke, builtin, Sem.run_bind, Sem.run_pure, Result.andThen_ok, List.map_toArray, List.map_cons, List.map_nil, hs, hy, hrun]
  exact hK _ _ (h v' w' g2 ((Below.refl base w).grown g3.2.1 hbase hown.base_le) g3)
/-- What of the first k places of a row is no nought. -/
def cel1 (r : List Rat) (j : Nat) : Option (Nat × Rat) := match r[j]? with
  | some q => if q = 0 then none else some (j, q)
  | none => none
def cellsR (r : List Rat) (k : Nat) : List (Nat × Rat) := (List.range k).filterMap (cel1 r)
theorem cellsR_hit {r : List Rat} {k : Nat} {q : Rat} (h : r[k]? = some q) (h0 : q ≠ 0) : cellsR r (k + 1) = cellsR r k ++ [(k, q)] := by
  unfold cellsR
  rw [List.range_succ, List.filterMap_append]
  congr 1
  have : cel1 r k = some (k, q) := by unfold cel1; rw [h]; exact if_neg h0
  simp [this]
theorem cellsR_miss {r : List Rat} {k : Nat} (h : ∀ q, r[k]? = some q → q = 0) : cellsR r (k + 1) = cellsR r k := by
  unfold cellsR
  rw [List.range_succ, List.filterMap_append]
  have : cel1 r k = none := by
    unfold cel1
    cases hr : r[k]? with
    | none => rfl
    | some q => exact if_pos (h q hr)
  simp [this]
theorem cellsR_len (r : List Rat) : ∀ k, (cellsR r k).length ≤ k
  | 0 => Nat.le_refl _
  | k + 1 => by
    have ih := cellsR_len r k
    by_cases h : ∃ q, r[k]? = some q ∧ q ≠ 0
    · obtain ⟨q, h1, h2⟩ := h
      rw [cellsR_hit h1 h2, List.length_append, List.length_singleton]; omega
    · rw [cellsR_miss fun q hq => Classical.byContradiction fun h0 => h ⟨q, hq, h0⟩]; omega
/-- Row x of a table; none where there is no such row. -/
def rowOf (T : List (List Rat)) (x : Int) : List Rat := if 0 ≤ x then (T[x.toNat]?).getD [] else []
theorem rowOf_nat {T : List (List Rat)} {i : Nat} {r : List Rat} (h : T[i]? = some r) : rowOf T i = r := by
  unfold rowOf; rw [if_pos (by omega)]; simp [h]
theorem rowOf_at {T : List (List Rat)} {x : Int} {j : Nat} {q : Rat} (h : (rowOf T x)[j]? = some q) : ∃ i : Nat, x = i ∧ cellq T i j = some q := by
  unfold rowOf at h
  by_cases hx : 0 ≤ x
  · rw [if_pos hx] at h
    cases hr : T[x.toNat]? with
    | none => rw [hr] at h; simp at h
    | some r =>
      rw [hr] at h
      exact ⟨x.toNat, by omega, cellq_of hr h⟩
  · rw [if_neg hx] at h; simp at h
/-- A row of cells, in new memory. -/
def RetCel (l : List (Nat × Rat)) (w : World) (e : Ending) (w' : World) : Prop := ∃ V, e = .returned V ∧ SlC w' V l ∧ Below w.heap.size w w'
set_option maxHeartbeats 3200000 in
set_option maxRecDepth 100000 in
theorem srow_any (g b R C : Nat) (T : List (List Rat)) (x : Int) (w : World) (h : Spt w g b R C T) (hx : I64 x) (hl : lenS T 100000) : Calls Tryz.prog 49 #[.pointer (some ⟨g, 0, none⟩), .int .i64 x] w (RetCel (cellsR (rowOf T x) C) w) := by
  have HL := Lib.hid hl
  have hC := h.hC
  clear hl
  go_enter Tryz.func49, Tryz.ntmps49
  go_wp2_with fail
  refine (ssize_any _ _ _ _ _ _ h).mono ?_
  rintro e w1 ⟨rfl, b1⟩
  go_wp2
  go_loopw [5, 17] (fun v5 v17 wr => ∃ (k : Nat) (xs : List Cel), k ≤ C ∧ RowZ4 wr w.heap.size v5 xs ∧ Hid (xs.map celq = cellsR (rowOf T x) k) ∧ FarF .u64 4294967296 wr v5 (xs.map (·.2)) ∧ Below w.heap.size w wr ∧ v17 = .int .i64 (k : Int)) (fun _ v17 _ => C - (intOf v17).toNat)
  case atStart => exact ⟨0, [], by omega, rowZ4_nil _ _, rfl, FarF.nil _ _ _ _, b1, rfl⟩
  case round =>
    clear b1
    obtain ⟨k, xs, hk, hR, HM, hF, bb, rfl⟩ := hrel
    by_cases hlt : k < C
    · obtain ⟨A5, c5, rfl, -, -, -⟩ := hR.isVC
      have hsz := bb.size
      go_wp2_with fail
      refine (mcells_any _ _ _ _ _ _ (h.below bb)).mono ?_
      rintro e w2 ⟨rfl, b2⟩
      have bb2 := bb.trans (b2.mono bb.size)
      have hR2 := hR.below b2
      have hF2 := hF.below b2
      have S2 := h.below bb2
      have hsz2 := bb2.size
      have hsk : C - (k + 1) < C - k := by omega
      clear hR hF b2
      rcases S2.map.look hx (natI64 hlt hC) with ⟨i, j, p, ex, ey, hc, h0, hp, hrun⟩ | ⟨hm, hrun⟩
      · obtain rfl : k = j := by omega
        have HQ := Lib.hid (HL.out i k _ hc)
        have hr : (rowOf T x)[k]? = some p.1 := by
          obtain ⟨r, h1, h2⟩ := cellq_inv hc
          rw [ex, rowOf_nat h1]; exact h2
        have HM2 : Hid (cellsR (rowOf T x) (k + 1) = xs.map celq ++ [(k, p.1)]) := by show _ = _; rw [cellsR_hit hr h0, HM.out]
        obtain ⟨q, U, V⟩ := p
        obtain ⟨A1, c1, e1, _⟩ := id hp.1
        obtain ⟨A2, c2, e2, _⟩ := id hp.2
        dsimp only at e1 e2
        subst e1
        subst e2
        unfold qv at hrun
        have HLN : Hid (xs.length ≤ 1000000000) := by
          have h1 := congrArg List.length HM.out
          rw [List.length_map] at h1
          have h2 := cellsR_len (rowOf T x) k
          show _ ≤ _
          omega
        clear ex ey hc h0 hr
        go_wp2_with fail
        have ba3 := below_alloc (w := w2) (Nat.le_refl _) (.cells #[.bool (ngB q.num), .slice A1 (digs 4294967296 q.num.natAbs).length c1, .slice A2 (digs 4294967296 q.den).length c2] 36)
        refine (scopied_any _ q _ ⟨_, _, rfl, hp.1.below ba3, hp.2.below ba3⟩ HQ.out).mono ?_
        rintro e w4 ⟨v4, rfl, k4, f4, b4⟩
        have b24 := ba3.trans (b4.mono ba3.size)
        have bb4 := bb2.trans (b24.mono bb2.size)
        have hR4 := hR2.below b24
        have hF4 := hF2.below b24
        obtain ⟨u4, t4, rfl, s4, d4⟩ := k4
        obtain ⟨A4, c4, rfl, _⟩ := id s4
        obtain ⟨D4, e4, rfl, _⟩ := id d4
        obtain ⟨fU, fV⟩ := f4 _ _ _ rfl
        have hlt2 : w2.heap.size ≤ (w2.alloc (.cells #[.bool (ngB q.num), .slice A1 (digs 4294967296 q.num.natAbs).length c1, .slice A2 (digs 4294967296 q.den).length c2] 36)).heap.size := ba3.size
        have fU := fU.mono hlt2
        have fV := fV.mono hlt2
        have ba5 := below_alloc (w := w4) (Nat.le_refl _) (.cells #[.int .i64 (k : Int), .bool (ngB q.num), .slice A4 (digs 4294967296 q.num.natAbs).length c4, .slice D4 (digs 4294967296 q.den).length e4] 103)
        have B5 := Blk.new w4 103 #[.int .i64 (k : Int), .bool (ngB q.num), .slice A4 (digs 4294967296 q.num.natAbs).length c4, .slice D4 (digs 4294967296 q.den).length e4]
        have hR5 := hR4.below ba5
        have hF5 := hF4.below ba5
        have bb5 := bb4.trans (ba5.mono bb4.size)
        have EU : IsE .u64 4294967296 (w4.alloc (.cells #[.int .i64 (k : Int), .bool (ngB q.num), .slice A4 (digs 4294967296 q.num.natAbs).length c4, .slice D4 (digs 4294967296 q.den).length e4] 103)) ((q, .slice A4 (digs 4294967296 q.num.natAbs).length c4, .slice D4 (digs 4294967296 q.den).length e4) : Elt) := ⟨s4.below ba5, d4.below ba5⟩
        have fr1 : Far (.slice A5 xs.length c5) (.slice A4 (digs 4294967296 q.num.natAbs).length c4) := fU.far hR2.under
        have fr2 : Far (.slice A5 xs.length c5) (.slice D4 (digs 4294967296 q.den).length e4) := fV.far hR2.under
        clear hR4 hF4 hR2 hF2 s4 d4 b4 ba3 hrun hp HM
        go_wp2_with (at_builtin; refine wpList_append_c rfl (.tmp 30) (.tmp 35) rfl (x := (k, q, .slice A4 (digs 4294967296 q.num.natAbs).length c4, .slice D4 (digs 4294967296 q.den).length e4)) rfl hR5 rfl (B5.cell 0) (B5.cell 1) (B5.cell 2) (B5.cell 3) rfl rfl HLN.out bb5.size ?_; intro v6 w6 row6 bb6 HK6)
        have F6 := hF5.snoc (p := (q, .slice A4 (digs 4294967296 q.num.natAbs).length c4, .slice D4 (digs 4294967296 q.den).length e4)) HK6.out.1 EU fr1 fr2
        have HM6 : Hid ((xs ++ [((k, q, .slice A4 (digs 4294967296 q.num.natAbs).length c4, .slice D4 (digs 4294967296 q.den).length e4) : Cel)]).map celq = cellsR (rowOf T x) (k + 1)) := by show _ = _; rw [HM2.out, List.map_append]; rfl
        have F7 : FarF .u64 4294967296 w6 v6 ((xs ++ [((k, q, .slice A4 (digs 4294967296 q.num.natAbs).length c4, .slice D4 (digs 4294967296 q.den).length e4) : Cel)]).map (·.2)) := by rw [List.map_append]; exact F6
        have bb7 := bb5.trans bb6
        clear F6 hR5 hF5 EU fr1 fr2 HM2 HK6
        go_wp2
        go_roundw
        case rel => exact ⟨k + 1, _, by omega, row6, HM6, F7, bb7, by go_num⟩
        case measure => simp [intOf]; omega
      · have HM2 : Hid (xs.map celq = cellsR (rowOf T x) (k + 1)) := by
          show _ = _
          rw [cellsR_miss fun q hq => ?_, HM.out]
          obtain ⟨i, h1, h2⟩ := rowOf_at hq
          exact hm i k q h1 rfl h2
        have ba3 := below_alloc (w := w2) (Nat.le_refl _) (.cells #[.bool false, .slice none 0 0, .slice none 0 0] 36)
        have hR3 := hR2.below ba3
        have hF3 := hF2.below ba3
        have bb3 := bb2.trans (ba3.mono bb2.size)
        unfold zq at hrun
        clear HM hm hR2 hF2
        go_wp2
        go_roundw
        case rel => exact ⟨k + 1, _, by omega, hR3, HM2, hF3, bb3, by go_num⟩
        case measure => simp [intOf]; omega
    · have hkC : k = C := by omega
      rw [hkC] at HM
      obtain ⟨A5, c5, rfl, -, -, -⟩ := hR.isVC
      have HE : Hid (SlC wr (.slice A5 xs.length c5) (cellsR (rowOf T x) C)) := ⟨xs, HM.out, hR.isVC, fun y hy => (hF y.2 (List.mem_map.2 ⟨y, hy, rfl⟩)).1⟩
      clear HM hR hF
      go_wp2
      go_ret
      exact ⟨_, rfl, HE.out, bb⟩
/-- The whole numbers 0 and 1 as fractions. -/
theorem RatV_of0 (w : World) : Calls Tryz.prog 53 #[.int .i64 0] w (RetQ (0 : Rat) w) := of8_any 0 w (by omega) (by omega)
/-- A row of these, made by the call. -/
def RetRo (qs : List Rat) (w : World) (e : Ending) (w' : World) : Prop := ∃ g, e = .returned (.slice (some ⟨g, 0, none⟩) qs.length qs.length) ∧ RowN w' g qs.length qs ∧ w.heap.size ≤ g ∧ Below w.heap.size w w'
theorem RetRo.pd {n : Nat} {qs : List Rat} {w : World} {e : Ending} {w' : World} {B : Nat} (h : RetRo qs w e w') (hn : qs.length = n) (hB : B ≤ w.heap.size) : RetPd (pro n qs B) w e w' := by
  obtain ⟨g, h1, h2, h3, h4⟩ := h
  rw [hn] at h1 h2
  exact ⟨_, h1, ⟨g, rfl, h2, Nat.le_trans hB h3⟩, h4⟩
set_option maxHeartbeats 3200000 in
set_option maxRecDepth 100000 in
theorem noughts_any (n : Int) (d : Nat) (w : World) (hn : n = (d : Int)) (hd : d ≤ 200) :
    Calls Tryz.prog 98 #[.int .i64 n] w (RetRo (zerosq d) w) := by
  have bb : Below w.heap.size w w := Below.refl _ _
  subst hn
  have HZL : Hid ((zerosq d).length = d) := zerosq_len d
  go_enter Tryz.func98, Tryz.ntmps98
  go_upto_region 1 with (fail)
  have hsz0 := bb.size
  go_wp2_with (at_make; refine wpList_make_q rfl _ _ rfl Tryz.underlying53 info_rat d rfl rfl (by omega) ?_; intro wm RN hbm)
  replace bb := bb.trans (hbm.mono bb.size)
  have hsz1 := bb.size
  obtain ⟨g, hg⟩ : ∃ g, g = w.heap.size := ⟨_, rfl⟩
  rw [← hg] at RN ⊢
  have hg_ : w.heap.size ≤ g := by omega
  clear hg
  have hg := hg_
  clear hg_
  go_wp2
  go_loopw [9] (fun v9 wr => ∃ k : Nat, k ≤ d ∧ RowN wr g d ((zerosq d).take k) ∧ Below w.heap.size w wr ∧ v9 = .int .i64 (k : Int)) (fun v9 _ => d - (intOf v9).toNat)
  case atStart => exact ⟨0, by omega, RN, bb, rfl⟩
  case round =>
    obtain ⟨k, hk, hR, hbw, rfl⟩ := hrel
    clear RN bb
    have RN := hR
    have bb := hbw
    clear hR hbw
    have hszr := bb.size
    have hgl := RN.lt
    by_cases hlt : k < d
    · have HTK : Hid ((zerosq d).take (k + 1) = (zerosq d).take k ++ [0]) := take_snoc (zerosq_at hlt)
      have HLK : Hid (k = ((zerosq d).take k).length) := by show _ = _; rw [List.length_take, HZL.out]; omega
      have sB := bb.size
      go_upto_region 5 with (fail)
      refine flowp 4 [Pd.eq (.slice (some ⟨g, 0, none⟩) d d), Pd.eq (.int .i64 (k : Int)), pq ((0 : Rat)) wr.heap.size, Pd.eq (.pointer (some ⟨g, 0 + k * 3, none⟩))] (by kernel_rfl) ?ob1 ?done1
      case ob1 =>
        refine And.intro (ob_move rfl (wt_none rfl) (ev_far rfl rfl) (fun _ _ h => h)) ?_
        refine And.intro (ob_move rfl (wt_none rfl) (ev_far rfl rfl) (fun _ _ h => h)) ?_
        refine And.intro (ob_call1 rfl Tryz.func53 (by kernel_rfl) (wt_none rfl) (ev_const _) (fun w2 u0 hb h0 => by obtain rfl := h0; exact (RatV_of0 _).mono fun e w3 h => RetQ.pd h hb.size)) ?_
        refine And.intro (ob_indexAddr rfl (wt_none rfl) (ev_dep (j := 0) (by kernel_rfl) rfl rfl) (ev_dep (j := 1) (by kernel_rfl) rfl rfl) (fun _ _ _ hx hy => ⟨_, by rw [hx, hy]; exact index3 (k := k) Tryz.underlying53 (by kernel_rfl) hlt _, rfl⟩)) ?_
        trivial
      case done1 =>
        refine fun w3 hb3 v0 h0 v1 h1 v2 h2 v3 h3 b hbf => ?_
        obtain rfl := h0; obtain rfl := h1; obtain rfl := h3
        obtain ⟨q2, f2⟩ := h2
        simp only [Act.put, List.setIfInBounds_toArray, List.set_cons_zero, List.set_cons_succ] at hbf
        subst hbf
        replace RN := RN.below hb3
        replace bb := bb.trans (hb3.mono bb.size)
        have hsz3 := bb.size
        have s_2 := sB
        obtain ⟨u2, t2, rfl, q2, d2⟩ := q2
        obtain ⟨A9, c9, rfl, _⟩ := id q2
        obtain ⟨D9, e9, rfl, _⟩ := id d2
        refine ops_store_q (j := 4) rfl rfl rfl rfl (g := g) (i := k) (q := (0 : Rat)) rfl rfl (by kernel_rfl) RN hlt q2 d2 fun w4 hg4 hP4 => ?_
        replace bb := bb.trans ((Below.refl _ _).grown hg4 bb.size (fun g hg => by injection hg with hg; omega))
        have hsz4 := bb.size
        replace RN := hP4.1 HLK.out
        clear hP4
        refine ops_done ?_
        rw [← HTK.out] at RN
        have hsk : d - (k + 1) < d - k := by omega
        go_wp2
        go_roundw
        case rel => exact ⟨k + 1, by omega, RN, bb, by go_num⟩
        case measure => simp [intOf]; omega
    · rw [List.take_of_length_le (by rw [HZL.out]; omega)] at RN
      go_wp2
      go_ret
      exact ⟨g, by rw [HZL.out]; rfl, by rw [HZL.out]; exact RN, hg, bb⟩
set_option maxHeartbeats 3200000 in
set_option maxRecDepth 100000 in
theorem zero_row (n : Int) (d : Nat) (w : World) (hn : n = (d : Int)) (hd : d ≤ 200) :
    Calls Tryz.prog 56 #[.int .i64 n] w (RetRN (zerosq d) w) := by
  have bb : Below w.heap.size w w := Below.refl _ _
  subst hn
  have HL : Hid (decide ((d : Int) < 0) = false) := decide_eq_false (by omega)
  have HG : Hid (decide (200 < (d : Int)) = false) := decide_eq_false (by omega)
  have HZL : Hid ((zerosq d).length = d) := zerosq_len d
  go_enter Tryz.func56, Tryz.ntmps56
  go_upto_region 1 with (fail)
  have hsz0 := bb.size
  have sB := bb.size
  refine flowp 6 [Pd.eq (.int .i64 (d : Int)), Pd.eq (.bool false), Pd.eq (.bool false), Pd.eq (.int .i64 (d : Int)), Pd.eq (.bool false), Pd.eq (.bool false)] (by kernel_rfl) ?ob4 ?done4
  case ob4 =>
    refine And.intro (ob_move rfl (wt_none rfl) (ev_far rfl rfl) (fun _ _ h => h)) ?_
    refine And.intro (ob_bin rfl (wt_none rfl) (ev_dep (j := 0) (by kernel_rfl) rfl rfl) (ev_const _) (fun _ _ _ hx hy => ⟨.bool false, by rw [hx, hy, bin_lss_int, HL.out], rfl⟩)) ?_
    refine And.intro (ob_move rfl (wt_none rfl) (ev_dep (j := 1) (by kernel_rfl) rfl rfl) (fun _ _ h => h)) ?_
    refine And.intro (ob_move rfl (wt_dep (c := false) (b := false) (g := 2) rfl (by kernel_rfl) rfl rfl rfl (by exact fun _ _ h => h)) (ev_far rfl rfl) (fun _ _ h => h)) ?_
    refine And.intro (ob_bin rfl (wt_dep (c := false) (b := false) (g := 2) rfl (by kernel_rfl) rfl rfl rfl (by exact fun _ _ h => h)) (ev_dep (j := 3) (by kernel_rfl) rfl rfl) (ev_const _) (fun _ _ _ hx hy => ⟨.bool false, by rw [hx, hy, bin_gtr_int, HG.out], rfl⟩)) ?_
    refine And.intro (ob_pick (b := false) rfl (wt_none rfl) (ev_dep (j := 2) (by kernel_rfl) rfl rfl) (ev_dep (j := 4) (by kernel_rfl) rfl rfl) (fun _ _ h => h)) ?_
    trivial
  case done4 =>
    refine fun w1 hb1 v0 h0 v1 h1 v2 h2 v3 h3 v4 h4 v5 h5 b hbf => ?_
    obtain rfl := h0; obtain rfl := h1; obtain rfl := h2; obtain rfl := h3; obtain rfl := h4; obtain rfl := h5
    simp only [Act.put, List.setIfInBounds_toArray, List.set_cons_zero, List.set_cons_succ] at hbf
    subst hbf
    replace bb := bb.trans (hb1.mono bb.size)
    have hsz1 := bb.size
    refine ops_done ?_
    have hw1 := bb.size
    have sB := bb.size
    go_upto_region 3 with (fail)
    refine flowp 4 [Pd.eq (.int .i64 (d : Int)), pro d (zerosq d) w1.heap.size, pro d (zerosq d) w1.heap.size, Pd.eq (.int .i64 0)] (by kernel_rfl) ?ob5 ?done5
    case ob5 =>
      refine And.intro (ob_move rfl (wt_none rfl) (ev_far rfl rfl) (fun _ _ h => h)) ?_
      refine And.intro (ob_call1 rfl Tryz.func98 (by kernel_rfl) (wt_none rfl) (ev_dep (j := 0) (by kernel_rfl) rfl rfl) (fun w2 u0 hb h0 => by obtain rfl := h0; exact (noughts_any _ (d) _ rfl hd).mono fun e w3 h => RetRo.pd h HZL.out hb.size)) ?_
      refine And.intro (ob_assign rfl (wt_none rfl) (ev_dep (j := 1) (by kernel_rfl) rfl rfl) (fun _ _ h => h)) ?_
      refine And.intro (ob_assign rfl (wt_none rfl) (ev_const _) (fun _ _ h => h)) ?_
      trivial
    case done5 =>
      refine fun w2 hb2 v0 h0 v1 h1 v2 h2 v3 h3 b hbf => ?_
      obtain rfl := h0; obtain rfl := h3
      obtain ⟨g, rfl, RN, hg⟩ := h1
      obtain ⟨g, rfl, RN, hg⟩ := h2
      simp only [Act.put, List.setIfInBounds_toArray, List.set_cons_zero, List.set_cons_succ] at hbf
      subst hbf
      replace bb := bb.trans (hb2.mono bb.size)
      have hsz2 := bb.size
      refine ops_done ?_
      go_wp2
      go_ret2
      exact ⟨_, by rw [HZL.out]; rfl, by rw [HZL.out]; exact RN, by omega, bb⟩
theorem lenQ_prods2 {p q : List Rat} {m n : Nat} (h : ∀ x ∈ p, lenQ x m) (h2 : ∀ x ∈ q, lenQ x n) : ∀ x ∈ prods p q, lenQ x (m + n) := by
  intro r hr
  obtain ⟨x, hx, y, hy, rfl⟩ := zip_mem hr
  exact lenQ_mul (h x hx) (h2 y hy)
theorem num_ordz {x : Rat} : (ordz x.num 0 == 0) = decide (x = 0) := by
  by_cases h : x = 0
  · rw [h, decide_eq_true rfl]; rfl
  · rw [decide_eq_false h, beq_eq_false_iff_ne]
    intro e
    have hz : x.num ≠ 0 := fun k => h (Rat.num_eq_zero.1 k)
    rcases Int.lt_or_gt_of_ne hz with k | k
    · rw [ordz_lt k] at e; cases e
    · rw [ordz_gt k] at e; cases e
theorem mul_zero_iff {x y : Rat} : x * y = 0 ↔ x = 0 ∨ y = 0 := by
  constructor
  · intro h
    exact Rat.mul_eq_zero.1 h
  · rintro (rfl | rfl)
    · exact Rat.zero_mul _
    · exact Rat.mul_zero _
set_option maxHeartbeats 1600000 in
set_option maxRecDepth 100000 in
theorem vanishes_any (a0 a1 : Value) (x y : Rat) (b : Bool) (w : World) (h0 : IsQ w a0 x) (h1 : IsQ w a1 y) (hb : b = decide (x * y = 0)) :
    Calls Tryz.prog 118 #[a0, a1] w (RetV (.bool b) w) := by
  obtain ⟨s, hs⟩ : ∃ s, s = ordz x.num 0 := ⟨_, rfl⟩
  obtain ⟨t, ht⟩ : ∃ t, t = ordz y.num 0 := ⟨_, rfl⟩
  have HS := Lib.hid hs
  have HT := Lib.hid ht
  have HB := Lib.hid hb
  clear hb
  by_cases hx : x = 0
  · obtain ⟨u0, t0, rfl, s0, r0⟩ := h0
    obtain ⟨A0, c0, rfl, _⟩ := id s0
    obtain ⟨D0, e0, rfl, _⟩ := id r0
    obtain ⟨u1, t1, rfl, s1, r1⟩ := h1
    obtain ⟨A1, c1, rfl, _⟩ := id s1
    obtain ⟨D1, e1, rfl, _⟩ := id r1
    have H1 : Hid ((s == 0) = true) := by show _ = _; rw [hs, num_ordz, decide_eq_true hx]
    have HW : Hid (b = true) := by show _ = _; rw [HB.out]; exact decide_eq_true (mul_zero_iff.2 (.inl hx))
    clear hs ht hx
    go_enter Tryz.func118, Tryz.ntmps118
    go_upto_region 1 with (fail)
    obtain ⟨wx, hwx, bb, B0, B1, hsz⟩ := vars2 w 36 36 #[.bool (ngB (x).num), .slice A0 (digs 4294967296 (x).num.natAbs).length c0, .slice D0 (digs 4294967296 (x).den).length e0] #[.bool (ngB (y).num), .slice A1 (digs 4294967296 (y).num.natAbs).length c1, .slice D1 (digs 4294967296 (y).den).length e1]
    rw [hwx]
    clear hwx
    have k0s := s0.below bb
    have k0d := r0.below bb
    have k0z : IsZ wx (.agg #[.bool (ngB (x).num), .slice A0 (digs 4294967296 (x).num.natAbs).length c0]) (x).num := ⟨_, rfl, k0s⟩
    have k0 : IsQ wx (.agg #[.bool (ngB (x).num), .slice A0 (digs 4294967296 (x).num.natAbs).length c0, .slice D0 (digs 4294967296 (x).den).length e0]) (x) := ⟨_, _, rfl, k0s, k0d⟩
    have k1s := s1.below bb
    have k1d := r1.below bb
    have k1z : IsZ wx (.agg #[.bool (ngB (y).num), .slice A1 (digs 4294967296 (y).num.natAbs).length c1]) (y).num := ⟨_, rfl, k1s⟩
    have k1 : IsQ wx (.agg #[.bool (ngB (y).num), .slice A1 (digs 4294967296 (y).num.natAbs).length c1, .slice D1 (digs 4294967296 (y).den).length e1]) (y) := ⟨_, _, rfl, k1s, k1d⟩
    have hsz0 := bb.size
    have sB := bb.size
    refine flowp 9 [Pd.eq (.agg #[.bool (ngB (x).num), .slice A0 (digs 4294967296 (x).num.natAbs).length c0, .slice D0 (digs 4294967296 (x).den).length e0]), Pd.eq (.int .i64 s), Pd.eq (.bool true), Pd.eq (.bool true), Pd.any, Pd.any, Pd.any, Pd.eq (.bool true), Pd.eq (.bool true)] (by kernel_rfl) ?ob1 ?done1
    case ob1 =>
      refine And.intro (ob_load rfl (wt_none rfl) (ev_far rfl rfl) (fun w2 hb => run_loadAll Tryz.underlying36 rfl (by kernel_rfl) (B0.below hb)) (fun _ _ => rfl)) ?_
      refine And.intro (ob_call1 rfl Tryz.func43 (by kernel_rfl) (wt_none rfl) (ev_dep (j := 0) (by kernel_rfl) rfl rfl) (fun w2 u0 hb h0 => by obtain rfl := h0; exact (fsign0_any _ x s _ (k0.below hb) HS.out).mono fun e w3 h => RetV.pd h)) ?_
      refine And.intro (ob_bin rfl (wt_none rfl) (ev_dep (j := 1) (by kernel_rfl) rfl rfl) (ev_const _) (fun _ _ _ hx hy => ⟨.bool true, by rw [hx, hy, bin_eql_int, H1.out], rfl⟩)) ?_
      refine And.intro (ob_move rfl (wt_none rfl) (ev_dep (j := 2) (by kernel_rfl) rfl rfl) (fun _ _ h => h)) ?_
      refine And.intro (ob_not (wt_dep (c := true) (b := false) (g := 3) rfl (by kernel_rfl) rfl rfl rfl (by exact fun _ _ h => h)) (fun _ => trivial) rfl) ?_
      refine And.intro (ob_not (wt_dep (c := true) (b := false) (g := 3) rfl (by kernel_rfl) rfl rfl rfl (by exact fun _ _ h => h)) (fun _ => trivial) rfl) ?_
      refine And.intro (ob_not (wt_dep (c := true) (b := false) (g := 3) rfl (by kernel_rfl) rfl rfl rfl (by exact fun _ _ h => h)) (fun _ => trivial) rfl) ?_
      refine And.intro (ob_pick (b := true) rfl (wt_none rfl) (ev_dep (j := 3) (by kernel_rfl) rfl rfl) (ev_const _) (fun _ _ h => h)) ?_
      refine And.intro (ob_assign rfl (wt_none rfl) (ev_dep (j := 7) (by kernel_rfl) rfl rfl) (fun _ _ h => h)) ?_
      trivial
    case done1 =>
      refine fun w1 hb1 v0 h0 v1 h1 v2 h2 v3 h3 v4 h4 v5 h5 v6 h6 v7 h7 v8 h8 b hbf => ?_
      obtain rfl := h0; obtain rfl := h1; obtain rfl := h2; obtain rfl := h3; obtain rfl := h7; obtain rfl := h8
      clear h4
      clear h5
      clear h6
      simp only [Act.put, List.setIfInBounds_toArray, List.set_cons_zero, List.set_cons_succ] at hbf
      subst hbf
      replace B0 := B0.below hb1
      replace k0s := k0s.below hb1
      replace k0d := k0d.below hb1
      replace k0z := k0z.below hb1
      replace k0 := k0.below hb1
      replace B1 := B1.below hb1
      replace k1s := k1s.below hb1
      replace k1d := k1d.below hb1
      replace k1z := k1z.below hb1
      replace k1 := k1.below hb1
      replace bb := bb.trans (hb1.mono bb.size)
      have hsz1 := bb.size
      refine ops_done ?_
      go_wp2
      go_ret
      exact ⟨by rw [HW.out]; rfl, bb⟩
  · by_cases hy : y = 0
    · obtain ⟨u0, t0, rfl, s0, r0⟩ := h0
      obtain ⟨A0, c0, rfl, _⟩ := id s0
      obtain ⟨D0, e0, rfl, _⟩ := id r0
      obtain ⟨u1, t1, rfl, s1, r1⟩ := h1
      obtain ⟨A1, c1, rfl, _⟩ := id s1
      obtain ⟨D1, e1, rfl, _⟩ := id r1
      have H1 : Hid ((s == 0) = false) := by show _ = _; rw [hs, num_ordz, decide_eq_false hx]
      have H2 : Hid ((t == 0) = true) := by show _ = _; rw [ht, num_ordz, decide_eq_true hy]
      have HW : Hid (b = true) := by show _ = _; rw [HB.out]; exact decide_eq_true (mul_zero_iff.2 (.inr hy))
      clear hs ht hx hy
      go_enter Tryz.func118, Tryz.ntmps118
      go_upto_region 1 with (fail)
      obtain ⟨wx, hwx, bb, B0, B1, hsz⟩ := vars2 w 36 36 #[.bool (ngB (x).num), .slice A0 (digs 4294967296 (x).num.natAbs).length c0, .slice D0 (digs 4294967296 (x).den).length e0] #[.bool (ngB (y).num), .slice A1 (digs 4294967296 (y).num.natAbs).length c1, .slice D1 (digs 4294967296 (y).den).length e1]
      rw [hwx]
      clear hwx
      have k0s := s0.below bb
      have k0d := r0.below bb
      have k0z : IsZ wx (.agg #[.bool (ngB (x).num), .slice A0 (digs 4294967296 (x).num.natAbs).length c0]) (x).num := ⟨_, rfl, k0s⟩
      have k0 : IsQ wx (.agg #[.bool (ngB (x).num), .slice A0 (digs 4294967296 (x).num.natAbs).length c0, .slice D0 (digs 4294967296 (x).den).length e0]) (x) := ⟨_, _, rfl, k0s, k0d⟩
      have k1s := s1.below bb
      have k1d := r1.below bb
      have k1z : IsZ wx (.agg #[.bool (ngB (y).num), .slice A1 (digs 4294967296 (y).num.natAbs).length c1]) (y).num := ⟨_, rfl, k1s⟩
      have k1 : IsQ wx (.agg #[.bool (ngB (y).num), .slice A1 (digs 4294967296 (y).num.natAbs).length c1, .slice D1 (digs 4294967296 (y).den).length e1]) (y) := ⟨_, _, rfl, k1s, k1d⟩
      have hsz0 := bb.size
      have sB := bb.size
      refine flowp 9 [Pd.eq (.agg #[.bool (ngB (x).num), .slice A0 (digs 4294967296 (x).num.natAbs).length c0, .slice D0 (digs 4294967296 (x).den).length e0]), Pd.eq (.int .i64 s), Pd.eq (.bool false), Pd.eq (.bool false), Pd.eq (.agg #[.bool (ngB (y).num), .slice A1 (digs 4294967296 (y).num.natAbs).length c1, .slice D1 (digs 4294967296 (y).den).length e1]), Pd.eq (.int .i64 t), Pd.eq (.bool true), Pd.eq (.bool true), Pd.eq (.bool true)] (by kernel_rfl) ?ob2 ?done2
      case ob2 =>
        refine And.intro (ob_load rfl (wt_none rfl) (ev_far rfl rfl) (fun w2 hb => run_loadAll Tryz.underlying36 rfl (by kernel_rfl) (B0.below hb)) (fun _ _ => rfl)) ?_
        refine And.intro (ob_call1 rfl Tryz.func43 (by kernel_rfl) (wt_none rfl) (ev_dep (j := 0) (by kernel_rfl) rfl rfl) (fun w2 u0 hb h0 => by obtain rfl := h0; exact (fsign0_any _ x s _ (k0.below hb) HS.out).mono fun e w3 h => RetV.pd h)) ?_
        refine And.intro (ob_bin rfl (wt_none rfl) (ev_dep (j := 1) (by kernel_rfl) rfl rfl) (ev_const _) (fun _ _ _ hx hy => ⟨.bool false, by rw [hx, hy, bin_eql_int, H1.out], rfl⟩)) ?_
        refine And.intro (ob_move rfl (wt_none rfl) (ev_dep (j := 2) (by kernel_rfl) rfl rfl) (fun _ _ h => h)) ?_
        refine And.intro (ob_load rfl (wt_dep (c := false) (b := false) (g := 3) rfl (by kernel_rfl) rfl rfl rfl (by exact fun _ _ h => h)) (ev_far rfl rfl) (fun w2 hb => run_loadAll Tryz.underlying36 rfl (by kernel_rfl) (B1.below hb)) (fun _ _ => rfl)) ?_
        refine And.intro (ob_call1 rfl Tryz.func43 (by kernel_rfl) (wt_dep (c := false) (b := false) (g := 3) rfl (by kernel_rfl) rfl rfl rfl (by exact fun _ _ h => h)) (ev_dep (j := 4) (by kernel_rfl) rfl rfl) (fun w2 u0 hb h0 => by obtain rfl := h0; exact (fsign0_any _ y t _ (k1.below hb) HT.out).mono fun e w3 h => RetV.pd h)) ?_
        refine And.intro (ob_bin rfl (wt_dep (c := false) (b := false) (g := 3) rfl (by kernel_rfl) rfl rfl rfl (by exact fun _ _ h => h)) (ev_dep (j := 5) (by kernel_rfl) rfl rfl) (ev_const _) (fun _ _ _ hx hy => ⟨.bool true, by rw [hx, hy, bin_eql_int, H2.out], rfl⟩)) ?_
        refine And.intro (ob_pick (b := false) rfl (wt_none rfl) (ev_dep (j := 3) (by kernel_rfl) rfl rfl) (ev_dep (j := 6) (by kernel_rfl) rfl rfl) (fun _ _ h => h)) ?_
        refine And.intro (ob_assign rfl (wt_none rfl) (ev_dep (j := 7) (by kernel_rfl) rfl rfl) (fun _ _ h => h)) ?_
        trivial
      case done2 =>
        refine fun w1 hb1 v0 h0 v1 h1 v2 h2 v3 h3 v4 h4 v5 h5 v6 h6 v7 h7 v8 h8 b hbf => ?_
        obtain rfl := h0; obtain rfl := h1; obtain rfl := h2; obtain rfl := h3; obtain rfl := h4; obtain rfl := h5; obtain rfl := h6; obtain rfl := h7; obtain rfl := h8
        simp only [Act.put, List.setIfInBounds_toArray, List.set_cons_zero, List.set_cons_succ] at hbf
        subst hbf
        replace B0 := B0.below hb1
        replace k0s := k0s.below hb1
        replace k0d := k0d.below hb1
        replace k0z := k0z.below hb1
        replace k0 := k0.below hb1
        replace B1 := B1.below hb1
        replace k1s := k1s.below hb1
        replace k1d := k1d.below hb1
        replace k1z := k1z.below hb1
        replace k1 := k1.below hb1
        replace bb := bb.trans (hb1.mono bb.size)
        have hsz1 := bb.size
        refine ops_done ?_
        go_wp2
        go_ret
        exact ⟨by rw [HW.out]; rfl, bb⟩
    · obtain ⟨u0, t0, rfl, s0, r0⟩ := h0
      obtain ⟨A0, c0, rfl, _⟩ := id s0
      obtain ⟨D0, e0, rfl, _⟩ := id r0
      obtain ⟨u1, t1, rfl, s1, r1⟩ := h1
      obtain ⟨A1, c1, rfl, _⟩ := id s1
      obtain ⟨D1, e1, rfl, _⟩ := id r1
      have H1 : Hid ((s == 0) = false) := by show _ = _; rw [hs, num_ordz, decide_eq_false hx]
      have H2 : Hid ((t == 0) = false) := by show _ = _; rw [ht, num_ordz, decide_eq_false hy]
      have HW : Hid (b = false) := by show _ = _; rw [HB.out]; exact decide_eq_false (fun h => by rcases mul_zero_iff.1 h with h | h; exact hx h; exact hy h)
      clear hs ht hx hy
      go_enter Tryz.func118, Tryz.ntmps118
      go_upto_region 1 with (fail)
      obtain ⟨wx, hwx, bb, B0, B1, hsz⟩ := vars2 w 36 36 #[.bool (ngB (x).num), .slice A0 (digs 4294967296 (x).num.natAbs).length c0, .slice D0 (digs 4294967296 (x).den).length e0] #[.bool (ngB (y).num), .slice A1 (digs 4294967296 (y).num.natAbs).length c1, .slice D1 (digs 4294967296 (y).den).length e1]
      rw [hwx]
      clear hwx
      have k0s := s0.below bb
      have k0d := r0.below bb
      have k0z : IsZ wx (.agg #[.bool (ngB (x).num), .slice A0 (digs 4294967296 (x).num.natAbs).length c0]) (x).num := ⟨_, rfl, k0s⟩
      have k0 : IsQ wx (.agg #[.bool (ngB (x).num), .slice A0 (digs 4294967296 (x).num.natAbs).length c0, .slice D0 (digs 4294967296 (x).den).length e0]) (x) := ⟨_, _, rfl, k0s, k0d⟩
      have k1s := s1.below bb
      have k1d := r1.below bb
      have k1z : IsZ wx (.agg #[.bool (ngB (y).num), .slice A1 (digs 4294967296 (y).num.natAbs).length c1]) (y).num := ⟨_, rfl, k1s⟩
      have k1 : IsQ wx (.agg #[.bool (ngB (y).num), .slice A1 (digs 4294967296 (y).num.natAbs).length c1, .slice D1 (digs 4294967296 (y).den).length e1]) (y) := ⟨_, _, rfl, k1s, k1d⟩
      have hsz0 := bb.size
      have sB := bb.size
      refine flowp 9 [Pd.eq (.agg #[.bool (ngB (x).num), .slice A0 (digs 4294967296 (x).num.natAbs).length c0, .slice D0 (digs 4294967296 (x).den).length e0]), Pd.eq (.int .i64 s), Pd.eq (.bool false), Pd.eq (.bool false), Pd.eq (.agg #[.bool (ngB (y).num), .slice A1 (digs 4294967296 (y).num.natAbs).length c1, .slice D1 (digs 4294967296 (y).den).length e1]), Pd.eq (.int .i64 t), Pd.eq (.bool false), Pd.eq (.bool false), Pd.eq (.bool false)] (by kernel_rfl) ?ob3 ?done3
      case ob3 =>
        refine And.intro (ob_load rfl (wt_none rfl) (ev_far rfl rfl) (fun w2 hb => run_loadAll Tryz.underlying36 rfl (by kernel_rfl) (B0.below hb)) (fun _ _ => rfl)) ?_
        refine And.intro (ob_call1 rfl Tryz.func43 (by kernel_rfl) (wt_none rfl) (ev_dep (j := 0) (by kernel_rfl) rfl rfl) (fun w2 u0 hb h0 => by obtain rfl := h0; exact (fsign0_any _ x s _ (k0.below hb) HS.out).mono fun e w3 h => RetV.pd h)) ?_
        refine And.intro (ob_bin rfl (wt_none rfl) (ev_dep (j := 1) (by kernel_rfl) rfl rfl) (ev_const _) (fun _ _ _ hx hy => ⟨.bool false, by rw [hx, hy, bin_eql_int, H1.out], rfl⟩)) ?_
        refine And.intro (ob_move rfl (wt_none rfl) (ev_dep (j := 2) (by kernel_rfl) rfl rfl) (fun _ _ h => h)) ?_
        refine And.intro (ob_load rfl (wt_dep (c := false) (b := false) (g := 3) rfl (by kernel_rfl) rfl rfl rfl (by exact fun _ _ h => h)) (ev_far rfl rfl) (fun w2 hb => run_loadAll Tryz.underlying36 rfl (by kernel_rfl) (B1.below hb)) (fun _ _ => rfl)) ?_
        refine And.intro (ob_call1 rfl Tryz.func43 (by kernel_rfl) (wt_dep (c := false) (b := false) (g := 3) rfl (by kernel_rfl) rfl rfl rfl (by exact fun _ _ h => h)) (ev_dep (j := 4) (by kernel_rfl) rfl rfl) (fun w2 u0 hb h0 => by obtain rfl := h0; exact (fsign0_any _ y t _ (k1.below hb) HT.out).mono fun e w3 h => RetV.pd h)) ?_
        refine And.intro (ob_bin rfl (wt_dep (c := false) (b := false) (g := 3) rfl (by kernel_rfl) rfl rfl rfl (by exact fun _ _ h => h)) (ev_dep (j := 5) (by kernel_rfl) rfl rfl) (ev_const _) (fun _ _ _ hx hy => ⟨.bool false, by rw [hx, hy, bin_eql_int, H2.out], rfl⟩)) ?_
        refine And.intro (ob_pick (b := false) rfl (wt_none rfl) (ev_dep (j := 3) (by kernel_rfl) rfl rfl) (ev_dep (j := 6) (by kernel_rfl) rfl rfl) (fun _ _ h => h)) ?_
        refine And.intro (ob_assign rfl (wt_none rfl) (ev_dep (j := 7) (by kernel_rfl) rfl rfl) (fun _ _ h => h)) ?_
        trivial
      case done3 =>
        refine fun w1 hb1 v0 h0 v1 h1 v2 h2 v3 h3 v4 h4 v5 h5 v6 h6 v7 h7 v8 h8 b hbf => ?_
        obtain rfl := h0; obtain rfl := h1; obtain rfl := h2; obtain rfl := h3; obtain rfl := h4; obtain rfl := h5; obtain rfl := h6; obtain rfl := h7; obtain rfl := h8
        simp only [Act.put, List.setIfInBounds_toArray, List.set_cons_zero, List.set_cons_succ] at hbf
        subst hbf
        replace B0 := B0.below hb1
        replace k0s := k0s.below hb1
        replace k0d := k0d.below hb1
        replace k0z := k0z.below hb1
        replace k0 := k0.below hb1
        replace B1 := B1.below hb1
        replace k1s := k1s.below hb1
        replace k1d := k1d.below hb1
        replace k1z := k1z.below hb1
        replace k1 := k1.below hb1
        replace bb := bb.trans (hb1.mono bb.size)
        have hsz1 := bb.size
        refine ops_done ?_
        go_wp2
        go_ret
        exact ⟨by rw [HW.out]; rfl, bb⟩
set_option maxHeartbeats 3200000 in
set_option maxRecDepth 100000 in
theorem fdot_gen (a0 a1 : Value) (p q : List Rat) (m n : Nat) (w : World) (h0 : SlF .u64 4294967296 w a0 p) (h1 : SlF .u64 4294967296 w a1 q) (he : p.length = q.length) (hl : p.length ≤ 1000 ∧ (∀ x ∈ p, lenQ x m) ∧ (∀ x ∈ q, lenQ x n) ∧ (m + n + 1) * p.length + 1 ≤ 900) :
    Calls Tryz.prog 99 #[a0, a1] w (RetQE (dotq p q) 0 w) := by
  have sl0 := h0
  obtain ⟨A0, c0, rfl, hc0, hm0⟩ := h0.shape
  unfold maxLen at hm0
  have sl1 := h1
  obtain ⟨A1, c1, rfl, hc1, hm1⟩ := h1.shape
  unfold maxLen at hm1
  have HNE : Hid ((((p.length : Nat) : Int) != ((q.length : Nat) : Int)) = false) := by show _ = _; rw [bne_eq_false_iff_eq]; omega
  have HE := Lib.hid he
  have HLE := Lib.hid hl
  have hl8 : p.length ≤ 1000 := hl.1
  clear he hl
  go_enter Tryz.func99, Tryz.ntmps99
  go_upto_region 1 with (fail)
  obtain ⟨wx, hwx, bb, BR0, hsz⟩ := vars1 w 36 #[.bool false, .slice none 0 0, .slice none 0 0]
  rw [hwx]
  clear hwx
  have hsz0 := bb.size
  have sB := bb.size
  refine flowp 5 [Pd.eq (.slice A0 p.length c0), Pd.eq (.int .i64 ((p.length : Nat) : Int)), Pd.eq (.slice A1 q.length c1), Pd.eq (.int .i64 ((q.length : Nat) : Int)), Pd.eq (.bool false)] (by kernel_rfl) ?ob8 ?done8
  case ob8 =>
    refine And.intro (ob_move rfl (wt_none rfl) (ev_far rfl rfl) (fun _ _ h => h)) ?_
    refine And.intro (ob_len rfl (wt_none rfl) (ev_dep (j := 0) (by kernel_rfl) rfl rfl) (fun _ _ hx => ⟨_, by rw [hx]; exact len_slice Tryz.underlying53 _ _ _ _, rfl⟩)) ?_
    refine And.intro (ob_move rfl (wt_none rfl) (ev_far rfl rfl) (fun _ _ h => h)) ?_
    refine And.intro (ob_len rfl (wt_none rfl) (ev_dep (j := 2) (by kernel_rfl) rfl rfl) (fun _ _ hx => ⟨_, by rw [hx]; exact len_slice Tryz.underlying53 _ _ _ _, rfl⟩)) ?_
    refine And.intro (ob_bin rfl (wt_none rfl) (ev_dep (j := 1) (by kernel_rfl) rfl rfl) (ev_dep (j := 3) (by kernel_rfl) rfl rfl) (fun _ _ _ hx hy => ⟨.bool false, by rw [hx, hy, bin_neq_int, HNE.out], rfl⟩)) ?_
    trivial
  case done8 =>
    refine fun w1 hb1 v0 h0 v1 h1 v2 h2 v3 h3 v4 h4 b hbf => ?_
    obtain rfl := h0; obtain rfl := h1; obtain rfl := h2; obtain rfl := h3; obtain rfl := h4
    simp only [Act.put, List.setIfInBounds_toArray, List.set_cons_zero, List.set_cons_succ] at hbf
    subst hbf
    replace BR0 := BR0.below hb1
    replace bb := bb.trans (hb1.mono bb.size)
    have hsz1 := bb.size
    refine ops_done ?_
    have sB := bb.size
    go_upto_region 3 with (fail)
    have lt1_4 := Blk.lt BR0
    refine flowp 2 [pq ((0 : Rat)) w1.heap.size, pn 36 #[.bool false, .slice none 0 0, .slice none 0 0] w1.heap.size] (by kernel_rfl) ?ob9 ?done9
    case ob9 =>
      refine And.intro (ob_call1 rfl Tryz.func53 (by kernel_rfl) (wt_none rfl) (ev_const _) (fun w2 u0 hb h0 => by obtain rfl := h0; exact (RatV_of0 _).mono fun e w3 h => RetQ.pd h hb.size)) ?_
      refine And.intro (ob_alloc (z := .agg #[.bool false, .slice none 0 0, .slice none 0 0]) rfl rfl (fun _ => by kernel_rfl) (fun _ _ hB h => ⟨_, rfl, hB, h⟩)) ?_
      trivial
    case done9 =>
      refine fun w2 hb2 v0 h0 v1 h1 d1 b hbf => ?_
      obtain ⟨q0, f0⟩ := h0
      obtain ⟨g9_1, rfl, hg1, B1⟩ := h1
      simp only [Act.put, List.setIfInBounds_toArray, List.set_cons_zero, List.set_cons_succ] at hbf
      subst hbf
      replace BR0 := BR0.below hb2
      replace bb := bb.trans (hb2.mono bb.size)
      have hsz2 := bb.size
      have s_0 := sB
      have BA6 := B1
      obtain ⟨u0, t0, rfl, q0, d0⟩ := q0
      obtain ⟨A6, c6, rfl, _⟩ := id q0
      obtain ⟨D6, e6, rfl, _⟩ := id d0
      refine ops_store (i := 2) rfl rfl rfl rfl rfl rfl (cells := [.bool (ngB ((0 : Rat)).num), .slice A6 (digs 4294967296 ((0 : Rat)).num.natAbs).length c6, .slice D6 (digs 4294967296 ((0 : Rat)).den).length e6]) rfl BA6 rfl (by kernel_rfl) (one3 rfl rfl rfl) fun w3 hg3 BN3 => ?_
      replace q0 := off q0 BA6 no_ints3 hg3
      replace d0 := off d0 BA6 no_ints3 hg3
      replace BR0 := BR0.grown hg3 (by omega)
      replace bb := bb.trans ((Below.refl _ _).grown hg3 bb.size (fun g hg => by injection hg with hg; omega))
      have hsz3 := bb.size
      have B6 : Blk w3 (g9_1) _ _ := BN3
      have k6s := q0
      have k6d := d0
      have k6z : IsZ w3 (.agg #[.bool (ngB ((0 : Rat)).num), .slice A6 (digs 4294967296 ((0 : Rat)).num.natAbs).length c6]) (((0 : Rat)).num) := ⟨_, rfl, k6s⟩
      have k6 : IsQ w3 (.agg #[.bool (ngB ((0 : Rat)).num), .slice A6 (digs 4294967296 ((0 : Rat)).num.natAbs).length c6, .slice D6 (digs 4294967296 ((0 : Rat)).den).length e6]) ((0 : Rat)) := ⟨_, _, rfl, k6s, k6d⟩
      refine ops_done ?_
      go_wp2
      go_loopw [18] (fun v18 wr => ∃ k : Nat, k ≤ p.length ∧ HoldQ wr g9_1 (sumq ((prods p q).take k)) ∧ Blk wr w.heap.size 36 #[.bool false, .slice none 0 0, .slice none 0 0] ∧ Below w.heap.size w wr ∧ g9_1 < wr.heap.size ∧ v18 = .int .i64 (k : Int)) (fun v18 _ => p.length - (intOf v18).toNat)
      case atStart => exact ⟨0, by omega, ⟨_, _, B6, k6s, k6d⟩, BR0, bb, B6.lt, rfl⟩
      case round =>
        obtain ⟨k, hk, hH, hR, hbw, hGl, rfl⟩ := hrel
        clear B6 k6s k6d k6z k6 BR0 bb
        have BR0 := hR
        have bb := hbw
        obtain ⟨s, hs⟩ : ∃ s, s = sumq ((prods p q).take k) := ⟨_, rfl⟩
        rw [← hs] at hH
        have HS := Lib.hid hs
        clear hs hR hbw
        have ls : lenQ s 900 := by
          rw [HS.out]
          refine (lenQ_sumq (fun x hx => lenQ_prods2 HLE.out.2.1 HLE.out.2.2.1 x (List.mem_of_mem_take hx))).mono ?_
          refine Nat.le_trans (Nat.add_le_add_right (Nat.mul_le_mul_left _ ?_) _) HLE.out.2.2.2
          rw [List.length_take]
          omega
        obtain ⟨u6, t6, B6, k6s, k6d⟩ := hH
        obtain ⟨A6, c6, rfl, _⟩ := id k6s
        obtain ⟨D6, e6, rfl, _⟩ := id k6d
        have k6z : IsZ wr (.agg #[.bool (ngB (s).num), .slice A6 (digs 4294967296 (s).num.natAbs).length c6]) (s).num := ⟨_, rfl, k6s⟩
        have k6 : IsQ wr (.agg #[.bool (ngB (s).num), .slice A6 (digs 4294967296 (s).num.natAbs).length c6, .slice D6 (digs 4294967296 (s).den).length e6]) (s) := ⟨_, _, rfl, k6s, k6d⟩
        have hszr := bb.size
        by_cases hlt : k < p.length
        · have hlt2 : k < q.length := by have := HE.out; omega
          obtain ⟨x, hq0_⟩ : ∃ x, p[k]? = some x := ⟨_, List.getElem?_eq_getElem hlt⟩
          obtain ⟨g0_, o0_, ue0, te0, hA0_, _, e00, e01, e02, es0, ed0⟩ := (sl0.below bb).at_ hq0_
          subst hA0_
          have HQ0 := Lib.hid hq0_
          clear hq0_
          obtain ⟨Ae0, ce0, rfl, _⟩ := id es0
          obtain ⟨De0, ee0, rfl, _⟩ := id ed0
          have ke0 : IsQ wr (.agg #[.bool (ngB x.num), .slice Ae0 (digs 4294967296 x.num.natAbs).length ce0, .slice De0 (digs 4294967296 x.den).length ee0]) x := ⟨_, _, rfl, es0, ed0⟩
          obtain ⟨y, hy⟩ : ∃ y, q[k]? = some y := ⟨_, List.getElem?_eq_getElem hlt2⟩
          have HY := Lib.hid hy
          have lx : lenQ x m := HLE.out.2.1 x (List.mem_of_getElem? HQ0.out)
          have ly : lenQ y n := HLE.out.2.2.1 y (List.mem_of_getElem? hy)
          have lxy : lenQ (x * y) (m + n) := lenQ_mul lx ly
          have hmn : m + n ≤ 900 := by
            have h1 := HLE.out.2.2.2
            have h2 := Nat.le_mul_of_pos_right (m + n + 1) (show 0 < p.length by omega)
            omega
          clear hy
          have hneq : q ≠ [] := List.length_pos_iff.1 (by omega)
          have sB := bb.size
          go_upto_region 6 with (fail)
          have lt4_4 := Blk.lt BR0
          have lt4_6 := Blk.lt B6
          refine flowp 5 [Pd.eq (.int .i64 (k : Int)), Pd.eq (.pointer (some ⟨g0_, o0_ + k * 3, none⟩)), Pd.eq (.agg #[.bool (ngB x.num), .slice Ae0 (digs 4294967296 x.num.natAbs).length ce0, .slice De0 (digs 4294967296 x.den).length ee0]), pn 36 #[.bool false, .slice none 0 0, .slice none 0 0] wr.heap.size, Pd.eq (.int .i64 (k : Int))] (by kernel_rfl) ?ob10 ?done10
          case ob10 =>
            refine And.intro (ob_move rfl (wt_none rfl) (ev_far rfl rfl) (fun _ _ h => h)) ?_
            refine And.intro (ob_indexAddr rfl (wt_none rfl) (ev_far rfl rfl) (ev_far rfl rfl) (fun _ _ _ hx hy => ⟨_, by rw [hx, hy]; exact index3 Tryz.underlying53 (by kernel_rfl) hlt _, rfl⟩)) ?_
            refine And.intro (ob_load rfl (wt_none rfl) (ev_dep (j := 1) (by kernel_rfl) rfl rfl) (fun w2 hb => load3 Tryz.underlying36 rfl (by kernel_rfl) ((hb.cell (World.block_lt_of_cell? wr _ e00)).trans e00) ((hb.cell (World.block_lt_of_cell? wr _ e01)).trans e01) ((hb.cell (World.block_lt_of_cell? wr _ e02)).trans e02)) (fun _ _ => rfl)) ?_
            refine And.intro (ob_alloc (z := .agg #[.bool false, .slice none 0 0, .slice none 0 0]) rfl rfl (fun _ => by kernel_rfl) (fun _ _ hB h => ⟨_, rfl, hB, h⟩)) ?_
            refine And.intro (ob_assign rfl (wt_none rfl) (ev_dep (j := 0) (by kernel_rfl) rfl rfl) (fun _ _ h => h)) ?_
            trivial
          case done10 =>
            refine fun w5 hb5 v0 h0 v1 h1 v2 h2 v3 h3 d3 v4 h4 b hbf => ?_
            obtain rfl := h0; obtain rfl := h1; obtain rfl := h2; obtain rfl := h4
            obtain ⟨g10_3, rfl, hg3, B3⟩ := h3
            simp only [Act.put, List.setIfInBounds_toArray, List.set_cons_zero, List.set_cons_succ] at hbf
            subst hbf
            replace BR0 := BR0.below hb5
            replace B6 := B6.below hb5
            replace k6s := k6s.below hb5
            replace k6d := k6d.below hb5
            replace k6z := k6z.below hb5
            replace k6 := k6.below hb5
            replace es0 := es0.below hb5
            replace ed0 := ed0.below hb5
            replace bb := bb.trans (hb5.mono bb.size)
            have hsz5 := bb.size
            have BA8 := B3
            have q2 := es0
            have d2 := ed0
            refine ops_store (i := 5) rfl rfl rfl rfl rfl rfl (cells := [.bool (ngB (x).num), .slice Ae0 (digs 4294967296 (x).num.natAbs).length ce0, .slice De0 (digs 4294967296 (x).den).length ee0]) rfl BA8 rfl (by kernel_rfl) (one3 rfl rfl rfl) fun w6 hg6 BN6 => ?_
            replace q2 := off q2 BA8 no_ints3 hg6
            replace d2 := off d2 BA8 no_ints3 hg6
            replace BR0 := BR0.grown hg6 (by omega)
            replace k6s := off k6s BA8 no_ints3 hg6
            replace k6d := off k6d BA8 no_ints3 hg6
            replace k6z : IsZ w6 (.agg #[.bool (ngB (s).num), .slice A6 (digs 4294967296 (s).num.natAbs).length c6]) ((s).num) := ⟨_, rfl, k6s⟩
            replace k6 : IsQ w6 (.agg #[.bool (ngB (s).num), .slice A6 (digs 4294967296 (s).num.natAbs).length c6, .slice D6 (digs 4294967296 (s).den).length e6]) (s) := ⟨_, _, rfl, k6s, k6d⟩
            replace B6 := B6.grown hg6 (by omega)
            replace bb := bb.trans ((Below.refl _ _).grown hg6 bb.size (fun g hg => by injection hg with hg; omega))
            have hsz6 := bb.size
            have Be0 : Blk w6 (g10_3) _ _ := BN6
            have ke0s := q2
            have ke0d := d2
            have ke0z : IsZ w6 (.agg #[.bool (ngB (x).num), .slice Ae0 (digs 4294967296 (x).num.natAbs).length ce0]) ((x).num) := ⟨_, rfl, ke0s⟩
            have ke0 : IsQ w6 (.agg #[.bool (ngB (x).num), .slice Ae0 (digs 4294967296 (x).num.natAbs).length ce0, .slice De0 (digs 4294967296 (x).den).length ee0]) (x) := ⟨_, _, rfl, ke0s, ke0d⟩
            refine ops_done ?_
            obtain ⟨g1_, o1_, cp1_, hA1_, _, _, _⟩ := sl1.place hneq
            injection hA1_ with e1_ _ e3_
            subst e1_
            subst e3_
            obtain ⟨uy, ty, hlty, zy0, zy1, zy2, zys, zyd⟩ := (sl1.below bb).at2 HY.out
            obtain ⟨Ay, cy, rfl, _⟩ := id zys
            obtain ⟨Dy, ey, rfl, _⟩ := id zyd
            have zy : IsQ w6 (.agg #[.bool (ngB (y).num), .slice Ay (digs 4294967296 (y).num.natAbs).length cy, .slice Dy (digs 4294967296 (y).den).length ey]) (y) := ⟨_, _, rfl, zys, zyd⟩
            by_cases hv : x * y = 0
            · have HV : Hid (true = decide (x * y = 0)) := (decide_eq_true hv).symm
              have HN : Hid (s = sumq ((prods p q).take (k + 1))) := by show _ = _; rw [take_snoc (show (prods p q)[k]? = some (x * y) from zip_at HQ0.out HY.out), sumq_snoc, hv, Rat.add_zero, HS.out]
              clear hv
              have sB := bb.size
              go_upto_region 7 with (fail)
              refine flow 7 [Pd.eq (.agg #[.bool (ngB (x).num), .slice Ae0 (digs 4294967296 (x).num.natAbs).length ce0, .slice De0 (digs 4294967296 (x).den).length ee0]), Pd.eq (.slice (some ⟨g1_, o1_, none⟩) q.length c1), Pd.eq (.int .i64 (k : Int)), Pd.eq (.pointer (some ⟨g1_, o1_ + k * 3, none⟩)), Pd.eq (.agg #[.bool (ngB (y).num), .slice Ay (digs 4294967296 (y).num.natAbs).length cy, .slice Dy (digs 4294967296 (y).den).length ey]), Pd.eq (.bool true), Pd.eq (.bool false)] (by kernel_rfl) (by kernel_rfl) ?ob11 ?done11
              case ob11 =>
                refine And.intro (ob_load rfl (wt_none rfl) (ev_far rfl rfl) (fun w2 hb => run_loadAll Tryz.underlying36 rfl (by kernel_rfl) (Be0.drew.below hb)) (fun _ _ => rfl)) ?_
                refine And.intro (ob_move rfl (wt_none rfl) (ev_far rfl rfl) (fun _ _ h => h)) ?_
                refine And.intro (ob_move rfl (wt_none rfl) (ev_far rfl rfl) (fun _ _ h => h)) ?_
                refine And.intro (ob_indexAddr rfl (wt_none rfl) (ev_dep (j := 1) (by kernel_rfl) rfl rfl) (ev_dep (j := 2) (by kernel_rfl) rfl rfl) (fun _ _ _ hx hy => ⟨_, by rw [hx, hy]; exact index3 (k := k) Tryz.underlying53 (by kernel_rfl) hlty _, rfl⟩)) ?_
                refine And.intro (ob_load rfl (wt_none rfl) (ev_dep (j := 3) (by kernel_rfl) rfl rfl) (fun w2 hb => load3 Tryz.underlying36 rfl (by kernel_rfl) ((hb.cell (World.block_lt_of_cell? w6 _ zy0)).trans zy0) ((hb.cell (World.block_lt_of_cell? w6 _ zy1)).trans zy1) ((hb.cell (World.block_lt_of_cell? w6 _ zy2)).trans zy2)) (fun _ _ => rfl)) ?_
                refine And.intro (ob_call2 rfl Tryz.func118 (by kernel_rfl) (wt_none rfl) (ev_dep (j := 0) (by kernel_rfl) rfl rfl) (ev_dep (j := 4) (by kernel_rfl) rfl rfl) (fun w2 u0 u1 hb h0 h1 => by obtain rfl := h0; obtain rfl := h1; exact (vanishes_any _ _ (x) (y) true _ (ke0.drew.below hb) (zy.drew.below hb) HV.out).mono fun e w3 h => RetV.pd h)) ?_
                refine And.intro (ob_un rfl (wt_none rfl) (ev_dep (j := 5) (by kernel_rfl) rfl rfl) (fun _ => un_not _ _) (fun _ => rfl)) ?_
                trivial
              case done11 =>
                refine fun w8 hb8 v0 h0 v1 h1 v2 h2 v3 h3 v4 h4 v5 h5 v6 h6 b hbf => ?_
                obtain rfl := h0; obtain rfl := h1; obtain rfl := h2; obtain rfl := h3; obtain rfl := h4; obtain rfl := h5; obtain rfl := h6
                simp only [Act.put, List.setIfInBounds_toArray, List.set_cons_zero, List.set_cons_succ] at hbf
                subst hbf
                replace BR0 := BR0.below hb8
                replace B6 := B6.below hb8
                replace k6s := k6s.below hb8
                replace k6d := k6d.below hb8
                replace k6z := k6z.below hb8
                replace k6 := k6.below hb8
                replace Be0 := Be0.below hb8
                replace ke0s := ke0s.below hb8
                replace ke0d := ke0d.below hb8
                replace ke0z := ke0z.below hb8
                replace ke0 := ke0.below hb8
                replace bb := bb.trans (hb8.mono bb.size)
                have hsz8 := bb.size
                refine any_done (by kernel_rfl) ?_
                have hsk : p.length - (k + 1) < p.length - k := by omega
                go_wp2
                go_roundw
                case rel => exact ⟨k + 1, by omega, by rw [← HN.out]; exact ⟨_, _, B6, k6s, k6d⟩, BR0, bb, B6.lt, by go_num⟩
                case measure => simp [intOf]; omega
            · have HV : Hid (false = decide (x * y = 0)) := (decide_eq_false hv).symm
              clear hv
              have sB := bb.size
              go_upto_region 7 with (fail)
              refine flow 7 [Pd.eq (.agg #[.bool (ngB (x).num), .slice Ae0 (digs 4294967296 (x).num.natAbs).length ce0, .slice De0 (digs 4294967296 (x).den).length ee0]), Pd.eq (.slice (some ⟨g1_, o1_, none⟩) q.length c1), Pd.eq (.int .i64 (k : Int)), Pd.eq (.pointer (some ⟨g1_, o1_ + k * 3, none⟩)), Pd.eq (.agg #[.bool (ngB (y).num), .slice Ay (digs 4294967296 (y).num.natAbs).length cy, .slice Dy (digs 4294967296 (y).den).length ey]), Pd.eq (.bool false), Pd.eq (.bool true)] (by kernel_rfl) (by kernel_rfl) ?ob12 ?done12
              case ob12 =>
                refine And.intro (ob_load rfl (wt_none rfl) (ev_far rfl rfl) (fun w2 hb => run_loadAll Tryz.underlying36 rfl (by kernel_rfl) (Be0.drew.below hb)) (fun _ _ => rfl)) ?_
                refine And.intro (ob_move rfl (wt_none rfl) (ev_far rfl rfl) (fun _ _ h => h)) ?_
                refine And.intro (ob_move rfl (wt_none rfl) (ev_far rfl rfl) (fun _ _ h => h)) ?_
                refine And.intro (ob_indexAddr rfl (wt_none rfl) (ev_dep (j := 1) (by kernel_rfl) rfl rfl) (ev_dep (j := 2) (by kernel_rfl) rfl rfl) (fun _ _ _ hx hy => ⟨_, by rw [hx, hy]; exact index3 (k := k) Tryz.underlying53 (by kernel_rfl) hlty _, rfl⟩)) ?_
                refine And.intro (ob_load rfl (wt_none rfl) (ev_dep (j := 3) (by kernel_rfl) rfl rfl) (fun w2 hb => load3 Tryz.underlying36 rfl (by kernel_rfl) ((hb.cell (World.block_lt_of_cell? w6 _ zy0)).trans zy0) ((hb.cell (World.block_lt_of_cell? w6 _ zy1)).trans zy1) ((hb.cell (World.block_lt_of_cell? w6 _ zy2)).trans zy2)) (fun _ _ => rfl)) ?_
                refine And.intro (ob_call2 rfl Tryz.func118 (by kernel_rfl) (wt_none rfl) (ev_dep (j := 0) (by kernel_rfl) rfl rfl) (ev_dep (j := 4) (by kernel_rfl) rfl rfl) (fun w2 u0 u1 hb h0 h1 => by obtain rfl := h0; obtain rfl := h1; exact (vanishes_any _ _ (x) (y) false _ (ke0.drew.below hb) (zy.drew.below hb) HV.out).mono fun e w3 h => RetV.pd h)) ?_
                refine And.intro (ob_un rfl (wt_none rfl) (ev_dep (j := 5) (by kernel_rfl) rfl rfl) (fun _ => un_not _ _) (fun _ => rfl)) ?_
                trivial
              case done12 =>
                refine fun w8 hb8 v0 h0 v1 h1 v2 h2 v3 h3 v4 h4 v5 h5 v6 h6 b hbf => ?_
                obtain rfl := h0; obtain rfl := h1; obtain rfl := h2; obtain rfl := h3; obtain rfl := h4; obtain rfl := h5; obtain rfl := h6
                simp only [Act.put, List.setIfInBounds_toArray, List.set_cons_zero, List.set_cons_succ] at hbf
                subst hbf
                replace BR0 := BR0.below hb8
                replace B6 := B6.below hb8
                replace k6s := k6s.below hb8
                replace k6d := k6d.below hb8
                replace k6z := k6z.below hb8
                replace k6 := k6.below hb8
                replace Be0 := Be0.below hb8
                replace ke0s := ke0s.below hb8
                replace ke0d := ke0d.below hb8
                replace ke0z := ke0z.below hb8
                replace ke0 := ke0.below hb8
                replace bb := bb.trans (hb8.mono bb.size)
                have hsz8 := bb.size
                refine any_done (by kernel_rfl) ?_
                clear zy zy0 zy1 zy2 zys zyd
                obtain ⟨ub, tb, hltb, zb0, zb1, zb2, zbs, zbd⟩ := (sl1.below bb).at2 HY.out
                obtain ⟨Ab, cb, rfl, _⟩ := id zbs
                obtain ⟨Db, eb, rfl, _⟩ := id zbd
                have zb : IsQ w8 (.agg #[.bool (ngB (y).num), .slice Ab (digs 4294967296 (y).num.natAbs).length cb, .slice Db (digs 4294967296 (y).den).length eb]) (y) := ⟨_, _, rfl, zbs, zbd⟩
                have sB := bb.size
                go_upto_region 8 with (fail)
                refine flow 8 [Pd.eq (.agg #[.bool (ngB (s).num), .slice A6 (digs 4294967296 (s).num.natAbs).length c6, .slice D6 (digs 4294967296 (s).den).length e6]), Pd.eq (.agg #[.bool (ngB (x).num), .slice Ae0 (digs 4294967296 (x).num.natAbs).length ce0, .slice De0 (digs 4294967296 (x).den).length ee0]), Pd.eq (.slice (some ⟨g1_, o1_, none⟩) q.length c1), Pd.eq (.int .i64 (k : Int)), Pd.eq (.pointer (some ⟨g1_, o1_ + k * 3, none⟩)), Pd.eq (.agg #[.bool (ngB (y).num), .slice Ab (digs 4294967296 (y).num.natAbs).length cb, .slice Db (digs 4294967296 (y).den).length eb]), pqn (x * y), pq ((s + x * y)) w8.heap.size] (by kernel_rfl) (by kernel_rfl) ?ob13 ?done13
                case ob13 =>
                  refine And.intro (ob_load rfl (wt_none rfl) (ev_far rfl rfl) (fun w2 hb => run_loadAll Tryz.underlying36 rfl (by kernel_rfl) (B6.drew.below hb)) (fun _ _ => rfl)) ?_
                  refine And.intro (ob_load rfl (wt_none rfl) (ev_far rfl rfl) (fun w2 hb => run_loadAll Tryz.underlying36 rfl (by kernel_rfl) (Be0.drew.below hb)) (fun _ _ => rfl)) ?_
                  refine And.intro (ob_move rfl (wt_none rfl) (ev_far rfl rfl) (fun _ _ h => h)) ?_
                  refine And.intro (ob_move rfl (wt_none rfl) (ev_far rfl rfl) (fun _ _ h => h)) ?_
                  refine And.intro (ob_indexAddr rfl (wt_none rfl) (ev_dep (j := 2) (by kernel_rfl) rfl rfl) (ev_dep (j := 3) (by kernel_rfl) rfl rfl) (fun _ _ _ hx hy => ⟨_, by rw [hx, hy]; exact index3 (k := k) Tryz.underlying53 (by kernel_rfl) hltb _, rfl⟩)) ?_
                  refine And.intro (ob_load rfl (wt_none rfl) (ev_dep (j := 4) (by kernel_rfl) rfl rfl) (fun w2 hb => load3 Tryz.underlying36 rfl (by kernel_rfl) ((hb.cell (World.block_lt_of_cell? w8 _ zb0)).trans zb0) ((hb.cell (World.block_lt_of_cell? w8 _ zb1)).trans zb1) ((hb.cell (World.block_lt_of_cell? w8 _ zb2)).trans zb2)) (fun _ _ => rfl)) ?_
                  refine And.intro (ob_call2 rfl Tryz.func119 (by kernel_rfl) (wt_none rfl) (ev_dep (j := 1) (by kernel_rfl) rfl rfl) (ev_dep (j := 5) (by kernel_rfl) rfl rfl) (fun w2 u0 u1 hb h0 h1 => by obtain rfl := h0; obtain rfl := h1; exact (mul8_any _ x _ y _ (ke0.drew.below hb) (zb.drew.below hb) (lx.mono (by omega)) (ly.mono (by omega))).mono fun e w3 h => RetQn.pd h.n)) ?_
                  refine And.intro (ob_call2 rfl Tryz.func46 (by kernel_rfl) (wt_none rfl) (ev_dep (j := 0) (by kernel_rfl) rfl rfl) (ev_dep (j := 6) (by kernel_rfl) rfl rfl) (fun w2 u0 u1 hb h0 h1 => by obtain rfl := h0; exact (add8_any _ s _ (x * y) _ (k6.drew.below hb) h1 (ls.mono (by decide)) (lxy.mono (by omega))).mono fun e w3 h => RetQ.pd h hb.size)) ?_
                  trivial
                case done13 =>
                  refine fun w9 hb9 v0 h0 v1 h1 v2 h2 v3 h3 v4 h4 v5 h5 v6 h6 v7 h7 b hbf => ?_
                  obtain rfl := h0; obtain rfl := h1; obtain rfl := h2; obtain rfl := h3; obtain rfl := h4; obtain rfl := h5
                  have q6 := h6
                  obtain ⟨q7, f7⟩ := h7
                  simp only [Act.put, List.setIfInBounds_toArray, List.set_cons_zero, List.set_cons_succ] at hbf
                  subst hbf
                  replace BR0 := BR0.below hb9
                  replace B6 := B6.below hb9
                  replace k6s := k6s.below hb9
                  replace k6d := k6d.below hb9
                  replace k6z := k6z.below hb9
                  replace k6 := k6.below hb9
                  replace Be0 := Be0.below hb9
                  replace ke0s := ke0s.below hb9
                  replace ke0d := ke0d.below hb9
                  replace ke0z := ke0z.below hb9
                  replace ke0 := ke0.below hb9
                  replace bb := bb.trans (hb9.mono bb.size)
                  have hsz9 := bb.size
                  have s_7 := sB
                  obtain ⟨u7, t7, rfl, q7, d7⟩ := q7
                  obtain ⟨A4, c4, rfl, _⟩ := id q7
                  obtain ⟨D4, e4, rfl, _⟩ := id d7
                  refine any_store (i := 8) (by kernel_rfl) rfl rfl rfl rfl rfl rfl (cells := [.bool (ngB ((s + x * y)).num), .slice A4 (digs 4294967296 ((s + x * y)).num.natAbs).length c4, .slice D4 (digs 4294967296 ((s + x * y)).den).length e4]) rfl B6 rfl (by kernel_rfl) (one3 rfl rfl rfl) fun w10 hg10 BN10 => ?_
                  replace q7 := off q7 B6 no_ints3 hg10
                  replace d7 := off d7 B6 no_ints3 hg10
                  replace BR0 := BR0.grown hg10 (by omega)
                  replace ke0s := off ke0s B6 no_ints3 hg10
                  replace ke0d := off ke0d B6 no_ints3 hg10
                  replace ke0z : IsZ w10 (.agg #[.bool (ngB (x).num), .slice Ae0 (digs 4294967296 (x).num.natAbs).length ce0]) ((x).num) := ⟨_, rfl, ke0s⟩
                  replace ke0 : IsQ w10 (.agg #[.bool (ngB (x).num), .slice Ae0 (digs 4294967296 (x).num.natAbs).length ce0, .slice De0 (digs 4294967296 (x).den).length ee0]) (x) := ⟨_, _, rfl, ke0s, ke0d⟩
                  replace Be0 := Be0.grown hg10 (by omega)
                  replace bb := bb.trans ((Below.refl _ _).grown hg10 bb.size (fun g hg => by injection hg with hg; omega))
                  have hsz10 := bb.size
                  have B4 : Blk w10 (g9_1) _ _ := BN10
                  have k4s := q7
                  have k4d := d7
                  have k4z : IsZ w10 (.agg #[.bool (ngB ((s + x * y)).num), .slice A4 (digs 4294967296 ((s + x * y)).num.natAbs).length c4]) (((s + x * y)).num) := ⟨_, rfl, k4s⟩
                  have k4 : IsQ w10 (.agg #[.bool (ngB ((s + x * y)).num), .slice A4 (digs 4294967296 ((s + x * y)).num.natAbs).length c4, .slice D4 (digs 4294967296 ((s + x * y)).den).length e4]) ((s + x * y)) := ⟨_, _, rfl, k4s, k4d⟩
                  refine any_done (by kernel_rfl) ?_
                  have HN : Hid (s + x * y = sumq ((prods p q).take (k + 1))) := by show _ = _; rw [take_snoc (show (prods p q)[k]? = some (x * y) from zip_at HQ0.out HY.out), sumq_snoc, HS.out]
                  have hsk : p.length - (k + 1) < p.length - k := by omega
                  go_wp2
                  go_roundw
                  case rel => exact ⟨k + 1, by omega, by rw [← HN.out]; exact ⟨_, _, B4, k4s, k4d⟩, BR0, bb, B4.lt, by go_num⟩
                  case measure => simp [intOf]; omega
        · have HN : Hid (s = dotq p q) := by show _ = _; rw [HS.out, List.take_of_length_le (by rw [show (prods p q).length = p.length from zip_len HE.out]; omega)]; rfl
          have sB := bb.size
          go_upto_region 10 with (fail)
          refine flowp 1 [Pd.eq (.agg #[.bool (ngB (s).num), .slice A6 (digs 4294967296 (s).num.natAbs).length c6, .slice D6 (digs 4294967296 (s).den).length e6])] (by kernel_rfl) ?ob14 ?done14
          case ob14 =>
            refine And.intro (ob_load rfl (wt_none rfl) (ev_far rfl rfl) (fun w2 hb => run_loadAll Tryz.underlying36 rfl (by kernel_rfl) (B6.below hb)) (fun _ _ => rfl)) ?_
            trivial
          case done14 =>
            refine fun w5 hb5 v0 h0 b hbf => ?_
            obtain rfl := h0
            simp only [Act.put, List.setIfInBounds_toArray, List.set_cons_zero, List.set_cons_succ] at hbf
            subst hbf
            replace BR0 := BR0.below hb5
            replace B6 := B6.below hb5
            replace k6s := k6s.below hb5
            replace k6d := k6d.below hb5
            replace k6z := k6z.below hb5
            replace k6 := k6.below hb5
            replace bb := bb.trans (hb5.mono bb.size)
            have hsz5 := bb.size
            refine ops_store (i := 1) rfl rfl rfl rfl rfl rfl (cells := [.bool (ngB (s).num), .slice A6 (digs 4294967296 (s).num.natAbs).length c6, .slice D6 (digs 4294967296 (s).den).length e6]) rfl BR0 rfl (by kernel_rfl) (one3 rfl rfl rfl) fun w9 hg9 B9 => ?_
            have k9 := off k6s BR0 no_ints3 hg9
            have d9 := off k6d BR0 no_ints3 hg9
            have bb9 := bb.trans ((Below.refl _ _).grown hg9 bb.size (fun g hg => by injection hg with hg; omega))
            obtain ⟨C0, C1, C2, _, _, _⟩ := three B9
            refine ops_assign (i := 2) (.int .i64 0) rfl rfl rfl rfl rfl fun b hbf => ?_
            simp only [Act.put, List.setIfInBounds_toArray, List.set_cons_zero, List.set_cons_succ] at hbf
            subst hbf
            refine ops_done ?_
            go_wp2
            rw [← HN.out]
            exact bodyPost_ret (v := .tuple #[.agg #[.bool (ngB (s).num), .slice A6 (digs 4294967296 (s).num.natAbs).length c6, .slice D6 (digs 4294967296 (s).den).length e6], .int .i64 0]) (by simp [results, Tryz.results99, go_sem, C0, C1, C2]) rfl ⟨_, rfl, ⟨_, _, rfl, k9, d9⟩, bb9⟩
/-- May it be a table: not too many rows and places, all rows of one length. -/
def mayq (t : List (List Rat)) : Prop := t.length ≤ 200 ∧ wideq t ≤ 200 ∧ evenq t
instance (t : List (List Rat)) : Decidable (evenq t) := inferInstanceAs (Decidable (∀ r ∈ t, r.length = wideq t))
instance (t : List (List Rat)) : Decidable (mayq t) := inferInstanceAs (Decidable (_ ∧ _ ∧ _))
/-- Products of each row with one row. -/
def dotsq (t : List (List Rat)) (v : List Rat) : List Rat := t.map fun r => dotq r v
theorem dotsq_len (t : List (List Rat)) (v : List Rat) : (dotsq t v).length = t.length := List.length_map _
theorem dotsq_at {t : List (List Rat)} {v r : List Rat} {i : Nat} (h : t[i]? = some r) : (dotsq t v)[i]? = some (dotq r v) := by rw [dotsq, List.getElem?_map, h]; rfl
/-- A row as a table of one place each. -/
def colT (v : List Rat) : List (List Rat) := v.map fun x => [x]
theorem colT_len (v : List Rat) : (colT v).length = v.length := List.length_map _
theorem colT_at {v : List Rat} {i : Nat} {x : Rat} (h : v[i]? = some x) : (colT v)[i]? = some [x] := by rw [colT, List.getElem?_map, h]; rfl
/-- How long the numbers of a table are. -/
def lenT (t : List (List Rat)) (m : Nat) : Prop := ∀ r ∈ t, ∀ x ∈ r, lenQ x m
theorem lenT.mono {t : List (List Rat)} {m n : Nat} (h : lenT t m) (hmn : m ≤ n) : lenT t n := fun r hr x hx => (h r hr x hx).mono hmn
set_option maxHeartbeats 1600000 in
set_option maxRecDepth 100000 in
theorem sfits_any (g b R C : Nat) (T : List (List Rat)) (a1 : Value) (v : List Rat) (B : Bool) (w : World) (h : Spt w g b R C T) (h1 : SlF .u64 4294967296 w a1 v) (hB : B = decide (v.length = if R = 0 then 0 else C)) : Calls Tryz.prog 58 #[.pointer (some ⟨g, 0, none⟩), a1] w (RetV (.bool B) w) := by
  obtain ⟨A1, c1, rfl, -, -⟩ := h1.shape
  obtain ⟨c0, c1', -⟩ := h.cells
  by_cases hR : R = 0
  · have HB : Hid ((((v.length : Nat) : Int) == 0) = B) := by
      show _ = _
      rw [hB, if_pos hR, Bool.eq_iff_iff, beq_iff_eq, decide_eq_true_iff]; omega
    have hR1 : (((R : Nat) : Int) == 0) = true := by rw [beq_iff_eq]; omega
    have hR2 : ((R : Nat) : Int) = 0 := by omega
    clear hB hR
    go_enter Tryz.func58, Tryz.ntmps58
    go_wp2
    go_ret
    exact ⟨by rw [← HB.out]; rfl, Below.refl _ _⟩
  · have HB : Hid ((((v.length : Nat) : Int) == (C : Int)) = B) := by
      show _ = _
      rw [hB, if_neg hR, Bool.eq_iff_iff, beq_iff_eq, decide_eq_true_iff]; omega
    have hR1 : (((R : Nat) : Int) == 0) = false := by rw [beq_eq_false_iff_ne]; omega
    have hR2 : ¬ ((R : Nat) : Int) = 0 := by omega
    clear hB hR
    go_enter Tryz.func58, Tryz.ntmps58
    go_wp2
    go_ret
    exact ⟨by rw [← HB.out]; rfl, Below.refl _ _⟩
theorem set3_list : ∀ (l : List Value) (k : Nat) (x y z : Value), k + 3 ≤ l.length → ((l.set k x).set (k + 1) y).set (k + 2) z = l.take k ++ [x, y, z] ++ l.drop (k + 3)
  | [], k, x, y, z, h => by simp at h
  | a :: l, k + 1, x, y, z, h => by
    have ih := set3_list l k x y z (by simpa using h)
    rw [List.set_cons_succ, List.set_cons_succ, List.set_cons_succ, ih]
    simp
  | a :: l, 0, x, y, z, h => by
    match l, h with
    | b :: c :: l, _ => simp
    | [b], h => simp at h
    | [], h => simp at h
/-- A row's fraction is set. -/
theorem rowN_set3 {w : World} {g n i : Nat} {qs : List Rat} {q : Rat} {u t : Value} (h : RowN w g n qs) (hi : i < n) (hu : IsS w .u64 u (digs 4294967296 q.num.natAbs)) (ht : IsS w .u64 t (digs 4294967296 q.den)) :
    w.grownBy (((w.setCell ⟨g, 0 + i * 3, none⟩ (.bool (ngB q.num))).setCell ⟨g, 0 + i * 3 + 1, none⟩ u).setCell ⟨g, 0 + i * 3 + 2, none⟩ t) (some g) ∧ (i = qs.length → RowN (((w.setCell ⟨g, 0 + i * 3, none⟩ (.bool (ngB q.num))).setCell ⟨g, 0 + i * 3 + 1, none⟩ u).setCell ⟨g, 0 + i * 3 + 2, none⟩ t) g n (qs ++ [q])) ∧ (i < qs.length → RowN (((w.setCell ⟨g, 0 + i * 3, none⟩ (.bool (ngB q.num))).setCell ⟨g, 0 + i * 3 + 1, none⟩ u).setCell ⟨g, 0 + i * 3 + 2, none⟩ t) g n (qs.set i q)) := by
  have hg : w.grownBy (((w.setCell ⟨g, 0 + i * 3, none⟩ (.bool (ngB q.num))).setCell ⟨g, 0 + i * 3 + 1, none⟩ u).setCell ⟨g, 0 + i * 3 + 2, none⟩ t) (some g) :=
    ((grown_set w g (0 + i * 3) _).andThen (grown_set _ g (0 + i * 3 + 1) _) (fun j e => .inr e)).andThen (grown_set _ g (0 + i * 3 + 2) _) (fun j e => .inr e)
  have hsz : ∀ cs, Blk w g 36 cs → cs.size = n * 3 := fun cs hcs => by
    obtain ⟨ps, h1, _, h3, _⟩ := h
    unfold Blk at h3 hcs
    rw [h3] at hcs
    injection hcs with hcs
    injection hcs with hcs
    rw [← hcs, List.size_toArray, flat3_len, h1]
  refine ⟨hg, h.put hi hu ht hg fun cs hcs => ?_⟩
  have h1 := blk_set1 (blk_set1 (blk_set1 hcs (i := 0 + i * 3) (.bool (ngB q.num))) (i := 0 + i * 3 + 1) u) (i := 0 + i * 3 + 2) t
  have h2 := hsz cs hcs
  obtain ⟨l⟩ := cs
  have e : (((⟨l⟩ : Array Value).setIfInBounds (0 + i * 3) (.bool (ngB q.num))).setIfInBounds (0 + i * 3 + 1) u).setIfInBounds (0 + i * 3 + 2) t = (l.take (0 + i * 3) ++ [.bool (ngB q.num), u, t] ++ l.drop (0 + i * 3 + 3)).toArray := by
    rw [← set3_list l (0 + i * 3) (.bool (ngB q.num)) u t (by simp at h2; omega)]
    simp
  rw [e] at h1
  exact h1
/-- The cells of one of a row's places, whatever stands there. -/
theorem RowN.places {w : World} {g n i : Nat} {qs : List Rat} (h : RowN w g n qs) (hi : i < n) : ∃ x y z, w.cell? ⟨g, 0 + i * 3, none⟩ = some x ∧ w.cell? ⟨g, 0 + i * 3 + 1, none⟩ = some y ∧ w.cell? ⟨g, 0 + i * 3 + 2, none⟩ = some z ∧ w.frozen? ⟨g, 0 + i * 3, none⟩ = false ∧ w.frozen? ⟨g, 0 + i * 3 + 1, none⟩ = false ∧ w.frozen? ⟨g, 0 + i * 3 + 2, none⟩ = false := by
  obtain ⟨ps, h1, h2, h3, h4, h5⟩ := h
  obtain ⟨f0, f1, f2⟩ := flat3_at ps i _ (List.getElem?_eq_getElem (by omega))
  rw [Nat.zero_add]
  exact ⟨_, _, _, by rw [h3.cell, List.getElem?_toArray]; exact f0, by rw [h3.cell, List.getElem?_toArray]; exact f1, by rw [h3.cell, List.getElem?_toArray]; exact f2, h3.frozen _, h3.frozen _, h3.frozen _⟩
theorem rowN_set {w : World} {g n i : Nat} {qs : List Rat} {q : Rat} {u t : Value} (h : RowN w g n qs) (hi : i < n) (hu : IsS w .u64 u (digs 4294967296 q.num.natAbs)) (ht : IsS w .u64 t (digs 4294967296 q.den)) :
    w.grownBy (((w.setCell ⟨g, i * 3, none⟩ (.bool (ngB q.num))).setCell ⟨g, i * 3 + 1, none⟩ u).setCell ⟨g, i * 3 + 2, none⟩ t) (some g) ∧ (i = qs.length → RowN (((w.setCell ⟨g, i * 3, none⟩ (.bool (ngB q.num))).setCell ⟨g, i * 3 + 1, none⟩ u).setCell ⟨g, i * 3 + 2, none⟩ t) g n (qs ++ [q])) ∧ (i < qs.length → RowN (((w.setCell ⟨g, i * 3, none⟩ (.bool (ngB q.num))).setCell ⟨g, i * 3 + 1, none⟩ u).setCell ⟨g, i * 3 + 2, none⟩ t) g n (qs.set i q)) := by
  have h1 := rowN_set3 h hi hu ht
  rw [Nat.zero_add] at h1
  exact h1
theorem RowN.place {w : World} {g n i : Nat} {qs : List Rat} (h : RowN w g n qs) (hi : i < n) : ∃ x y z, w.cell? ⟨g, i * 3, none⟩ = some x ∧ w.cell? ⟨g, i * 3 + 1, none⟩ = some y ∧ w.cell? ⟨g, i * 3 + 2, none⟩ = some z ∧ w.frozen? ⟨g, i * 3, none⟩ = false ∧ w.frozen? ⟨g, i * 3 + 1, none⟩ = false ∧ w.frozen? ⟨g, i * 3 + 2, none⟩ = false := by
  have h1 := h.places hi
  rw [Nat.zero_add] at h1
  exact h1
theorem indexN {P : Program} {t e : TypeId} (hu : P.underlying t = some (.slice e)) (hs : (P.info? e).map (·.size) = some 3) {g n c k : Nat} (hk : k < n) (w : World) : (Instr.indexAt t (.slice (some ⟨g, 0, none⟩) n c) (.int .i64 (k : Int))).run P w = .ok (.pointer (some ⟨g, k * 3, none⟩)) w := by
  have h := index3 (P := P) hu hs (g := g) (o := 0) (c := c) hk w
  rw [Nat.zero_add] at h
  exact h
/-- A row stays where another row is written. -/
theorem RowN.away {w w' : World} {g g2 n n2 : Nat} {qs qs2 : List Rat} (h : RowN w g n qs) (h2 : RowN w g2 n2 qs2) (hg : w.grownBy w' (some g2)) (hne : g ≠ g2) : RowN w' g n qs := by
  obtain ⟨ps, h1, _, h3, h4, _⟩ := h2
  exact h.offb h3 (no_ints_flat h4) hg hne
theorem index4 {P : Program} {t e : TypeId} (hu : P.underlying t = some (.slice e)) (hs : (P.info? e).map (·.size) = some 4) {g o n c k : Nat} (hk : k < n) (w : World) : (Instr.indexAt t (.slice (some ⟨g, o, none⟩) n c) (.int .i64 (k : Int))).run P w = .ok (.pointer (some ⟨g, o + k * 4, none⟩)) w := by
  cases hq : P.info? e with
  | none => simp [hq] at hs
  | some inf =>
    have hsz : inf.size = 4 := by simpa [hq] using hs
    simp [Instr.indexAt, asIntOf, go_sem, run_underlying hu, sizeOf, typeInfo, hq, hsz, hk]
/-- What the cells multiply. -/
def fsts (l : List (Nat × Rat)) : List Rat := l.map (·.2)
def snds (l : List (Nat × Rat)) (v : List Rat) : List Rat := l.map fun x => (v[x.1]?).getD 0
theorem dotq_snoc : ∀ (p q : List Rat) (x y : Rat), p.length = q.length → dotq (p ++ [x]) (q ++ [y]) = dotq p q + x * y
  | [], [], x, y, _ => by simp [dotq, prods, sumq]
  | a :: p, b :: q, x, y, h => by
    have ih := dotq_snoc p q x y (by simpa using h)
    rw [List.cons_append, List.cons_append, dotq_cons, dotq_cons, ih, Rat.add_assoc]
  | [], b :: q, x, y, h => by simp at h
  | a :: p, [], x, y, h => by simp at h
theorem dotq_take {r v : List Rat} {k : Nat} {x y : Rat} (hx : r[k]? = some x) (hy : v[k]? = some y) : dotq (r.take (k + 1)) (v.take (k + 1)) = dotq (r.take k) (v.take k) + x * y := by
  rw [List.take_add_one, List.take_add_one, hx, hy]
  have h1 := (List.getElem?_eq_some_iff.1 hx).1
  have h2 := (List.getElem?_eq_some_iff.1 hy).1
  exact dotq_snoc _ _ _ _ (by rw [List.length_take, List.length_take]; omega)
theorem dot_cells (r v : List Rat) (hl : r.length = v.length) : ∀ k, k ≤ r.length → dotq (fsts (cellsR r k)) (snds (cellsR r k) v) = dotq (r.take k) (v.take k)
  | 0, _ => by simp [cellsR, fsts, snds]
  | k + 1, hk => by
    have ih := dot_cells r v hl k (by omega)
    have hx : r[k]? = some (r[k]'(by omega)) := List.getElem?_eq_getElem _
    have hy : v[k]? = some (v[k]'(by omega)) := List.getElem?_eq_getElem _
    rw [dotq_take hx hy, ← ih]
    by_cases h0 : r[k]'(by omega) = 0
    · rw [cellsR_miss fun q hq => by rw [hx] at hq; injection hq with hq; rw [← hq, h0], h0, Rat.zero_mul, Rat.add_zero]
    · rw [cellsR_hit hx h0]
      unfold fsts snds
      rw [List.map_append, List.map_append]
      refine (dotq_snoc _ _ _ _ (by rw [List.length_map, List.length_map])).trans ?_
      simp [hy]
theorem dot_row (r v : List Rat) (hl : r.length = v.length) : dotq (fsts (cellsR r r.length)) (snds (cellsR r r.length) v) = dotq r v := by
  have h := dot_cells r v hl r.length (Nat.le_refl _)
  rw [List.take_of_length_le (Nat.le_refl _), hl, List.take_of_length_le (Nat.le_refl _)] at h
  rw [← hl] at h
  exact h
theorem cellsR_at {r : List Rat} : ∀ {k : Nat} {x : Nat × Rat}, x ∈ cellsR r k → x.1 < k ∧ r[x.1]? = some x.2 ∧ x.2 ≠ 0 := by
  intro k x hx
  unfold cellsR at hx
  obtain ⟨j, hj, he⟩ := List.mem_filterMap.1 hx
  unfold cel1 at he
  cases hr : r[j]? with
  | none => rw [hr] at he; cases he
  | some q =>
    rw [hr] at he
    simp only [] at he
    split at he
    · cases he
    · rename_i h0
      injection he with he
      subst he
      exact ⟨List.mem_range.1 hj, hr, h0⟩
theorem set3_grown (w : World) (g : Nat) (x y z : Value) : w.grownBy (((w.setCell ⟨g, 0, none⟩ x).setCell ⟨g, 1, none⟩ y).setCell ⟨g, 2, none⟩ z) (some g) :=
  ((grown_set w g 0 x).andThen (grown_set _ g 1 y) (fun j e => .inr e)).andThen (grown_set _ g 2 z) (fun j e => .inr e)
set_option maxHeartbeats 6400000 in
set_option maxRecDepth 100000 in
theorem sdot_any (a0 a1 : Value) (l : List (Nat × Rat)) (v : List Rat) (m n : Nat) (w : World) (h0 : SlC w a0 l) (h1 : SlF .u64 4294967296 w a1 v) (hi : ∀ x ∈ l, x.1 < v.length) (hl : l.length ≤ 1000 ∧ (∀ x ∈ l, lenQ x.2 m) ∧ (∀ y ∈ v, lenQ y n) ∧ (m + n + 1) * l.length + 1 ≤ 900) : Calls Tryz.prog 59 #[a0, a1] w (RetQn (dotq (fsts l) (snds l v)) w) := by
  have hL := h0
  have hV := h1
  obtain ⟨A0, c0, rfl, hc0, hm0⟩ := h0.shape
  obtain ⟨A1, c1, rfl, hc1, hm1⟩ := h1.shape
  have HI := Lib.hid hi
  have HL := Lib.hid hl
  have hlen : l.length ≤ 1000 := hl.1
  clear hi hl h0 h1
  obtain ⟨mk, hmk⟩ := Classical.axiomOfChoice (fun w => run_make_q (P := Tryz.prog) (w := w) Tryz.underlying53 info_rat l.length (by omega))
  have hmk1 := fun w => (hmk w).1
  have HMK := Lib.hid (fun w => (hmk w).2)
  clear hmk
  have ba := below_alloc (w := w) (Nat.le_refl _) (.cells #[.bool false, .slice none 0 0, .slice none 0 0] 36)
  have B0 := Blk.new w 36 #[.bool false, .slice none 0 0, .slice none 0 0]
  go_enter Tryz.func59, Tryz.ntmps59
  go_upto_region 1 with (fail)
  obtain ⟨wx, hwx⟩ : ∃ wx, wx = w.alloc (.cells #[.bool false, .slice none 0 0, .slice none 0 0] 36) := ⟨_, rfl⟩
  rw [← hwx] at ba B0 ⊢
  clear hwx
  go_cut [5, 6] from 11 to 16 (fun s5 s6 wy => ∃ g5 g6, s5 = .slice (some ⟨g5, 0, none⟩) l.length l.length ∧ s6 = .slice (some ⟨g6, 0, none⟩) l.length l.length ∧ RowN wy g5 l.length [] ∧ RowN wy g6 l.length [] ∧ g5 ≠ g6 ∧ wx.heap.size ≤ g5 ∧ wx.heap.size ≤ g6 ∧ Below wx.heap.size wx wy)
  case first =>
    have bd := (Below.refl wx.heap.size wx).drew
    obtain ⟨ra, ba1⟩ := HMK.out wx.drew
    obtain ⟨rb, bb1⟩ := HMK.out (mk wx.drew)
    have hz1 : wx.heap.size < (mk wx.drew).heap.size := ra.lt
    have bc : Below wx.heap.size wx (mk (mk wx.drew)) := (bd.trans ba1).trans (bb1.mono (by omega))
    have HE := Lib.hid (And.intro (ra.below bb1) (And.intro rb bc))
    clear ra rb ba1 bb1 bc
    go_region
    all_goals
      go_wp2_with fail
      go_meet
      first
      | exact ⟨_, _, rfl, rfl, HE.out.1, HE.out.2.1, Nat.ne_of_lt hz1, Nat.le_refl _, Nat.le_of_lt hz1, HE.out.2.2⟩
      | exact ⟨_, _, rfl, rfl, HE.out.2.1, HE.out.1, Nat.ne_of_gt hz1, Nat.le_of_lt hz1, Nat.le_refl _, HE.out.2.2⟩
  case rest =>
    obtain ⟨g5, g6, rfl, rfl, r5, r6, hne, hg5, hg6, by1⟩ := hcut
    have bb0 := ba.trans (by1.mono ba.size)
    have B0' := B0.below by1
    have hzx := ba.size
    have hgx := B0.lt
    clear ba by1 B0
    go_wp2
    go_loopw [19] (fun v19 wr => ∃ k : Nat, k ≤ l.length ∧ RowN wr g5 l.length (fsts (l.take k)) ∧ RowN wr g6 l.length (snds (l.take k) v) ∧ Blk wr w.heap.size 36 #[.bool false, .slice none 0 0, .slice none 0 0] ∧ Below w.heap.size w wr ∧ v19 = .int .i64 (k : Int)) (fun v19 _ => l.length - (intOf v19).toNat)
    case atStart => exact ⟨0, by omega, r5, r6, B0', bb0, rfl⟩
    case round =>
      clear r5 r6 B0' bb0
      obtain ⟨k, hk, r5, r6, B0, bb, rfl⟩ := hrel
      by_cases hlt : k < l.length
      · obtain ⟨y, hy⟩ : ∃ y, l[k]? = some y := ⟨_, List.getElem?_eq_getElem hlt⟩
        have HIY : Hid (y.1 < v.length) := HI.out y (List.mem_of_getElem? hy)
        obtain ⟨z, hz⟩ : ∃ z, v[y.1]? = some z := ⟨_, List.getElem?_eq_getElem HIY.out⟩
        obtain ⟨gl, ol, ul, tl, rfl, hil, e0, e1, e2, e3, su, st⟩ := (hL.below bb).at_ hy
        obtain ⟨gv, ov, uv, tv, rfl, hiv, f0, f1, f2, sv, tv'⟩ := (hV.below bb).at_ hz
        have HF1 : Hid (fsts (l.take (k + 1)) = fsts (l.take k) ++ [y.2]) := by show _ = _; unfold fsts; rw [List.take_add_one, hy]; simp
        have HF2 : Hid (snds (l.take (k + 1)) v = snds (l.take k) v ++ [z]) := by show _ = _; unfold snds; rw [List.take_add_one, hy]; simp [hz]
        have hix := fun w => index4 (P := Tryz.prog) Tryz.underlying98 (by kernel_rfl) (g := gl) (o := ol) (c := c0) hlt w
        have hiz := fun w => index3 (P := Tryz.prog) Tryz.underlying53 (by kernel_rfl) (g := gv) (o := ov) (c := c1) HIY.out w
        have hi5 := fun w => indexN (P := Tryz.prog) Tryz.underlying53 (by kernel_rfl) (g := g5) (c := l.length) hlt w
        have hi6 := fun w => indexN (P := Tryz.prog) Tryz.underlying53 (by kernel_rfl) (g := g6) (c := l.length) hlt w
        have HLK : Hid (k = (fsts (l.take k)).length ∧ k = (snds (l.take k) v).length) := by
          unfold fsts snds
          constructor <;> rw [List.length_map, List.length_take] <;> omega
        obtain ⟨Au, cu, rfl, _⟩ := id su
        obtain ⟨At, ct, rfl, _⟩ := id st
        obtain ⟨Av, cv, rfl, _⟩ := id sv
        obtain ⟨Aw, cw, rfl, _⟩ := id tv'
        have hz1 := hz
        clear hy hz
        have HLZ : Hid (w.heap.size < g5 ∧ w.heap.size < g6) := ⟨by omega, by omega⟩
        obtain ⟨wc2, hwc2⟩ : ∃ wc2, wc2 = wr.alloc (.cells #[.int .i64 (y.1 : Int), .bool (ngB y.2.num), .slice Au (digs 4294967296 y.2.num.natAbs).length cu, .slice At (digs 4294967296 y.2.den).length ct] 103) := ⟨_, rfl⟩
        have bw := below_alloc (w := wr) (Nat.le_refl _) (.cells #[.int .i64 (y.1 : Int), .bool (ngB y.2.num), .slice Au (digs 4294967296 y.2.num.natAbs).length cu, .slice At (digs 4294967296 y.2.den).length ct] 103)
        have BC := Blk.new wr 103 #[.int .i64 (y.1 : Int), .bool (ngB y.2.num), .slice Au (digs 4294967296 y.2.num.natAbs).length cu, .slice At (digs 4294967296 y.2.den).length ct]
        go_upto_region 5 with (fail)
        rw [← hwc2] at bw BC ⊢
        clear hwc2
        have hgw := B0.lt
        have hz := bb.size
        have bb2 := bb.trans (bw.mono bb.size)
        have bd := (Below.refl wc2.heap.size wc2).drew
        have s1 := su.below bw
        have s2 := st.below bw
        have s3 := sv.below bw
        have s4 := tv'.below bw
        have r5b := r5.below bw
        have r6b := r6.below bw
        have h5lt := r5.lt
        have h6lt := r6.lt
        obtain ⟨G3, R5', -⟩ := rowN_set r5b hlt s1 s2
        obtain ⟨W3, hW3⟩ : ∃ W3, W3 = ((wc2.setCell ⟨g5, k * 3, none⟩ (.bool (ngB y.2.num))).setCell ⟨g5, k * 3 + 1, none⟩ (.slice Au (digs 4294967296 y.2.num.natAbs).length cu)).setCell ⟨g5, k * 3 + 2, none⟩ (.slice At (digs 4294967296 y.2.den).length ct) := ⟨_, rfl⟩
        rw [← hW3] at G3 R5'
        have R5 := R5' HLK.out.1
        have R6 := r6b.away r5b G3 (fun e => hne e.symm)
        have s5 := r5b.keep G3 s3
        have s6 := r5b.keep G3 s4
        obtain ⟨G6, R6', -⟩ := rowN_set R6 hlt s5 s6
        have Bc3 : Blk W3 wr.heap.size _ _ := BC.grown G3 (by omega)
        have B03 : Blk W3 w.heap.size _ _ := (B0.below bw).grown G3 (by have := HLZ.out; omega)
        have bb3 : Below w.heap.size w W3 := bb2.grown G3 bb2.size (fun q e => by injection e with e; have := HLZ.out; omega)
        obtain ⟨p5, q5, t5, P0, P1, P2, F50, F51, F52⟩ := (r5b.below bd).place hlt
        obtain ⟨p6, q6, t6, P60, P61, P62, F60, F61, F62⟩ := (R6.below (Below.refl _ W3).drew).place hlt
        obtain ⟨P0', P1', P2', F50', F51', F52'⟩ : wc2.cell? ⟨g5, k * 3, none⟩ = some p5 ∧ wc2.cell? ⟨g5, k * 3 + 1, none⟩ = some q5 ∧ wc2.cell? ⟨g5, k * 3 + 2, none⟩ = some t5 ∧ wc2.frozen? ⟨g5, k * 3, none⟩ = false ∧ wc2.frozen? ⟨g5, k * 3 + 1, none⟩ = false ∧ wc2.frozen? ⟨g5, k * 3 + 2, none⟩ = false := ⟨P0, P1, P2, F50, F51, F52⟩
        obtain ⟨p7, q7, t7, P70, P71, P72, F70, F71, F72⟩ := r6b.place hlt
        have hne' : ¬ g6 = g5 := fun e => hne e.symm
        obtain ⟨c80, c81, c82, c83⟩ : wc2.drew.cell? ⟨wr.heap.size, 0, none⟩ = some (.int .i64 (y.1 : Int)) ∧ wc2.drew.cell? ⟨wr.heap.size, 1, none⟩ = some (.bool (ngB y.2.num)) ∧ wc2.drew.cell? ⟨wr.heap.size, 2, none⟩ = some (.slice Au (digs 4294967296 y.2.num.natAbs).length cu) ∧ wc2.drew.cell? ⟨wr.heap.size, 3, none⟩ = some (.slice At (digs 4294967296 y.2.den).length ct) := ⟨BC.cell 0, BC.cell 1, BC.cell 2, BC.cell 3⟩
        have c83' : W3.drew.cell? ⟨wr.heap.size, 0, none⟩ = some (.int .i64 (y.1 : Int)) := Bc3.cell 0
        have cw := fun {ad : Addr} {x : Value} (h : wr.cell? ad = some x) => (((bw.trans (bd.mono bw.size)).cell (World.block_lt_of_cell? wr _ h)).trans h)
        have v0 := cw f0
        have v1 := cw f1
        have v2 := cw f2
        have cz : ∀ {ad : Addr} {x : Value}, wc2.cell? ad = some x → ad.block ≠ g5 → W3.drew.cell? ad = some x := fun h hne => G3.cell h (fun e => hne (by injection e))
        have hgv : gv ≠ g5 := fun e => by
          subst e
          obtain ⟨g', o', u', t', e1, -, k0, -, -⟩ := hV.at_ hz1
          injection e1 with e1
          injection e1 with e1
          subst e1
          have h0 : gv < w.heap.size := World.block_lt_of_cell? w _ k0
          have := HLZ.out
          omega
        have v30 := cz v0 hgv
        have v31 := cz v1 hgv
        have v32 := cz v2 hgv
        have bb6 : Below w.heap.size w _ := bb3.grown G6 bb3.size (fun q e => by injection e with e; have := HLZ.out; omega)
        have HE := Lib.hid (And.intro (R5.away R6 G6 hne).drew (And.intro (R6' HLK.out.2).drew (And.intro (B03.grown G6 (by have := HLZ.out; omega)).drew (bb6.trans ((Below.refl _ _).drew.mono bb6.size)))))
        clear G3 G6 R5 R6 R5' R6' s1 s2 s3 s4 s5 s6 r5b r6b r5 r6 Bc3 B03 bb3 bb6 cw cz BC B0 bw bd e0 e1 e2 e3 f0 f1 f2 su st sv tv'
        subst hW3
        go_region
        all_goals
          go_wp2
          go_roundw
          case rel => exact ⟨k + 1, by omega, by rw [HF1.out]; exact HE.out.1, by rw [HF2.out]; exact HE.out.2.1, HE.out.2.2.1, HE.out.2.2.2, by go_num⟩
          case measure => simp [intOf]; omega
      · have hkl : k = l.length := by omega
        rw [hkl, List.take_of_length_le (Nat.le_refl _)] at r5 r6
        have hl5 : (fsts l).length = l.length := List.length_map _
        have hl6 : (snds l v).length = l.length := List.length_map _
        have s5 := r5.sl hl5 (by omega)
        have s6 := r6.sl hl6 (by omega)
        have hlq : (fsts l).length ≤ 1000 ∧ (∀ x ∈ fsts l, lenQ x m) ∧ (∀ x ∈ snds l v, lenQ x n) ∧ (m + n + 1) * (fsts l).length + 1 ≤ 900 := by
          refine ⟨by rw [hl5]; exact hlen, fun x hx => ?_, fun x hx => ?_, by rw [hl5]; exact HL.out.2.2.2⟩
          · obtain ⟨y, hy, rfl⟩ := List.mem_map.1 hx
            exact HL.out.2.1 y hy
          · obtain ⟨y, hy, rfl⟩ := List.mem_map.1 hx
            have h1 := HI.out y hy
            rw [List.getElem?_eq_getElem h1, Option.getD_some]
            exact HL.out.2.2.1 _ (List.getElem_mem h1)
        have HLQ := Lib.hid hlq
        have HEQ : Hid ((fsts l).length = (snds l v).length) := hl5.trans hl6.symm
        obtain ⟨D, hD⟩ : ∃ D, D = dotq (fsts l) (snds l v) := ⟨_, rfl⟩
        have HDT : ∀ (x y : Value) (w0 : World), SlF .u64 4294967296 w0 x (fsts l) → SlF .u64 4294967296 w0 y (snds l v) → Calls Tryz.prog 99 #[x, y] w0 (RetQE D 0 w0) := fun x y w0 h1 h2 => by rw [hD]; exact fdot_gen x y _ _ m n w0 h1 h2 HEQ.out HLQ.out
        have HDD := Lib.hid hD
        clear hD hlq hl5 hl6 hkl
        go_wp2_with fail
        refine (HDT _ _ _ s5 s6).mono ?_
        rintro e w3 ⟨v3, rfl, k3, b3⟩
        have bb3 := bb.trans (b3.mono bb.size)
        have B3 := B0.below b3
        obtain ⟨u3, t3, rfl, q3, d3⟩ := k3
        obtain ⟨A3, c3, rfl, _⟩ := id q3
        obtain ⟨D3, e3, rfl, _⟩ := id d3
        have ba4 := below_alloc (w := w3) (Nat.le_refl _) (.cells #[.bool (ngB D.num), .slice A3 (digs 4294967296 D.num.natAbs).length c3, .slice D3 (digs 4294967296 D.den).length e3] 36)
        have B4 := B3.below ba4
        have q4 := q3.below ba4
        have d4 := d3.below ba4
        have bb4 := bb3.trans (ba4.mono bb3.size)
        obtain ⟨C0, C1, C2, F0, F1, F2⟩ := three B4
        have B9 := blk_set3 B4 (.bool (ngB D.num)) (.slice A3 (digs 4294967296 D.num.natAbs).length c3) (.slice D3 (digs 4294967296 D.den).length e3)
        obtain ⟨R0, R1, R2, _, _, _⟩ := three B9
        have hg := set3_grown (w3.alloc (.cells #[.bool (ngB D.num), .slice A3 (digs 4294967296 D.num.natAbs).length c3, .slice D3 (digs 4294967296 D.den).length e3] 36)) w.heap.size (.bool (ngB D.num)) (.slice A3 (digs 4294967296 D.num.natAbs).length c3) (.slice D3 (digs 4294967296 D.den).length e3)
        have HE := Lib.hid (And.intro (off q4 B4 no_ints3 hg) (And.intro (off d4 B4 no_ints3 hg) (bb4.grown hg bb4.size (fun q e => by injection e with e; omega))))
        clear B9 B3 q3 d3 q4 d4 hg s5 s6 r5 r6 ba4 HDT
        go_wp2
        rw [← HDD.out]
        exact bodyPost_ret (v := .agg #[.bool (ngB D.num), .slice A3 (digs 4294967296 D.num.natAbs).length c3, .slice D3 (digs 4294967296 D.den).length e3]) (by simp [results, Tryz.results59, go_sem, R0, R1, R2]) rfl ⟨_, rfl, ⟨_, _, rfl, HE.out.1, HE.out.2.1⟩, HE.out.2.2⟩
set_option maxHeartbeats 6400000 in
set_option maxRecDepth 100000 in
theorem sapply_no (g b R C : Nat) (T : List (List Rat)) (a1 : Value) (v : List Rat) (w : World) (h : Spt w g b R C T) (h1 : SlF .u64 4294967296 w a1 v) (hf : ¬ v.length = if R = 0 then 0 else C) : Calls Tryz.prog 22 #[.pointer (some ⟨g, 0, none⟩), a1] w (RetV (.tuple #[.slice none 0 0, .int .i64 8]) w) := by
  have k1 := h1
  obtain ⟨A1, c1, rfl, -, -⟩ := h1.shape
  have HF := Lib.hid hf
  clear hf
  go_enter Tryz.func22, Tryz.ntmps22
  go_wp2_with fail
  refine (made_any _ _ _ _ _ _ h).mono ?_
  rintro e w2 ⟨rfl, b2⟩
  go_wp2_with fail
  refine (sfits_any _ _ _ _ _ _ v false _ (h.below b2) (k1.below b2) (decide_eq_false HF.out).symm).mono ?_
  rintro e w3 ⟨rfl, b3⟩
  have bb := b2.trans (b3.mono b2.size)
  go_wp2
  go_ret2
  exact ⟨rfl, bb⟩
theorem take_snocq {α : Type} {l : List α} {k : Nat} {x : α} (h : l[k]? = some x) : l.take (k + 1) = l.take k ++ [x] := by rw [List.take_add_one, h]; rfl
set_option maxHeartbeats 6400000 in
set_option maxRecDepth 100000 in
theorem sapply_ok (g b R C : Nat) (T : List (List Rat)) (a1 : Value) (v : List Rat) (m n : Nat) (w : World) (h : Spt w g b R C T) (h1 : SlF .u64 4294967296 w a1 v) (hf : v.length = if R = 0 then 0 else C) (hm : m ≤ 100000) (hl : lenS T m ∧ (∀ y ∈ v, lenQ y n) ∧ (m + n + 1) * C + 1 ≤ 900) : Calls Tryz.prog 22 #[.pointer (some ⟨g, 0, none⟩), a1] w (RetQLE (dotsq T v) 0 w) := by
  have k1 := h1
  obtain ⟨A1, c1, rfl, -, -⟩ := h1.shape
  have HF := Lib.hid hf
  have HL := Lib.hid hl
  have hR := h.hR
  have hC := h.hC
  have HTL : Hid (T.length = R) := h.shp.1
  clear hf hl h1
  go_enter Tryz.func22, Tryz.ntmps22
  go_wp2_with fail
  refine (made_any _ _ _ _ _ _ h).mono ?_
  rintro e w2 ⟨rfl, b2⟩
  go_wp2_with fail
  refine (sfits_any _ _ _ _ _ _ v true _ (h.below b2) (k1.below b2) (decide_eq_true HF.out).symm).mono ?_
  rintro e w3 ⟨rfl, b3⟩
  have bb := b2.trans (b3.mono b2.size)
  obtain ⟨c0, -, -⟩ := (h.below bb).cells
  obtain ⟨w4, hmk, r4, b4⟩ := run_make_q (P := Tryz.prog) (w := w3) Tryz.underlying53 info_rat R (by omega)
  have hg4 := bb.size
  have bb4 := bb.trans (b4.mono bb.size)
  clear b2 b3 b4
  obtain ⟨gs, hgs⟩ : ∃ gs, gs = w3.heap.size := ⟨_, rfl⟩
  rw [← hgs] at hmk r4 hg4
  clear hgs
  have HG := Lib.hid hg4
  clear hg4
  go_wp2
  go_loopw [22] (fun v22 wr => ∃ k : Nat, k ≤ R ∧ RowN wr gs R ((dotsq T v).take k) ∧ Below w.heap.size w wr ∧ v22 = .int .i64 (k : Int)) (fun v22 _ => R - (intOf v22).toNat)
  case atStart => exact ⟨0, by omega, r4, bb4, rfl⟩
  case round =>
    clear hmk r4 bb bb4 c0
    obtain ⟨k, hk, r5, bb, rfl⟩ := hrel
    by_cases hlt : k < R
    · obtain ⟨r, hr, hrl⟩ := row_ex h.shp hlt
      have HR0 : Hid (rowOf T (k : Int) = r) := rowOf_nat hr
      have HVL : Hid (v.length = C) := by show _ = _; rw [HF.out, if_neg (by omega)]
      have HRL := Lib.hid hrl
      have HQ : Hid (∀ j q, r[j]? = some q → lenQ q m) := fun j q hq => HL.out.1 k j q (cellq_of hr hq)
      have HD : Hid ((dotsq T v)[k]? = some (dotq r v)) := dotsq_at hr
      have hkI : I64 (k : Int) := natI64 hlt hR
      have hi5 := fun w => indexN (P := Tryz.prog) Tryz.underlying53 (by kernel_rfl) (g := gs) (c := R) hlt w
      clear hr hrl
      go_wp2_with fail
      refine (srow_any g b R C T k _ (h.below bb) hkI (HL.out.1.mono hm)).mono ?_
      rw [HR0.out]
      rintro e w6 ⟨V6, rfl, q6, b6⟩
      have bb6 := bb.trans (b6.mono bb.size)
      obtain ⟨A6, c6, rfl, -, -⟩ := q6.shape
      have HEQ : Hid (dotq (fsts (cellsR r C)) (snds (cellsR r C) v) = dotq r v) := by
        have h1 := dot_row r v (by rw [HRL.out, HVL.out])
        rw [HRL.out] at h1
        exact h1
      have hll : (m + n + 1) * (cellsR r C).length ≤ (m + n + 1) * C := Nat.mul_le_mul_left _ (cellsR_len r C)
      have HLL : Hid ((cellsR r C).length ≤ 1000 ∧ (∀ x ∈ cellsR r C, lenQ x.2 m) ∧ (∀ y ∈ v, lenQ y n) ∧ (m + n + 1) * (cellsR r C).length + 1 ≤ 900) := ⟨by have := cellsR_len r C; omega, fun x hx => HQ.out _ _ (cellsR_at hx).2.1, HL.out.2.1, by have := HL.out.2.2; omega⟩
      have HIX : Hid (∀ x ∈ cellsR r C, x.1 < v.length) := fun x hx => by rw [HVL.out]; exact (cellsR_at hx).1
      clear hll
      go_wp2_with fail
      refine (sdot_any _ _ _ v m n _ q6 (k1.below bb6) HIX.out HLL.out).mono ?_
      rw [HEQ.out]
      rintro e w7 ⟨v7, rfl, k7, b7⟩
      have bb7 := bb6.trans (b7.mono bb6.size)
      obtain ⟨D, hD⟩ : ∃ D, D = dotq r v := ⟨_, rfl⟩
      rw [← hD] at k7
      have HDD := Lib.hid hD
      clear hD
      obtain ⟨u7, t7, rfl, s7, d7⟩ := k7
      obtain ⟨A7, c7, rfl, _⟩ := id s7
      obtain ⟨D7, e7, rfl, _⟩ := id d7
      have r7 := (r5.below b6).below b7
      obtain ⟨p5, q5, t5, P0, P1, P2, F0, F1, F2⟩ := r7.place hlt
      obtain ⟨G8, R8, -⟩ := rowN_set r7 hlt s7 d7
      have HTK : Hid ((dotsq T v).take (k + 1) = (dotsq T v).take k ++ [D]) := by show _ = _; rw [take_snocq HD.out, HDD.out]
      have hkl : k = ((dotsq T v).take k).length := by rw [List.length_take, dotsq_len, HTL.out]; omega
      have bb8 := bb7.grown G8 bb7.size (fun q e => by injection e with e; have := HG.out; omega)
      have HE := Lib.hid (And.intro (R8 hkl) bb8)
      clear R8 G8 bb8 r7 r5 s7 d7 hkl q6 b6 b7
      go_wp2
      go_roundw
      case rel => exact ⟨k + 1, by omega, by rw [HTK.out]; exact HE.out.1, HE.out.2, by go_num⟩
      case measure => simp [intOf]; omega
    · have hkR : k = R := by omega
      rw [hkR, List.take_of_length_le (by rw [dotsq_len, HTL.out]; exact Nat.le_refl _)] at r5
      have HE := Lib.hid (r5.sl (by rw [dotsq_len, HTL.out]) (by omega))
      clear r5
      go_wp2
      go_ret2
      exact ⟨_, rfl, by rw [if_pos rfl]; exact HE.out, bb⟩
set_option maxHeartbeats 3200000 in
set_option maxRecDepth 100000 in
theorem eqf_any (a0 a1 : Value) (p q : List Rat) (b : Bool) (w : World) (h0 : SlF .u64 4294967296 w a0 p) (h1 : SlF .u64 4294967296 w a1 q) (hb : b = decide (p = q)) :
    Calls Tryz.prog 100 #[a0, a1, .func (.func 52) #[] #[]] w (RetV (.bool b) w) := by
  have bb : Below w.heap.size w w := Below.refl _ _
  have sl0 := h0
  obtain ⟨A0, c0, rfl, hc0, hm0⟩ := h0.shape
  unfold maxLen at hm0
  have sl1 := h1
  obtain ⟨A1, c1, rfl, hc1, hm1⟩ := h1.shape
  unfold maxLen at hm1
  have HB := Lib.hid hb
  clear hb
  go_enter Tryz.func100, Tryz.ntmps100
  go_upto_region 1 with (fail)
  have hsz0 := bb.size
  by_cases he : p.length = q.length
  · have HNE : Hid ((((p.length : Nat) : Int) != ((q.length : Nat) : Int)) = false) := by show _ = _; rw [bne_eq_false_iff_eq]; omega
    have HE := Lib.hid he
    clear he
    have sB := bb.size
    refine flowp 5 [Pd.eq (.slice A0 p.length c0), Pd.eq (.int .i64 ((p.length : Nat) : Int)), Pd.eq (.slice A1 q.length c1), Pd.eq (.int .i64 ((q.length : Nat) : Int)), Pd.eq (.bool false)] (by kernel_rfl) ?ob11 ?done11
    case ob11 =>
      refine And.intro (ob_move rfl (wt_none rfl) (ev_far rfl rfl) (fun _ _ h => h)) ?_
      refine And.intro (ob_len rfl (wt_none rfl) (ev_dep (j := 0) (by kernel_rfl) rfl rfl) (fun _ _ hx => ⟨_, by rw [hx]; exact len_slice Tryz.underlying53 _ _ _ _, rfl⟩)) ?_
      refine And.intro (ob_move rfl (wt_none rfl) (ev_far rfl rfl) (fun _ _ h => h)) ?_
      refine And.intro (ob_len rfl (wt_none rfl) (ev_dep (j := 2) (by kernel_rfl) rfl rfl) (fun _ _ hx => ⟨_, by rw [hx]; exact len_slice Tryz.underlying53 _ _ _ _, rfl⟩)) ?_
      refine And.intro (ob_bin rfl (wt_none rfl) (ev_dep (j := 1) (by kernel_rfl) rfl rfl) (ev_dep (j := 3) (by kernel_rfl) rfl rfl) (fun _ _ _ hx hy => ⟨.bool false, by rw [hx, hy, bin_neq_int, HNE.out], rfl⟩)) ?_
      trivial
    case done11 =>
      refine fun w2 hb2 v0 h0 v1 h1 v2 h2 v3 h3 v4 h4 b hbf => ?_
      obtain rfl := h0; obtain rfl := h1; obtain rfl := h2; obtain rfl := h3; obtain rfl := h4
      simp only [Act.put, List.setIfInBounds_toArray, List.set_cons_zero, List.set_cons_succ] at hbf
      subst hbf
      replace bb := bb.trans (hb2.mono bb.size)
      have hsz2 := bb.size
      refine ops_done ?_
      go_wp2
      go_loopw [17] (fun v17 wr => ∃ k : Nat, k ≤ p.length ∧ Hid (p.take k = q.take k) ∧ Below w.heap.size w wr ∧ v17 = .int .i64 (k : Int)) (fun v17 _ => p.length - (intOf v17).toNat)
      case atStart => exact ⟨0, by omega, rfl, bb, rfl⟩
      case round =>
        obtain ⟨k, hk, HA, hbw, rfl⟩ := hrel
        clear bb
        have bb := hbw
        clear hbw
        have hszr := bb.size
        by_cases hlt : k < p.length
        · have hlt2 : k < q.length := by have := HE.out; omega
          have hneq : q ≠ [] := List.length_pos_iff.1 (by omega)
          obtain ⟨y, hy⟩ : ∃ y, q[k]? = some y := ⟨_, List.getElem?_eq_getElem hlt2⟩
          have HY := Lib.hid hy
          clear hy
          obtain ⟨x, hq0_⟩ : ∃ x, p[k]? = some x := ⟨_, List.getElem?_eq_getElem hlt⟩
          obtain ⟨g0_, o0_, ue0, te0, hA0_, _, e00, e01, e02, es0, ed0⟩ := (sl0.below bb).at_ hq0_
          subst hA0_
          have HQ0 := Lib.hid hq0_
          clear hq0_
          obtain ⟨Ae0, ce0, rfl, _⟩ := id es0
          obtain ⟨De0, ee0, rfl, _⟩ := id ed0
          have ke0 : IsQ wr (.agg #[.bool (ngB x.num), .slice Ae0 (digs 4294967296 x.num.natAbs).length ce0, .slice De0 (digs 4294967296 x.den).length ee0]) x := ⟨_, _, rfl, es0, ed0⟩
          have sB := bb.size
          go_upto_region 5 with (fail)
          refine flowp 5 [Pd.eq (.int .i64 (k : Int)), Pd.eq (.pointer (some ⟨g0_, o0_ + k * 3, none⟩)), Pd.eq (.agg #[.bool (ngB x.num), .slice Ae0 (digs 4294967296 x.num.natAbs).length ce0, .slice De0 (digs 4294967296 x.den).length ee0]), pn 36 #[.bool false, .slice none 0 0, .slice none 0 0] wr.heap.size, Pd.eq (.int .i64 (k : Int))] (by kernel_rfl) ?ob12 ?done12
          case ob12 =>
            refine And.intro (ob_move rfl (wt_none rfl) (ev_far rfl rfl) (fun _ _ h => h)) ?_
            refine And.intro (ob_indexAddr rfl (wt_none rfl) (ev_far rfl rfl) (ev_far rfl rfl) (fun _ _ _ hx hy => ⟨_, by rw [hx, hy]; exact index3 Tryz.underlying53 (by kernel_rfl) hlt _, rfl⟩)) ?_
            refine And.intro (ob_load rfl (wt_none rfl) (ev_dep (j := 1) (by kernel_rfl) rfl rfl) (fun w2 hb => load3 Tryz.underlying36 rfl (by kernel_rfl) ((hb.cell (World.block_lt_of_cell? wr _ e00)).trans e00) ((hb.cell (World.block_lt_of_cell? wr _ e01)).trans e01) ((hb.cell (World.block_lt_of_cell? wr _ e02)).trans e02)) (fun _ _ => rfl)) ?_
            refine And.intro (ob_alloc (z := .agg #[.bool false, .slice none 0 0, .slice none 0 0]) rfl rfl (fun _ => by kernel_rfl) (fun _ _ hB h => ⟨_, rfl, hB, h⟩)) ?_
            refine And.intro (ob_assign rfl (wt_none rfl) (ev_dep (j := 0) (by kernel_rfl) rfl rfl) (fun _ _ h => h)) ?_
            trivial
          case done12 =>
            refine fun w4 hb4 v0 h0 v1 h1 v2 h2 v3 h3 d3 v4 h4 b hbf => ?_
            obtain rfl := h0; obtain rfl := h1; obtain rfl := h2; obtain rfl := h4
            obtain ⟨g12_3, rfl, hg3, B3⟩ := h3
            simp only [Act.put, List.setIfInBounds_toArray, List.set_cons_zero, List.set_cons_succ] at hbf
            subst hbf
            replace es0 := es0.below hb4
            replace ed0 := ed0.below hb4
            replace bb := bb.trans (hb4.mono bb.size)
            have hsz4 := bb.size
            have BA8 := B3
            have q2 := es0
            have d2 := ed0
            refine ops_store (i := 5) rfl rfl rfl rfl rfl rfl (cells := [.bool (ngB (x).num), .slice Ae0 (digs 4294967296 (x).num.natAbs).length ce0, .slice De0 (digs 4294967296 (x).den).length ee0]) rfl BA8 rfl (by kernel_rfl) (one3 rfl rfl rfl) fun w5 hg5 BN5 => ?_
            replace q2 := off q2 BA8 no_ints3 hg5
            replace d2 := off d2 BA8 no_ints3 hg5
            replace bb := bb.trans ((Below.refl _ _).grown hg5 bb.size (fun g hg => by injection hg with hg; omega))
            have hsz5 := bb.size
            have Be0 : Blk w5 (g12_3) _ _ := BN5
            have ke0s := q2
            have ke0d := d2
            have ke0z : IsZ w5 (.agg #[.bool (ngB (x).num), .slice Ae0 (digs 4294967296 (x).num.natAbs).length ce0]) ((x).num) := ⟨_, rfl, ke0s⟩
            have ke0 : IsQ w5 (.agg #[.bool (ngB (x).num), .slice Ae0 (digs 4294967296 (x).num.natAbs).length ce0, .slice De0 (digs 4294967296 (x).den).length ee0]) (x) := ⟨_, _, rfl, ke0s, ke0d⟩
            refine ops_done ?_
            obtain ⟨g1_, o1_, cp1_, hA1_, _, _, _⟩ := sl1.place hneq
            injection hA1_ with e1_ _ e3_
            subst e1_
            subst e3_
            obtain ⟨uy, ty, hlty, zy0, zy1, zy2, zys, zyd⟩ := (sl1.below bb).at2 HY.out
            obtain ⟨Ay, cy, rfl, _⟩ := id zys
            obtain ⟨Dy, ey, rfl, _⟩ := id zyd
            have zy : IsQ w5 (.agg #[.bool (ngB (y).num), .slice Ay (digs 4294967296 (y).num.natAbs).length cy, .slice Dy (digs 4294967296 (y).den).length ey]) (y) := ⟨_, _, rfl, zys, zyd⟩
            have sB := bb.size
            go_upto_region 6 with (fail)
            have lt5_8 := Blk.lt Be0
            refine flowp 5 [Pd.eq (.slice (some ⟨g1_, o1_, none⟩) q.length c1), Pd.eq (.int .i64 (k : Int)), Pd.eq (.pointer (some ⟨g1_, o1_ + k * 3, none⟩)), Pd.eq (.agg #[.bool (ngB (y).num), .slice Ay (digs 4294967296 (y).num.natAbs).length cy, .slice Dy (digs 4294967296 (y).den).length ey]), pn 36 #[.bool false, .slice none 0 0, .slice none 0 0] w5.heap.size] (by kernel_rfl) ?ob13 ?done13
            case ob13 =>
              refine And.intro (ob_move rfl (wt_none rfl) (ev_far rfl rfl) (fun _ _ h => h)) ?_
              refine And.intro (ob_move rfl (wt_none rfl) (ev_far rfl rfl) (fun _ _ h => h)) ?_
              refine And.intro (ob_indexAddr rfl (wt_none rfl) (ev_dep (j := 0) (by kernel_rfl) rfl rfl) (ev_dep (j := 1) (by kernel_rfl) rfl rfl) (fun _ _ _ hx hy => ⟨_, by rw [hx, hy]; exact index3 (k := k) Tryz.underlying53 (by kernel_rfl) hlty _, rfl⟩)) ?_
              refine And.intro (ob_load rfl (wt_none rfl) (ev_dep (j := 2) (by kernel_rfl) rfl rfl) (fun w2 hb => load3 Tryz.underlying36 rfl (by kernel_rfl) ((hb.cell (World.block_lt_of_cell? w5 _ zy0)).trans zy0) ((hb.cell (World.block_lt_of_cell? w5 _ zy1)).trans zy1) ((hb.cell (World.block_lt_of_cell? w5 _ zy2)).trans zy2)) (fun _ _ => rfl)) ?_
              refine And.intro (ob_alloc (z := .agg #[.bool false, .slice none 0 0, .slice none 0 0]) rfl rfl (fun _ => by kernel_rfl) (fun _ _ hB h => ⟨_, rfl, hB, h⟩)) ?_
              trivial
            case done13 =>
              refine fun w6 hb6 v0 h0 v1 h1 v2 h2 v3 h3 v4 h4 d4 b hbf => ?_
              obtain rfl := h0; obtain rfl := h1; obtain rfl := h2; obtain rfl := h3
              obtain ⟨g13_4, rfl, hg4, B4⟩ := h4
              simp only [Act.put, List.setIfInBounds_toArray, List.set_cons_zero, List.set_cons_succ] at hbf
              subst hbf
              replace Be0 := Be0.below hb6
              replace ke0s := ke0s.below hb6
              replace ke0d := ke0d.below hb6
              replace ke0z := ke0z.below hb6
              replace ke0 := ke0.below hb6
              replace zys := zys.below hb6
              replace zyd := zyd.below hb6
              replace bb := bb.trans (hb6.mono bb.size)
              have hsz6 := bb.size
              have BA9 := B4
              have q3 := zys
              have d3 := zyd
              refine ops_store (i := 5) rfl rfl rfl rfl rfl rfl (cells := [.bool (ngB (y).num), .slice Ay (digs 4294967296 (y).num.natAbs).length cy, .slice Dy (digs 4294967296 (y).den).length ey]) rfl BA9 rfl (by kernel_rfl) (one3 rfl rfl rfl) fun w7 hg7 BN7 => ?_
              replace q3 := off q3 BA9 no_ints3 hg7
              replace d3 := off d3 BA9 no_ints3 hg7
              replace ke0s := off ke0s BA9 no_ints3 hg7
              replace ke0d := off ke0d BA9 no_ints3 hg7
              replace ke0z : IsZ w7 (.agg #[.bool (ngB (x).num), .slice Ae0 (digs 4294967296 (x).num.natAbs).length ce0]) ((x).num) := ⟨_, rfl, ke0s⟩
              replace ke0 : IsQ w7 (.agg #[.bool (ngB (x).num), .slice Ae0 (digs 4294967296 (x).num.natAbs).length ce0, .slice De0 (digs 4294967296 (x).den).length ee0]) (x) := ⟨_, _, rfl, ke0s, ke0d⟩
              replace Be0 := Be0.grown hg7 (by omega)
              replace bb := bb.trans ((Below.refl _ _).grown hg7 bb.size (fun g hg => by injection hg with hg; omega))
              have hsz7 := bb.size
              have By : Blk w7 (g13_4) _ _ := BN7
              have kys := q3
              have kyd := d3
              have kyz : IsZ w7 (.agg #[.bool (ngB (y).num), .slice Ay (digs 4294967296 (y).num.natAbs).length cy]) ((y).num) := ⟨_, rfl, kys⟩
              have ky : IsQ w7 (.agg #[.bool (ngB (y).num), .slice Ay (digs 4294967296 (y).num.natAbs).length cy, .slice Dy (digs 4294967296 (y).den).length ey]) (y) := ⟨_, _, rfl, kys, kyd⟩
              refine ops_done ?_
              obtain ⟨u, hu⟩ : ∃ u, u = decide (x = y) := ⟨_, rfl⟩
              have HU := Lib.hid hu
              by_cases hxy : x = y
              · have HA2 : Hid (p.take (k + 1) = q.take (k + 1)) := by show _ = _; rw [take_snoc HQ0.out, take_snoc HY.out, HA.out, hxy]
                rw [decide_eq_true hxy] at hu
                subst hu
                clear hxy
                have sB := bb.size
                go_upto_region 7 with (fail)
                refine flowp 5 [Pd.eq (.func (.func 52) #[] #[]), Pd.eq (.agg #[.bool (ngB (x).num), .slice Ae0 (digs 4294967296 (x).num.natAbs).length ce0, .slice De0 (digs 4294967296 (x).den).length ee0]), Pd.eq (.agg #[.bool (ngB (y).num), .slice Ay (digs 4294967296 (y).num.natAbs).length cy, .slice Dy (digs 4294967296 (y).den).length ey]), Pd.eq (.bool true), Pd.eq (.bool false)] (by kernel_rfl) ?ob14 ?done14
                case ob14 =>
                  refine And.intro (ob_move rfl (wt_none rfl) (ev_far rfl rfl) (fun _ _ h => h)) ?_
                  refine And.intro (ob_load rfl (wt_none rfl) (ev_far rfl rfl) (fun w2 hb => run_loadAll Tryz.underlying36 rfl (by kernel_rfl) (Be0.below hb)) (fun _ _ => rfl)) ?_
                  refine And.intro (ob_load rfl (wt_none rfl) (ev_far rfl rfl) (fun w2 hb => run_loadAll Tryz.underlying36 rfl (by kernel_rfl) (By.below hb)) (fun _ _ => rfl)) ?_
                  refine And.intro (ob_callv2 rfl (ev_dep (j := 0) (by kernel_rfl) rfl rfl) Tryz.func52 (by kernel_rfl) (wt_none rfl) (ev_dep (j := 1) (by kernel_rfl) rfl rfl) (ev_dep (j := 2) (by kernel_rfl) rfl rfl) (fun w2 u0 u1 hb h0 h1 => by obtain rfl := h0; obtain rfl := h1; exact (same8_any _ _ x y true _ (ke0.below hb) (ky.below hb) HU.out).mono fun e w3 h => RetV.pd h)) ?_
                  refine And.intro (ob_un rfl (wt_none rfl) (ev_dep (j := 3) (by kernel_rfl) rfl rfl) (fun _ => un_not _ _) (fun _ => rfl)) ?_
                  trivial
                case done14 =>
                  refine fun w9 hb9 v0 h0 v1 h1 v2 h2 v3 h3 v4 h4 b hbf => ?_
                  obtain rfl := h0; obtain rfl := h1; obtain rfl := h2; obtain rfl := h3; obtain rfl := h4
                  simp only [Act.put, List.setIfInBounds_toArray, List.set_cons_zero, List.set_cons_succ] at hbf
                  subst hbf
                  replace Be0 := Be0.below hb9
                  replace ke0s := ke0s.below hb9
                  replace ke0d := ke0d.below hb9
                  replace ke0z := ke0z.below hb9
                  replace ke0 := ke0.below hb9
                  replace By := By.below hb9
                  replace kys := kys.below hb9
                  replace kyd := kyd.below hb9
                  replace kyz := kyz.below hb9
                  replace ky := ky.below hb9
                  replace bb := bb.trans (hb9.mono bb.size)
                  have hsz9 := bb.size
                  refine ops_done ?_
                  have hsk : p.length - (k + 1) < p.length - k := by omega
                  go_wp2
                  go_roundw
                  case rel => exact ⟨k + 1, by omega, HA2, bb, by go_num⟩
                  case measure => simp [intOf]; omega
              · have HW : Hid (b = false) := by
                  show _ = _
                  rw [HB.out]
                  refine decide_eq_false fun e => ?_
                  have h0 := HQ0.out
                  rw [e, HY.out] at h0
                  exact hxy (Option.some.inj h0).symm
                rw [decide_eq_false hxy] at hu
                subst hu
                clear hxy
                have sB := bb.size
                go_upto_region 7 with (fail)
                refine flowp 5 [Pd.eq (.func (.func 52) #[] #[]), Pd.eq (.agg #[.bool (ngB (x).num), .slice Ae0 (digs 4294967296 (x).num.natAbs).length ce0, .slice De0 (digs 4294967296 (x).den).length ee0]), Pd.eq (.agg #[.bool (ngB (y).num), .slice Ay (digs 4294967296 (y).num.natAbs).length cy, .slice Dy (digs 4294967296 (y).den).length ey]), Pd.eq (.bool false), Pd.eq (.bool true)] (by kernel_rfl) ?ob15 ?done15
                case ob15 =>
                  refine And.intro (ob_move rfl (wt_none rfl) (ev_far rfl rfl) (fun _ _ h => h)) ?_
                  refine And.intro (ob_load rfl (wt_none rfl) (ev_far rfl rfl) (fun w2 hb => run_loadAll Tryz.underlying36 rfl (by kernel_rfl) (Be0.below hb)) (fun _ _ => rfl)) ?_
                  refine And.intro (ob_load rfl (wt_none rfl) (ev_far rfl rfl) (fun w2 hb => run_loadAll Tryz.underlying36 rfl (by kernel_rfl) (By.below hb)) (fun _ _ => rfl)) ?_
                  refine And.intro (ob_callv2 rfl (ev_dep (j := 0) (by kernel_rfl) rfl rfl) Tryz.func52 (by kernel_rfl) (wt_none rfl) (ev_dep (j := 1) (by kernel_rfl) rfl rfl) (ev_dep (j := 2) (by kernel_rfl) rfl rfl) (fun w2 u0 u1 hb h0 h1 => by obtain rfl := h0; obtain rfl := h1; exact (same8_any _ _ x y false _ (ke0.below hb) (ky.below hb) HU.out).mono fun e w3 h => RetV.pd h)) ?_
                  refine And.intro (ob_un rfl (wt_none rfl) (ev_dep (j := 3) (by kernel_rfl) rfl rfl) (fun _ => un_not _ _) (fun _ => rfl)) ?_
                  trivial
                case done15 =>
                  refine fun w9 hb9 v0 h0 v1 h1 v2 h2 v3 h3 v4 h4 b hbf => ?_
                  obtain rfl := h0; obtain rfl := h1; obtain rfl := h2; obtain rfl := h3; obtain rfl := h4
                  simp only [Act.put, List.setIfInBounds_toArray, List.set_cons_zero, List.set_cons_succ] at hbf
                  subst hbf
                  replace Be0 := Be0.below hb9
                  replace ke0s := ke0s.below hb9
                  replace ke0d := ke0d.below hb9
                  replace ke0z := ke0z.below hb9
                  replace ke0 := ke0.below hb9
                  replace By := By.below hb9
                  replace kys := kys.below hb9
                  replace kyd := kyd.below hb9
                  replace kyz := kyz.below hb9
                  replace ky := ky.below hb9
                  replace bb := bb.trans (hb9.mono bb.size)
                  have hsz9 := bb.size
                  refine ops_done ?_
                  go_wp2
                  go_ret
                  exact ⟨by rw [HW.out]; rfl, bb⟩
        · have HW : Hid (b = true) := by
            show _ = _
            rw [HB.out]
            have := HA.out
            rw [List.take_of_length_le (by omega), List.take_of_length_le (by have := HE.out; omega)] at this
            exact decide_eq_true this
          go_wp2
          go_ret
          exact ⟨by rw [HW.out]; rfl, bb⟩
  · have HNE : Hid ((((p.length : Nat) : Int) != ((q.length : Nat) : Int)) = true) := by show _ = _; rw [bne_iff_ne]; omega
    have HW : Hid (b = false) := by show _ = _; rw [HB.out]; exact decide_eq_false fun e => he (by rw [e])
    clear he
    have sB := bb.size
    refine flowp 5 [Pd.eq (.slice A0 p.length c0), Pd.eq (.int .i64 ((p.length : Nat) : Int)), Pd.eq (.slice A1 q.length c1), Pd.eq (.int .i64 ((q.length : Nat) : Int)), Pd.eq (.bool true)] (by kernel_rfl) ?ob10 ?done10
    case ob10 =>
      refine And.intro (ob_move rfl (wt_none rfl) (ev_far rfl rfl) (fun _ _ h => h)) ?_
      refine And.intro (ob_len rfl (wt_none rfl) (ev_dep (j := 0) (by kernel_rfl) rfl rfl) (fun _ _ hx => ⟨_, by rw [hx]; exact len_slice Tryz.underlying53 _ _ _ _, rfl⟩)) ?_
      refine And.intro (ob_move rfl (wt_none rfl) (ev_far rfl rfl) (fun _ _ h => h)) ?_
      refine And.intro (ob_len rfl (wt_none rfl) (ev_dep (j := 2) (by kernel_rfl) rfl rfl) (fun _ _ hx => ⟨_, by rw [hx]; exact len_slice Tryz.underlying53 _ _ _ _, rfl⟩)) ?_
      refine And.intro (ob_bin rfl (wt_none rfl) (ev_dep (j := 1) (by kernel_rfl) rfl rfl) (ev_dep (j := 3) (by kernel_rfl) rfl rfl) (fun _ _ _ hx hy => ⟨.bool true, by rw [hx, hy, bin_neq_int, HNE.out], rfl⟩)) ?_
      trivial
    case done10 =>
      refine fun w2 hb2 v0 h0 v1 h1 v2 h2 v3 h3 v4 h4 b hbf => ?_
      obtain rfl := h0; obtain rfl := h1; obtain rfl := h2; obtain rfl := h3; obtain rfl := h4
      simp only [Act.put, List.setIfInBounds_toArray, List.set_cons_zero, List.set_cons_succ] at hbf
      subst hbf
      replace bb := bb.trans (hb2.mono bb.size)
      have hsz2 := bb.size
      refine ops_done ?_
      go_wp2
      go_ret
      exact ⟨by rw [HW.out]; rfl, bb⟩
set_option maxHeartbeats 1600000 in
set_option maxRecDepth 100000 in
theorem fvsame_gen (a0 a1 : Value) (p q : List Rat) (b : Bool) (w : World) (h0 : SlF .u64 4294967296 w a0 p) (h1 : SlF .u64 4294967296 w a1 q) (hb : b = decide (p = q)) :
    Calls Tryz.prog 62 #[a0, a1] w (RetV (.bool b) w) := by
  have bb : Below w.heap.size w w := Below.refl _ _
  have sl0 := h0
  obtain ⟨A0, c0, rfl, hc0, hm0⟩ := h0.shape
  unfold maxLen at hm0
  have sl1 := h1
  obtain ⟨A1, c1, rfl, hc1, hm1⟩ := h1.shape
  unfold maxLen at hm1
  have HB := Lib.hid hb
  clear hb
  go_enter Tryz.func62, Tryz.ntmps62
  go_upto_region 1 with (fail)
  have hsz0 := bb.size
  have k0 := sl0.below bb
  have k1 := sl1.below bb
  have sB := bb.size
  refine flowp 4 [Pd.eq (.slice A0 p.length c0), Pd.eq (.slice A1 q.length c1), Pd.eq (.bool b), Pd.eq (.bool b)] (by kernel_rfl) ?ob16 ?done16
  case ob16 =>
    refine And.intro (ob_move rfl (wt_none rfl) (ev_far rfl rfl) (fun _ _ h => h)) ?_
    refine And.intro (ob_move rfl (wt_none rfl) (ev_far rfl rfl) (fun _ _ h => h)) ?_
    refine And.intro (ob_call3 rfl Tryz.func100 (by kernel_rfl) (wt_none rfl) (ev_dep (j := 0) (by kernel_rfl) rfl rfl) (ev_dep (j := 1) (by kernel_rfl) rfl rfl) (ev_func _) (fun w2 u0 u1 u2 hb h0 h1 h2 => by obtain rfl := h0; obtain rfl := h1; obtain rfl := h2; exact (eqf_any _ _ p q b _ (k0.below hb) (k1.below hb) HB.out).mono fun e w3 h => RetV.pd h)) ?_
    refine And.intro (ob_assign rfl (wt_none rfl) (ev_dep (j := 2) (by kernel_rfl) rfl rfl) (fun _ _ h => h)) ?_
    trivial
  case done16 =>
    refine fun w1 hb1 v0 h0 v1 h1 v2 h2 v3 h3 b hbf => ?_
    obtain rfl := h0; obtain rfl := h1; obtain rfl := h2; obtain rfl := h3
    simp only [Act.put, List.setIfInBounds_toArray, List.set_cons_zero, List.set_cons_succ] at hbf
    subst hbf
    replace bb := bb.trans (hb1.mono bb.size)
    have hsz1 := bb.size
    refine ops_done ?_
    go_wp2
    go_ret
    exact ⟨rfl, bb⟩
theorem wideq_at {t : List (List Rat)} {r : List Rat} (h : t[0]? = some r) : wideq t = r.length := by
  cases t with
  | nil => simp at h
  | cons s t =>
    obtain rfl : s = r := by simpa using h
    rfl
set_option maxHeartbeats 1600000 in
set_option maxRecDepth 100000 in
theorem msize_any (a0 : Value) (t : List (List Rat)) (w : World) (h0 : SlT .u64 4294967296 w a0 t) :
    Calls Tryz.prog 24 #[a0] w (RetV (.tuple #[.int .i64 ((t.length : Nat) : Int), .int .i64 ((wideq t : Nat) : Int)]) w) := by
  have bb : Below w.heap.size w w := Below.refl _ _
  have st0 := h0
  obtain ⟨A0, c0, rfl, hc0, hm0⟩ := h0.shape
  unfold maxLen at hm0
  go_enter Tryz.func24, Tryz.ntmps24
  go_upto_region 1 with (fail)
  have hsz0 := bb.size
  by_cases hn : t = []
  · subst hn
    have HE : Hid ((((([] : List (List Rat)).length : Nat) : Int) == 0) = true) := rfl
    have sB := bb.size
    refine flowp 3 [Pd.eq (.slice A0 ([] : List (List Rat)).length c0), Pd.eq (.int .i64 ((([] : List (List Rat)).length : Nat) : Int)), Pd.eq (.bool true)] (by kernel_rfl) ?ob1 ?done1
    case ob1 =>
      refine And.intro (ob_move rfl (wt_none rfl) (ev_far rfl rfl) (fun _ _ h => h)) ?_
      refine And.intro (ob_len rfl (wt_none rfl) (ev_dep (j := 0) (by kernel_rfl) rfl rfl) (fun _ _ hx => ⟨_, by rw [hx]; exact len_slice Tryz.underlying52 _ _ _ _, rfl⟩)) ?_
      refine And.intro (ob_bin rfl (wt_none rfl) (ev_dep (j := 1) (by kernel_rfl) rfl rfl) (ev_const _) (fun _ _ _ hx hy => ⟨.bool true, by rw [hx, hy, bin_eql_int, HE.out], rfl⟩)) ?_
      trivial
    case done1 =>
      refine fun w12 hb12 v0 h0 v1 h1 v2 h2 b hbf => ?_
      obtain rfl := h0; obtain rfl := h1; obtain rfl := h2
      simp only [Act.put, List.setIfInBounds_toArray, List.set_cons_zero, List.set_cons_succ] at hbf
      subst hbf
      replace bb := bb.trans (hb12.mono bb.size)
      have hsz12 := bb.size
      refine ops_done ?_
      go_wp2
      go_ret2
      exact ⟨rfl, bb⟩
  · have hl0 : 0 < t.length := List.length_pos_iff.2 hn
    obtain ⟨r, hr⟩ : ∃ r, t[0]? = some r := ⟨_, List.getElem?_eq_getElem hl0⟩
    have HE : Hid ((((t.length : Nat) : Int) == 0) = false) := by show _ = _; rw [beq_eq_false_iff_ne]; omega
    have HW : Hid (r.length = wideq t) := (wideq_at hr).symm
    obtain ⟨ad0, rfl⟩ := st0.place hn
    obtain ⟨Arr, crr, hir, ewr, srr⟩ := st0.at2 hr
    clear hr
    have sB := bb.size
    refine flowp 3 [Pd.eq (.slice (some ad0) t.length c0), Pd.eq (.int .i64 ((t.length : Nat) : Int)), Pd.eq (.bool false)] (by kernel_rfl) ?ob2 ?done2
    case ob2 =>
      refine And.intro (ob_move rfl (wt_none rfl) (ev_far rfl rfl) (fun _ _ h => h)) ?_
      refine And.intro (ob_len rfl (wt_none rfl) (ev_dep (j := 0) (by kernel_rfl) rfl rfl) (fun _ _ hx => ⟨_, by rw [hx]; exact len_slice Tryz.underlying52 _ _ _ _, rfl⟩)) ?_
      refine And.intro (ob_bin rfl (wt_none rfl) (ev_dep (j := 1) (by kernel_rfl) rfl rfl) (ev_const _) (fun _ _ _ hx hy => ⟨.bool false, by rw [hx, hy, bin_eql_int, HE.out], rfl⟩)) ?_
      trivial
    case done2 =>
      refine fun w12 hb12 v0 h0 v1 h1 v2 h2 b hbf => ?_
      obtain rfl := h0; obtain rfl := h1; obtain rfl := h2
      simp only [Act.put, List.setIfInBounds_toArray, List.set_cons_zero, List.set_cons_succ] at hbf
      subst hbf
      replace bb := bb.trans (hb12.mono bb.size)
      have hsz12 := bb.size
      refine ops_done ?_
      have ecr := (bb.cell (World.block_lt_of_cell? w _ ewr)).trans ewr
      have sB := bb.size
      go_upto_region 3 with (fail)
      refine flow 8 [Pd.eq (.slice (some ad0) t.length c0), Pd.eq (.int .i64 ((t.length : Nat) : Int)), Pd.eq (.slice (some ad0) t.length c0), Pd.eq (.pointer (some (ad0.add 0))), Pd.eq (.slice Arr r.length crr), Pd.eq (.int .i64 ((r.length : Nat) : Int)), Pd.eq (.int .i64 ((t.length : Nat) : Int)), Pd.eq (.int .i64 ((r.length : Nat) : Int))] (by kernel_rfl) (by kernel_rfl) ?ob3 ?done3
      case ob3 =>
        refine And.intro (ob_move rfl (wt_none rfl) (ev_far rfl rfl) (fun _ _ h => h)) ?_
        refine And.intro (ob_len rfl (wt_none rfl) (ev_dep (j := 0) (by kernel_rfl) rfl rfl) (fun _ _ hx => ⟨_, by rw [hx]; exact len_slice Tryz.underlying52 _ _ _ _, rfl⟩)) ?_
        refine And.intro (ob_move rfl (wt_none rfl) (ev_far rfl rfl) (fun _ _ h => h)) ?_
        refine And.intro (ob_indexAddr rfl (wt_none rfl) (ev_dep (j := 2) (by kernel_rfl) rfl rfl) (ev_const _) (fun _ _ _ hx hy => ⟨_, by rw [hx, hy]; exact index1_any (k := 0) Tryz.underlying52 (by kernel_rfl) ad0 hir _, rfl⟩)) ?_
        refine And.intro (ob_load rfl (wt_none rfl) (ev_dep (j := 3) (by kernel_rfl) rfl rfl) (fun w2 hb => run_load1 Tryz.underlying53 rfl ((hb.cell (World.block_lt_of_cell? w12 _ ecr)).trans ecr)) (fun _ _ => rfl)) ?_
        refine And.intro (ob_len rfl (wt_none rfl) (ev_dep (j := 4) (by kernel_rfl) rfl rfl) (fun _ _ hx => ⟨_, by rw [hx]; exact len_slice Tryz.underlying53 _ _ _ _, rfl⟩)) ?_
        refine And.intro (ob_assign rfl (wt_none rfl) (ev_dep (j := 1) (by kernel_rfl) rfl rfl) (fun _ _ h => h)) ?_
        refine And.intro (ob_assign rfl (wt_none rfl) (ev_dep (j := 5) (by kernel_rfl) rfl rfl) (fun _ _ h => h)) ?_
        trivial
      case done3 =>
        refine fun w13 hb13 v0 h0 v1 h1 v2 h2 v3 h3 v4 h4 v5 h5 v6 h6 v7 h7 b hbf => ?_
        obtain rfl := h0; obtain rfl := h1; obtain rfl := h2; obtain rfl := h3; obtain rfl := h4; obtain rfl := h5; obtain rfl := h6; obtain rfl := h7
        simp only [Act.put, List.setIfInBounds_toArray, List.set_cons_zero, List.set_cons_succ] at hbf
        subst hbf
        replace bb := bb.trans (hb13.mono bb.size)
        have hsz13 := bb.size
        refine any_done (by kernel_rfl) ?_
        go_wp2
        go_ret2
        exact ⟨by rw [HW.out]; rfl, bb⟩
set_option maxHeartbeats 3200000 in
set_option maxRecDepth 100000 in
theorem eqt_any (a0 a1 : Value) (p q : List (List Rat)) (b : Bool) (w : World) (h0 : SlT .u64 4294967296 w a0 p) (h1 : SlT .u64 4294967296 w a1 q) (hb : b = decide (p = q)) :
    Calls Tryz.prog 61 #[a0, a1, .func (.func 62) #[] #[]] w (RetV (.bool b) w) := by
  have bb : Below w.heap.size w w := Below.refl _ _
  have st0 := h0
  obtain ⟨A0, c0, rfl, hc0, hm0⟩ := h0.shape
  unfold maxLen at hm0
  have st1 := h1
  obtain ⟨A1, c1, rfl, hc1, hm1⟩ := h1.shape
  unfold maxLen at hm1
  have HB := Lib.hid hb
  clear hb
  go_enter Tryz.func61, Tryz.ntmps61
  go_upto_region 1 with (fail)
  have hsz0 := bb.size
  by_cases he : p.length = q.length
  · have HNE : Hid ((((p.length : Nat) : Int) != ((q.length : Nat) : Int)) = false) := by show _ = _; rw [bne_eq_false_iff_eq]; omega
    have HE := Lib.hid he
    clear he
    have sB := bb.size
    refine flowp 5 [Pd.eq (.slice A0 p.length c0), Pd.eq (.int .i64 ((p.length : Nat) : Int)), Pd.eq (.slice A1 q.length c1), Pd.eq (.int .i64 ((q.length : Nat) : Int)), Pd.eq (.bool false)] (by kernel_rfl) ?ob15 ?done15
    case ob15 =>
      refine And.intro (ob_move rfl (wt_none rfl) (ev_far rfl rfl) (fun _ _ h => h)) ?_
      refine And.intro (ob_len rfl (wt_none rfl) (ev_dep (j := 0) (by kernel_rfl) rfl rfl) (fun _ _ hx => ⟨_, by rw [hx]; exact len_slice Tryz.underlying52 _ _ _ _, rfl⟩)) ?_
      refine And.intro (ob_move rfl (wt_none rfl) (ev_far rfl rfl) (fun _ _ h => h)) ?_
      refine And.intro (ob_len rfl (wt_none rfl) (ev_dep (j := 2) (by kernel_rfl) rfl rfl) (fun _ _ hx => ⟨_, by rw [hx]; exact len_slice Tryz.underlying52 _ _ _ _, rfl⟩)) ?_
      refine And.intro (ob_bin rfl (wt_none rfl) (ev_dep (j := 1) (by kernel_rfl) rfl rfl) (ev_dep (j := 3) (by kernel_rfl) rfl rfl) (fun _ _ _ hx hy => ⟨.bool false, by rw [hx, hy, bin_neq_int, HNE.out], rfl⟩)) ?_
      trivial
    case done15 =>
      refine fun w12 hb12 v0 h0 v1 h1 v2 h2 v3 h3 v4 h4 b hbf => ?_
      obtain rfl := h0; obtain rfl := h1; obtain rfl := h2; obtain rfl := h3; obtain rfl := h4
      simp only [Act.put, List.setIfInBounds_toArray, List.set_cons_zero, List.set_cons_succ] at hbf
      subst hbf
      replace bb := bb.trans (hb12.mono bb.size)
      have hsz12 := bb.size
      refine ops_done ?_
      go_wp2
      go_loopw [17] (fun v17 wr => ∃ k : Nat, k ≤ p.length ∧ Hid (p.take k = q.take k) ∧ Below w.heap.size w wr ∧ v17 = .int .i64 (k : Int)) (fun v17 _ => p.length - (intOf v17).toNat)
      case atStart => exact ⟨0, by omega, rfl, bb, rfl⟩
      case round =>
        obtain ⟨k, hk, HA, hbw, rfl⟩ := hrel
        clear bb
        have bb := hbw
        clear hbw
        have hszr := bb.size
        by_cases hlt : k < p.length
        · have hlt2 : k < q.length := by have := HE.out; omega
          have hnp : p ≠ [] := List.length_pos_iff.1 (by omega)
          have hnq : q ≠ [] := List.length_pos_iff.1 (by omega)
          obtain ⟨x, hx⟩ : ∃ x, p[k]? = some x := ⟨_, List.getElem?_eq_getElem hlt⟩
          obtain ⟨y, hy⟩ : ∃ y, q[k]? = some y := ⟨_, List.getElem?_eq_getElem hlt2⟩
          have HX := Lib.hid hx
          have HY := Lib.hid hy
          obtain ⟨ad0, rfl⟩ := st0.place hnp
          obtain ⟨ad1, rfl⟩ := st1.place hnq
          obtain ⟨Arx, crx, hix, ewx, srx⟩ := st0.at2 hx
          obtain ⟨Ary, cry, hiy, ewy, sry⟩ := st1.at2 hy
          clear hx hy
          have ecx := (bb.cell (World.block_lt_of_cell? w _ ewx)).trans ewx
          have ecy := (bb.cell (World.block_lt_of_cell? w _ ewy)).trans ewy
          have sB := bb.size
          go_upto_region 5 with (fail)
          refine flowp 5 [Pd.eq (.int .i64 (k : Int)), Pd.eq (.pointer (some (ad0.add k))), Pd.eq (.slice Arx x.length crx), Pd.eq (.int .i64 (k : Int)), Pd.eq (.slice Arx x.length crx)] (by kernel_rfl) ?ob16 ?done16
          case ob16 =>
            refine And.intro (ob_move rfl (wt_none rfl) (ev_far rfl rfl) (fun _ _ h => h)) ?_
            refine And.intro (ob_indexAddr rfl (wt_none rfl) (ev_far rfl rfl) (ev_far rfl rfl) (fun _ _ _ hx hy => ⟨_, by rw [hx, hy]; exact index1_any (k := k) Tryz.underlying52 (by kernel_rfl) ad0 hlt _, rfl⟩)) ?_
            refine And.intro (ob_load rfl (wt_none rfl) (ev_dep (j := 1) (by kernel_rfl) rfl rfl) (fun w2 hb => run_load1 Tryz.underlying53 rfl ((hb.cell (World.block_lt_of_cell? wr _ ecx)).trans ecx)) (fun _ _ => rfl)) ?_
            refine And.intro (ob_assign rfl (wt_none rfl) (ev_dep (j := 0) (by kernel_rfl) rfl rfl) (fun _ _ h => h)) ?_
            refine And.intro (ob_assign rfl (wt_none rfl) (ev_dep (j := 2) (by kernel_rfl) rfl rfl) (fun _ _ h => h)) ?_
            trivial
          case done16 =>
            refine fun w14 hb14 v0 h0 v1 h1 v2 h2 v3 h3 v4 h4 b hbf => ?_
            obtain rfl := h0; obtain rfl := h1; obtain rfl := h2; obtain rfl := h3; obtain rfl := h4
            simp only [Act.put, List.setIfInBounds_toArray, List.set_cons_zero, List.set_cons_succ] at hbf
            subst hbf
            replace bb := bb.trans (hb14.mono bb.size)
            have hsz14 := bb.size
            refine ops_done ?_
            clear ecx ecy
            have ecy := (bb.cell (World.block_lt_of_cell? w _ ewy)).trans ewy
            have sB := bb.size
            go_upto_region 6 with (fail)
            refine flowp 5 [Pd.eq (.slice (some ad1) q.length c1), Pd.eq (.int .i64 (k : Int)), Pd.eq (.pointer (some (ad1.add k))), Pd.eq (.slice Ary y.length cry), Pd.eq (.slice Ary y.length cry)] (by kernel_rfl) ?ob17 ?done17
            case ob17 =>
              refine And.intro (ob_move rfl (wt_none rfl) (ev_far rfl rfl) (fun _ _ h => h)) ?_
              refine And.intro (ob_move rfl (wt_none rfl) (ev_far rfl rfl) (fun _ _ h => h)) ?_
              refine And.intro (ob_indexAddr rfl (wt_none rfl) (ev_dep (j := 0) (by kernel_rfl) rfl rfl) (ev_dep (j := 1) (by kernel_rfl) rfl rfl) (fun _ _ _ hx hy => ⟨_, by rw [hx, hy]; exact index1_any (k := k) Tryz.underlying52 (by kernel_rfl) ad1 hlt2 _, rfl⟩)) ?_
              refine And.intro (ob_load rfl (wt_none rfl) (ev_dep (j := 2) (by kernel_rfl) rfl rfl) (fun w2 hb => run_load1 Tryz.underlying53 rfl ((hb.cell (World.block_lt_of_cell? w14 _ ecy)).trans ecy)) (fun _ _ => rfl)) ?_
              refine And.intro (ob_assign rfl (wt_none rfl) (ev_dep (j := 3) (by kernel_rfl) rfl rfl) (fun _ _ h => h)) ?_
              trivial
            case done17 =>
              refine fun w15 hb15 v0 h0 v1 h1 v2 h2 v3 h3 v4 h4 b hbf => ?_
              obtain rfl := h0; obtain rfl := h1; obtain rfl := h2; obtain rfl := h3; obtain rfl := h4
              simp only [Act.put, List.setIfInBounds_toArray, List.set_cons_zero, List.set_cons_succ] at hbf
              subst hbf
              replace bb := bb.trans (hb15.mono bb.size)
              have hsz15 := bb.size
              refine ops_done ?_
              obtain ⟨u, hu⟩ : ∃ u, u = decide (x = y) := ⟨_, rfl⟩
              have HU := Lib.hid hu
              by_cases hxy : x = y
              · have HA2 : Hid (p.take (k + 1) = q.take (k + 1)) := by show _ = _; rw [List.take_add_one, List.take_add_one, HX.out, HY.out, HA.out, hxy]
                rw [decide_eq_true hxy] at hu
                subst hu
                clear hxy
                have sB := bb.size
                go_upto_region 7 with (fail)
                refine flowp 5 [Pd.eq (.func (.func 62) #[] #[]), Pd.eq (.slice Arx x.length crx), Pd.eq (.slice Ary y.length cry), Pd.eq (.bool true), Pd.eq (.bool false)] (by kernel_rfl) ?ob18 ?done18
                case ob18 =>
                  refine And.intro (ob_move rfl (wt_none rfl) (ev_far rfl rfl) (fun _ _ h => h)) ?_
                  refine And.intro (ob_move rfl (wt_none rfl) (ev_far rfl rfl) (fun _ _ h => h)) ?_
                  refine And.intro (ob_move rfl (wt_none rfl) (ev_far rfl rfl) (fun _ _ h => h)) ?_
                  refine And.intro (ob_callv2 rfl (ev_dep (j := 0) (by kernel_rfl) rfl rfl) Tryz.func62 (by kernel_rfl) (wt_none rfl) (ev_dep (j := 1) (by kernel_rfl) rfl rfl) (ev_dep (j := 2) (by kernel_rfl) rfl rfl) (fun w2 u0 u1 hb h0 h1 => by obtain rfl := h0; obtain rfl := h1; exact (fvsame_gen _ _ x y true _ ((srx.below bb).below hb) ((sry.below bb).below hb) HU.out).mono fun e w3 h => RetV.pd h)) ?_
                  refine And.intro (ob_un rfl (wt_none rfl) (ev_dep (j := 3) (by kernel_rfl) rfl rfl) (fun _ => un_not _ _) (fun _ => rfl)) ?_
                  trivial
                case done18 =>
                  refine fun w17 hb17 v0 h0 v1 h1 v2 h2 v3 h3 v4 h4 b hbf => ?_
                  obtain rfl := h0; obtain rfl := h1; obtain rfl := h2; obtain rfl := h3; obtain rfl := h4
                  simp only [Act.put, List.setIfInBounds_toArray, List.set_cons_zero, List.set_cons_succ] at hbf
                  subst hbf
                  replace bb := bb.trans (hb17.mono bb.size)
                  have hsz17 := bb.size
                  refine ops_done ?_
                  have hsk : p.length - (k + 1) < p.length - k := by omega
                  go_wp2
                  go_roundw
                  case rel => exact ⟨k + 1, by omega, HA2, bb, by go_num⟩
                  case measure => simp [intOf]; omega
              · have HW : Hid (b = false) := by
                  show _ = _
                  rw [HB.out]
                  refine decide_eq_false fun e => ?_
                  have h0 := HX.out
                  rw [e, HY.out] at h0
                  exact hxy (Option.some.inj h0).symm
                rw [decide_eq_false hxy] at hu
                subst hu
                clear hxy
                have sB := bb.size
                go_upto_region 7 with (fail)
                refine flowp 5 [Pd.eq (.func (.func 62) #[] #[]), Pd.eq (.slice Arx x.length crx), Pd.eq (.slice Ary y.length cry), Pd.eq (.bool false), Pd.eq (.bool true)] (by kernel_rfl) ?ob19 ?done19
                case ob19 =>
                  refine And.intro (ob_move rfl (wt_none rfl) (ev_far rfl rfl) (fun _ _ h => h)) ?_
                  refine And.intro (ob_move rfl (wt_none rfl) (ev_far rfl rfl) (fun _ _ h => h)) ?_
                  refine And.intro (ob_move rfl (wt_none rfl) (ev_far rfl rfl) (fun _ _ h => h)) ?_
                  refine And.intro (ob_callv2 rfl (ev_dep (j := 0) (by kernel_rfl) rfl rfl) Tryz.func62 (by kernel_rfl) (wt_none rfl) (ev_dep (j := 1) (by kernel_rfl) rfl rfl) (ev_dep (j := 2) (by kernel_rfl) rfl rfl) (fun w2 u0 u1 hb h0 h1 => by obtain rfl := h0; obtain rfl := h1; exact (fvsame_gen _ _ x y false _ ((srx.below bb).below hb) ((sry.below bb).below hb) HU.out).mono fun e w3 h => RetV.pd h)) ?_
                  refine And.intro (ob_un rfl (wt_none rfl) (ev_dep (j := 3) (by kernel_rfl) rfl rfl) (fun _ => un_not _ _) (fun _ => rfl)) ?_
                  trivial
                case done19 =>
                  refine fun w17 hb17 v0 h0 v1 h1 v2 h2 v3 h3 v4 h4 b hbf => ?_
                  obtain rfl := h0; obtain rfl := h1; obtain rfl := h2; obtain rfl := h3; obtain rfl := h4
                  simp only [Act.put, List.setIfInBounds_toArray, List.set_cons_zero, List.set_cons_succ] at hbf
                  subst hbf
                  replace bb := bb.trans (hb17.mono bb.size)
                  have hsz17 := bb.size
                  refine ops_done ?_
                  go_wp2
                  go_ret
                  exact ⟨by rw [HW.out]; rfl, bb⟩
        · have HW : Hid (b = true) := by
            show _ = _
            rw [HB.out]
            have := HA.out
            rw [List.take_of_length_le (by omega), List.take_of_length_le (by have := HE.out; omega)] at this
            exact decide_eq_true this
          go_wp2
          go_ret
          exact ⟨by rw [HW.out]; rfl, bb⟩
  · have HNE : Hid ((((p.length : Nat) : Int) != ((q.length : Nat) : Int)) = true) := by show _ = _; rw [bne_iff_ne]; omega
    have HW : Hid (b = false) := by show _ = _; rw [HB.out]; exact decide_eq_false fun e => he (by rw [e])
    clear he
    have sB := bb.size
    refine flowp 5 [Pd.eq (.slice A0 p.length c0), Pd.eq (.int .i64 ((p.length : Nat) : Int)), Pd.eq (.slice A1 q.length c1), Pd.eq (.int .i64 ((q.length : Nat) : Int)), Pd.eq (.bool true)] (by kernel_rfl) ?ob14 ?done14
    case ob14 =>
      refine And.intro (ob_move rfl (wt_none rfl) (ev_far rfl rfl) (fun _ _ h => h)) ?_
      refine And.intro (ob_len rfl (wt_none rfl) (ev_dep (j := 0) (by kernel_rfl) rfl rfl) (fun _ _ hx => ⟨_, by rw [hx]; exact len_slice Tryz.underlying52 _ _ _ _, rfl⟩)) ?_
      refine And.intro (ob_move rfl (wt_none rfl) (ev_far rfl rfl) (fun _ _ h => h)) ?_
      refine And.intro (ob_len rfl (wt_none rfl) (ev_dep (j := 2) (by kernel_rfl) rfl rfl) (fun _ _ hx => ⟨_, by rw [hx]; exact len_slice Tryz.underlying52 _ _ _ _, rfl⟩)) ?_
      refine And.intro (ob_bin rfl (wt_none rfl) (ev_dep (j := 1) (by kernel_rfl) rfl rfl) (ev_dep (j := 3) (by kernel_rfl) rfl rfl) (fun _ _ _ hx hy => ⟨.bool true, by rw [hx, hy, bin_neq_int, HNE.out], rfl⟩)) ?_
      trivial
    case done14 =>
      refine fun w12 hb12 v0 h0 v1 h1 v2 h2 v3 h3 v4 h4 b hbf => ?_
      obtain rfl := h0; obtain rfl := h1; obtain rfl := h2; obtain rfl := h3; obtain rfl := h4
      simp only [Act.put, List.setIfInBounds_toArray, List.set_cons_zero, List.set_cons_succ] at hbf
      subst hbf
      replace bb := bb.trans (hb12.mono bb.size)
      have hsz12 := bb.size
      refine ops_done ?_
      go_wp2
      go_ret
      exact ⟨by rw [HW.out]; rfl, bb⟩
set_option maxHeartbeats 1600000 in
set_option maxRecDepth 100000 in
theorem msame_any (a0 a1 : Value) (p q : List (List Rat)) (b : Bool) (w : World) (h0 : SlT .u64 4294967296 w a0 p) (h1 : SlT .u64 4294967296 w a1 q) (hb : b = decide (p = q)) :
    Calls Tryz.prog 26 #[a0, a1] w (RetV (.bool b) w) := by
  have bb : Below w.heap.size w w := Below.refl _ _
  have st0 := h0
  obtain ⟨A0, c0, rfl, hc0, hm0⟩ := h0.shape
  unfold maxLen at hm0
  have st1 := h1
  obtain ⟨A1, c1, rfl, hc1, hm1⟩ := h1.shape
  unfold maxLen at hm1
  have HB := Lib.hid hb
  clear hb
  go_enter Tryz.func26, Tryz.ntmps26
  go_upto_region 1 with (fail)
  have hsz0 := bb.size
  have sB := bb.size
  refine flowp 4 [Pd.eq (.slice A0 p.length c0), Pd.eq (.slice A1 q.length c1), Pd.eq (.bool b), Pd.eq (.bool b)] (by kernel_rfl) ?ob20 ?done20
  case ob20 =>
    refine And.intro (ob_move rfl (wt_none rfl) (ev_far rfl rfl) (fun _ _ h => h)) ?_
    refine And.intro (ob_move rfl (wt_none rfl) (ev_far rfl rfl) (fun _ _ h => h)) ?_
    refine And.intro (ob_call3 rfl Tryz.func61 (by kernel_rfl) (wt_none rfl) (ev_dep (j := 0) (by kernel_rfl) rfl rfl) (ev_dep (j := 1) (by kernel_rfl) rfl rfl) (ev_func _) (fun w2 u0 u1 u2 hb h0 h1 h2 => by obtain rfl := h0; obtain rfl := h1; obtain rfl := h2; exact (eqt_any _ _ p q b _ ((st0.below bb).below hb) ((st1.below bb).below hb) HB.out).mono fun e w3 h => RetV.pd h)) ?_
    refine And.intro (ob_assign rfl (wt_none rfl) (ev_dep (j := 2) (by kernel_rfl) rfl rfl) (fun _ _ h => h)) ?_
    trivial
  case done20 =>
    refine fun w11 hb11 v0 h0 v1 h1 v2 h2 v3 h3 b hbf => ?_
    obtain rfl := h0; obtain rfl := h1; obtain rfl := h2; obtain rfl := h3
    simp only [Act.put, List.setIfInBounds_toArray, List.set_cons_zero, List.set_cons_succ] at hbf
    subst hbf
    replace bb := bb.trans (hb11.mono bb.size)
    have hsz11 := bb.size
    refine ops_done ?_
    go_wp2
    go_ret
    exact ⟨rfl, bb⟩
set_option maxHeartbeats 1600000 in
set_option maxRecDepth 100000 in
theorem mayc_any (a0 : Value) (g n : Nat) (r : List Rat) (b : Bool) (w : World) (h0 : SlF .u64 4294967296 w a0 r) (hB : Blk w g 3 #[.int .i64 (n : Int)]) (hb : b = decide (r.length ≠ n)) :
    Calls Tryz.prog 97 #[a0, .pointer (some ⟨g, 0, none⟩)] w (RetV (.bool b) w) := by
  obtain ⟨A, c, rfl, _⟩ := h0.shape
  have c0 := hB.cell 0
  have HB : Hid ((((r.length : Nat) : Int) != (n : Int)) = b) := by
    show _ = _
    rw [hb]
    by_cases h : r.length = n
    · rw [decide_eq_false (fun k => k h), h]; exact bne_self_eq_false _
    · rw [decide_eq_true h, bne_iff_ne]; omega
  clear hb
  go_enter Tryz.func97, Tryz.ntmps97
  go_wp2
  go_ret
  exact ⟨by rw [← HB.out]; rfl, Below.refl _ _⟩
/-- A number that is below 0 just where b does not hold. -/
def RetIdx (b : Bool) (w : World) (e : Ending) (w' : World) : Prop := ∃ n : Int, e = .returned (.int .i64 n) ∧ decide (0 ≤ n) = b ∧ Below w.heap.size w w'
set_option maxHeartbeats 1600000 in
set_option maxRecDepth 100000 in
theorem mindex_any (a0 : Value) (g n : Nat) (t : List (List Rat)) (b : Bool) (w : World) (h0 : SlT .u64 4294967296 w a0 t) (hB : Blk w g 3 #[.int .i64 (n : Int)]) (hb : b = decide (∃ r ∈ t, r.length ≠ n)) :
    Calls Tryz.prog 117 #[a0, .func (.func 97) #[] #[.pointer (some ⟨g, 0, none⟩)]] w (RetIdx b w) := by
  have st0 := h0
  obtain ⟨A, c, rfl, hc, hm⟩ := h0.shape
  unfold maxLen at hm
  have HB := Lib.hid hb
  clear hb
  go_enter Tryz.func117, Tryz.ntmps117
  go_wp2
  go_loopw [8] (fun v8 wr => ∃ k : Nat, k ≤ t.length ∧ Hid (∀ r ∈ t.take k, r.length = n) ∧ Below w.heap.size w wr ∧ v8 = .int .i64 (k : Int)) (fun v8 _ => t.length - (intOf v8).toNat)
  case atStart => exact ⟨0, by omega, (by show ∀ r ∈ _, _; intro r hr; simp at hr), Below.refl _ _, rfl⟩
  case round =>
    obtain ⟨k, hk, HA, bb, rfl⟩ := hrel
    by_cases hlt : k < t.length
    · have hnt : t ≠ [] := List.length_pos_iff.1 (by omega)
      obtain ⟨x, hx⟩ : ∃ x, t[k]? = some x := ⟨_, List.getElem?_eq_getElem hlt⟩
      have HX := Lib.hid hx
      obtain ⟨ad, rfl⟩ := st0.place hnt
      obtain ⟨Ar, cr, hi, ec, sr⟩ := (st0.below bb).at2 hx
      have hBr := hB.below bb
      clear hx
      obtain ⟨u, hu⟩ : ∃ u, u = decide (x.length ≠ n) := ⟨_, rfl⟩
      go_wp2_with fail
      refine (mayc_any _ g n x u _ sr hBr hu).mono ?_
      rintro e w2 ⟨rfl, b2⟩
      have bb2 := bb.trans (b2.mono bb.size)
      by_cases hxn : x.length = n
      · obtain rfl : u = false := by rw [hu]; exact decide_eq_false fun k => k hxn
        have HA2 : Hid (∀ r ∈ t.take (k + 1), r.length = n) := by
          show ∀ r ∈ _, _
          intro r hr
          rw [List.take_add_one, HX.out] at hr
          rcases List.mem_append.1 hr with hr | hr
          · exact HA.out r hr
          · obtain rfl : r = x := by simpa using hr
            exact hxn
        have hsk : t.length - (k + 1) < t.length - k := by omega
        clear hu ec sr hBr
        go_wp2
        go_roundw
        case rel => exact ⟨k + 1, by omega, HA2, bb2, by go_num⟩
        case measure => simp [intOf]; omega
      · obtain rfl : u = true := by rw [hu]; exact decide_eq_true hxn
        have HW : Hid (b = true) := by
          show _ = _
          rw [HB.out]
          exact decide_eq_true ⟨x, List.mem_of_getElem? HX.out, hxn⟩
        clear hu ec sr hBr
        go_wp2
        go_ret
        exact ⟨(k : Int), rfl, by rw [HW.out]; exact decide_eq_true (by omega), bb2⟩
    · have HW : Hid (b = false) := by
        show _ = _
        rw [HB.out]
        refine decide_eq_false fun h => ?_
        obtain ⟨r, hr, hn⟩ := h
        have h1 := HA.out
        rw [List.take_of_length_le (by omega)] at h1
        exact hn (h1 r hr)
      go_wp2
      go_ret
      exact ⟨-1, rfl, by rw [HW.out]; rfl, bb⟩
set_option maxHeartbeats 1600000 in
set_option maxRecDepth 100000 in
theorem mcontains_any (a0 : Value) (g n : Nat) (t : List (List Rat)) (b : Bool) (w : World) (h0 : SlT .u64 4294967296 w a0 t) (hB : Blk w g 3 #[.int .i64 (n : Int)]) (hb : b = decide (∃ r ∈ t, r.length ≠ n)) :
    Calls Tryz.prog 96 #[a0, .func (.func 97) #[] #[.pointer (some ⟨g, 0, none⟩)]] w (RetV (.bool b) w) := by
  have st0 := h0
  obtain ⟨A, c, rfl, hc, hm⟩ := h0.shape
  unfold maxLen at hm
  go_enter Tryz.func96, Tryz.ntmps96
  go_wp2_with fail
  refine (mindex_any _ g n t b _ st0 hB hb).mono ?_
  rintro e w2 ⟨m, rfl, hm2, b2⟩
  have HM := Lib.hid hm2
  clear hm2 hb
  go_wp2
  go_ret
  exact ⟨by rw [← HM.out]; rfl, b2⟩
set_option maxHeartbeats 1600000 in
set_option maxRecDepth 100000 in
theorem mmay_any (a0 : Value) (t : List (List Rat)) (b : Bool) (w : World) (h0 : SlT .u64 4294967296 w a0 t) (hb : b = decide (mayq t)) :
    Calls Tryz.prog 55 #[a0] w (RetV (.bool b) w) := by
  have st0 := h0
  obtain ⟨A, c, rfl, hc, hm⟩ := h0.shape
  unfold maxLen at hm
  have hwl : wideq t ≤ 9223372036854775807 := by
    by_cases hn : t = []
    · rw [hn]; show 0 ≤ _; omega
    · obtain ⟨r, hr⟩ : ∃ r, t[0]? = some r := ⟨_, List.getElem?_eq_getElem (List.length_pos_iff.2 hn)⟩
      obtain ⟨ad, Ar, cr, _, _, _, sr⟩ := st0.at_ hr
      obtain ⟨_, _, e, h1, h2⟩ := sr.shape
      unfold maxLen at h2
      rw [wideq_at hr]; omega
  have HB := Lib.hid hb
  clear hb
  go_enter Tryz.func55, Tryz.ntmps55
  go_wp2_with fail
  refine (msize_any _ t _ st0).mono ?_
  rintro e w2 ⟨rfl, b2⟩
  have st2 := st0.below b2
  go_upto_region 2 with (fail)
  have bn := Blk.new w2 3 #[.int .i64 ((wideq t : Nat) : Int)]
  have ba := below_alloc (w := w2) (Nat.le_refl _) (.cells #[.int .i64 ((wideq t : Nat) : Int)] 3)
  obtain ⟨g, hg⟩ : ∃ g, g = w2.heap.size := ⟨_, rfl⟩
  obtain ⟨w3, hw3⟩ : ∃ w3, w3 = w2.alloc (.cells #[.int .i64 ((wideq t : Nat) : Int)] 3) := ⟨_, rfl⟩
  rw [← hw3] at bn ba ⊢
  rw [← hg] at bn ⊢
  have bb : Below w.heap.size w w3 := b2.trans (ba.mono b2.size)
  have st3 := st0.below bb
  clear hw3 hg ba b2 st2
  have c0 := bn.cell 0
  have z0 := bn.frozen 0
  by_cases h1 : 200 < t.length
  · have h1' : (200 : Int) < ((t.length : Nat) : Int) := by omega
    have HW : Hid (b = false) := by show _ = _; rw [HB.out]; exact decide_eq_false fun h => by have := h.1; omega
    go_wp2
    go_ret
    exact ⟨by rw [HW.out]; rfl, bb⟩
  · have h1' : ¬ (200 : Int) < ((t.length : Nat) : Int) := by omega
    by_cases h2 : 200 < wideq t
    · have h2' : (200 : Int) < ((wideq t : Nat) : Int) := by omega
      have HW : Hid (b = false) := by show _ = _; rw [HB.out]; exact decide_eq_false fun h => by have := h.2.1; omega
      go_wp2
      go_ret
      exact ⟨by rw [HW.out]; rfl, bb⟩
    · have h2' : ¬ (200 : Int) < ((wideq t : Nat) : Int) := by omega
      obtain ⟨u, hu⟩ : ∃ u, u = decide (∃ r ∈ t, r.length ≠ wideq t) := ⟨_, rfl⟩
      have HW : Hid ((!u) = b) := by
        show _ = _
        rw [HB.out, hu]
        by_cases he : evenq t
        · rw [decide_eq_true (show mayq t from ⟨by omega, by omega, he⟩), decide_eq_false fun h => by obtain ⟨r, hr, hn⟩ := h; exact hn (he r hr)]; rfl
        · have e1 : decide (mayq t) = false := decide_eq_false fun h => he h.2.2
          have e2 : decide (∃ r ∈ t, r.length ≠ wideq t) = true := decide_eq_true (Classical.byContradiction fun h => he fun r hr => Classical.byContradiction fun hn => h ⟨r, hr, hn⟩)
          rw [e1, e2]; rfl
      have HU := Lib.hid hu
      clear hu
      go_wp2_with fail
      refine (mcontains_any _ g (wideq t) t u _ st3 bn HU.out).mono ?_
      rintro e w4 ⟨rfl, b4⟩
      have bb4 := bb.trans (b4.mono bb.size)
      clear c0 z0
      go_wp2
      go_ret
      exact ⟨by rw [← HW.out]; rfl, bb4⟩
set_option maxHeartbeats 1600000 in
set_option maxRecDepth 100000 in
theorem mcheck_any (a0 : Value) (t : List (List Rat)) (n : Int) (w : World) (h0 : SlT .u64 4294967296 w a0 t) (hn : n = if mayq t then 0 else 8) :
    Calls Tryz.prog 20 #[a0] w (RetV (.int .i64 n) w) := by
  have st0 := h0
  obtain ⟨A, c, rfl, hc, hm⟩ := h0.shape
  have HN := Lib.hid hn
  clear hn
  go_enter Tryz.func20, Tryz.ntmps20
  by_cases h : mayq t
  · have HW : Hid (n = 0) := by show _ = _; rw [HN.out, if_pos h]
    go_wp2_with fail
    refine (mmay_any _ t true _ st0 (decide_eq_true h).symm).mono ?_
    rintro e w2 ⟨rfl, b2⟩
    go_wp2
    go_ret
    exact ⟨by rw [HW.out]; rfl, b2⟩
  · have HW : Hid (n = 8) := by show _ = _; rw [HN.out, if_neg h]
    go_wp2_with fail
    refine (mmay_any _ t false _ st0 (decide_eq_false h).symm).mono ?_
    rintro e w2 ⟨rfl, b2⟩
    go_wp2
    go_ret
    exact ⟨by rw [HW.out]; rfl, b2⟩
end Go.Proofs.YtpcdkepkipadaaaGreat.rat
