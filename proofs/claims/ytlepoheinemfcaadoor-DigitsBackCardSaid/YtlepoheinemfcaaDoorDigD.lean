/- digits.paired: neighbours put together. Condition: the slices read as numbers; some limbs. -/
import Derived.Test.YtlepoheinemfcaaDoorDigC
namespace Go.Proofs.YtlepoheinemfcaaDoor.mem
open Go.RowKit Go.Proofs.YtlepoheinemfcaaDoor.num
set_option linter.unusedVariables false
section
variable {P : Program}
/-- append to a row of slices that the call made, from whatever slice of slices. -/
theorem run_append_row {w : World} {base : Nat} {t ty e : TypeId} (hT : P.underlying t = some (.slice e)) (hI : ∃ i, P.info? e = some i ∧ i.zero = some (.slice none 0 0) ∧ i.size = 1 ∧ i.bytes = 24) {v : Value} {vs news : List Value} (hown : RowV w base e v vs) {A : Option Addr} {m c : Nat} (hm : m = news.length)
    (hr : ∀ (i : Nat) (u : Value), news[i]? = some u → ∃ ad, A = some ad ∧ w.cell? (ad.add i) = some u) (h1 : ∀ u ∈ news, u.oneCell' = true) (hlen : vs.length + m ≤ 1000000000) (hbase : base ≤ w.heap.size) :
    ∃ v' w', (Builtin.append_ #[t, t] ty #[v, .slice A m c]).run P w = .ok v' w' ∧ RowV w' base e v' (vs ++ news) ∧ w.grownBy w' v.ownBlock ∧ (v'.ownBlock = v.ownBlock ∨ v'.ownBlock = some w.heap.size) := by
  obtain ⟨i, hi, hz, hs, hb⟩ := hI
  subst hm
  rcases A with _ | ad
  · have hn : news = [] := by
      rcases news with _ | ⟨d, n⟩
      · rfl
      · obtain ⟨ad, h, _⟩ := hr 0 d (by simp); cases h
    subst hn
    refine ⟨v, w, ?_, by simpa using hown, World.grownBy.refl _ _, Or.inl rfl⟩
    rcases hown.2 with ⟨rfl, h0⟩ | ⟨g, cap, cur, rfl, _, _, hnc, _⟩
    · simp [Builtin.append_, run_underlying hT, sizeOf, typeInfo, hi, Builtin.lenOf, Builtin.firstCells]
    · simp [Builtin.append_, run_underlying hT, sizeOf, typeInfo, hi, Builtin.lenOf, Builtin.firstCells, hnc, storeCells]
  · have hcells : ∀ j u, news[j]? = some u → w.cell? (ad.add j) = some u := by
      intro j u hu
      obtain ⟨ad', h, hc⟩ := hr j u hu
      injection h with h; subst h; exact hc
    obtain ⟨v', w', g1, g2, g3, _, g5⟩ := run_append_own_at (P := P) w base t ty e i (.slice none 0 0) 1 24 hT hi hz hs hb rfl (by decide) v vs.length vs hown ad news.length c news (by simp) hcells h1 (by unfold maxLen; omega) (by omega) hbase
    exact ⟨v', w', g1, by unfold RowV; rw [List.length_append]; exact g2, g3, g5⟩
theorem keeps_of {w w' : World} {v v' : Value} (hg : w.grownBy w' v.ownBlock) (h3 : v'.ownBlock = v.ownBlock ∨ v'.ownBlock = some w.heap.size) : Keeps w w' v v' := by
  intro k q l hq hf
  refine ⟨hq.farKept hf hg, ?_⟩
  rintro ad n c rfl hn
  rcases h3 with h3 | h3
  · rw [h3]; exact hf ad n c rfl hn
  · rw [h3]
    intro e1
    obtain ⟨A, c', e3, g1, g2, g3⟩ := hq
    injection e3 with e3 e4 e5
    subst e3; subst e4
    obtain ⟨ad', he, hc⟩ := g3 0 _ (List.getElem?_eq_getElem hn)
    injection he with he; subst he
    have h6 := World.block_lt_of_cell? w _ hc
    rw [block_add] at h6
    injection e1 with e1
    omega
theorem wp_append_row {w : World} {o : Oper} {a : Act} {K : Act → World → Prop} {Q : Exit → Act → World → Prop} (s x : Operand) {t : TypeId}
    (ho : o.op = .call { callee := .builtin .append, args := #[s, x], argTypes := #[t, t] })
    {base : Nat} {e : TypeId} (hT : P.underlying t = some (.slice e)) (hI : ∃ i, P.info? e = some i ∧ i.zero = some (.slice none 0 0) ∧ i.size = 1 ∧ i.bytes = 24) {v : Value} {vs news : List Value} (hs : a.eval s = v) (hown : RowV w base e v vs) {A : Option Addr} {m c : Nat} (hx : a.eval x = .slice A m c) (hm : m = news.length)
    (hr : ∀ (i : Nat) (u : Value), news[i]? = some u → ∃ ad, A = some ad ∧ w.cell? (ad.add i) = some u) (h1 : ∀ u ∈ news, u.oneCell' = true) (hlen : vs.length + m ≤ 1000000000) (hbase : base ≤ w.heap.size)
    (h : ∀ v' w', RowV w' base e v' (vs ++ news) → Below base w w' → Hid (Keeps w w' v v') → K (a.put o.dst v') w') : o.wp P a w K Q := by
  obtain ⟨v', w', hrun, h2, h3, h4⟩ := run_append_row (P := P) (ty := o.type) hT hI hown (c := c) hm hr h1 hlen hbase
  unfold Oper.wp execOp
  simp only [ho, resolve, invoke, builtin, Sem.run_bind, Sem.run_pure, Result.andThen_ok, List.map_toArray, List.map_cons, List.map_nil, hs, hx, hrun]
  exact h v' w' h2 ((Below.refl base w).grown h3 hbase hown.base_le) (keeps_of h3 h4)
theorem wpList_append_row {w : World} {ops : Array Oper} {rest : List Oper} {o : Oper} {a : Act} {Q : Exit → Act → World → Prop} (hgd : o.guard = none) (s x : Operand) {t : TypeId}
    (ho : o.op = .call { callee := .builtin .append, args := #[s, x], argTypes := #[t, t] })
    {base : Nat} {e : TypeId} (hT : P.underlying t = some (.slice e)) (hI : ∃ i, P.info? e = some i ∧ i.zero = some (.slice none 0 0) ∧ i.size = 1 ∧ i.bytes = 24) {v : Value} {vs news : List Value} (hs : a.eval s = v) (hown : RowV w base e v vs) {A : Option Addr} {m c : Nat} (hx : a.eval x = .slice A m c) (hm : m = news.length)
    (hr : ∀ (i : Nat) (u : Value), news[i]? = some u → ∃ ad, A = some ad ∧ w.cell? (ad.add i) = some u) (h1 : ∀ u ∈ news, u.oneCell' = true) (hlen : vs.length + m ≤ 1000000000) (hbase : base ≤ w.heap.size)
    (h : ∀ v' w', RowV w' base e v' (vs ++ news) → Below base w w' → Hid (Keeps w w' v v') → wpList P ops Q rest (a.put o.dst v') w') : wpList P ops Q (o :: rest) a w :=
  wpList_plain hgd fun _ hK => wp_append_row s x ho hT hI hs hown hx hm hr h1 hlen hbase fun v' w' h2 h3 h4 => hK _ _ (h v' w' h2 h3 h4)
theorem step_append_row {w : World} {ops : Array Oper} {o : Oper} {a : Act} {K : Act → World → Prop} {Q : Exit → Act → World → Prop} {E : Prop} (hgd : o.guard = none) (s x : Operand) {t : TypeId}
    (ho : o.op = .call { callee := .builtin .append, args := #[s, x], argTypes := #[t, t] })
    {base : Nat} {e : TypeId} (hT : P.underlying t = some (.slice e)) (hI : ∃ i, P.info? e = some i ∧ i.zero = some (.slice none 0 0) ∧ i.size = 1 ∧ i.bytes = 24) {v : Value} {vs news : List Value} (hs : a.eval s = v) (hown : RowV w base e v vs) {A : Option Addr} {m c : Nat} (hx : a.eval x = .slice A m c) (hm : m = news.length)
    (hr : ∀ (i : Nat) (u : Value), news[i]? = some u → ∃ ad, A = some ad ∧ w.cell? (ad.add i) = some u) (h1 : ∀ u ∈ news, u.oneCell' = true) (hlen : vs.length + m ≤ 1000000000) (hbase : base ≤ w.heap.size)
    (h : ∀ v' w', RowV w' base e v' (vs ++ news) → Below base w w' → Hid (Keeps w w' v v') → K (a.put o.dst v') w') :
    if Region.wanted o (yielded ops a.tmps) = true then Oper.wp P o a w K Q else E := by
  have hw : Region.wanted o (yielded ops a.tmps) = true := by simp [Region.wanted, hgd]
  rw [if_pos hw]
  exact wp_append_row s x ho hT hI hs hown hx hm hr h1 hlen hbase h
end
end Go.Proofs.YtlepoheinemfcaaDoor.mem
namespace Go.Proofs.YtlepoheinemfcaaDoor.str
open Go.RowKit Go.Proofs.YtlepoheinemfcaaDoor.num Go.Proofs.YtlepoheinemfcaaDoor.mem Go.Proofs.YtlepoheinemfcaaDoor.txt Go.Proofs.YtlepoheinemfcaaDoor.nat
set_option linter.unusedVariables false

theorem isV_one {w : World} {t : TypeId} {u : Value} : ∀ (i : Nat) (x : Value), [u][i]? = some x → ∃ ad, some (⟨w.heap.size, 0, none⟩ : Addr) = some ad ∧ (w.alloc (.cells #[u] t)).cell? (ad.add i) = some x := by
  intro i x hx
  obtain ⟨A, c, e, _, h⟩ := isV_lit w t [u]
  injection e with e _ _
  obtain ⟨ad, h1, h2⟩ := h i x hx
  exact ⟨ad, by rw [e]; exact h1, h2⟩
theorem add_zero_ (ad : Addr) : ad.add 0 = ad := by unfold Addr.add; simp
/-- The call ends with a row of these numbers. -/
def RetRow (xs : List Nat) (w : World) (e : Ending) (w' : World) : Prop := ∃ V vs, e = .returned V ∧ IsV w' V vs ∧ Nums w' vs xs ∧ Below w.heap.size w w'
theorem Nums.tail2 {w : World} {t1 t2 : Value} {ts : List Value} {z1 z2 : Nat} {zs : List Nat} (h : Nums w (t1 :: t2 :: ts) (z1 :: z2 :: zs)) : IsS w .u64 t1 (digs 4294967296 z1) ∧ IsS w .u64 t2 (digs 4294967296 z2) ∧ Nums w ts zs := by
  refine ⟨h.2 0 _ _ rfl rfl, h.2 1 _ _ rfl rfl, by have := h.1; simp at this; exact this, fun i u x hu hx => h.2 (i + 2) u x (by simpa using hu) (by simpa using hx)⟩
theorem IsV.tail2 {w : World} {ad : Addr} {t1 t2 : Value} {ts : List Value} {n c : Nat} (h : IsV w (.slice (some ad) n c) (t1 :: t2 :: ts)) : IsV w (.slice (if c = 2 then some ad else some (ad.add 2)) (n - 2) (c - 2)) ts := by
  obtain ⟨A, c', e, hc, hcell⟩ := h
  injection e with e1 e2 e3
  subst e1; subst e2; subst e3
  simp at hc
  by_cases h2 : c = 2
  · have : ts = [] := List.length_eq_zero_iff.1 (by omega)
    subst this
    exact ⟨_, _, rfl, by simp, fun i u hu => by simp at hu⟩
  · rw [if_neg h2]
    refine ⟨some (ad.add 2), c - 2, rfl, by omega, fun i u hu => ?_⟩
    obtain ⟨ad', ha, hc2⟩ := hcell (i + 2) u (by simpa using hu)
    injection ha with ha; subst ha
    refine ⟨_, rfl, ?_⟩
    have e : (ad.add 2).add i = ad.add (i + 2) := by
      unfold Addr.add
      by_cases hi : i = 0
      · simp [hi]
      · simp [hi]; omega
    rw [e]; exact hc2

set_option maxHeartbeats 6400000 in
set_option maxRecDepth 100000 in
theorem paired_any (V u : Value) (vs : List Value) (xs : List Nat) (p : Nat) (w : World) (hV : IsV w V vs) (hN : Nums w vs xs) (hu : IsS w .u64 u (digs 4294967296 p)) (hl : vs.length ≤ 1000000) (lp : (digs 4294967296 p).length ≤ 10000) (lx : ∀ x ∈ xs, (digs 4294967296 x).length ≤ 10000) :
    Calls Tryd.prog 43 #[V, u] w (RetRow (pairs p xs) w) := by
  obtain ⟨Au, cu, rfl, _⟩ := id hu
  have HVL := Lib.hid hl
  have HLX := Lib.hid lx
  clear hl lx
  obtain ⟨A0, c0, rfl, _⟩ := id hV
  go_enter Tryd.func43, Tryd.ntmps43
  go_wp2
  go_loopw [0, 5] (fun v0 vo wr => ∃ (ts us : List Value) (zs ys : List Nat), IsV w v0 ts ∧ Nums w ts zs ∧ Hid (ts.length ≤ 1000000 ∧ us.length ≤ 1000000 - ts.length) ∧ Hid (∀ x ∈ zs, (digs 4294967296 x).length ≤ 10000) ∧ RowV wr w.heap.size 23 vo us ∧ NumsFar wr vo us ys ∧ Hid (ys ++ pairs p zs = pairs p xs) ∧ Below w.heap.size w wr) (fun v0 _ _ => lenOf v0)
  case atStart => exact ⟨vs, [], xs, [], hV, hN, ⟨HVL.out, by simp⟩, HLX, rowV_nil _ _ _, NumsFar.nil _ _, by show _ = _; simp, Below.refl _ _⟩
  case round =>
    clear hV hN
    obtain ⟨ts, us, zs, ys, hV, hN, HL, HZ, hrow, hnums, HE, hb⟩ := hrel
    obtain ⟨A, c, rfl, hc, hcells⟩ := id hV
    by_cases hlt : 1 < ts.length
    · obtain ⟨t1, t2, tr, rfl⟩ : ∃ t1 t2 tr, ts = t1 :: t2 :: tr := by
        match ts, hlt with
        | a :: b :: r, _ => exact ⟨a, b, r, rfl⟩
      obtain ⟨z1, z2, zr, rfl⟩ : ∃ z1 z2 zr, zs = z1 :: z2 :: zr := by
        have h1 := hN.1
        match zs, h1 with
        | a :: b :: r, _ => exact ⟨a, b, r, rfl⟩
      obtain ⟨ad, rfl, hc0⟩ := hcells 0 t1 rfl
      obtain ⟨ad1, e1, hc1⟩ := hcells 1 t2 rfl
      injection e1 with e1; subst e1
      obtain ⟨hv1, hv2, hN2⟩ := Nums.tail2 hN
      have hV2 := IsV.tail2 hV
      have lz1 := HZ.out z1 (by simp)
      have lz2 := HZ.out z2 (by simp)
      have lm := mul_len z2 p
      have la := add_len z1 (z2 * p)
      have hk1 := World.block_lt_of_cell? w _ hc0
      have hk2 := World.block_lt_of_cell? w _ hc1
      have hc0r := (hb.cell hk1).trans hc0
      have hc1r := (hb.cell hk2).trans hc1
      rw [add_zero_] at hc0r
      have w1 : IsS wr.drew .u64 t1 (digs 4294967296 z1) := (hv1.below hb).drew
      have w2 : IsS wr.drew .u64 t2 (digs 4294967296 z2) := (hv2.below hb).drew
      have wu : IsS wr.drew .u64 (.slice Au (digs 4294967296 p).length cu) (digs 4294967296 p) := (hu.below hb).drew
      have rowd : RowV wr.drew w.heap.size 23 _ us := hrow
      have numsd : NumsFar wr.drew _ us ys := hnums.below (Below.refl _ _).drew
      obtain ⟨B1, d1, rfl, _⟩ := id hv1
      obtain ⟨B2, d2, rfl, _⟩ := id hv2
      generalize hn : (Value.slice B1 (digs 4294967296 z1).length d1 :: Value.slice B2 (digs 4294967296 z2).length d2 :: tr).length = n at hlt hV2 hc HL ⊢
      have hln : (1 : Int) < (n : Int) := by omega
      have hln2 : 0 < n := by omega
      have hln4 : 1 < n := by omega
      unfold Addr.add at hc1r
      simp only [Nat.one_ne_zero, if_false] at hc1r
      have hln3 : (2 : Int) ≤ (n : Int) := by omega
      have HNn := Lib.hid hn
      clear hcells hc0 hc1 hv1 hv2 hN hV hlt hrow hnums hn
      go_wp2
      go_region_law (first
        | (refine step_append_row rfl (.tmp 9) (.tmp 19) rfl Tryd.underlying44 info_nat (by rfl) (row2.below (below_alloc (Nat.le_refl _) _)) (by rfl) (news := [_]) rfl isV_one (by intro x hx; obtain rfl := List.mem_singleton.1 hx; rfl) (by have := HL.out; simp; omega) (Nat.le_trans bsz2 (by simp)) ?_; intro v3 w5 row3 bb3 HK)
        | (go_simp; go_at_call 51; refine (mul_any _ _ z2 p _ w2 wu (by omega) (by omega) (z2 * p) rfl).mono ?_; rintro e w3 ⟨v1, rfl, k1, f1, b1⟩; have row1 := rowd.below b1; have nums1 := numsd.below b1; have hc0r := (b1.cell (World.block_lt_of_cell? wr _ hc0r)).trans hc0r; have wt1 := w1.below b1)
        | (go_simp; go_at_call 58; refine (add_any _ _ z1 (z2 * p) _ wt1 k1 (z1 + z2 * p) rfl (by omega)).mono ?_; rintro e w4 ⟨v2, rfl, k2, f2, b2⟩; have row2 := row1.below b2; have nums2 := nums1.below b2; have fv2 := f2.far row1.under; obtain ⟨A5, d5, rfl, _⟩ := id k2; have bb2 := b1.trans (b2.mono b1.size); have bsz2 : w.heap.size ≤ w4.heap.size := Nat.le_trans hb.size bb2.size))
      all_goals
        have nums3 := (nums2.below (below_alloc (Nat.le_refl _) (.cells #[_] 23))).snoc HK.out (k2.below (below_alloc (Nat.le_refl _) _)) fv2
        have B4 : Below w.heap.size w w4 := hb.drew.trans (bb2.mono hb.size)
        have B5 : Below w.heap.size w w5 := (B4.alloc B4.size _).trans bb3
        have HE2 : Hid ((ys ++ [z1 + z2 * p]) ++ pairs p zr = pairs p xs) := by
          have h1 := HE.out
          show _ = _
          rw [← h1, pairs]; simp
        have HL2 : Hid (tr.length ≤ 1000000 ∧ (us ++ [Value.slice A5 (digs 4294967296 (z1 + z2 * p)).length d5]).length ≤ 1000000 - tr.length) := by
          have h1 := HL.out
          have h2 := HNn.out
          rw [List.length_cons, List.length_cons] at h2
          rw [List.length_append, List.length_singleton]
          exact ⟨by omega, by omega⟩
        have HZ2 : Hid (∀ x ∈ zr, (digs 4294967296 x).length ≤ 10000) := fun x hx => HZ.out x (by simp [hx])
        have hme : n - 2 < n := by omega
        by_cases hc2 : c = 2
        · rw [if_pos hc2, show c - 2 = 0 from by omega] at hV2
          clear B4 hb bb2 bb3 nums2 row2 k2 fv2 HK HE HL HZ hc0r hc1r
          go_wp2
          go_roundw
          case rel => exact ⟨tr, _, zr, _, hV2, hN2, HL2, HZ2, row3, nums3, HE2, B5⟩
          case measure => exact hme
        · rw [if_neg hc2] at hV2
          clear B4 hb bb2 bb3 nums2 row2 k2 fv2 HK HE HL HZ hc0r hc1r
          go_wp2
          go_roundw
          case rel => exact ⟨tr, _, zr, _, hV2, hN2, HL2, HZ2, row3, nums3, HE2, B5⟩
          case measure => exact hme
    · have hr : ∀ (i : Nat) (x : Value), ts[i]? = some x → ∃ ad, A = some ad ∧ wr.cell? (ad.add i) = some x := by
        intro i x hx
        obtain ⟨ad, h1, h2⟩ := hcells i x hx
        exact ⟨ad, h1, (hb.cell (World.block_lt_of_cell? w _ h2)).trans h2⟩
      have h1c : ∀ x ∈ ts, x.oneCell' = true := by
        intro x hx
        obtain ⟨i, hi⟩ := List.mem_iff_getElem?.1 hx
        have hi2 : i < ts.length := (List.getElem?_eq_some_iff.1 hi).1
        have hzl := hN.1
        exact one_of_isS (hN.2 i x _ hi (List.getElem?_eq_getElem (show i < zs.length by omega)))
      have HN := Lib.hid hN
      have HR := Lib.hid hr
      have H1 := Lib.hid h1c
      obtain ⟨n, hn⟩ : ∃ n, n = ts.length := ⟨_, rfl⟩
      have HNn := Lib.hid hn
      have hln : ¬ (1 : Int) < (n : Int) := by omega
      rw [← hn] at hc hV ⊢
      clear hcells hr h1c hN hV hlt hn
      go_wp2_with (at_builtin; refine wpList_append_row rfl (.tmp 23) (.tmp 24) rfl Tryd.underlying44 info_nat rfl hrow rfl HNn.out HR.out H1.out (by have h1 := HL.out; have h2 := HNn.out; omega) hb.size ?_; intro v3 w5 row3 bb3 HK)
      go_ret
      have hfar : ∀ x ∈ ts, Far _ x := fun x hx => (by
        obtain ⟨i, hi⟩ := List.mem_iff_getElem?.1 hx
        have hi2 : i < ts.length := (List.getElem?_eq_some_iff.1 hi).1
        have hzl := HN.out.1
        exact (HN.out.2 i x _ hi (List.getElem?_eq_getElem (show i < zs.length by omega))).farOld hrow.base_le)
      refine ⟨_, us ++ ts, rfl, RowV.isV row3, ?_, hb.trans bb3⟩
      rw [← HE.out]
      have hN := HN.out
      have hts : ts.length ≤ 1 := by have := HNn.out; omega
      match ts, zs, hN, hts, hfar with
      | [], [], hN, _, _ =>
        rw [List.append_nil]
        show Nums _ _ (ys ++ [])
        rw [List.append_nil]
        exact ⟨hnums.1.1, fun i a x ha hx => (HK.out _ _ _ (hnums.1.2 i a x ha hx) (hnums.2 a (List.mem_of_getElem? ha))).1⟩
      | [t], [z], hN, _, hfar => exact (hnums.snoc HK.out ((hN.2 0 t z rfl rfl).below hb) (hfar t (by simp))).1
      | [], z :: zr, hN, _, _ => exact absurd hN.1 (by simp)
      | [t], [], hN, _, _ => exact absurd hN.1 (by simp)
      | [t], z :: z2 :: zr, hN, _, _ => exact absurd hN.1 (by simp)
      | t :: t2 :: tr, zs, _, h, _ => exact absurd h (by simp)
end Go.Proofs.YtlepoheinemfcaaDoor.str
