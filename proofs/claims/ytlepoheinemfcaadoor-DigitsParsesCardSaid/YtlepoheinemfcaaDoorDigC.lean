/- digits.split: a number parted into numbers below a power. Condition: the slices read as numbers; some limbs. -/
import Derived.Test.YtlepoheinemfcaaDoorDigB
import Derived.Test.YtlepoheinemfcaaDoorDivT
namespace Go.Proofs.YtlepoheinemfcaaDoor.mem
open Go.RowKit Go.Proofs.YtlepoheinemfcaaDoor.num
set_option linter.unusedVariables false
section
variable {P : Program}
/-- 'all = append(all, x, y)', all a row of slices of the call's own. -/
theorem wpList_append_vals {w : World} {ops : Array Oper} {rest : List Oper} {o : Oper} {a : Act} {Q : Exit → Act → World → Prop} (hgd : o.guard = none) (s x : Operand) {t : TypeId}
    (ho : o.op = .call { callee := .builtin .append, args := #[s, x], argTypes := #[t, t] })
    {base : Nat} {e : TypeId} (hT : P.underlying t = some (.slice e)) (hI : ∃ i, P.info? e = some i ∧ i.zero = some (.slice none 0 0) ∧ i.size = 1 ∧ i.bytes = 24) {v u1 u2 : Value} {vs : List Value} (hs : a.eval s = v) (hown : RowV w base e v vs) (hx : a.eval x = .slice (some ⟨w.heap.size, 0, none⟩) 2 2) (hu : u1.oneCell' = true) (hu2 : u2.oneCell' = true)
    (hlen : vs.length ≤ 1000000000) (hbase : base ≤ w.heap.size)
    (h : ∀ v' w', RowV w' base e v' (vs ++ [u1, u2]) → Below base w w' → Hid (Keeps w w' v v') → wpList P ops Q rest (a.put o.dst v') w') : wpList P ops Q (o :: rest) a (w.alloc (.cells #[u1, u2] e)) := by
  obtain ⟨i, hi, hz, hsz, hby⟩ := hI
  refine wpList_append_lies (w.alloc (.cells #[u1, u2] e)) hgd s x t ho base e i (.slice none 0 0) 1 24 hT hi hz hsz hby rfl (by omega) v vs.length vs hs (World.ownsRow.alloc hown _) ⟨w.heap.size, 0, none⟩ 2 2 [u1, u2] hx rfl ?_ ?_ (by omega) (by unfold maxLen; omega) (by omega) (by simp; omega) _ rfl ?_
  · exact World.news_of_block (heap_alloc_new w _)
  · intro u' hu'
    rcases List.mem_cons.1 hu' with rfl | hu'
    · exact hu
    · obtain rfl := List.mem_singleton.1 hu'
      exact hu2
  · intro g cap w' h1 h2 h3 h4
    have h5 : w.grownBy w' v.ownBlock := grown_trans (World.grownBy_alloc w _ _) h2
    refine h _ w' (by unfold RowV; rw [List.length_append]; exact h1) ((Below.refl base w).grown h5 hbase hown.base_le) ?_
    show Keeps _ _ _ _
    intro k q l hq hf
    refine ⟨hq.farKept hf h5, ?_⟩
    rintro ad n c rfl hn
    rcases h3 with h3 | h3
    · have := hf ad n c rfl hn
      rw [h3] at this
      exact this
    · subst h3
      intro e1
      have e2 : ad.block = (w.alloc (.cells #[u1, u2] e)).heap.size := by simpa [Value.ownBlock] using e1
      obtain ⟨A, c', e3, g1, g2, g3⟩ := hq
      injection e3 with e3 e4 e5
      subst e3; subst e4
      obtain ⟨ad', he, hc⟩ := g3 0 _ (List.getElem?_eq_getElem hn)
      injection he with he; subst he
      have h6 := World.block_lt_of_cell? w _ hc
      rw [block_add] at h6
      simp at e2
      omega
end
end Go.Proofs.YtlepoheinemfcaaDoor.mem
namespace Go.Proofs.YtlepoheinemfcaaDoor.str
open Go.RowKit Go.Proofs.YtlepoheinemfcaaDoor.num Go.Proofs.YtlepoheinemfcaaDoor.mem Go.Proofs.YtlepoheinemfcaaDoor.txt Go.Proofs.YtlepoheinemfcaaDoor.nat
set_option linter.unusedVariables false

theorem nums1 {w : World} {v : Value} {x : Nat} (h : IsS w .u64 v (digs 4294967296 x)) : Nums w [v] [x] := by
  refine ⟨rfl, fun i a b ha hb => ?_⟩
  match i, ha, hb with
  | 0, ha, hb => simp at ha hb; subst ha; subst hb; exact h
theorem nums_snoc2 {w w' : World} {v v' u1 u2 : Value} {vs : List Value} {xs : List Nat} {x y : Nat} (h : NumsFar w v vs xs) (hk : Keeps w w' v v') (hu : IsS w .u64 u1 (digs 4294967296 x)) (hf : Far v u1) (hu2 : IsS w .u64 u2 (digs 4294967296 y)) (hf2 : Far v u2) : NumsFar w' v' (vs ++ [u1, u2]) (xs ++ [x] ++ [y]) := by
  have e : vs ++ [u1, u2] = (vs ++ [u1]) ++ [u2] := by simp
  rw [e]
  have h1 : NumsFar w' v' (vs ++ [u1]) (xs ++ [x]) := h.snoc hk hu hf
  refine h1.snoc (w := w') (v := v') ?_ (hk _ _ _ hu2 hf2).1 (hk _ _ _ hu2 hf2).2
  exact fun k u l hq hq2 => ⟨hq, hq2⟩
/-- The call ends with a row of numbers that a parts into, below p. -/
def RetParts (p a : Nat) (w : World) (e : Ending) (w' : World) : Prop := ∃ V vs xs, e = .returned V ∧ IsV w' V vs ∧ Nums w' vs xs ∧ Parts p a xs ∧ Below w.heap.size w w'
theorem rowV_nil (w : World) (base : Nat) (e : TypeId) : RowV w base e (.slice none 0 0) [] := World.ownsRow_nil w base e 1
theorem far_nil (u : Value) : Far (.slice none 0 0) u := by
  rintro ad n c rfl _ h
  simp [Value.ownBlock] at h
theorem one_of_isS {w : World} {k : IntKind} {v : Value} {l : List Nat} (h : IsS w k v l) : v.oneCell' = true := by
  obtain ⟨A, c, rfl, _⟩ := h
  rfl

theorem parts_len {p a m : Nat} {xs : List Nat} (hp : 2 ≤ p) (h : Parts p a xs) (ha : (digs 4294967296 a).length ≤ m) : xs.length ≤ 64 * m + 1 := by
  have h1 : a < 2 ^ (32 * m) := by
    rw [← pow32]
    exact Nat.lt_of_lt_of_le (digs_lt_pow (by omega) a) (Nat.pow_le_pow_right (by omega) ha)
  have := h.len hp h1
  omega
set_option maxHeartbeats 6400000 in
set_option maxRecDepth 100000 in
theorem split_all (n : Nat) : ∀ (a p : Nat) (v u : Value) (w : World), a + 1 ≤ n + p → 2 ≤ p → (digs 4294967296 a).length ≤ 1000 → (digs 4294967296 p).length ≤ 2000 → IsS w .u64 v (digs 4294967296 a) → IsS w .u64 u (digs 4294967296 p) →
    Calls Tryd.prog 20 #[v, u] w (RetParts p a w) := by
  induction n with
  | zero => 
    intro a p v u w hn hp la lp hv hu
    have hlt : a < p := by omega
    obtain ⟨A, c, rfl, _⟩ := id hv
    obtain ⟨A2, c2, rfl, _⟩ := id hu
    have HO : Hid ((-1 : Int) = ord a p) := (ord_lt hlt).symm
    clear hn
    go_enter Tryd.func20, Tryd.ntmps20
    go_wp2_with fail
    refine (cmp_any _ _ a p (-1) _ hv hu HO.out).mono ?_
    rintro e w1 ⟨rfl, b1⟩
    go_wp2
    go_ret
    refine ⟨_, [_], [a], rfl, isV_lit w1 _ [_], (nums1 (hv.below b1)).below (below_alloc (Nat.le_refl _) _), Parts.one hlt, b1.alloc b1.size _⟩
  | succ n ih =>
    intro a p v u w hn hp la lp hv hu
    obtain ⟨A, c, rfl, _⟩ := id hv
    obtain ⟨A2, c2, rfl, _⟩ := id hu
    by_cases hlt : a < p
    · have HO : Hid ((-1 : Int) = ord a p) := (ord_lt hlt).symm
      clear hn ih
      go_enter Tryd.func20, Tryd.ntmps20
      go_wp2_with fail
      refine (cmp_any _ _ a p (-1) _ hv hu HO.out).mono ?_
      rintro e w1 ⟨rfl, b1⟩
      go_wp2
      go_ret
      refine ⟨_, [_], [a], rfl, isV_lit w1 _ [_], (nums1 (hv.below b1)).below (below_alloc (Nat.le_refl _) _), Parts.one hlt, b1.alloc b1.size _⟩
    · have hpa : p ≤ a := by omega
      obtain ⟨t, ht⟩ : ∃ t, t = ord a p := ⟨_, rfl⟩
      have ht0 : ¬ t < 0 := by rw [ht, ord_lt0]; exact hlt
      have HO := Lib.hid ht
      obtain ⟨z, hz⟩ : ∃ z, z = p * p := ⟨_, rfl⟩
      have hz1 : p + 1 ≤ z := by
        have : 2 * p ≤ p * p := Nat.mul_le_mul_right _ hp
        omega
      have lpa : (digs 4294967296 p).length ≤ (digs 4294967296 a).length := digs_len_mono (by omega) hpa
      have lz : (digs 4294967296 z).length ≤ 2000 := by have := mul_len p p; rw [← hz] at this; omega
      have HZ := Lib.hid hz
      have HIH := Lib.hid ih
      clear ht hz ih hlt
      go_enter Tryd.func20, Tryd.ntmps20
      go_wp2_with fail
      refine (cmp_any _ _ a p t _ hv hu HO.out).mono ?_
      rintro e w1 ⟨rfl, b1⟩
      go_wp2_with fail
      refine (square_any _ p _ (hu.below b1) (by omega) z HZ.out).mono ?_
      rintro e w2 ⟨v2, rfl, k2, f2, b2⟩
      have b3 := b1.trans (b2.mono b1.size)
      go_wp2_with fail
      refine (HIH.out a z _ _ _ (by omega) (by omega) la lz (hv.below b3) k2).mono ?_
      rintro e w3 ⟨V, vs, ys, rfl, hV, hN, hP, b4⟩
      have b5 := b3.trans (b4.mono b3.size)
      obtain ⟨A3, c3, rfl, hc3, hcells⟩ := hV
      have HC := Lib.hid hcells
      have HN := Lib.hid hN
      have HX : Hid (vs.length = ys.length) := hN.1
      have hvl : vs.length ≤ 100000 := by
        have h1 := parts_len (by omega) hP la
        have := hN.1; omega
      have HP := Lib.hid hP
      have hu5 := hu.below b5
      clear hcells hN hP hv hu
      go_wp2
      go_loopw [5, 22] (fun vo vi wr => ∃ (k : Nat) (us : List Value) , k ≤ vs.length ∧ us.length = 2 * k ∧ RowV wr w3.heap.size 23 vo us ∧ NumsFar wr vo us (halves p (ys.take k)) ∧ Below w3.heap.size w3 wr ∧ vi = .int .i64 (k : Int)) (fun _ vi _ => vs.length - (intOf vi).toNat)
      case atStart => exact ⟨0, [], by omega, rfl, rowV_nil _ _ _, by rw [List.take_zero]; exact NumsFar.nil _ _, Below.refl _ _, rfl⟩
      case round =>
        obtain ⟨k, us, hk, hul, hrow, hnums, hb3, rfl⟩ := hrel
        by_cases hlt : k < vs.length
        · obtain ⟨u1, y, hu1, hy, hv1⟩ := HN.out.at_ hlt
          obtain ⟨ad, rfl, hcell⟩ := HC.out k u1 hu1
          have hcell2 := (hb3.cell (World.block_lt_of_cell? w3 _ hcell)).trans hcell
          have hyz := HP.out.1.at hy
          have hyl : (digs 4294967296 y).length ≤ 2000 := Nat.le_trans (digs_len_mono (by omega) (Nat.le_of_lt hyz)) lz
          have hv2 := hv1.below hb3
          have hup := hu5.below hb3
          have hH : Hid (halves p (ys.take (k + 1)) = halves p (ys.take k) ++ [y % p] ++ [y / p]) := by show _ = _; rw [take_step hy, halves_snoc]
          have HUL := Lib.hid hul
          have hsz := hb3.size
          obtain ⟨A4, c4, rfl, _⟩ := id hv1
          clear hu1 hy hv1 hcell hyz hul
          go_wp2_with fail
          refine (ddiv_ok _ _ y p _ hv2 hup (by omega) (by omega) (by omega)).mono ?_
          rintro e w4 ⟨q1, q2, rfl, kq1, kq2, fq1, fq2, b6⟩
          have fa := fq1.far hrow.under
          have fb := fq2.far hrow.under
          replace hrow := hrow.below b6
          replace hnums := hnums.below b6
          have hb5 := hb3.trans (b6.mono hb3.size)
          have o1 := one_of_isS kq1
          have o2 := one_of_isS kq2
          obtain ⟨A5, c5, rfl, _⟩ := id kq1
          obtain ⟨A6, c6, rfl, _⟩ := id kq2
          clear hb3 hcell2 hv2 hup
          go_wp2_with (at_builtin; refine wpList_append_vals rfl (.tmp 33) (.tmp 36) rfl Tryd.underlying44 info_nat rfl hrow rfl o2 o1 (by have := HUL.out; omega) hb5.size ?_; intro v2 wb hrow2 hb2 HK)
          have hnums2 := nums_snoc2 hnums HK.out kq2 fb kq1 fa
          rw [← hH.out] at hnums2
          have hb6 := hb5.trans hb2
          go_roundw
          case rel => exact ⟨k + 1, _, by omega, by have := HUL.out; simp; omega, hrow2, hnums2, hb6, by go_num⟩
          case measure => simp [intOf]; omega
        · obtain rfl : k = vs.length := by omega
          rw [List.take_of_length_le (by have := HX.out; omega)] at hnums
          have hPP : Parts p a (halves p ys) := by have h1 := HP.out; rw [HZ.out] at h1; exact Parts.more (by omega) hpa h1
          go_wp2
          go_ret
          exact ⟨_, us, _, rfl, RowV.isV hrow, hnums.1, hPP, b5.trans (hb3.mono b5.size)⟩
end Go.Proofs.YtlepoheinemfcaaDoor.str
