/- digits.joined: numbers below a power put together. Condition: the slices read as numbers; some limbs. -/
import Derived.Test.YtlepoheinemfcaaDoorDigD
namespace Go.Proofs.YtlepoheinemfcaaDoor.mem
open Go.RowKit Go.Proofs.YtlepoheinemfcaaDoor.num
set_option linter.unusedVariables false
theorem RowV.stored {w : World} {base : Nat} {e : TypeId} {g n cap : Nat} {vs : List Value} (h : RowV w base e (.slice (some ⟨g, 0, none⟩) n cap) vs) (i : Nat) (u : Value) : RowV (w.setCell ⟨g, i, none⟩ u) base e (.slice (some ⟨g, 0, none⟩) n cap) (vs.set i u) := by
  unfold RowV at h ⊢
  rw [List.length_set]
  have hn : n = vs.length := by
    rcases h.2 with ⟨h1, h0⟩ | ⟨g', cap', cur, h1, _⟩
    · injection h1 with h1 _ _; cases h1
    · injection h1 with _ h1 _
  subst hn
  exact (World.ownsRow.stored h i u).1
theorem RowV.cellAt {w : World} {base : Nat} {e : TypeId} {g n cap : Nat} {vs : List Value} (h : RowV w base e (.slice (some ⟨g, 0, none⟩) n cap) vs) {i : Nat} {u : Value} (hu : vs[i]? = some u) : w.cell? ⟨g, i, none⟩ = some u := by
  have := World.ownsRow.cells h (g := g) rfl i u hu
  have ha : (⟨g, 0, none⟩ : Addr).add i = ⟨g, i, none⟩ := by unfold Addr.add; split <;> simp_all
  rwa [ha] at this
theorem RowV.frozenAt {w : World} {base : Nat} {e : TypeId} {g n cap : Nat} {vs : List Value} (h : RowV w base e (.slice (some ⟨g, 0, none⟩) n cap) vs) (i : Nat) : w.frozen? ⟨g, i, none⟩ = false := by
  unfold RowV at h
  have hn : n = vs.length := by
    rcases h.2 with ⟨h1, h0⟩ | ⟨g', cap', cur, h1, _⟩
    · injection h1 with h1 _ _; cases h1
    · injection h1 with _ h1 _
  subst hn
  exact World.ownsRow.frozenAt h i
section
variable {P : Program}
/-- 'make([]T, n)', T a slice type. -/
theorem wpList_make_row_ {w : World} {ops : Array Oper} {rest : List Oper} {o : Oper} {a : Act} {Q : Exit → Act → World → Prop} (hgd : o.guard = none) (lo co : Operand) {t : TypeId} (ho : o.op = Op.makeSlice t lo co)
    {base : Nat} {e : TypeId} (hT : P.underlying t = some (.slice e)) (hI : ∃ i, P.info? e = some i ∧ i.zero = some (.slice none 0 0) ∧ i.size = 1 ∧ i.bytes = 24) {kl kc : IntKind} {L C : Int} (n : Nat) (hl : a.eval lo = .int kl L) (hc : a.eval co = .int kc C) (hL : L = (n : Int)) (hC : C = (n : Int)) (hn : n ≤ 1000000000) (hbase : base ≤ w.heap.size)
    (h : ∀ w', RowV w' base e (.slice (some ⟨w.heap.size, 0, none⟩) n n) (List.replicate n (.slice none 0 0)) → Below w.heap.size w w' → wpList P ops Q rest (a.put o.dst (.slice (some ⟨w.heap.size, 0, none⟩) n n)) w') : wpList P ops Q (o :: rest) a w := by
  obtain ⟨i, hi, hz, hs, hb⟩ := hI
  refine wpList_make_full w hgd lo co t ho base e i (.slice none 0 0) 1 hT hi hz hs kl kc L C n hl hc hL hC (by rw [hb]; omega) (by unfold maxLen; omega) hbase fun w' h1 h2 => ?_
  refine h w' ?_ ((Below.refl _ w).grown h2 (Nat.le_refl _) (fun g hg => by cases hg))
  have e1 : (madeCells (Value.slice none 0 0).cells (n * 1)).toList = List.replicate n (.slice none 0 0) := by
    rw [Nat.mul_one]; exact toList_madeCells_one _ _
  rw [e1] at h1
  unfold RowV
  rw [List.length_replicate]
  exact h1
end
end Go.Proofs.YtlepoheinemfcaaDoor.mem
namespace Go.Proofs.YtlepoheinemfcaaDoor.str
open Go.RowKit Go.Proofs.YtlepoheinemfcaaDoor.num Go.Proofs.YtlepoheinemfcaaDoor.mem Go.Proofs.YtlepoheinemfcaaDoor.txt Go.Proofs.YtlepoheinemfcaaDoor.nat
set_option linter.unusedVariables false

/-- What the loop over neighbours keeps. -/
def JO (N tot p : Nat) (xs : List Nat) : Prop := Lt p xs ∧ val p xs = tot ∧ 1 ≤ xs.length ∧ (digs 4294967296 p).length ≤ N ∧ (digs 4294967296 p).length * (xs.length - 1) ≤ N
theorem JO.step {N tot p : Nat} {xs : List Nat} (h : JO N tot p xs) (h1 : (pairs p xs).length ≠ 1) : JO N tot (p * p) (pairs p xs) := by
  obtain ⟨g1, g2, g3, g4, g5⟩ := h
  have hl := pairs_len p xs
  have hm := mul_len p p
  obtain ⟨m, hm2⟩ : ∃ m, (pairs p xs).length = m + 2 := ⟨(pairs p xs).length - 2, by omega⟩
  have k1 : (digs 4294967296 (p * p)).length * (m + 1) ≤ N := by
    have a1 : (digs 4294967296 (p * p)).length * (m + 1) ≤ (2 * (digs 4294967296 p).length) * (m + 1) := Nat.mul_le_mul_right _ (by omega)
    have a2 : (digs 4294967296 p).length * (2 * (m + 1)) ≤ (digs 4294967296 p).length * (xs.length - 1) := Nat.mul_le_mul_left _ (by omega)
    have a3 : (2 * (digs 4294967296 p).length) * (m + 1) = (digs 4294967296 p).length * (2 * (m + 1)) := by rw [Nat.mul_comm 2, Nat.mul_assoc]
    omega
  refine ⟨pairs_lt g1, by rw [pairs_val]; exact g2, by omega, ?_, ?_⟩
  · exact Nat.le_trans (Nat.le_mul_of_pos_right _ (by omega)) k1
  · rw [hm2]; exact k1
theorem JO.done {N tot p x : Nat} {xs : List Nat} (h : JO N tot p xs) (h1 : pairs p xs = [x]) : x = tot := by
  have := pairs_val p xs
  rw [h1, h.2.1] at this
  simpa [val] using this
/-- The call ends with a slice that reads as the list; what was there is as it was. -/
def RetSb (k : IntKind) (l : List Nat) (w : World) (e : Ending) (w' : World) : Prop := ∃ v, e = .returned v ∧ IsS w' k v l ∧ Below w.heap.size w w'

set_option maxHeartbeats 6400000 in
set_option maxRecDepth 100000 in
theorem joined_any (v u : Value) (C : List Nat) (p tot N : Nat) (w : World) (hC : IsS w .u64 v C) (hu : IsS w .u64 u (digs 4294967296 p)) (hJ : JO N tot p C) (hN : N ≤ 10000) (hl : C.length ≤ 100000) (h64 : Lt 4294967296 C) :
    Calls Tryd.prog 25 #[v, u] w (RetSb .u64 (digs 4294967296 tot) w) := by
  obtain ⟨A, c, rfl, hc, hm, hr⟩ := id hC
  unfold maxLen at hm
  obtain ⟨Au, cu, rfl, _⟩ := id hu
  have HJ := Lib.hid hJ
  have H64 := Lib.hid h64
  have HR := Lib.hid hr
  clear hJ h64 hr hC
  go_enter Tryd.func25, Tryd.ntmps25
  go_wp2_with (at_make; refine wpList_make_row_ rfl _ _ rfl Tryd.underlying44 info_nat C.length rfl rfl rfl rfl (by omega) (Nat.le_refl _) ?_; intro w1 row1 b1)
  go_loopw [13] (fun vi wr => ∃ (k : Nat) (us : List Value), k ≤ C.length ∧ us.length = k ∧ RowV wr w.heap.size 23 (.slice (some ⟨w.heap.size, 0, none⟩) C.length C.length) (us ++ List.replicate (C.length - k) (.slice none 0 0)) ∧ NumsFar wr (.slice (some ⟨w.heap.size, 0, none⟩) C.length C.length) us (C.take k) ∧ Below w.heap.size w wr ∧ vi = .int .i64 (k : Int)) (fun vi _ => C.length - (intOf vi).toNat)
  case atStart => exact ⟨0, [], by omega, rfl, by simpa using row1, by rw [List.take_zero]; exact NumsFar.nil _ _, b1, rfl⟩
  case round =>
    clear row1 b1
    obtain ⟨k, us, hk, hul, hrow, hnums, hb, rfl⟩ := hrel
    by_cases hlt : k < C.length
    · obtain ⟨ad, d, rfl, hd, hcell⟩ := (HR.out.below hb).at_ hlt
      have hd32 := H64.out.at hd
      have d0 : (d : Int) ≤ 18446744073709551615 := by omega
      have HD := Lib.hid hd
      have HUL := Lib.hid hul
      clear hd hd32 hul
      go_wp2_with fail
      refine (of_any _ d _ rfl d0).mono ?_
      rintro e w2 ⟨v2, rfl, k2, f2, b2⟩
      have row2 := hrow.below b2
      have nums2 := hnums.below b2
      have fv2 := f2.far hrow.under
      have hat : (us ++ List.replicate (C.length - k) (Value.slice none 0 0))[k]? = some (.slice none 0 0) := by
        have := HUL.out
        rw [List.getElem?_append_right (by omega), List.getElem?_replicate, if_pos (by omega)]
      have hc0 := row2.cellAt hat
      have hf0 := row2.frozenAt k
      obtain ⟨A5, c5, rfl, _⟩ := id k2
      have row3 := row2.stored k (.slice A5 (digs 4294967296 d).length c5)
      have hse : (us ++ List.replicate (C.length - k) (Value.slice none 0 0)).set k (.slice A5 (digs 4294967296 d).length c5) = (us ++ [.slice A5 (digs 4294967296 d).length c5]) ++ List.replicate (C.length - (k + 1)) (.slice none 0 0) := by
        have h1 := HUL.out
        rw [List.set_append_right _ _ (by omega), h1, Nat.sub_self, show C.length - k = (C.length - (k + 1)) + 1 from by omega, List.replicate_succ, List.set_cons_zero, List.append_assoc]; rfl
      rw [hse] at row3
      have nums3 := nums2.snoc (keeps_of (grown_set w2 w.heap.size k (.slice A5 (digs 4294967296 d).length c5)) (Or.inl rfl)) k2 fv2
      rw [← take_step HD.out] at nums3
      have hb3 : Below w.heap.size w (w2.setCell ⟨w.heap.size, k, none⟩ (.slice A5 (digs 4294967296 d).length c5)) := (hb.trans (b2.mono hb.size)).setCell (Nat.le_refl _) _
      clear hrow hnums row2 nums2 hse hat
      go_wp2
      go_roundw
      case rel => exact ⟨k + 1, _, by omega, by have := HUL.out; simp; omega, row3, nums3, hb3, by go_num⟩
      case measure => simp [intOf]; omega
    · obtain rfl : k = C.length := by omega
      rw [Nat.sub_self, List.replicate_zero, List.append_nil] at hrow
      rw [List.take_length] at hnums
      have hV := RowV.isV hrow
      have hN2 := hnums.1
      have hu2 := hu.below hb
      have hCl : Hid (C.length ≤ 100000) := hl
      clear hrow hnums hlt hl
      go_wp2
      go_loopw [1, 5] (fun vp vo wt => ∃ (vs : List Value) (xs : List Nat) (q : Nat), IsV wt vo vs ∧ Nums wt vs xs ∧ Hid (vs.length ≤ 100000) ∧ IsS wt .u64 vp (digs 4294967296 q) ∧ Hid (JO N tot q xs) ∧ Below w.heap.size w wt) (fun _ vo _ => lenOf vo)
      case atStart => exact ⟨us, C, p, hV, hN2, by have h1 := hCl.out; show _ ≤ _; omega, hu2, HJ, hb⟩
      case round =>
        clear hV hN2 hu2 hb hu
        obtain ⟨vs, xs, q, hV, hN2, HL, hq, HJ2, hb⟩ := hrel
        obtain ⟨A1, c1, rfl, hc1, _⟩ := id hV
        obtain ⟨A2, c2, rfl, _⟩ := id hq
        have lq := HJ2.out.2.2.2.1
        have hxs := HJ2.out.2.2.1
        have hxl := hN2.1
        have hpl := pairs_len q xs
        have HXL := Lib.hid hxl
        have HPL := Lib.hid hpl
        have HLx : Hid (∀ x ∈ xs, (digs 4294967296 x).length ≤ 10000) := fun x hx => by
          have h1 := HJ2.out.1 x hx
          have h2 := digs_len_mono (B := 4294967296) (by omega) (Nat.le_of_lt h1)
          omega
        clear hxl hpl hc1
        go_wp2_with fail
        refine (paired_any _ _ vs xs q _ hV hN2 hq (by have := HL.out; omega) (by omega) HLx.out).mono ?_
        rintro e w3 ⟨V3, vs3, rfl, hV3, hN3, b3⟩
        have hl3 := hN3.1
        obtain ⟨A3, c3, rfl, hc3, hcells3⟩ := id hV3
        have hb3 := hb.trans (b3.mono hb.size)
        have hq3 := hq.below b3
        by_cases h1 : (pairs q xs).length = 1
        · obtain ⟨x, hx⟩ := List.length_eq_one_iff.1 h1
          obtain ⟨t, ht⟩ := List.length_eq_one_iff.1 (hl3.trans h1)
          subst ht
          have hxt := HJ2.out.done hx
          rw [hx] at hN3
          have ht2 := hN3.2 0 t x rfl rfl
          rw [hxt] at ht2
          obtain ⟨ad, rfl, hcell⟩ := hcells3 0 t rfl
          rw [add_zero_] at hcell
          clear hx hxt hcells3 h1 hl3
          go_wp2
          go_ret
          exact ⟨_, rfl, ht2, hb3⟩
        · have h2 : ¬ vs3.length = 1 := by omega
          have h3 : ((vs3.length : Int) == 1) = false := by rw [beq_eq_false_iff_ne]; omega
          have HJ3 := Lib.hid (HJ2.out.step h1)
          have HVL : Hid (vs3.length < vs.length ∧ vs3.length ≤ 100000) := by
            have g1 := HPL.out
            have g2 := HXL.out
            have g3 := HL.out
            have g4 : 1 ≤ (pairs q xs).length := by omega
            exact ⟨by omega, by omega⟩
          obtain ⟨n3, hn3⟩ : ∃ n, n = vs3.length := ⟨_, rfl⟩
          rw [← hn3] at h2 h3 hV3 hc3 ⊢
          have HN3 := Lib.hid hn3
          obtain ⟨n2, hn2⟩ : ∃ n, n = vs.length := ⟨_, rfl⟩
          have HN2 := Lib.hid hn2
          clear hcells3 hl3 h1 hn3 hc3 hn2
          go_wp2_with fail
          refine (square_any _ q _ hq3 (by omega) (q * q) rfl).mono ?_
          rintro e w4 ⟨v4, rfl, k4, f4, b4⟩
          go_wp2
          go_roundw
          case rel => exact ⟨vs3, _, _, hV3.below b4, hN3.below b4, HVL.out.2, k4, HJ3, hb3.trans (b4.mono hb3.size)⟩
          case measure => have h1 := HVL.out.1; have h2 := HN3.out; simp [lenOf]; omega
end Go.Proofs.YtlepoheinemfcaaDoor.str
