/- Package nat: Sum, Add. Condition: slices read as limbs. -/
import Derived.Test.YtcgmbmiingppgaaNatF
namespace Go.Proofs.Ytcgmbmiingppgaa.nat
open Go.RowKit Go.Proofs.Ytcgmbmiingppgaa.num Go.Proofs.Ytcgmbmiingppgaa.mem Go.Proofs.Ytcgmbmiingppgaa.limb
set_option linter.unusedVariables false

/-- The slice holds these values. -/
def IsV (w : World) (v : Value) (vs : List Value) : Prop := ∃ A c, v = .slice A vs.length c ∧ vs.length ≤ c ∧ ∀ (i : Nat) (u : Value), vs[i]? = some u → ∃ ad, A = some ad ∧ w.cell? (ad.add i) = some u
/-- The values are slices that read as these numbers. -/
def Nums (w : World) (vs : List Value) (xs : List Nat) : Prop := vs.length = xs.length ∧ ∀ (i : Nat) (u : Value) (x : Nat), vs[i]? = some u → xs[i]? = some x → IsS w .u64 u (digs 4294967296 x)
theorem Nums.at_ {w : World} {vs : List Value} {xs : List Nat} (h : Nums w vs xs) {i : Nat} (hi : i < vs.length) : ∃ u x, vs[i]? = some u ∧ xs[i]? = some x ∧ IsS w .u64 u (digs 4294967296 x) := by
  have h1 := h.1
  exact ⟨_, _, List.getElem?_eq_getElem hi, List.getElem?_eq_getElem (by omega), h.2 i _ _ (List.getElem?_eq_getElem hi) (List.getElem?_eq_getElem (by omega))⟩
theorem sum_take_step {xs : List Nat} {k x : Nat} (h : xs[k]? = some x) : (xs.take (k + 1)).sum = (xs.take k).sum + x := by rw [take_step h, List.sum_append]; simp
theorem sum_take_le (xs : List Nat) (k : Nat) : (xs.take k).sum ≤ xs.sum := by
  have := congrArg List.sum (List.take_append_drop k xs)
  rw [List.sum_append] at this; omega
theorem sum_at_le {xs : List Nat} {k x : Nat} (h : xs[k]? = some x) : x ≤ xs.sum := by
  have h1 := sum_take_step h
  have h2 := sum_take_le xs (k + 1)
  omega
theorem isV_lit (w : World) (t : TypeId) (vs : List Value) : IsV (w.alloc (.cells vs.toArray t)) (.slice (some ⟨w.heap.size, 0, none⟩) vs.length vs.length) vs := by
  refine ⟨_, _, rfl, Nat.le_refl _, fun i u hu => ⟨_, rfl, ?_⟩⟩
  have ha : (⟨w.heap.size, 0, none⟩ : Addr).add i = ⟨w.heap.size, i, none⟩ := by unfold Addr.add; split <;> simp_all
  rw [ha, cell_of_row _ _ i vs.toArray t (0, 0) (heap_alloc_new w _)]
  simpa using hu

/-- 'make([]T, 0, n)'. -/
theorem wpList_make0_rd {P : Program} {w : World} {ops : Array Oper} {rest : List Oper} {o : Oper} {a : Act} {Q : Exit → Act → World → Prop} (hgd : o.guard = none) (lo co : Operand) {t : TypeId} (ho : o.op = Op.makeSlice t lo co)
    {base : Nat} {e : TypeId} {k : IntKind} (hT : SliceT P t e k) {kl kc : IntKind} {C : Int} (n : Nat) (hl : a.eval lo = .int kl 0) (hc : a.eval co = .int kc C) (hC : C = (n : Int)) (hn : n ≤ 10000000000000) (hbase : base ≤ w.heap.size)
    (h : ∀ w', Own w' base e k (.slice (some ⟨w.heap.size, 0, none⟩) 0 n) [] → Below w.heap.size w w' → wpList P ops Q rest (a.put o.dst (.slice (some ⟨w.heap.size, 0, none⟩) 0 n)) w') : wpList P ops Q (o :: rest) a w := by
  obtain ⟨i, hi, hz, hs, hb⟩ := hT.info
  refine wpList_make_own w hgd lo co t ho base e i (.int k 0) 1 hT.und hi hz hs kl kc C n hl hc hC (by rw [hb]; omega) (by unfold maxLen; omega) hbase fun w' h1 h2 => ?_
  exact h w' h1 ((Below.refl _ w).grown h2 (Nat.le_refl _) (fun g hg => by cases hg))

set_option maxHeartbeats 800000 in
theorem sum_any (V : Value) (vs : List Value) (xs : List Nat) (w : World) (hV : IsV w V vs) (hN : Nums w vs xs) (hl : vs.length ≤ 1000000) (hS : (digs 4294967296 xs.sum).length ≤ 1000000) :
    Calls Try.prog 38 #[V] w (RetS .u64 (digs 4294967296 xs.sum) w) := by
  obtain ⟨A, c, rfl, hc, hcells⟩ := hV
  have HC := Lib.hid hcells
  have HN := Lib.hid hN
  have HX : Hid (vs.length = xs.length) := hN.1
  clear hcells hN
  go_enter Try.func38, Try.ntmps38
  go_wp2
  go_loop [3, 11] (fun vl vi => ∃ (k L : Nat), k ≤ vs.length ∧ L ≤ 1000000 ∧ vl = .int .i64 (L : Int) ∧ vi = .int .i64 (k : Int)) (fun _ vi => vs.length - (intOf vi).toNat)
  case atStart => exact ⟨0, 0, by omega, by omega, rfl, rfl⟩
  case round =>
    obtain ⟨k, L, hk, hL, rfl, rfl⟩ := hrel
    by_cases hp : k < vs.length
    · obtain ⟨u, x, hu, hx, hv⟩ := HN.out.at_ hp
      obtain ⟨ad, rfl, hcell⟩ := HC.out k u hu
      have hxl := digs_len_mono (B := 4294967296) (by omega) (sum_at_le hx)
      obtain ⟨A2, c2, rfl, hc2, hm2, hr2⟩ := hv
      clear hu hx
      by_cases hmx : L < (digs 4294967296 x).length
      · go_wp2
        go_round
        case rel => exact ⟨k + 1, (digs 4294967296 x).length, by omega, by omega, rfl, by go_num⟩
        case measure => simp [intOf]; omega
      · go_wp2
        go_round
        case rel => exact ⟨k + 1, L, by omega, by omega, rfl, by go_num⟩
        case measure => simp [intOf]; omega
    · go_wp2_with (at_make; refine wpList_make0_rd rfl _ _ rfl sl24 (L + 1) rfl rfl (by omega) (by omega) (Nat.le_refl _) ?_; intro w1 hown1 hb1)
      go_loopw [6, 25] (fun vo vi wr => ∃ k : Nat, k ≤ vs.length ∧ Own wr w.heap.size 30 .u64 vo (digs 4294967296 (xs.take k).sum) ∧ Below w.heap.size w wr ∧ vi = .int .i64 (k : Int)) (fun _ vi _ => vs.length - (intOf vi).toNat)
      case atStart => exact ⟨0, by omega, by rw [List.take_zero, List.sum_nil, digs_zero]; exact hown1, hb1, rfl⟩
      case round =>
        clear hown1 hb1
        obtain ⟨k2, hk2, hown, hb, rfl⟩ := hrel
        by_cases hp2 : k2 < vs.length
        · obtain ⟨u, x, hu, hx, hv⟩ := HN.out.at_ hp2
          obtain ⟨ad, rfl, hcell⟩ := HC.out k2 u hu
          have hcell2 := (hb.cell (World.block_lt_of_cell? w _ hcell)).trans hcell
          have hxl := digs_len_mono (B := 4294967296) (by omega) (sum_at_le hx)
          have htl := digs_len_mono (B := 4294967296) (by omega) (sum_take_le xs k2)
          have HT := Lib.hid (sum_take_step hx)
          clear hu hx hcell
          go_wp2_with fail
          refine (onto_any w _ _ _ x _ hown hv hb (by omega) (by omega)).mono ?_
          rintro e w3 ⟨v3, rfl, hown3, hb3⟩
          rw [← HT.out] at hown3
          go_wp2
          go_roundw
          case rel => exact ⟨k2 + 1, by omega, hown3, hb3, by go_num⟩
          case measure => simp [intOf]; omega
        · rw [List.take_of_length_le (by have := HX.out; omega)] at hown
          go_wp2
          go_ret
          exact ⟨_, rfl, hown.isS, hown.fresh, hb⟩

theorem nums2 {w : World} {v u : Value} {x y : Nat} (h : IsS w .u64 v (digs 4294967296 x)) (h' : IsS w .u64 u (digs 4294967296 y)) : Nums w [v, u] [x, y] := by
  refine ⟨rfl, fun i a b ha hb => ?_⟩
  match i, ha, hb with
  | 0, ha, hb => simp at ha hb; subst ha; subst hb; exact h
  | 1, ha, hb => simp at ha hb; subst ha; subst hb; exact h'
theorem nums3 {w : World} {v u t : Value} {x y z : Nat} (h : IsS w .u64 v (digs 4294967296 x)) (h' : IsS w .u64 u (digs 4294967296 y)) (h'' : IsS w .u64 t (digs 4294967296 z)) : Nums w [v, u, t] [x, y, z] := by
  refine ⟨rfl, fun i a b ha hb => ?_⟩
  match i, ha, hb with
  | 0, ha, hb => simp at ha hb; subst ha; subst hb; exact h
  | 1, ha, hb => simp at ha hb; subst ha; subst hb; exact h'
  | 2, ha, hb => simp at ha hb; subst ha; subst hb; exact h''
set_option maxHeartbeats 400000 in
theorem add_any (v u : Value) (x y : Nat) (w : World) (h : IsS w .u64 v (digs 4294967296 x)) (h' : IsS w .u64 u (digs 4294967296 y)) (z : Nat) (hz : z = x + y) (hS : (digs 4294967296 z).length ≤ 1000000) :
    Calls Try.prog 21 #[v, u] w (RetS .u64 (digs 4294967296 z) w) := by
  have HZ : Hid (z = [x, y].sum) := by show _ = _; simp [hz]
  clear hz
  rw [HZ.out] at hS ⊢
  obtain ⟨A1, c1, rfl, _⟩ := id h
  obtain ⟨A2, c2, rfl, _⟩ := id h'
  go_enter Try.func21, Try.ntmps21
  go_wp2_with fail
  have hb := below_alloc (Nat.le_refl w.heap.size) (.cells #[.slice A1 (digs 4294967296 x).length c1, .slice A2 (digs 4294967296 y).length c2] 23)
  refine (sum_any _ [_, _] [x, y] _ (isV_lit w 23 [_, _]) (nums2 (h.below hb) (h'.below hb)) (by simp) hS).mono ?_
  rintro e w' ⟨v', rfl, hv, hf, hb2⟩
  go_wp2
  go_ret
  exact ⟨_, rfl, hv, hf.mono hb.size, hb.trans (hb2.mono hb.size)⟩
end Go.Proofs.Ytcgmbmiingppgaa.nat
