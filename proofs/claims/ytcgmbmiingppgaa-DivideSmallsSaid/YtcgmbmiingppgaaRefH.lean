/- The document's own Div of layer 2. Condition: slices read as digits; the divisor is not 0. -/
import Derived.Test.YtcgmbmiingppgaaRefG
namespace Go.Proofs.Ytcgmbmiingppgaa.nat
open Go.RowKit Go.Proofs.Ytcgmbmiingppgaa.num Go.Proofs.Ytcgmbmiingppgaa.mem
set_option linter.unusedVariables false

theorem refCmp_at (v u : Value) (x y : Nat) (t : Int) (w : World) (h : IsS w .i64 v (digs 10000 x)) (h' : IsS w .i64 u (digs 10000 y)) (ht : t = ord x y) :
    Calls Try.prog 49 #[v, u] w (RetV (.int .i64 t) w) := by rw [ht]; exact refCmp_any v u x y w h h'
/-- What the search of a digit keeps. -/
def BS (y R lo hi : Nat) : Prop := y * lo ≤ R ∧ R < y * hi
theorem BS.done {y R lo : Nat} (h : BS y R lo (lo + 1)) : lo = R / y := by
  unfold BS at h
  obtain ⟨h1, h2⟩ := h
  have hy : 0 < y := by
    rcases Nat.eq_zero_or_pos y with h3 | h3
    · subst h3; omega
    · exact h3
  have h4 := Nat.div_lt_of_lt_mul h2
  have h5 := (Nat.le_div_iff_mul_le hy).2 (by rw [Nat.mul_comm]; exact h1)
  omega
theorem len_digit {y R : Nat} (h : R < 10000 * y) : (digs 10000 R).length ≤ (digs 10000 y).length + 1 := by
  refine digs_len_le (by omega) ?_
  have := digs_lt_pow (B := 10000) (by omega) y
  rw [Nat.pow_succ]; omega

set_option maxHeartbeats 3200000 in
theorem refDiv_list (v u : Value) (l : List Nat) (y : Nat) (w : World) (h : IsS w .i64 v l) (h' : IsS w .i64 u (digs 10000 y)) (lt1 : Lt 10000 l) (hl : l.length ≤ 100000) (hl' : (digs 10000 y).length ≤ 100000) (hy : 0 < y) :
    Calls Try.prog 29 #[v, u] w (RetSS .i64 (digs 10000 (val 10000 l / y)) (digs 10000 (val 10000 l % y)) w) := by
  obtain ⟨A, cA, rfl, hc, hm, hr⟩ := h
  go_enter Try.func29, Try.ntmps29
  go_wp2_with (at_make; refine wpList_make_rd rfl _ _ rfl sl33 l.length rfl rfl rfl rfl (by omega) (Nat.le_refl _) ?_; intro w1 hown1 hb1 hz1)
  go_loopw [7, 8] (fun vr vi wr => ∃ (k r : Nat) (o : List Nat), k ≤ l.length ∧ r < y ∧ DS l y k r o ∧ Own wr w.heap.size 3 .i64 (.slice (some ⟨w.heap.size, 0, none⟩) l.length l.length) o ∧ w.heap.size < wr.heap.size ∧ IsS wr .i64 vr (digs 10000 r) ∧ Fresh (w.heap.size + 1) vr ∧ Below w.heap.size w wr ∧ vi = .int .i64 ((k : Int) - 1)) (fun _ vi _ => (intOf vi + 1).toNat)
  case atStart => exact ⟨l.length, 0, _, by omega, hy, DS.start l hy, hown1.alloc _, by simp; omega, by rw [digs_zero]; exact (own_lit0 w1 w1.heap.size _ .i64 (Nat.le_refl _)).isS, fresh_at (by omega), hb1.trans (below_alloc (by omega) _), rfl⟩
  case round =>
    clear hown1 hb1 hz1
    obtain ⟨k, r, o, hk, hry, hD, hown, hz, hvr, hfr, hb, rfl⟩ := hrel
    obtain ⟨wo, rfl⟩ : ∃ wo : World, wo = wr := ⟨_, rfl⟩
    by_cases hp : 0 < k
    · obtain ⟨j, rfl⟩ : ∃ j, k = j + 1 := ⟨k - 1, by omega⟩
      obtain ⟨ad, a, rfl, ha, hcell⟩ := (hr.below hb).at_ (i := j) (by omega)
      have ha1 := lt1.at ha
      obtain ⟨R, hR⟩ : ∃ R, R = 10000 * r + a := ⟨_, rfl⟩
      have HD := hD.step ha ha1
      rw [← hR] at HD
      have HR := Lib.hid hR
      have hRy : R < 10000 * y := by omega
      have hlr := digs_len_mono (B := 10000) (by omega) (show r ≤ y by omega)
      have hlR := len_digit hRy
      obtain ⟨A2, c2, rfl, hc2, hm2, hr2⟩ := id hvr
      clear hR hD ha
      have hb0 : Below wo.heap.size wo (wo.alloc (.cells #[.int .i64 (a : Int)] 3)) := below_alloc (Nat.le_refl _) _
      go_wp2_with (at_builtin; refine wpList_append_rd rfl _ _ rfl sl33 rfl (own_lit1 (d := a) wo wo.heap.size _ .i64 rfl (Nat.le_refl _)) rfl (news := digs 10000 r) rfl (hr2.below hb0) (by simp; omega) (by simp) ?_; intro v' w1 hown1 hb1 hg1)
      have hb2 := hb0.trans hb1
      have hsz2 := hb2.size
      have hv1 := hown1.isS
      have hd1 : Lt 10000 ([a] ++ digs 10000 r) := (Lt.cons ha1 (Lt.nil _)).append (digs_lt (by omega) r)
      have he1 : val 10000 ([a] ++ digs 10000 r) = R := by rw [val_append, val_digs (by omega), HR.out]; simp [val]; omega
      have HE := Lib.hid he1
      clear he1
      refine (refTrim_any _ _ _ hv1 hd1 (by simp; omega)).mono ?_
      rintro e w2 ⟨v2, rfl, hv2, hf2, hb3⟩
      rw [HE.out] at hv2
      have hb4 := hb2.trans (hb3.mono hsz2)
      have hsz4 := hb4.size
      have hsz3 := hb3.size
      have hown2 := hown.below hb4
      have hf3 : Fresh (w.heap.size + 1) v2 := hf2.mono (by omega)
      have hb5 := hb.trans (hb4.mono (by omega))
      have hz5 : w.heap.size < w2.heap.size := by omega
      clear hb0 hb1 hg1 hown1 hv1 hd1 hb2 hb3 hb4 hf2 hr2 hvr hfr hcell hown HE hb
      go_wp2
      go_loopw [9, 10] (fun vlo vhi wr => ∃ (lo hi : Nat), lo < hi ∧ hi ≤ 10000 ∧ BS y R lo hi ∧ Below w2.heap.size w2 wr ∧ vlo = .int .i64 (lo : Int) ∧ vhi = .int .i64 (hi : Int)) (fun vlo vhi _ => (intOf vhi - intOf vlo).toNat)
      case atStart => exact ⟨0, 10000, by omega, by omega, by unfold BS; omega, Below.refl _ _, rfl, rfl⟩
      case round =>
        obtain ⟨lo, hi, hlh, hhi, hB, hbi, rfl, rfl⟩ := hrel
        have hszi := hbi.size
        have hui := h'.below (hb5.trans (hbi.mono (by omega)) |>.mono (by omega))
        have hvi := hv2.below hbi
        by_cases hgo : 1 < hi - lo
        · obtain ⟨mid, hmid⟩ : ∃ mid, mid = (lo + hi) / 2 := ⟨_, rfl⟩
          have hm1 : lo < mid := by omega
          have hm2 : mid < hi := by omega
          have hm3 : (lo + hi) / 2 ≤ mid := by omega
          have hm4 : mid ≤ (lo + hi) / 2 := by omega
          clear hmid
          go_wp2_with fail
          refine (mulAdd_any _ y _ _ mid 0 _ (by omega) rfl hui (by omega) (by omega) (by omega) (y * mid) (by omega)).mono ?_
          rintro e w3 ⟨v3, rfl, hv3, hf3', hb6⟩
          have hvi3 := hvi.below hb6
          have hsz6 := hb6.size
          by_cases hle : y * mid ≤ R
          · obtain ⟨t, ht⟩ : ∃ t, t = ord (y * mid) R := ⟨_, rfl⟩
            have ht0 : t ≤ 0 := by rw [ht]; exact ord_le0.2 hle
            have HT := Lib.hid ht
            have HB : BS y R mid hi := by unfold BS at hB ⊢; exact ⟨hle, hB.2⟩
            clear ht hB hle
            go_wp2_with fail
            refine (refCmp_at _ _ _ _ t _ hv3 hvi3 HT.out).mono ?_
            rintro e w4 ⟨rfl, hb7⟩
            go_wp2
            go_roundw
            case rel => exact ⟨mid, hi, by omega, by omega, HB, hbi.trans ((hb6.trans (hb7.mono hsz6)).mono hszi), int_eq (by omega), rfl⟩
            case measure => simp [intOf]; omega
          · obtain ⟨t, ht⟩ : ∃ t, t = ord (y * mid) R := ⟨_, rfl⟩
            have ht0 : 0 < t := by
              have := (ord_le0 (x := y * mid) (y := R)).1
              rw [ht]; omega
            have HT := Lib.hid ht
            have HB : BS y R lo mid := by unfold BS at hB ⊢; exact ⟨hB.1, by omega⟩
            clear ht hB hle
            go_wp2_with fail
            refine (refCmp_at _ _ _ _ t _ hv3 hvi3 HT.out).mono ?_
            rintro e w4 ⟨rfl, hb7⟩
            go_wp2
            go_roundw
            case rel => exact ⟨lo, mid, by omega, by omega, HB, hbi.trans ((hb6.trans (hb7.mono hsz6)).mono hszi), rfl, int_eq (by omega)⟩
            case measure => simp [intOf]; omega
        · obtain rfl : hi = lo + 1 := by omega
          have hq := hB.done
          clear hB
          have HQ := Lib.hid hq
          rw [← hq] at HD
          clear hq
          have hownI := hown2.below hbi
          obtain ⟨x, hx⟩ : ∃ x, o[j]? = some x := ⟨_, List.getElem?_eq_getElem (by have := HD.2.1; rw [List.length_set] at this; omega)⟩
          have hc0 := hownI.cellAt hx
          have hf0 := hownI.frozenAt j
          have hownS := hownI.stored j lo
          have hbS : Below w.heap.size w (wr.setCell ⟨w.heap.size, j, none⟩ (.int .i64 (lo : Int))) := (hb5.trans (hbi.mono (by omega))).setCell (Nat.le_refl _) _
          have hviS := hvi.setCell (p := ⟨w.heap.size, j, none⟩) hf3 (Nat.lt_succ_self _) (.int .i64 (lo : Int))
          have hrm : R % y < y := Nat.mod_lt _ hy
          have hszS : (wr.setCell ⟨w.heap.size, j, none⟩ (.int .i64 (lo : Int))).heap.size = wr.heap.size := by simp [World.setCell]
          have HSZ := Lib.hid hszS
          clear hx hszS hownI
          go_wp2_with fail
          refine (mulAdd_any _ y _ _ lo 0 _ (by omega) rfl (h'.below hbS) (by omega) (by omega) (by omega) (y * lo) (by omega)).mono ?_
          rintro e w3 ⟨v3, rfl, hv3, hf3', hb6⟩
          have hsz6 := hb6.size
          rw [HSZ.out] at hsz6
          go_wp2_with fail
          refine (refSub_any _ _ R (y * lo) _ (hviS.below hb6) hv3 (by omega) (by rw [HQ.out]; exact Nat.mul_div_le R y) (R % y) (by have := Nat.mod_add_div R y; rw [HQ.out]; omega)).mono ?_
          rintro e w4 ⟨v4, rfl, hv4, hf4, hb7⟩
          have hsz7 := hb7.size
          have hb8 := hbS.trans ((hb6.mono (by rw [HSZ.out]; omega)).trans (hb7.mono (by omega)))
          have hown4 := (hownS.below hb6).below hb7
          go_wp2
          go_roundw
          case rel => exact ⟨j, R % y, _, by omega, hrm, HD, hown4, by omega, hv4, hf4.mono (by omega), hb8, by go_num⟩
          case measure => simp [intOf]
    · obtain rfl : k = 0 := by omega
      obtain ⟨g1, g2, g3, g4⟩ := hD.done
      have H3 := Lib.hid g3
      have H4 := Lib.hid g4
      have hol : o.length ≤ 1000000000000 := by omega
      have hsz := hb.size
      clear g2 g3 g4 hD
      go_wp2_with fail
      refine (refTrim_any _ _ _ hown.isS g1 hol).mono ?_
      rintro e w' ⟨v2, rfl, hv, hf, hb2⟩
      go_wp2
      go_ret2
      exact ⟨_, _, rfl, by rw [H3.out] at hv; exact hv, by rw [← H4.out]; exact hvr.below hb2, hf.mono hsz, hfr.mono (by omega), hb.trans (hb2.mono hsz)⟩
theorem refDiv_any (v u : Value) (x y : Nat) (w : World) (h : IsS w .i64 v (digs 10000 x)) (h' : IsS w .i64 u (digs 10000 y)) (hl : (digs 10000 x).length ≤ 100000) (hl' : (digs 10000 y).length ≤ 100000) (hy : 0 < y) :
    Calls Try.prog 29 #[v, u] w (RetSS .i64 (digs 10000 (x / y)) (digs 10000 (x % y)) w) := by
  have := refDiv_list v u _ y w h h' (digs_lt (by omega) x) hl hl' hy
  rwa [val_digs (by omega)] at this
end Go.Proofs.Ytcgmbmiingppgaa.nat
