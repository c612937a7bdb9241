/- What the laws of layer 2 share: an argument's limbs as a list, the document's Clean, the chapter's example. Condition: as each says.
What the laws' walks offer at their calls: the document's Same on two numbers. Condition: slices read as limbs. -/
import Derived.Test.YtbebmknfecehnaaGreatNatN
import Derived.ProofKit
import Derived.OpenShut
namespace Go.Proofs.YtbebmknfecehnaaGreat.nat
open Go.RowKit Go.ChangeShapes Go.WideShapes Go.ChangeAt Go.Proofs.YtbebmknfecehnaaGreat.num Go.Proofs.YtbebmknfecehnaaGreat.mem Go.Proofs.YtbebmknfecehnaaGreat.limb
set_option linter.unusedVariables false

theorem wf_u64 {n : Int} (h : (Lit.int .u64 n).wf = true) : 0 ≤ n ∧ n ≤ 18446744073709551615 := bounds_u64 h
theorem arg_nat {H : Type} {enc : TypeId × Value → H} {P : Program} {W : World} {base : Nat} {t e : TypeId} {v : Value} {d : DataW H} {p : List MemPlace} (ht : P.underlying t = some (.slice e)) (he : P.underlying e = some (.int .u64)) (hc : P.cellsOf e = 1)
    (hv : Value.okWide P W .any base t v) (h : DataW.Trod enc P W 0 (fun _ => true) true t v d p) : ∃ l : List Nat, IsS W .u64 v l ∧ Lt 18446744073709551616 l := by
  obtain ⟨a0, len, cap, rfl⟩ := okWide_slice ht hv
  obtain ⟨fuel, hf⟩ := h
  rcases open_ints ht he hc hf with ⟨hcs, hx⟩ | ⟨a, len', cap', zs, hcs, _, hl, hm, hz, hx, hcell, hwz⟩
  · simp [Value.cells] at hcs
    obtain ⟨rfl, rfl, rfl⟩ := hcs
    exact ⟨[], isNil _ _, Lt.nil _⟩
  · simp [Value.cells] at hcs
    obtain ⟨rfl, rfl, rfl⟩ := hcs
    simp only [if_true] at hz
    have hlen : ((zs.take len).map Int.toNat).length = len := by simp; omega
    refine ⟨(zs.take len).map Int.toNat, ⟨some a, cap, by rw [hlen], by rw [hlen]; exact hl, hm, ?_⟩, ?_⟩
    · intro i d hd
      have hi : i < len := by rw [← hlen]; exact (List.getElem?_eq_some_iff.1 hd).1
      have hi2 : i < zs.length := by omega
      refine ⟨a, rfl, ?_⟩
      rw [hcell i hi2]
      have hb := wf_u64 (hwz _ (List.getElem_mem hi2))
      have hd2 : d = (zs[i]).toNat := by
        rw [List.getElem?_map, List.getElem?_take_of_lt hi, List.getElem?_eq_getElem hi2] at hd
        simpa using hd.symm
      rw [List.getD_eq_getElem?_getD, List.getElem?_eq_getElem hi2, hd2]
      simp only [Option.getD_some]
      rw [Int.toNat_of_nonneg hb.1]
    · intro d hd
      obtain ⟨z, hz1, rfl⟩ := List.mem_map.1 hd
      have hb := wf_u64 (hwz z (List.mem_of_mem_take hz1))
      omega

/-- The number that Clean makes of limbs. -/
def cleaned (l : List Nat) (most : Nat) : Nat := val 4294967296 (clipped l most)
theorem cleaned_lt (l : List Nat) (most : Nat) : cleaned l most < 4294967296 ^ most :=
  Nat.lt_of_lt_of_le (val_lt (clipped_lt l most)) (Nat.pow_le_pow_right (by omega) (clipped_len l most))
theorem cleaned_len (l : List Nat) (most : Nat) : (digs 4294967296 (cleaned l most)).length ≤ most := digs_len_le (by omega) (cleaned_lt l most)
theorem clean_any (v : Value) (l : List Nat) (mI : Int) (most : Nat) (w : World) (hmI : mI = (most : Int)) (h : IsS w .u64 v l) (hu : Lt 18446744073709551616 l) (hmost : most ≤ 1000000) :
    Calls Tryz.prog 30 #[v, .int .i64 mI] w (RetS .u64 (digs 4294967296 (cleaned l most)) w) := by
  have := refClean_list v l mI most w hmI h hu hmost
  rw [trim_digs (by omega) (clipped_lt l most)] at this
  exact this
theorem cleaned_bits (l : List Nat) (most : Nat) : nbits (cleaned l most) ≤ 32 * most := by
  have h := cleaned_lt l most
  rw [pow32] at h
  exact nbits_le_of h
theorem cleaned_sz (l : List Nat) : nbits (cleaned l 24) ≤ 768 := cleaned_bits l 24
theorem dec_len (x : Nat) : (digs 10000 x).length ≤ nbits x := len10000_pow nbits_lt
theorem limb_len (x : Nat) : (digs 4294967296 x).length ≤ nbits x := len32_pow nbits_lt
theorem nbits_add (x y : Nat) : nbits (x + y) ≤ nbits x + nbits y + 1 := by
  refine nbits_le_of ?_
  have h1 := nbits_lt (x := x)
  have h2 := nbits_lt (x := y)
  have h3 := Nat.pow_le_pow_right (n := 2) (by omega) (show nbits x ≤ nbits x + nbits y by omega)
  have h4 := Nat.pow_le_pow_right (n := 2) (by omega) (show nbits y ≤ nbits x + nbits y by omega)
  rw [Nat.pow_succ]; omega
theorem nbits_pow (n : Nat) : nbits (2 ^ n) = n + 1 := nbits_of (Nat.pow_lt_pow_right (by omega) (by omega)) (Nat.le_refl _)
theorem nbits_shift {x : Nat} (n : Nat) (hx : 0 < x) : nbits (x * 2 ^ n) = nbits x + n := by
  have h1 := nbits_lt (x := x)
  have h2 := nbits_le hx
  have h3 : 0 < nbits x := by
    rcases Nat.eq_zero_or_pos (nbits x) with h | h
    · rw [h] at h1; omega
    · exact h
  obtain ⟨b, hb⟩ : ∃ b, nbits x = b + 1 := ⟨nbits x - 1, by omega⟩
  rw [hb] at h1 h2 ⊢
  have e1 := Nat.mul_lt_mul_of_pos_right h1 (show 0 < 2 ^ n from Nat.pow_pos (by omega))
  have e2 := Nat.mul_le_mul_right (2 ^ n) h2
  rw [← Nat.pow_add] at e1 e2
  rw [show b + 1 + n = (b + n) + 1 from by omega]
  exact nbits_of (by rw [show b + n + 1 = b + 1 + n from by omega]; exact e1) (by simpa using e2)
theorem nbits_shift_le (x n : Nat) : nbits (x * 2 ^ n) ≤ nbits x + n := by
  rcases Nat.eq_zero_or_pos x with h | h
  · subst h; rw [Nat.zero_mul, nbits_zero]; omega
  · rw [nbits_shift n h]; omega
theorem nbits_mono {x y : Nat} (h : x ≤ y) : nbits x ≤ nbits y := nbits_le_of (Nat.lt_of_le_of_lt h nbits_lt)
theorem digs_lt_u (x : Nat) : Lt 18446744073709551616 (digs 4294967296 x) := (digs_lt (by omega) x).more (by omega)

theorem digs_two (a b : Nat) (ha : a < 4294967296) (hb : b < 4294967296) (h0 : 0 < b) : digs 4294967296 (a + 4294967296 * b) = [a, b] := by
  rw [digs_pos (by omega) (by omega)]
  have e1 : (a + 4294967296 * b) % 4294967296 = a := by omega
  have e2 : (a + 4294967296 * b) / 4294967296 = b := by omega
  rw [e1, e2, digs_pos (by omega) h0, show b % 4294967296 = b from by omega, show b / 4294967296 = 0 from by omega, digs_zero]
theorem digs_one (a : Nat) (ha : a < 4294967296) (h0 : 0 < a) : digs 4294967296 a = [a] := by
  rw [digs_pos (by omega) h0, show a % 4294967296 = a from by omega, show a / 4294967296 = 0 from by omega, digs_zero]

theorem lit1_at (w : World) (g : Nat) (e : TypeId) {x : Int} {d : Nat} (hd : x = (d : Int)) (hg : g = w.heap.size) : IsS (w.alloc (.cells #[.int .u64 x] e)) .u64 (.slice (some ⟨g, 0, none⟩) 1 1) [d] := by
  subst hg; exact (own_lit1 w 0 e .u64 hd (Nat.zero_le _)).isS
end Go.Proofs.YtbebmknfecehnaaGreat.nat
namespace Go.Proofs.YtbebmknfecehnaaGreat.nat
open Go.RowKit Go.Proofs.YtbebmknfecehnaaGreat.num Go.Proofs.YtbebmknfecehnaaGreat.mem Go.Proofs.YtbebmknfecehnaaGreat.limb
set_option linter.unusedVariables false
theorem digs_inj {x y : Nat} : digs 4294967296 x = digs 4294967296 y ↔ x = y := by
  constructor
  · intro h
    have e := congrArg (val 4294967296) h
    rwa [val_digs (by omega), val_digs (by omega)] at e
  · rintro rfl; rfl
theorem sameB_digs (x y : Nat) : sameB (digs 4294967296 x) (digs 4294967296 y) = decide (x = y) := by
  unfold sameB
  by_cases h : x = y
  · subst h; simp
  · rw [decide_eq_false h, decide_eq_false (fun e => h (digs_inj.1 e))]
theorem bits_ge_tz (x : Nat) : tz x ≤ nbits x := by
  induction x using Nat.strongRecOn with
  | ind x ih =>
    by_cases h0 : x = 0
    · rw [h0, tz_zero]; omega
    · by_cases h1 : x % 2 = 1
      · rw [tz_odd h1]; omega
      · rw [tz_even h0 (by omega), nbits_half (by omega)]
        have := ih (x / 2) (by omega)
        omega
theorem same_num (v u : Value) (x y : Nat) (b : Bool) (w : World) (h : IsS w .u64 v (digs 4294967296 x)) (h' : IsS w .u64 u (digs 4294967296 y)) (hb : b = decide (x = y)) :
    Calls Tryz.prog 36 #[v, u] w (RetV (.bool b) w) := by
  rw [hb, ← sameB_digs]
  exact refSame_any v u _ _ w h h' (digs_lt_u x) (digs_lt_u y)
theorem same_one (v u : Value) (x : Nat) (w : World) (h : IsS w .u64 v (digs 4294967296 x)) (h' : IsS w .u64 u (digs 4294967296 x)) :
    Calls Tryz.prog 36 #[v, u] w (RetV (.bool true) w) := same_num v u x x true w h h' (by simp)

/-- Is one of them no limb? -/
def badB (l : List Nat) : Bool := l.any fun d => decide (4294967296 ≤ d)
theorem badB_step {l : List Nat} {k d : Nat} (h : l[k]? = some d) : badB (l.take (k + 1)) = (badB (l.take k) || decide (4294967296 ≤ d)) := by
  unfold badB
  rw [take_step h, List.any_append]; simp
theorem badB_false {l : List Nat} (h : Lt 4294967296 l) : badB l = false := by
  unfold badB
  rw [List.any_eq_false]
  intro d hd
  have := h d hd
  simp; omega
theorem badB_true {l : List Nat} (h : ¬ Lt 4294967296 l) : badB l = true := by
  rcases hb : badB l with _ | _
  · exfalso
    refine h fun d hd => ?_
    unfold badB at hb
    rw [List.any_eq_false] at hb
    have := hb d hd
    simp at this; omega
  · rfl
theorem val_drop_le {B : Nat} (hB : 1 ≤ B) (l : List Nat) (n : Nat) : val B (l.drop n) ≤ val B l := by
  have h1 := val_append B (l.take n) (l.drop n)
  rw [List.take_append_drop] at h1
  have h2 := Nat.mul_le_mul_right (val B (l.drop n)) (Nat.pow_pos (n := (l.take n).length) (show 0 < B from hB))
  omega
theorem cleaned_val {l : List Nat} (h : Lt 4294967296 l) (hl : l.length ≤ 24) : cleaned l 24 = val 4294967296 l := by unfold cleaned; rw [clipped_same h hl]
theorem cleaned_two (n : Nat) (h : n < 18446744073709551616) : cleaned [n, n / 4294967296] 2 = n := by
  simp [cleaned, clipped, val]; omega
theorem ord_small {x : Nat} (h : nbits x ≤ 63) : ord x (2 ^ 63) < 0 := by
  rw [ord_lt0]
  exact Nat.lt_of_lt_of_le nbits_lt (Nat.pow_le_pow_right (by omega) h)
theorem ord_big {x : Nat} (h : 63 < nbits x) : ¬ ord x (2 ^ 63) < 0 := by
  rw [ord_lt0]
  have h1 := nbits_big.1 h
  have h2 : (2 : Nat) ^ 63 = 9223372036854775808 := by decide
  omega
end Go.Proofs.YtbebmknfecehnaaGreat.nat
