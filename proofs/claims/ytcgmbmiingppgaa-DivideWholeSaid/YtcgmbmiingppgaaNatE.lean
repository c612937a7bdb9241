/- Package nat: Shl, Shr. Condition: slices read as limbs. -/
import Derived.Test.YtcgmbmiingppgaaNatD
import Derived.Deep.RegionLaw
namespace Go.Proofs.Ytcgmbmiingppgaa.mem
open Go.RowKit
set_option linter.unusedVariables false
/-- A slice cut at its head. -/
theorem Rd.drop {w : World} {A : Option Addr} {k : IntKind} {l : List Nat} (h : Rd w A k l) (n : Nat) : Rd w (A.map (·.add n)) k (l.drop n) := by
  intro i d hd
  rw [List.getElem?_drop] at hd
  obtain ⟨ad, rfl, hc⟩ := h _ d hd
  refine ⟨ad.add n, rfl, ?_⟩
  have e : (ad.add n).add i = ad.add (n + i) := by
    unfold Addr.add
    by_cases hn : n = 0 <;> by_cases hi : i = 0 <;> simp [hn, hi, Nat.add_assoc]
  rw [e]; exact hc
theorem Rd.isDrop {w : World} {A : Option Addr} {k : IntKind} {l : List Nat} (h : Rd w A k l) {n c : Nat} (hc : l.length ≤ c) (hm : c ≤ maxLen) (hn : n ≤ l.length) : IsS w k (.slice (A.map fun x => x.add n) (l.length - n) (c - n)) (l.drop n) :=
  ⟨_, _, by rw [List.length_drop], by rw [List.length_drop]; omega, by omega, h.drop n⟩
theorem isEmpty_ {w : World} {A : Option Addr} {k : IntKind} {l : List Nat} {n m c : Nat} (hm : m = 0) (hl : l.length ≤ n) (hc : c ≤ maxLen) : IsS w k (.slice A m c) (l.drop n) := by
  rw [List.drop_of_length_le hl, hm]
  exact ⟨_, _, rfl, by simp, hc, Rd.nil⟩
theorem Fresh.drop {B : Nat} {A : Option Addr} {n c : Nat} (h : Fresh B (.slice A n c)) (i m d : Nat) : Fresh B (.slice (A.map fun x => x.add i) m d) := by
  intro ad n' c' e
  rcases A with _ | a
  · injection e with e _ _; cases e
  · injection e with e _ _
    injection e with e
    subst e
    rw [block_add]; exact h a _ _ rfl
theorem Fresh.cut {B : Nat} {A : Option Addr} {n c : Nat} (h : Fresh B (.slice A n c)) (m d : Nat) : Fresh B (.slice A m d) := by
  rintro ad n' c' e
  injection e with e _ _
  subst e; exact h ad _ _ rfl
end Go.Proofs.Ytcgmbmiingppgaa.mem
namespace Go.Proofs.Ytcgmbmiingppgaa.nat
open Go.RowKit Go.Proofs.Ytcgmbmiingppgaa.num Go.Proofs.Ytcgmbmiingppgaa.mem Go.Proofs.Ytcgmbmiingppgaa.limb
set_option linter.unusedVariables false

theorem step_append_rd {P : Program} {w : World} {ops : Array Oper} {o : Oper} {a : Act} {K : Act → World → Prop} {Q : Exit → Act → World → Prop} {E : Prop} (hgd : o.guard = none) (s x : Operand) {t : TypeId}
    (ho : o.op = .call { callee := .builtin .append, args := #[s, x], argTypes := #[t, t] })
    {base : Nat} {e : TypeId} {k : IntKind} (hT : SliceT P t e k) {v : Value} {l news : List Nat} (hs : a.eval s = v) (hown : Own w base e k v l) {A : Option Addr} {m c : Nat} (hx : a.eval x = .slice A m c) (hm : m = news.length) (hr : Rd w A k news)
    (hlen : l.length + m ≤ 10000000000000) (hbase : base ≤ w.heap.size)
    (h : ∀ v' w', Own w' base e k v' (l ++ news) → Below base w w' → K (a.put o.dst v') w') :
    if Region.wanted o (yielded ops a.tmps) = true then Oper.wp P o a w K Q else E := by
  have hw : Region.wanted o (yielded ops a.tmps) = true := by simp [Region.wanted, hgd]
  rw [if_pos hw]
  exact wp_append_rd s x ho hT hs hown hx hm hr hlen hbase fun v' w' h1 h2 => h v' w' h1 ((Below.refl base w).grown h2 hbase hown.base_le)
theorem run_make24 (n : Nat) (hn : n ≤ 10000000000000) (w : World) :
    (Instr.makeSlice 23 (.int .i64 (n : Int)) (.int .i64 (n : Int))).run Try.prog w = .ok (.slice (some ⟨w.heap.size, 0, none⟩) n n) (w.alloc (.cells (madeCells #[.int .u64 0] n) 30)) := by
  obtain ⟨i, hi, hz, hs, hb⟩ := sl24.info
  have h := run_make (P := Try.prog) w 23 30 i (.int .u64 0) sl24.und hi hz .i64 .i64 n n (by omega) (Int.le_refl _) (by rw [hb]; omega) (by omega)
  rw [hs, Nat.mul_one] at h
  simp only [Int.toNat_natCast] at h
  exact h

set_option maxHeartbeats 400000 in
theorem shr_no (v : Value) (n : Int) (w : World) (hn : n < 0 ∨ 100000 < n) :
    Calls Try.prog 28 #[v, .int .i64 n] w (RetSI .u64 [] 2 w) := by
  rcases hn with hn | hn
  all_goals
    go_enter Try.func28, Try.ntmps28
    go_wp2
    go_ret2
    exact ⟨_, rfl, isNil _ _, fresh_nil _, Below.refl _ _⟩

theorem val_drop_div {B : Nat} (hB : 2 ≤ B) {l : List Nat} (h : Lt B l) (n : Nat) : val B (l.drop n) = val B l / B ^ n := by
  by_cases hn : n ≤ l.length
  · have h1 := val_append B (l.take n) (l.drop n)
    have h2 := val_lt (h.take n)
    rw [List.take_append_drop] at h1
    rw [show (l.take n).length = n from by simp; omega] at h1 h2
    rw [h1, Nat.add_mul_div_left _ _ (Nat.pow_pos (by omega)), Nat.div_eq_of_lt h2, Nat.zero_add]
  · rw [List.drop_of_length_le (by omega), val_nil]
    have h2 := val_lt h
    have h3 := Nat.pow_le_pow_right (n := B) (by omega) (show l.length ≤ n by omega)
    rw [Nat.div_eq_of_lt (by omega)]
theorem shr_val {x n g : Nat} (hg : n ≤ g * 32) : x * 2 ^ (g * 32 - n) / 4294967296 ^ g = x / 2 ^ n := by
  have e : (4294967296 : Nat) ^ g = 2 ^ n * 2 ^ (g * 32 - n) := by rw [pow32, ← Nat.pow_add]; congr 1; omega
  rw [e, Nat.mul_div_mul_right _ _ (Nat.pow_pos (by omega))]

set_option maxHeartbeats 800000 in
theorem shr_ok (v : Value) (x : Nat) (nI : Int) (n : Nat) (w : World) (hn : nI = (n : Int)) (h : IsS w .u64 v (digs 4294967296 x)) (hl : (digs 4294967296 x).length ≤ 1000000) (hn2 : n ≤ 100000) (y : Nat) (hy : y = x / 2 ^ n) :
    Calls Try.prog 28 #[v, .int .i64 nI] w (RetSI .u64 (digs 4294967296 y) 0 w) := by
  subst hn
  have HY : Hid (y = x * 2 ^ ((n + 31) / 32 * 32 - n) / 4294967296 ^ ((n + 31) / 32)) := by show _ = _; rw [hy, shr_val (by omega)]
  clear hy
  go_enter Try.func28, Try.ntmps28
  go_wp2_with fail
  refine (raised_any _ x _ ((n + 31) / 32 * 32 - n) _ (by omega) h hl (by omega)).mono ?_
  rintro e w2 ⟨v2, r2, rfl, hv2, hlt2, hlen2, hval2, hf2, hb2⟩
  obtain ⟨A2, c2, rfl, hc2, hm2, hr2⟩ := hv2
  have hlb : r2.length ≤ 1000001 := by omega
  have HV : Hid (y = val 4294967296 (r2.drop ((n + 31) / 32))) := by show _ = _; rw [val_drop_div (by omega) hlt2, hval2]; exact HY.out
  have hlt3 := hlt2.drop ((n + 31) / 32)
  clear hlen2 hval2
  have hm3 := hm2
  unfold maxLen at hm2
  by_cases hgl : (n + 31) / 32 ≤ r2.length
  · go_wp2_with fail
    all_goals
      refine (trimmed_digs _ (r2.drop ((n + 31) / 32)) y _ (by first | exact hr2.isDrop hc2 hm3 hgl | exact isEmpty_ (by omega) (by omega) (by omega)) hlt3 HV.out).mono ?_
      rintro e w3 ⟨v3, rfl, hv3, hf3, rfl⟩
      go_wp2
      go_ret2
      exact ⟨_, rfl, hv3, hf3 _ (by first | exact hf2.drop _ _ _ | exact hf2.cut _ _), hb2⟩
  · go_wp2_with fail
    all_goals
      refine (trimmed_digs _ (r2.drop ((n + 31) / 32)) y _ (isEmpty_ (by omega) (by omega) (by omega)) hlt3 HV.out).mono ?_
      rintro e w3 ⟨v3, rfl, hv3, hf3, rfl⟩
      go_wp2
      go_ret2
      exact ⟨_, rfl, hv3, hf3 _ (by first | exact hf2.drop _ _ _ | exact hf2.cut _ _), hb2⟩
end Go.Proofs.Ytcgmbmiingppgaa.nat
