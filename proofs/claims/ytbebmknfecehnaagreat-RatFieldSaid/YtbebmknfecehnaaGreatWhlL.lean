/- What the laws of layer 7 share: an argument as a whole number, sizes, the document's Same on two that are one. Condition: as each says. -/
import Derived.Test.YtbebmknfecehnaaGreatWhlH
import Derived.Lib.SmallJoins
import Derived.ProofKit
import Derived.OpenShut
namespace Go.Proofs.YtbebmknfecehnaaGreat.whl
open Go.RowKit Go.ChangeShapes Go.WideShapes Go.ChangeAt Go.Joins Go.Deep Go.Proofs.YtbebmknfecehnaaGreat.num Go.Proofs.YtbebmknfecehnaaGreat.mem Go.Proofs.YtbebmknfecehnaaGreat.nat Go.Proofs.YtbebmknfecehnaaGreat.txt Go.Proofs.YtbebmknfecehnaaGreat.str Go.Proofs.YtbebmknfecehnaaGreat.flow
set_option linter.unusedVariables false

theorem trod_nat {H : Type} {enc : TypeId × Value → H} {P : Program} {W : World} {t e : TypeId} {n : Nat} {v : Value} {y : DataW H × List MemPlace} (ht : P.underlying t = some (.slice e)) (he : P.underlying e = some (.int .u64)) (hc : P.cellsOf e = 1)
    (h : DataW.trod enc P W 0 (fun _ => true) true n t [v] = some y) : ∃ l : List Nat, IsS W .u64 v l ∧ Lt 18446744073709551616 l := by
  rcases open_ints ht he hc h with ⟨hcs, hx⟩ | ⟨a, len, cap, zs, hcs, _, hl, hm, hz, hx, hcell, hwz⟩
  · injection hcs with hcs _
    subst hcs
    exact ⟨[], isNil _ _, Lt.nil _⟩
  · injection hcs with hcs _
    subst hcs
    simp only [if_true] at hz
    have hlen : ((zs.take len).map Int.toNat).length = len := by simp; omega
    refine ⟨(zs.take len).map Int.toNat, ⟨some a, cap, by rw [hlen], by rw [hlen]; exact hl, hm, ?_⟩, ?_⟩
    · intro i d hd
      have hi : i < len := by rw [← hlen]; exact (List.getElem?_eq_some_iff.1 hd).1
      have hi2 : i < zs.length := by omega
      refine ⟨a, rfl, ?_⟩
      rw [hcell i hi2]
      have hb := wf_u64 (hwz _ (List.getElem_mem hi2))
      have hd2 : d = (zs[i]).toNat := by
        rw [List.getElem?_map, List.getElem?_take_of_lt hi, List.getElem?_eq_getElem hi2] at hd
        simpa using hd.symm
      rw [List.getD_eq_getElem?_getD, List.getElem?_eq_getElem hi2, hd2]
      simp only [Option.getD_some]
      rw [Int.toNat_of_nonneg hb.1]
    · intro d hd
      obtain ⟨z, hz1, rfl⟩ := List.mem_map.1 hd
      have hb := wf_u64 (hwz z (List.mem_of_mem_take hz1))
      omega
theorem arg_z {H : Type} {enc : TypeId × Value → H} {P : Program} {W : World} {base : Nat} {t e : TypeId} {f0 f1 : Field} {v : Value} {d : DataW H} {p : List MemPlace} (hs : P.underlying t = some (.struct #[f0, f1])) (hone : oneCellFields P #[f0, f1] = true) (hC : P.cellsOf t = 2)
    (hb : P.underlying f0.type = some .bool) (hsl : P.underlying f1.type = some (.slice e)) (he : P.underlying e = some (.int .u64)) (ce : P.cellsOf e = 1)
    (hv : Value.okWide P W .any base t v) (h : DataW.Trod enc P W 0 (fun _ => true) true t v d p) : ∃ b u l, v = .agg #[.bool b, u] ∧ IsS W .u64 u l ∧ Lt 18446744073709551616 l := by
  obtain ⟨v0, v1, y0, y1, n, rfl, _, _, h0, h1⟩ := open_agg2 hs hone hC hv h
  obtain ⟨b, e0, _⟩ := DataW.trod_bool hb h0
  injection e0 with e0 _
  subst e0
  obtain ⟨l, h2, h3⟩ := trod_nat hsl he ce h1
  exact ⟨b, v1, l, rfl, h2, h3⟩
theorem lenZ_add_le {x y : Int} {m n : Nat} (h : lenZ x ≤ m) (h' : lenZ y ≤ n) : lenZ (x + y) ≤ m + n + 1 := by have := lenZ_add x y; omega
theorem lenZ_sub_le {x y : Int} {m n : Nat} (h : lenZ x ≤ m) (h' : lenZ y ≤ n) : lenZ (x - y) ≤ m + n + 1 := by have := lenZ_sub x y; omega
theorem lenZ_mul_le {x y : Int} {m n : Nat} (h : lenZ x ≤ m) (h' : lenZ y ≤ n) : lenZ (x * y) ≤ m + n := by have := lenZ_mul x y; omega
theorem lenZ_neg_le {x : Int} {m : Nat} (h : lenZ x ≤ m) : lenZ (-x) ≤ m := by rw [lenZ_neg]; exact h
theorem fdiv_abs {x y : Int} (hy : y ≠ 0) : (x.fdiv y).natAbs ≤ x.natAbs ∧ (x.fmod y).natAbs < y.natAbs := by
  have hp : 0 < y.natAbs := by omega
  have hlt := Nat.mod_lt x.natAbs hp
  have e := Nat.div_add_mod x.natAbs y.natAbs
  have h1 : x.natAbs / y.natAbs ≤ y.natAbs * (x.natAbs / y.natAbs) := Nat.le_mul_of_pos_left _ hp
  by_cases hs : ngB x = ngB y ∨ x.natAbs % y.natAbs = 0
  · obtain ⟨h2, h3⟩ := floor_same hy hs
    rw [← h2, ← h3, sg_abs, sg_abs]
    exact ⟨by omega, hlt⟩
  · obtain ⟨h2, h3⟩ := floor_off hy (fun h => hs (.inl h)) (by rcases Nat.eq_zero_or_pos (x.natAbs % y.natAbs) with h | h; exact absurd (Or.inr h) hs; exact h)
    rw [← h2, ← h3, sg_abs, sg_abs]
    have : 0 < x.natAbs % y.natAbs := by rcases Nat.eq_zero_or_pos (x.natAbs % y.natAbs) with h | h; exact absurd (Or.inr h) hs; exact h
    exact ⟨by omega, by omega⟩
theorem fmod_sign {x y : Int} (hy : y ≠ 0) (h : x.fmod y ≠ 0) : ordz (x.fmod y) 0 = ordz y 0 := by
  have key : ∀ m : Nat, sg (ngB y) m ≠ 0 → ordz (sg (ngB y) m) 0 = ordz y 0 := by
    intro m hm
    rcases hs : ngB y with _ | _
    · rw [hs] at hm
      have h1 := ngB_false hs
      rw [sg_false] at hm ⊢
      rw [ordz_gt (by omega), ordz_gt (by omega)]
    · rw [hs] at hm
      have h1 := ngB_true hs
      rw [sg_true] at hm ⊢
      rw [ordz_lt (by omega), ordz_lt (by omega)]
  by_cases hs : ngB x = ngB y ∨ x.natAbs % y.natAbs = 0
  · obtain ⟨_, h3⟩ := floor_same hy hs
    rw [← h3] at h ⊢
    exact key _ h
  · obtain ⟨_, h3⟩ := floor_off hy (fun h => hs (.inl h)) (by rcases Nat.eq_zero_or_pos (x.natAbs % y.natAbs) with h | h; exact absurd (Or.inr h) hs; exact h)
    rw [← h3] at h ⊢
    exact key _ h
theorem lenZ_fdiv_le {x y : Int} {m : Nat} (hy : y ≠ 0) (h : lenZ x ≤ m) : lenZ (x.fdiv y) ≤ m := Nat.le_trans (lenZ_mono (fdiv_abs hy).1) h
theorem lenZ_fmod_le {x y : Int} {m : Nat} (hy : y ≠ 0) (h : lenZ y ≤ m) : lenZ (x.fmod y) ≤ m := Nat.le_trans (lenZ_mono (Nat.le_of_lt (fdiv_abs hy).2)) h
/-- A variable that the region made: it holds its type's zero value. -/
def pn (t : TypeId) (cells : Array Value) (B : Nat) : Pd := ⟨fun w v => ∃ g, v = .pointer (some ⟨g, 0, none⟩) ∧ B ≤ g ∧ Blk w g t cells, fun h hb => by obtain ⟨g, e, h1, h2⟩ := h; exact ⟨g, e, h1, h2.below hb⟩⟩
/-- Two whole numbers, and an error's number. -/
def pzz (x y : Int) (n : Int) (B : Nat) : Pd := ⟨fun w t => ∃ v u, t = .tuple #[v, u, .int .i64 n] ∧ IsZ w v x ∧ IsZ w u y ∧ FreshZ B v ∧ FreshZ B u, fun h hb => by obtain ⟨v, u, e, h1, h2, h3⟩ := h; exact ⟨v, u, e, h1.below hb, h2.below hb, h3⟩⟩
def pze (x : Int) (n : Int) (B : Nat) : Pd := ⟨fun w t => ∃ v, t = .tuple #[v, .int .i64 n] ∧ IsZ w v x ∧ FreshZ B v, fun h hb => by obtain ⟨v, e, h1, h2⟩ := h; exact ⟨v, e, h1.below hb, h2⟩⟩
def prr (x y : Int) : Pd := ⟨fun w t => ∃ v u, t = .tuple #[v, u] ∧ IsR w v x ∧ IsR w u y, fun h hb => by obtain ⟨v, u, e, h1, h2⟩ := h; exact ⟨v, u, e, h1.below hb, h2.below hb⟩⟩
theorem RetZZE.pd {x y : Int} {n : Int} {w : World} {e : Ending} {w' : World} {B : Nat} (h : RetZZE x y n w e w') (hB : B ≤ w.heap.size) : RetPd (pzz x y n B) w e w' := by
  obtain ⟨v, u, rfl, h1, h2, h3, h4, h5⟩ := h
  exact ⟨_, rfl, ⟨v, u, rfl, h1, h2, h3.mono hB, h4.mono hB⟩, h5⟩
theorem RetZE.pd {x : Int} {n : Int} {w : World} {e : Ending} {w' : World} {B : Nat} (h : RetZE x n w e w') (hB : B ≤ w.heap.size) : RetPd (pze x n B) w e w' := by
  obtain ⟨v, rfl, h1, h2, h3⟩ := h
  exact ⟨_, rfl, ⟨v, rfl, h1, h2.mono hB⟩, h3⟩
theorem RetRR.pd {x y : Int} {w : World} {e : Ending} {w' : World} (h : RetRR x y w e w') : RetPd (prr x y) w e w' := by
  obtain ⟨v, u, rfl, h1, h2, h3⟩ := h
  exact ⟨_, rfl, ⟨v, u, rfl, h1, h2⟩, h3⟩
theorem zsame_eq (a0 a1 : Value) (x y : Int) (w : World) (h0 : IsZ w a0 x) (h1 : IsZ w a1 y) (e : x = y) : Calls Tryz.prog 35 #[a0, a1] w (RetV (.bool true) w) := by
  subst e
  exact zsame_one a0 a1 x w h0 h1
end Go.Proofs.YtbebmknfecehnaaGreat.whl
