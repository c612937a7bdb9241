/- An argument that is a slice of texts. Condition: as it says. -/
import Derived.Test.YtagaabooccnamaaNamD
import Derived.OpenShut
import Derived.LaidMore
namespace Go.Proofs.Ytagaabooccnamaa.str
open Go.ChangeShapes Go.WideShapes Go.ChangeAt Go.RowKit Go.Proofs.Ytagaabooccnamaa.num Go.Proofs.Ytagaabooccnamaa.mem Go.Proofs.Ytagaabooccnamaa.txt
set_option linter.unusedVariables false
def ArgS (w : World) (v : Value) : Prop := ∃ ss, IsT w v ss ∧ ∀ s ∈ ss, s.length ≤ maxLen
theorem IsT.take {w : World} {A : Option Addr} {n c : Nat} {ss : List (List UInt8)} (h : IsT w (.slice A n c) ss) {m : Nat} (hm : m ≤ ss.length) : IsT w (.slice A m c) (ss.take m) := by
  obtain ⟨A', c', e, h1, h2⟩ := h
  injection e with e1 e2 e3
  subst e1; subst e2; subst e3
  have hl : (ss.take m).length = m := by rw [List.length_take]; omega
  refine ⟨A, c, by rw [hl], by rw [hl]; omega, fun i s hs => ?_⟩
  have hi : i < m := by rw [← hl]; exact (List.getElem?_eq_some_iff.1 hs).1
  rw [List.getElem?_take_of_lt hi] at hs
  exact h2 i s hs
theorem arg_ss {H : Type} {enc : TypeId × Value → H} {P : Program} {W : World} {base : Nat} {t e : TypeId} {v : Value} {d : DataW H} {p : List MemPlace} (ht : P.underlying t = some (.slice e)) (he : P.underlying e = some .string) (hc : P.cellsOf e = 1)
    (hv : Value.okWide P W .any base t v) (h : DataW.Trod enc P W 0 (fun _ => true) true t v d p) : ArgS W v := by
  obtain ⟨a0, len, cap, rfl⟩ := okWide_slice ht hv
  obtain ⟨fuel, hf⟩ := h
  rcases open_strings ht he hc hf with ⟨hcs, hx⟩ | ⟨a, len', cap', ss, hcs, _, hl, hm, hz, hx, hcell, hwz⟩
  · simp [Value.cells] at hcs
    obtain ⟨rfl, rfl, rfl⟩ := hcs
    exact ⟨[], ⟨none, 0, rfl, by simp, fun i s hs => by cases hs⟩, fun s hs => by cases hs⟩
  · simp [Value.cells] at hcs
    obtain ⟨rfl, rfl, rfl⟩ := hcs
    simp only [if_true] at hz
    have hlen : ((ss.take len).map fun S => S.data.toList).length = len := by simp; omega
    refine ⟨(ss.take len).map fun S => S.data.toList, ⟨some a, cap, by rw [hlen], by rw [hlen]; exact hl, fun i s hs => ⟨a, rfl, ?_⟩⟩, fun s hs => ?_⟩
    · have hi : i < len := by rw [← hlen]; exact (List.getElem?_eq_some_iff.1 hs).1
      have hi2 : i < ss.length := by omega
      rw [hcell i hi2]
      rw [List.getElem?_map, List.getElem?_take_of_lt hi, List.getElem?_eq_getElem hi2] at hs
      obtain rfl : ss[i].data.toList = s := by simpa using hs
      rw [List.getD_eq_getElem?_getD, List.getElem?_eq_getElem hi2]
      simp
    · obtain ⟨S, hS, rfl⟩ := List.mem_map.1 hs
      have h1 := hwz S (List.mem_of_mem_take hS)
      rw [← (show S.size = S.data.toList.length from (StrIs.size (S := S) rfl))]
      exact h1
end Go.Proofs.Ytagaabooccnamaa.str
