/- An argument as a fraction: a struct of a struct and a slice. Condition: as it says. -/
import Derived.Test.YtbebmknfecehnaaGreatWhlL
import Derived.Test.YtbebmknfecehnaaGreatRatB
namespace Go.Proofs.YtbebmknfecehnaaGreat.rat
open Go.RowKit Go.ChangeShapes Go.WideShapes Go.ChangeAt Go.Joins Go.Deep Go.Proofs.YtbebmknfecehnaaGreat.num Go.Proofs.YtbebmknfecehnaaGreat.mem Go.Proofs.YtbebmknfecehnaaGreat.nat Go.Proofs.YtbebmknfecehnaaGreat.txt Go.Proofs.YtbebmknfecehnaaGreat.str Go.Proofs.YtbebmknfecehnaaGreat.flow Go.Proofs.YtbebmknfecehnaaGreat.whl
set_option linter.unusedVariables false

theorem arg_q {H : Type} {enc : TypeId × Value → H} {P : Program} {W : World} {base : Nat} {t e : TypeId} {f0 f1 g0 g1 : Field} {v : Value} {d : DataW H} {p : List MemPlace} (hs : P.underlying t = some (.struct #[f0, f1])) (hC : P.cellsOf t = 3) (ho : (f0.offset == 0 && f1.offset == 2 && P.cellsOf f0.type == 2 && P.cellsOf f1.type == 1) = true)
    (hs2 : P.underlying f0.type = some (.struct #[g0, g1])) (hone : oneCellFields P #[g0, g1] = true) (hb : P.underlying g0.type = some .bool) (hsl : P.underlying g1.type = some (.slice e)) (hsl2 : P.underlying f1.type = some (.slice e)) (he : P.underlying e = some (.int .u64)) (ce : P.cellsOf e = 1)
    (hv : Value.okWide P W .any base t v) (h : DataW.Trod enc P W 0 (fun _ => true) true t v d p) : ∃ b u r l m, v = .agg #[.bool b, u, r] ∧ IsS W .u64 u l ∧ Lt 18446744073709551616 l ∧ IsS W .u64 r m ∧ Lt 18446744073709551616 m := by
  simp only [Bool.and_eq_true, beq_iff_eq] at ho
  obtain ⟨⟨⟨o0, o1⟩, k0⟩, k1⟩ := ho
  obtain ⟨cs, rfl, hsz⟩ := okWide_struct hs hv
  obtain ⟨L⟩ := cs
  match L, hsz.trans hC with
  | [c0, c1, c2], _ =>
    obtain ⟨fuel, hf⟩ := h
    obtain ⟨xs, n, _, hx, _, hlen, hg⟩ := DataW.trod_struct hs hf
    have h0 := hg 0 f0 rfl
    have h1 := hg 1 f1 rfl
    simp [Value.cells, o0, o1, k0, k1] at h0 h1
    match xs, hlen with
    | [y0, y1], _ =>
      have h0' : DataW.trod enc P W 0 (fun _ => true) true n f0.type [c0, c1] = some y0 := by simpa using h0
      have h1' : DataW.trod enc P W 0 (fun _ => true) true n f1.type [c2] = some y1 := by simpa using h1
      obtain ⟨zs, n2, _, hz, _, hlen2, hg2⟩ := DataW.trod_struct hs2 h0'
      obtain ⟨p0, q0⟩ := hone_of hone 0 g0 rfl
      obtain ⟨p1, q1⟩ := hone_of hone 1 g1 rfl
      have j0 := hg2 0 g0 rfl
      have j1 := hg2 1 g1 rfl
      simp [p0, p1, q0, q1] at j0 j1
      match zs, hlen2 with
      | [z0, z1], _ =>
        have j0' : DataW.trod enc P W 0 (fun _ => true) true n2 g0.type [c0] = some z0 := by simpa using j0
        have j1' : DataW.trod enc P W 0 (fun _ => true) true n2 g1.type [c1] = some z1 := by simpa using j1
        obtain ⟨b, e0, _⟩ := DataW.trod_bool hb j0'
        injection e0 with e0 _
        subst e0
        obtain ⟨l, a1, a2⟩ := trod_nat hsl he ce j1'
        obtain ⟨m, b1, b2⟩ := trod_nat hsl2 he ce h1'
        exact ⟨b, c1, c2, l, m, rfl, a1, a2, b1, b2⟩
end Go.Proofs.YtbebmknfecehnaaGreat.rat
