/- What WholeMakes wants: an argument as a slice of whole numbers; a row of whole numbers that the call makes by append. Condition: as each says. -/
import Derived.Test.YtbebmknfecehnaaGreatWhlP
import Derived.Test.YtbebmknfecehnaaGreatWhlQ
namespace Go.Proofs.YtbebmknfecehnaaGreat.whl
open Go.RowKit Go.ChangeShapes Go.WideShapes Go.ChangeAt Go.Joins Go.Deep Go.Proofs.YtbebmknfecehnaaGreat.num Go.Proofs.YtbebmknfecehnaaGreat.mem Go.Proofs.YtbebmknfecehnaaGreat.nat Go.Proofs.YtbebmknfecehnaaGreat.txt Go.Proofs.YtbebmknfecehnaaGreat.str Go.Proofs.YtbebmknfecehnaaGreat.flow
set_option linter.unusedVariables false

/-- A slice of structs of a sign and limbs, as it came in. -/
def ArgZ (w : World) (v : Value) : Prop := ∃ A n c, v = .slice A n c ∧ n ≤ c ∧ c ≤ maxLen ∧ ∀ i, i < n → ∃ ad b u l, A = some ad ∧ w.cell? (ad.add (i * 2)) = some (.bool b) ∧ w.cell? (ad.add (i * 2 + 1)) = some u ∧ IsS w .u64 u l ∧ Lt 18446744073709551616 l
theorem arg_zs {H : Type} {enc : TypeId × Value → H} {P : Program} {W : World} {base : Nat} {t z e : TypeId} {f0 f1 : Field} {v : Value} {d : DataW H} {p : List MemPlace} (ht : P.underlying t = some (.slice z)) (hs : P.underlying z = some (.struct #[f0, f1])) (hone : oneCellFields P #[f0, f1] = true) (hC : P.cellsOf z = 2)
    (hb : P.underlying f0.type = some .bool) (hsl : P.underlying f1.type = some (.slice e)) (he : P.underlying e = some (.int .u64)) (ce : P.cellsOf e = 1)
    (hv : Value.okWide P W .any base t v) (h : DataW.Trod enc P W 0 (fun _ => true) true t v d p) : ArgZ W v := by
  obtain ⟨a0, len, cap, rfl⟩ := okWide_slice ht hv
  obtain ⟨fuel, hf⟩ := h
  obtain ⟨o0, c0⟩ := hone_of hone 0 f0 rfl
  obtain ⟨o1, c1⟩ := hone_of hone 1 f1 rfl
  rcases Go.Deep.open_slice_pairs ht hs hC o0 o1 c0 c1 hf with ⟨hcs, hx⟩ | ⟨a, len', cap', m, n, V0, V1, D0, D1, P0, P1, hcs, _, hl, hm, hmm, hx, hrows⟩
  · simp [Value.cells] at hcs
    obtain ⟨rfl, rfl, rfl⟩ := hcs
    exact ⟨none, 0, 0, rfl, by omega, by simp, fun i hi => by omega⟩
  · simp [Value.cells] at hcs
    obtain ⟨rfl, rfl, rfl⟩ := hcs
    refine ⟨some a, len, cap, rfl, hl, hm, fun i hi => ?_⟩
    obtain ⟨h1, h2, h3, h4⟩ := hrows i (by simp at hmm; omega)
    obtain ⟨b, e0, _⟩ := DataW.trod_bool hb h3
    injection e0 with e0 _
    obtain ⟨l, k1, k2⟩ := trod_nat hsl he ce h4
    exact ⟨a, b, V1 i, l, rfl, by rw [h1, e0], h2, k1, k2⟩

/-- A row's cells: a sign and a slice each. -/
def flat (ps : List (Int × Value)) : List Value := ps.flatMap fun p => [.bool (ngB p.1), p.2]
theorem flat_snoc (ps : List (Int × Value)) (p : Int × Value) : flat (ps ++ [p]) = flat ps ++ [.bool (ngB p.1), p.2] := by simp [flat]
theorem flat_at : ∀ (ps : List (Int × Value)) (i : Nat) (p : Int × Value), ps[i]? = some p → (flat ps)[i * 2]? = some (.bool (ngB p.1)) ∧ (flat ps)[i * 2 + 1]? = some p.2
  | [], i, p, h => by simp at h
  | q :: ps, 0, p, h => by
    obtain rfl : q = p := by simpa using h
    exact ⟨rfl, rfl⟩
  | q :: ps, i + 1, p, h => by
    have ih := flat_at ps i p (by simpa using h)
    have e : flat (q :: ps) = .bool (ngB q.1) :: q.2 :: flat ps := rfl
    rw [e, show (i + 1) * 2 = i * 2 + 1 + 1 from by omega]
    simpa using ih
/-- A row of the call's own that holds these whole numbers. -/
def RowZ (w : World) (base : Nat) (v : Value) (ps : List (Int × Value)) : Prop := w.ownsRow base 25 2 v ps.length (flat ps)
theorem RowZ.below {w w' : World} {base : Nat} {v : Value} {ps : List (Int × Value)} (h : RowZ w base v ps) (hb : Below w.heap.size w w') : RowZ w' base v ps :=
  World.ownsRow.kept (row := none) h ⟨hb.os, hb.tape, hb.output, hb.size, fun i hi _ => hb.block i hi⟩ (by cases hv : v.ownBlock <;> simp)
theorem RowZ.other {w w' : World} {base : Nat} {v : Value} {ps : List (Int × Value)} {row : Option Nat} (h : RowZ w base v ps) (hg : w.grownBy w' row) (hne : ∀ g, v.ownBlock = some g → row ≠ some g) : RowZ w' base v ps :=
  World.ownsRow.kept (row := row) h hg (by
    cases hv : v.ownBlock with
    | none => exact .inl rfl
    | some g => exact .inr fun e => hne g hv e.symm)
theorem RowZ.under {w : World} {base : Nat} {v : Value} {ps : List (Int × Value)} (h : RowZ w base v ps) : ∀ g, v.ownBlock = some g → g < w.heap.size := fun g hg => (World.ownsRow.lt h g hg).2
theorem RowZ.base_le {w : World} {base : Nat} {v : Value} {ps : List (Int × Value)} (h : RowZ w base v ps) : ∀ g, v.ownBlock = some g → base ≤ g := fun g hg => (World.ownsRow.lt h g hg).1
theorem RowZ.isVZ {w : World} {base : Nat} {v : Value} {ps : List (Int × Value)} (h : RowZ w base v ps) : IsVZ w v ps := by
  rcases h.2 with ⟨rfl, h0⟩ | ⟨g, cap, cur, rfl, _, hg, hn, hm, _, _⟩
  · obtain rfl : ps = [] := List.length_eq_zero_iff.1 h0
    exact ⟨none, 0, rfl, by simp, fun i u hu => by simp at hu⟩
  · exact ⟨_, cap, rfl, hn, fun i p hp => ⟨_, rfl, World.ownsRow.cells h (g := g) rfl _ _ (flat_at ps i p hp).1, World.ownsRow.cells h (g := g) rfl _ _ (flat_at ps i p hp).2⟩⟩
theorem rowZ_lit0 (w : World) (base : Nat) (hb : base ≤ w.heap.size) : RowZ (w.alloc (.cells #[] 25)) base (.slice (some ⟨w.heap.size, 0, none⟩) 0 0) [] := by
  have h := World.ownsRow_lit (e := 25) (size := 2) w #[] 0 hb (by simp) (by simp)
  simpa [RowZ, flat] using h
theorem info_int : ∃ i, Tryz.prog.info? 25 = some i ∧ i.zero = some (.agg #[.bool false, .slice none 0 0]) ∧ i.size = 2 ∧ i.bytes = 32 := info_parts (P := Tryz.prog) (e := 25) (z := .agg #[.bool false, .slice none 0 0]) (size := 2) (bytes := 32) (by kernel_rfl)
/-- 'all = append(all, x)', all a row of whole numbers of the call's own. -/
theorem wpList_append_z {w : World} {ops : Array Oper} {rest : List Oper} {o : Oper} {a : Act} {Q : Exit → Act → World → Prop} (hgd : o.guard = none) (s x : Operand) {t : TypeId}
    (ho : o.op = .call { callee := .builtin .append, args := #[s, x], argTypes := #[t, t] })
    {base : Nat} (hT : Tryz.prog.underlying t = some (.slice 25)) {v u : Value} {z : Int} {ps : List (Int × Value)} (hs : a.eval s = v) (hown : RowZ w base v ps) (hx : a.eval x = .slice (some ⟨w.heap.size, 0, none⟩) 1 1) (hu : u.oneCell' = true)
    (hlen : ps.length ≤ 1000000000) (hbase : base ≤ w.heap.size)
    (h : ∀ v' w', RowZ w' base v' (ps ++ [(z, u)]) → Below base w w' → Hid (Keeps w w' v v' ∧ w.grownBy w' v.ownBlock ∧ ∀ g, g < w.heap.size → v.ownBlock ≠ some g → v'.ownBlock ≠ some g) → wpList Tryz.prog ops Q rest (a.put o.dst v') w') : wpList Tryz.prog ops Q (o :: rest) a (w.alloc (.cells #[.bool (ngB z), u] 25)) := by
  obtain ⟨i, hi, hz, hsz, hby⟩ := info_int
  refine wpList_append_lies (w.alloc (.cells #[.bool (ngB z), u] 25)) hgd s x t ho base 25 i (.agg #[.bool false, .slice none 0 0]) 2 32 hT hi hz hsz hby rfl (by omega) v ps.length (flat ps) hs (World.ownsRow.alloc hown _) ⟨w.heap.size, 0, none⟩ 1 1 [.bool (ngB z), u] hx rfl ?_ ?_ (by omega) (by unfold maxLen; omega) (by omega) (by simp; omega) _ rfl ?_
  · exact World.news_of_block (heap_alloc_new w _)
  · exact one2 rfl hu
  · intro g cap w' h1 h2 h3 h4
    have h5 : w.grownBy w' v.ownBlock := grown_trans (World.grownBy_alloc w _ _) h2
    refine h _ w' (by unfold RowZ; rw [List.length_append, flat_snoc]; exact h1) ((Below.refl base w).grown h5 hbase hown.base_le) ?_
    refine ⟨?_, h5, fun k hk hne e1 => ?_⟩
    · intro k q l hq hf
      refine ⟨hq.farKept hf h5, ?_⟩
      rintro ad n c rfl hn
      rcases h3 with h3 | h3
      · have := hf ad n c rfl hn
        rw [h3] at this
        exact this
      · subst h3
        intro e1
        have e2 : ad.block = (w.alloc (.cells #[.bool (ngB z), u] 25)).heap.size := by simpa [Value.ownBlock] using e1
        obtain ⟨A, c', e3, g1, g2, g3⟩ := hq
        injection e3 with e3 e4 e5
        subst e3; subst e4
        obtain ⟨ad', he, hc⟩ := g3 0 _ (List.getElem?_eq_getElem hn)
        injection he with he; subst he
        have h6 := World.block_lt_of_cell? w _ hc
        rw [Go.ChangeShapes.block_add] at h6
        simp at e2
        omega
    · have e2 : g = k := by simpa [Value.ownBlock] using e1
      subst e2
      rcases h3 with h3 | h3
      · exact hne h3
      · simp at h3; omega
/-- Whole numbers in a row that lie elsewhere than the row itself. -/
def FarZ (w : World) (v : Value) (ps : List (Int × Value)) : Prop := ∀ p ∈ ps, IsS w .u64 p.2 (digs 4294967296 p.1.natAbs) ∧ Far v p.2
theorem FarZ.below {w w' : World} {v : Value} {ps : List (Int × Value)} (h : FarZ w v ps) (hb : Below w.heap.size w w') : FarZ w' v ps := fun p hp => ⟨(h p hp).1.below hb, (h p hp).2⟩
theorem FarZ.snoc {w w' : World} {v v' u : Value} {z : Int} {ps : List (Int × Value)} (h : FarZ w v ps) (hk : Keeps w w' v v') (hu : IsS w .u64 u (digs 4294967296 z.natAbs)) (hf : Far v u) : FarZ w' v' (ps ++ [(z, u)]) := by
  intro p hp
  rcases List.mem_append.1 hp with hp | hp
  · exact hk _ _ _ (h p hp).1 (h p hp).2
  · obtain rfl := List.mem_singleton.1 hp
    exact hk _ _ _ hu hf
theorem FarZ.off {w w' : World} {v : Value} {ps : List (Int × Value)} {g : Nat} {e : TypeId} {cs : Array Value} (h : FarZ w v ps) (hB : w.heap[g]? = some (.cells cs e (0, 0))) (hno : ∀ k, ∀ c ∈ cs, ∀ n, c ≠ .int k n) (hg : w.grownBy w' (some g)) : FarZ w' v ps := fun p hp => ⟨Go.Proofs.YtbebmknfecehnaaGreat.flow.off (h p hp).1 hB (hno _) hg, (h p hp).2⟩
theorem Blk.other {w w' : World} {g : Nat} {t : TypeId} {cs : Array Value} {row : Option Nat} (h : Blk w g t cs) (hg : w.grownBy w' row) (hne : row ≠ some g) : Blk w' g t cs := (hg.block g h.lt (fun e => hne e.symm)).trans h
theorem IsVZ.drew {w : World} {v : Value} {ps : List (Int × Value)} (h : IsVZ w v ps) : IsVZ w.drew v ps := h
theorem NumsZ.drew {w : World} {ps : List (Int × Value)} (h : NumsZ w ps) : NumsZ w.drew ps := fun p hp => (h p hp).drew
/-- Half of an int below 0, and what is left. -/
theorem tdiv2 {n : Int} (h : n < 0) : n.tdiv 2 = -((n.natAbs / 2 : Nat) : Int) ∧ n.tmod 2 = -((n.natAbs % 2 : Nat) : Int) := by
  obtain ⟨m, rfl⟩ : ∃ m : Nat, n = -(m : Int) := ⟨n.natAbs, by omega⟩
  rw [Int.neg_tdiv, Int.neg_tmod, Int.natAbs_neg, Int.natAbs_natCast]
  exact ⟨congrArg Neg.neg (Int.ofNat_tdiv m 2).symm, congrArg Neg.neg (Int.ofNat_tmod m 2).symm⟩
theorem half1 {n : Int} (h : n < 0) (h1 : -9223372036854775808 ≤ n) : wrap64 (-n.tdiv 2) = ((n.natAbs / 2 : Nat) : Int) := by
  rw [(tdiv2 h).1, Int.neg_neg]; unfold wrap64; omega
theorem half2 {n : Int} (h : n < 0) (h1 : -9223372036854775808 ≤ n) : wrap64 (-wrap64 (n.tdiv 2 + n.tmod 2)) = ((n.natAbs / 2 + n.natAbs % 2 : Nat) : Int) := by
  rw [(tdiv2 h).1, (tdiv2 h).2]; unfold wrap64; omega
theorem dig10 {x : Nat} (h : x ≤ 9223372036854775808) : (digs 10000 x).length ≤ 5 := digs_len_le (by omega) (Nat.lt_of_le_of_lt h (by decide))
theorem dig32 {x : Nat} (h : x ≤ 9223372036854775808) : (digs 4294967296 x).length ≤ 2 := digs_len_le (by omega) (Nat.lt_of_le_of_lt h (by decide))
theorem sumZ_snoc (ps : List (Int × Value)) (z : Int) (u : Value) : sumZ (ps ++ [(z, u)]) = sumZ ps + z := by simp [sumZ]
theorem abss_snoc (ps : List (Int × Value)) (z : Int) (u : Value) : (abss (ps ++ [(z, u)])).sum = (abss ps).sum + z.natAbs := by simp [abss]
end Go.Proofs.YtbebmknfecehnaaGreat.whl
