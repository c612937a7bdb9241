/- Rows of numbers: a slice of slices of limbs that the call makes by append, or that came in as an argument. Condition: as each says. -/
import Derived.Test.YtbebmknfecehnaaGreatMulT
import Derived.Test.YtbebmknfecehnaaGreatLawN
import Derived.Deep.AppendLies
import Derived.Deep.Matrix
namespace Go.Proofs.YtbebmknfecehnaaGreat.mem
open Go.RowKit Go.Proofs.YtbebmknfecehnaaGreat.num
set_option linter.unusedVariables false

/-- A row of the call's own that holds these values, of one cell each. -/
def RowV (w : World) (base : Nat) (e : TypeId) (v : Value) (vs : List Value) : Prop := w.ownsRow base e 1 v vs.length vs
/-- The slice does not lie in the row's own block. -/
def Far (v u : Value) : Prop := ∀ ad n c, u = .slice (some ad) n c → 0 < n → some ad.block ≠ v.ownBlock
/-- Slices of numbers that lie elsewhere are kept, and lie elsewhere still. -/
def Keeps (w w' : World) (v v' : Value) : Prop := ∀ (k : IntKind) (u : Value) (l : List Nat), IsS w k u l → Far v u → IsS w' k u l ∧ Far v' u

theorem RowV.below {w w' : World} {base : Nat} {e : TypeId} {v : Value} {vs : List Value} (h : RowV w base e v vs) (hb : Below w.heap.size w w') : RowV w' base e v vs :=
  World.ownsRow.kept (row := none) h ⟨hb.os, hb.tape, hb.output, hb.size, fun i hi _ => hb.block i hi⟩ (by cases hv : v.ownBlock <;> simp)
theorem RowV.fresh {w : World} {base : Nat} {e : TypeId} {v : Value} {vs : List Value} (h : RowV w base e v vs) : Fresh base v := by
  rintro ad n c rfl
  exact (World.ownsRow.lt h ad.block rfl).1
theorem RowV.under {w : World} {base : Nat} {e : TypeId} {v : Value} {vs : List Value} (h : RowV w base e v vs) : ∀ g, v.ownBlock = some g → g < w.heap.size := fun g hg => (World.ownsRow.lt h g hg).2
theorem RowV.base_le {w : World} {base : Nat} {e : TypeId} {v : Value} {vs : List Value} (h : RowV w base e v vs) : ∀ g, v.ownBlock = some g → base ≤ g := fun g hg => (World.ownsRow.lt h g hg).1
theorem rowV_lit0 (w : World) (base : Nat) (e : TypeId) (hb : base ≤ w.heap.size) : RowV (w.alloc (.cells #[] e)) base e (.slice (some ⟨w.heap.size, 0, none⟩) 0 0) [] := by
  have h := World.ownsRow_lit (e := e) (size := 1) w #[] 0 hb (by simp) (by simp)
  simpa [RowV] using h
/-- What is new behind the row lies elsewhere. -/
theorem Fresh.far {B : Nat} {v u : Value} (h : Fresh B u) (hv : ∀ g, v.ownBlock = some g → g < B) : Far v u := by
  rintro ad n c rfl _ e
  have h1 := hv _ e.symm
  have h2 := h ad n c rfl
  omega
/-- What there was ahead of the row lies elsewhere. -/
theorem IsS.farOld {w : World} {k : IntKind} {v u : Value} {l : List Nat} (h : IsS w k u l) (hv : ∀ g, v.ownBlock = some g → w.heap.size ≤ g) : Far v u := by
  rintro ad n c rfl hn e
  obtain ⟨A, c', e1, h1, h2, h3⟩ := h
  injection e1 with e1 e2 e3
  subst e1; subst e2
  obtain ⟨ad', he, hc⟩ := h3 0 _ (List.getElem?_eq_getElem hn)
  injection he with he; subst he
  have h4 := World.block_lt_of_cell? w _ hc
  rw [block_add] at h4
  have h5 := hv _ e.symm
  omega
theorem IsS.farKept {w w' : World} {k : IntKind} {u : Value} {l : List Nat} {row : Option Nat} (h : IsS w k u l) (hf : ∀ ad n c, u = .slice (some ad) n c → 0 < n → some ad.block ≠ row) (hg : w.grownBy w' row) : IsS w' k u l := by
  obtain ⟨A, c, rfl, h1, h2, h3⟩ := h
  refine ⟨A, c, rfl, h1, h2, fun i d hd => ?_⟩
  obtain ⟨ad, rfl, hc⟩ := h3 i d hd
  have hi : i < l.length := (List.getElem?_eq_some_iff.1 hd).1
  refine ⟨ad, rfl, hg.cell hc ?_⟩
  rw [block_add]
  exact hf ad _ _ rfl (by omega)

section
variable {P : Program}
/-- 'all = append(all, x)', all a row of slices of the call's own. -/
theorem wpList_append_val {w : World} {ops : Array Oper} {rest : List Oper} {o : Oper} {a : Act} {Q : Exit → Act → World → Prop} (hgd : o.guard = none) (s x : Operand) {t : TypeId}
    (ho : o.op = .call { callee := .builtin .append, args := #[s, x], argTypes := #[t, t] })
    {base : Nat} {e : TypeId} (hT : P.underlying t = some (.slice e)) (hI : ∃ i, P.info? e = some i ∧ i.zero = some (.slice none 0 0) ∧ i.size = 1 ∧ i.bytes = 24) {v u : Value} {vs : List Value} (hs : a.eval s = v) (hown : RowV w base e v vs) (hx : a.eval x = .slice (some ⟨w.heap.size, 0, none⟩) 1 1) (hu : u.oneCell' = true)
    (hlen : vs.length ≤ 1000000000) (hbase : base ≤ w.heap.size)
    (h : ∀ v' w', RowV w' base e v' (vs ++ [u]) → Below base w w' → Hid (Keeps w w' v v') → wpList P ops Q rest (a.put o.dst v') w') : wpList P ops Q (o :: rest) a (w.alloc (.cells #[u] e)) := by
  obtain ⟨i, hi, hz, hsz, hby⟩ := hI
  refine wpList_append_lies (w.alloc (.cells #[u] e)) hgd s x t ho base e i (.slice none 0 0) 1 24 hT hi hz hsz hby rfl (by omega) v vs.length vs hs (World.ownsRow.alloc hown _) ⟨w.heap.size, 0, none⟩ 1 1 [u] hx rfl ?_ ?_ (by omega) (by unfold maxLen; omega) (by omega) (by simp; omega) _ rfl ?_
  · exact World.news_of_block (heap_alloc_new w _)
  · intro u' hu'
    obtain rfl := List.mem_singleton.1 hu'
    exact hu
  · intro g cap w' h1 h2 h3 h4
    have h5 : w.grownBy w' v.ownBlock := grown_trans (World.grownBy_alloc w _ _) h2
    refine h _ w' (by unfold RowV; rw [List.length_append]; exact h1) ((Below.refl base w).grown h5 hbase hown.base_le) ?_
    show Keeps _ _ _ _
    intro k q l hq hf
    refine ⟨hq.farKept hf h5, ?_⟩
    rintro ad n c rfl hn
    rcases h3 with h3 | h3
    · have := hf ad n c rfl hn
      rw [h3] at this
      exact this
    · subst h3
      intro e1
      have e2 : ad.block = (w.alloc (.cells #[u] e)).heap.size := by simpa [Value.ownBlock] using e1
      obtain ⟨A, c', e3, g1, g2, g3⟩ := hq
      injection e3 with e3 e4 e5
      subst e3; subst e4
      obtain ⟨ad', he, hc⟩ := g3 0 _ (List.getElem?_eq_getElem hn)
      injection he with he; subst he
      have h6 := World.block_lt_of_cell? w _ hc
      rw [block_add] at h6
      simp at e2
      omega
end

/-- A slice of slices of numbers, as it came in. -/
def ArgL (w : World) (v : Value) : Prop := ∃ A n c, v = .slice A n c ∧ n ≤ c ∧ c ≤ maxLen ∧ ∀ i, i < n → ∃ ad u l, A = some ad ∧ w.cell? (ad.add i) = some u ∧ IsS w .u64 u l ∧ Lt 18446744073709551616 l
end Go.Proofs.YtbebmknfecehnaaGreat.mem
namespace Go.Proofs.YtbebmknfecehnaaGreat.nat
open Go.RowKit Go.ChangeShapes Go.WideShapes Go.ChangeAt Go.Proofs.YtbebmknfecehnaaGreat.num Go.Proofs.YtbebmknfecehnaaGreat.mem Go.Proofs.YtbebmknfecehnaaGreat.limb
set_option linter.unusedVariables false

theorem RowV.isV {w : World} {base : Nat} {e : TypeId} {v : Value} {vs : List Value} (h : RowV w base e v vs) : IsV w v vs := by
  rcases h.2 with ⟨rfl, h0⟩ | ⟨g, cap, cur, rfl, _, hg, hn, hm, _, _⟩
  · obtain rfl : vs = [] := List.length_eq_zero_iff.1 h0
    exact ⟨none, 0, rfl, by simp, fun i u hu => by simp at hu⟩
  · exact ⟨_, cap, rfl, hn, fun i u hu => ⟨_, rfl, World.ownsRow.cells h (g := g) rfl i u hu⟩⟩
/-- Numbers in a row that lie elsewhere than the row itself. -/
def NumsFar (w : World) (v : Value) (vs : List Value) (xs : List Nat) : Prop := Nums w vs xs ∧ ∀ u ∈ vs, Far v u
theorem NumsFar.nil (w : World) (v : Value) : NumsFar w v [] [] := ⟨⟨rfl, fun i u x hu => by simp at hu⟩, fun u hu => by simp at hu⟩
theorem NumsFar.below {w w' : World} {v : Value} {vs : List Value} {xs : List Nat} (h : NumsFar w v vs xs) (hb : Below w.heap.size w w') : NumsFar w' v vs xs := ⟨h.1.below hb, h.2⟩
theorem NumsFar.snoc {w w' : World} {v v' u : Value} {vs : List Value} {xs : List Nat} {x : Nat} (h : NumsFar w v vs xs) (hk : Keeps w w' v v') (hu : IsS w .u64 u (digs 4294967296 x)) (hf : Far v u) : NumsFar w' v' (vs ++ [u]) (xs ++ [x]) := by
  have hl := h.1.1
  have hux := hk _ _ _ hu hf
  refine ⟨⟨by simp [hl], fun i a b ha hb => ?_⟩, fun a ha => ?_⟩
  · by_cases hi : i < vs.length
    · rw [List.getElem?_append_left hi] at ha
      rw [List.getElem?_append_left (by omega)] at hb
      exact (hk _ _ _ (h.1.2 i a b ha hb) (h.2 a (List.mem_of_getElem? ha))).1
    · rw [List.getElem?_append_right (by omega)] at ha
      rw [List.getElem?_append_right (by omega)] at hb
      rw [← hl] at hb
      rcases hj : i - vs.length with _ | j
      · rw [hj] at ha hb
        simp at ha hb
        subst ha; subst hb
        exact hux.1
      · rw [hj] at ha
        simp at ha
  · rcases List.mem_append.1 ha with ha | ha
    · obtain ⟨i, hi⟩ := List.mem_iff_getElem?.1 ha
      have hi2 : i < vs.length := (List.getElem?_eq_some_iff.1 hi).1
      exact (hk _ _ _ (h.1.2 i a _ hi (List.getElem?_eq_getElem (by omega))) (h.2 a ha)).2
    · obtain rfl := List.mem_singleton.1 ha
      exact hux.2

theorem plen_snoc (xs : List Nat) (x : Nat) : plen (xs ++ [x]) = plen xs + (digs 4294967296 x).length := by simp [plen]
theorem info_nat : ∃ i, Tryz.prog.info? 23 = some i ∧ i.zero = some (.slice none 0 0) ∧ i.size = 1 ∧ i.bytes = 24 := info_parts (P := Tryz.prog) (e := 23) (z := .slice none 0 0) (size := 1) (bytes := 24) (by kernel_rfl)

/-- Whole numbers in memory that fit their kind are a list of limbs. -/
theorem ints_isS {W : World} {A : Option Addr} {L C : Nat} {Z : List Int} (hLC : L ≤ C) (hC : C ≤ maxLen) (hZ : Z.length = C) (hwf : ∀ n ∈ Z, (Lit.int .u64 n).wf = true) (hA : A = none → C = 0) (hcell : ∀ a', A = some a' → ∀ c, c < C → W.cell? (a'.add c) = some (.int .u64 (Z.getD c 0))) :
    ∃ l : List Nat, IsS W .u64 (.slice A L C) l ∧ Lt 18446744073709551616 l := by
  have hlen : ((Z.take L).map Int.toNat).length = L := by simp; omega
  refine ⟨(Z.take L).map Int.toNat, ⟨A, C, by rw [hlen], by rw [hlen]; exact hLC, hC, ?_⟩, ?_⟩
  · intro i d hd
    have hi : i < L := by rw [← hlen]; exact (List.getElem?_eq_some_iff.1 hd).1
    have hi2 : i < Z.length := by omega
    rcases A with _ | a
    · have := hA rfl; omega
    · refine ⟨a, rfl, ?_⟩
      rw [hcell a rfl i (by omega)]
      have hb := wf_u64 (hwf _ (List.getElem_mem hi2))
      have hd2 : d = (Z[i]).toNat := by
        rw [List.getElem?_map, List.getElem?_take_of_lt hi, List.getElem?_eq_getElem hi2] at hd
        simpa using hd.symm
      rw [List.getD_eq_getElem?_getD, List.getElem?_eq_getElem hi2, hd2]
      simp only [Option.getD_some]
      rw [Int.toNat_of_nonneg hb.1]
  · intro d hd
    obtain ⟨z, hz1, rfl⟩ := List.mem_map.1 hd
    have hb := wf_u64 (hwf z (List.mem_of_mem_take hz1))
    omega
theorem arg_list {H : Type} {enc : TypeId × Value → H} {P : Program} {W : World} {base : Nat} {t e q : TypeId} {v : Value} {d : DataW H} {p : List MemPlace} (ht : P.underlying t = some (.slice e)) (he : P.underlying e = some (.slice q)) (hq : P.underlying q = some (.int .u64)) (ce : P.cellsOf e = 1) (cq : P.cellsOf q = 1)
    (hv : Value.okWide P W .any base t v) (h : DataW.Trod enc P W 0 (fun _ => true) true t v d p) : ArgL W v := by
  obtain ⟨a0, len, cap, rfl⟩ := okWide_slice ht hv
  obtain ⟨fuel, hf⟩ := h
  rcases Go.Deep.open_int_rows ht he hq ce cq hf with ⟨hcs, hx⟩ | ⟨a, len', cap', A, L, C, Z, hcs, _, hl, hm, hx, hrows⟩
  · simp [Value.cells] at hcs
    obtain ⟨rfl, rfl, rfl⟩ := hcs
    exact ⟨none, 0, 0, rfl, by omega, by simp, fun i hi => by omega⟩
  · simp [Value.cells] at hcs
    obtain ⟨rfl, rfl, rfl⟩ := hcs
    refine ⟨some a, len, cap, rfl, hl, hm, fun i hi => ?_⟩
    obtain ⟨h1, h2, h3, h4, h5, h6, h7⟩ := hrows i (by omega)
    obtain ⟨l, k1, k2⟩ := ints_isS (W := W) (A := A i) h2 h3 h4 h5 h6 (fun a' ha c hc => (h7 a' ha).2 c hc)
    exact ⟨a, _, l, rfl, h1, k1, k2⟩
end Go.Proofs.YtbebmknfecehnaaGreat.nat
