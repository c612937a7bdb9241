/- Package whole: Sum, over rows of values of two cells; the document's Num of a great number. Condition: as each says. -/
import Derived.Test.YtbebmknfecehnaaGreatWhlD
import Derived.Test.YtbebmknfecehnaaGreatList
import Derived.Deep.SlicePairs
namespace Go.Proofs.YtbebmknfecehnaaGreat.nat
open Go.RowKit Go.Proofs.YtbebmknfecehnaaGreat.num Go.Proofs.YtbebmknfecehnaaGreat.mem
set_option linter.unusedVariables false

set_option maxHeartbeats 800000 in
theorem mulAdd_zero (v : Value) (c : Nat) (w : World) (h : IsS w .i64 v []) (c1 : c ≤ 9223372036854775807) :
    Calls Tryz.prog 67 #[v, .int .i64 1, .int .i64 (c : Int)] w (RetS .i64 (digs 10000 c) w) := by
  obtain ⟨A, cap, rfl, hcap, hcm, hr⟩ := h
  have h20 : c < 10000 ^ 5 := by
    have : (10000 : Nat) ^ 5 = 100000000000000000000 := by decide
    omega
  have H20 := Lib.hid h20
  clear h20
  go_enter Tryz.func67, Tryz.ntmps67
  go_wp2
  go_loopw [2, 7, 8] (fun vc vo vi wr => Own wr w.heap.size 3 .i64 vo [] ∧ Below w.heap.size w wr ∧ vc = .int .i64 (c : Int) ∧ vi = .int .i64 0) (fun _ _ _ _ => 0)
  case atStart => exact ⟨own_lit0 w _ _ .i64 (Nat.le_refl _), below_alloc (Nat.le_refl _) _, rfl, rfl⟩
  case round =>
    obtain ⟨hown, hb, rfl, rfl⟩ := hrel
    go_wp2
    go_loopw [2, 7] (fun vc vo wr => ∃ (c' j : Nat) (o : List Nat), c' ≤ 9223372036854775807 ∧ Hid (c' < 10000 ^ j) ∧ o.length + j ≤ 5 ∧ MB c c' o ∧ Own wr w.heap.size 3 .i64 vo o ∧ Below w.heap.size w wr ∧ vc = .int .i64 (c' : Int)) (fun vc _ _ => (intOf vc).toNat)
    case atStart => exact ⟨c, 5, [], c1, H20, by simp, by unfold MB; exact ⟨Lt.nil _, by simp [val]⟩, hown, hb, rfl⟩
    case round =>
      clear hown hb
      obtain ⟨c2, j, o2, hc', HJ, hoj, hM, hown, hb, rfl⟩ := hrel
      have hsz := hb.size
      by_cases hp : 0 < c2
      · have HM := Lib.hid hM.step
        clear hM
        obtain ⟨j, rfl⟩ : ∃ i, j = i + 1 := by
          rcases j with _ | j
          · have := HJ.out; simp at this; omega
          · exact ⟨j, rfl⟩
        have HJ2 : Hid (c2 / 10000 < 10000 ^ j) := by
          show _ < _
          have := HJ.out
          rw [Nat.pow_succ] at this
          exact Nat.div_lt_of_lt_mul (by rw [Nat.mul_comm]; exact this)
        go_wp2_with (at_builtin; refine wpList_append_one rfl (.tmp 33) (.tmp 36) rfl sl33 (c2 % 10000) rfl hown rfl (by omega) (by omega) (by omega) ?_; intro v' w1 hown1 hb1 hg1)
        go_roundw
        case rel => exact ⟨_, j, _, by omega, HJ2, by simp; omega, HM.out, hown1, hb.trans hb1, int_eq (by omega)⟩
        case measure => simp [intOf]; omega
      · obtain rfl : c2 = 0 := by omega
        obtain ⟨h1, h2⟩ := hM.done
        have HV := Lib.hid h2
        clear h2 hM
        go_wp2_with fail
        refine (refTrim_any _ _ _ hown.isS h1 (by omega)).mono ?_
        rintro e w' ⟨v', rfl, hv, hf, hb2⟩
        go_wp2
        go_ret
        exact ⟨_, rfl, by rw [HV.out] at hv; exact hv, hf.mono hsz, hb.trans (hb2.mono hsz)⟩

set_option maxHeartbeats 400000 in
/-- Of any number that is an int. -/
theorem refNum_wide (nI : Int) (n : Nat) (w : World) (hn : nI = (n : Int)) (n1 : n ≤ 9223372036854775807) :
    Calls Tryz.prog 86 #[.int .i64 nI] w (RetS .i64 (digs 10000 n) w) := by
  subst hn
  go_enter Tryz.func86, Tryz.ntmps86
  go_wp2_with fail
  refine (mulAdd_zero _ n _ (own_lit0 w w.heap.size _ .i64 (Nat.le_refl _)).isS n1).mono ?_
  rintro e w' ⟨v', rfl, hv, hf, hb⟩
  go_wp2
  go_ret
  exact ⟨_, rfl, hv, hf.mono (by simp), (below_alloc (Nat.le_refl _) _).trans (hb.mono (by simp))⟩
end Go.Proofs.YtbebmknfecehnaaGreat.nat
namespace Go.Proofs.YtbebmknfecehnaaGreat.whl
open Go.RowKit Go.Proofs.YtbebmknfecehnaaGreat.num Go.Proofs.YtbebmknfecehnaaGreat.mem Go.Proofs.YtbebmknfecehnaaGreat.nat Go.Proofs.YtbebmknfecehnaaGreat.txt Go.Proofs.YtbebmknfecehnaaGreat.str Go.Proofs.YtbebmknfecehnaaGreat.flow
set_option linter.unusedVariables false

section
variable {P : Program}
/-- 'all = append(all, x)', all a row of slices of the call's own: and which memory is as it was. -/
theorem wpList_append_val2 {w : World} {ops : Array Oper} {rest : List Oper} {o : Oper} {a : Act} {Q : Exit → Act → World → Prop} (hgd : o.guard = none) (s x : Operand) {t : TypeId}
    (ho : o.op = .call { callee := .builtin .append, args := #[s, x], argTypes := #[t, t] })
    {base : Nat} {e : TypeId} (hT : P.underlying t = some (.slice e)) (hI : ∃ i, P.info? e = some i ∧ i.zero = some (.slice none 0 0) ∧ i.size = 1 ∧ i.bytes = 24) {v u : Value} {vs : List Value} (hs : a.eval s = v) (hown : RowV w base e v vs) (hx : a.eval x = .slice (some ⟨w.heap.size, 0, none⟩) 1 1) (hu : u.oneCell' = true)
    (hlen : vs.length ≤ 1000000000) (hbase : base ≤ w.heap.size)
    (h : ∀ v' w', RowV w' base e v' (vs ++ [u]) → Below base w w' → Hid (w.grownBy w' v.ownBlock ∧ ∀ g, g < w.heap.size → v.ownBlock ≠ some g → v'.ownBlock ≠ some g) → wpList P ops Q rest (a.put o.dst v') w') : wpList P ops Q (o :: rest) a (w.alloc (.cells #[u] e)) := by
  obtain ⟨i, hi, hz, hsz, hby⟩ := hI
  refine wpList_append_lies (w.alloc (.cells #[u] e)) hgd s x t ho base e i (.slice none 0 0) 1 24 hT hi hz hsz hby rfl (by omega) v vs.length vs hs (World.ownsRow.alloc hown _) ⟨w.heap.size, 0, none⟩ 1 1 [u] hx rfl ?_ ?_ (by omega) (by unfold maxLen; omega) (by omega) (by simp; omega) _ rfl ?_
  · exact World.news_of_block (heap_alloc_new w _)
  · intro u' hu'
    obtain rfl := List.mem_singleton.1 hu'
    exact hu
  · intro g cap w' h1 h2 h3 h4
    have h5 : w.grownBy w' v.ownBlock := grown_trans (World.grownBy_alloc w _ _) h2
    refine h _ w' (by unfold RowV; rw [List.length_append]; exact h1) ((Below.refl base w).grown h5 hbase hown.base_le) ?_
    refine ⟨h5, fun k hk hne e1 => ?_⟩
    have e2 : g = k := by simpa [Value.ownBlock] using e1
    subst e2
    rcases h3 with h3 | h3
    · exact hne h3
    · simp at h3; omega
end

/-- A slice of whole numbers: each as its sign and the slice of its limbs. -/
def IsVZ (w : World) (v : Value) (ps : List (Int × Value)) : Prop := ∃ A c, v = .slice A ps.length c ∧ ps.length ≤ c ∧ ∀ i p, ps[i]? = some p → ∃ ad, A = some ad ∧ w.cell? (ad.add (i * 2)) = some (.bool (ngB p.1)) ∧ w.cell? (ad.add (i * 2 + 1)) = some p.2
def NumsZ (w : World) (ps : List (Int × Value)) : Prop := ∀ p ∈ ps, IsS w .u64 p.2 (digs 4294967296 p.1.natAbs)
def abss (ps : List (Int × Value)) : List Nat := ps.map fun p => p.1.natAbs
def hi (ps : List (Int × Value)) : List (Int × Value) := ps.filter fun p => !ngB p.1
def lo (ps : List (Int × Value)) : List (Int × Value) := ps.filter fun p => ngB p.1
def vals (ps : List (Int × Value)) : List Value := ps.map Prod.snd
def sumZ (ps : List (Int × Value)) : Int := (ps.map Prod.fst).sum
theorem IsVZ.below {w w' : World} {v : Value} {ps : List (Int × Value)} (h : IsVZ w v ps) (hb : Below w.heap.size w w') : IsVZ w' v ps := by
  obtain ⟨A, c, e, h1, h2⟩ := h
  refine ⟨A, c, e, h1, fun i p hp => ?_⟩
  obtain ⟨ad, ha, hc, hd⟩ := h2 i p hp
  exact ⟨ad, ha, (hb.cell (World.block_lt_of_cell? w _ hc)).trans hc, (hb.cell (World.block_lt_of_cell? w _ hd)).trans hd⟩
theorem NumsZ.below {w w' : World} {ps : List (Int × Value)} (h : NumsZ w ps) (hb : Below w.heap.size w w') : NumsZ w' ps := fun p hp => (h p hp).below hb
theorem NumsZ.sub {w : World} {ps qs : List (Int × Value)} (h : NumsZ w ps) (hs : ∀ p ∈ qs, p ∈ ps) : Nums w (vals qs) (abss qs) := by
  refine ⟨by simp [vals, abss], fun i u x hu hx => ?_⟩
  unfold vals at hu; unfold abss at hx
  rw [List.getElem?_map] at hu hx
  cases hp : qs[i]? with
  | none => rw [hp] at hu; cases hu
  | some p =>
    rw [hp] at hu hx
    obtain rfl : p.2 = u := by simpa using hu
    obtain rfl : p.1.natAbs = x := by simpa using hx
    exact h p (hs p (List.mem_of_getElem? hp))
theorem sum_parts : ∀ ps : List (Int × Value), sumZ ps = ((abss (hi ps)).sum : Int) - ((abss (lo ps)).sum : Int)
  | [] => rfl
  | p :: ps => by
    have ih := sum_parts ps
    have e : sumZ (p :: ps) = p.1 + sumZ ps := rfl
    rw [e, ih]
    unfold hi lo
    rcases hs : ngB p.1 with _ | _
    · have := ngB_false hs
      rw [List.filter_cons_of_pos (by rw [hs]; rfl), List.filter_cons_of_neg (by rw [hs]; simp)]
      show _ = ((p.1.natAbs + (abss (ps.filter fun p => !ngB p.1)).sum : Nat) : Int) - _
      omega
    · have := ngB_true hs
      rw [List.filter_cons_of_neg (by rw [hs]; simp), List.filter_cons_of_pos (by rw [hs])]
      show _ = _ - ((p.1.natAbs + (abss (ps.filter fun p => ngB p.1)).sum : Nat) : Int)
      omega
theorem abss_le (f : Int × Value → Bool) : ∀ ps : List (Int × Value), (abss (ps.filter f)).sum ≤ (abss ps).sum
  | [] => Nat.le_refl _
  | p :: ps => by
    have ih := abss_le f ps
    have e : (abss (p :: ps)).sum = p.1.natAbs + (abss ps).sum := rfl
    cases hf : f p
    · rw [List.filter_cons_of_neg (by rw [hf]; simp), e]; omega
    · rw [List.filter_cons_of_pos hf, e]
      show p.1.natAbs + (abss (ps.filter f)).sum ≤ _
      omega
theorem hi_snoc {ps : List (Int × Value)} {p : Int × Value} (h : ngB p.1 = false) : vals (hi (ps ++ [p])) = vals (hi ps) ++ [p.2] ∧ vals (lo (ps ++ [p])) = vals (lo ps) := by
  unfold hi lo vals
  rw [List.filter_append, List.filter_append, List.filter_cons_of_pos (by rw [h]; rfl), List.filter_cons_of_neg (by rw [h]; simp)]
  simp
theorem lo_snoc {ps : List (Int × Value)} {p : Int × Value} (h : ngB p.1 = true) : vals (hi (ps ++ [p])) = vals (hi ps) ∧ vals (lo (ps ++ [p])) = vals (lo ps) ++ [p.2] := by
  unfold hi lo vals
  rw [List.filter_append, List.filter_append, List.filter_cons_of_neg (by rw [h]; simp), List.filter_cons_of_pos (by rw [h])]
  simp
theorem RowV.other {w w' : World} {base : Nat} {e : TypeId} {v : Value} {vs : List Value} {row : Option Nat} (h : RowV w base e v vs) (hg : w.grownBy w' row) (hne : ∀ g, v.ownBlock = some g → row ≠ some g) : RowV w' base e v vs :=
  World.ownsRow.kept (row := row) h hg (by
    cases hv : v.ownBlock with
    | none => exact .inl rfl
    | some g => exact .inr fun e => hne g hv e.symm)
/-- The cell behind the first. -/
theorem at_one (a : Addr) (i : Nat) : a.add (i * 2 + 1) = { block := (a.add (i * 2)).block, off := (a.add (i * 2)).off + 1, spot := none } := by
  unfold Addr.add
  by_cases h : i * 2 = 0
  · simp [h]
  · simp [h, Nat.add_assoc]
theorem part_len (f : Int × Value → Bool) (ps : List (Int × Value)) (k : Nat) : (vals ((ps.take k).filter f)).length ≤ ps.length := by
  unfold vals
  rw [List.length_map]
  exact Nat.le_trans (List.length_filter_le _ _) (List.length_take_le' _ _)
theorem rowV_nil (w : World) (base : Nat) (e : TypeId) : RowV w base e (.slice none 0 0) [] := ⟨rfl, .inl ⟨rfl, rfl⟩⟩

end Go.Proofs.YtbebmknfecehnaaGreat.whl
