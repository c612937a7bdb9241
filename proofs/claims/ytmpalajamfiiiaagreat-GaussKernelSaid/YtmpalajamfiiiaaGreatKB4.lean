/- What gauss' ways keep: downward, upward, and the document's; that both come to one table. Mathematics alone: no program stands here.
An append of one fraction to a row, in a region that draws its order: the new element's cells as an obligation of the flow, the append behind it. Condition: as each says.
The document's sum of two whole numbers lies in new memory. Condition: sizes are within bounds.
The document's Of of a whole number and of a fraction: the answer lies in new memory. Condition: sizes are within bounds.
few: two rows of fractions out of an argument. Condition: as it says.
Elements of a row of fractions whose place is told.
Rows written out in a region: two fractions, two rows of fractions; as obligations of its flow. Condition: as each says.
An argument as a slice of ints. Condition: it can be read as data.
Rows of ints that the call makes by append.
Few: two rows of fractions out of an argument. Condition: as it says.
Tables: rows of rows of fractions, as they come in, as a call makes them by append, or by make. Condition: as each says.
Package rat: its own contracts, each said of fractions: Inv, Mul, Div. Condition: as each says.
Package rat: its own contracts, each said of fractions: Add, Sub, Cmp. Condition: as each says.
Package rat: its own contracts, each said of fractions: Make, Of, Frac. Condition: as each says.
Package rat: its own contracts, each said of fractions: Same, One, May. Condition: as each says.
Rows of fractions that the call makes at their full length: one block, written element by element; calls through a function's value. Condition: as each says.
Rows that a call makes, and hands on: words for its end. Condition: as each says.
Tables that a call makes at their full length: one block of slices, written place by place; rows of the call's own that grow within such a table. Condition: as each says.
Rows of tables, as a variadic call takes them: written out in a region; read. Condition: as each says.
Package vect: noughts, Zero, Unit. Condition: as each says.
Package vect: vanishes, Scale, Dot, Lead. Condition: as each says. -/
import Derived.Test.YtmpalajamfiiiaaGreatKB3
namespace Go.Proofs.YtmpalajamfiiiaaGreat.rat
open Go.RowKit Go.Proofs.YtmpalajamfiiiaaGreat.num Go.Proofs.YtmpalajamfiiiaaGreat.mem Go.Proofs.YtmpalajamfiiiaaGreat.nat Go.Proofs.YtmpalajamfiiiaaGreat.txt Go.Proofs.YtmpalajamfiiiaaGreat.str Go.Proofs.YtmpalajamfiiiaaGreat.flow Go.Proofs.YtmpalajamfiiiaaGreat.whl
set_option linter.unusedVariables false
set_option linter.unusedSimpArgs false
/-- The pivots as a function. -/
def pv (ps : List Nat) : Nat → Nat := fun i => ps.getD i 0
theorem pv_snoc (ps : List Nat) (a i : Nat) (hi : i < ps.length + 1) : (if i < ps.length then pv ps i else a) = pv (ps ++ [a]) i := by
 unfold pv
 by_cases h : i < ps.length
 ·rw [if_pos h, List.getD_eq_getElem?_getD, List.getD_eq_getElem?_getD, List.getElem?_append_left h]
 ·obtain rfl : i = ps.length := by omega
  rw [if_neg h, List.getD_eq_getElem?_getD, List.getElem?_append_right (by omega)]
  simp
theorem pv_list {ps qs : List Nat} (hl : ps.length = qs.length) (h : ∀ i, i < ps.length → pv ps i = pv qs i) : ps = qs := by
 apply List.ext_getElem?
 intro i
 by_cases hi : i < ps.length
 ·have h1 := h i hi
  unfold pv at h1
  rw [List.getD_eq_getElem?_getD, List.getD_eq_getElem?_getD, List.getElem?_eq_getElem hi, List.getElem?_eq_getElem (by omega : i < qs.length)] at h1
  rw [List.getElem?_eq_getElem hi, List.getElem?_eq_getElem (by omega : i < qs.length)]
  exact congrArg some h1
 ·rw [List.getElem?_eq_none (by omega), List.getElem?_eq_none (by omega)]
theorem clrM_clearF {T : List (List Rat)} {P : Nat → Bool} {p : List Rat} {n C a k : Nat} (hs : shp T n C) (hk : T[k]? = some p) (ha : a < C) {x : Nat} (hx : x ≤ n) (i j : Nat) (hj : j < C) : entF (clrM T P p a x) i j = clearF (entF T) k (fun i => if i < x ∧ P i = true then entF T i a else 0) i j := by
 have hp : p.length = C := hs.2 p (List.mem_of_getElem? hk)
 rw [clrM_ent hs hp x i j hx hj]
 unfold clearF
 rw [entF_row hk j]
 by_cases e : i < x ∧ P i = true
 ·simp only [if_pos e]
 ·simp only [if_neg e]; grind
theorem clrM_none {T : List (List Rat)} {P : Nat → Bool} {p : List Rat} {a : Nat} : ∀ x, (∀ i, i < x → P i = false) → clrM T P p a x = T
 | 0, _ => rfl
 | x + 1, h => by rw [clrM_pass (h x (by omega))]; exact clrM_none x fun i hi => h i (by omega)
theorem swapT_rows {T : List (List Rat)} {n C a b S : Nat} (hs : shp T n C) (ha : a < n) (hb : b < n) (h : rowsL T S) : rowsL (swapT T a b) S := by
 obtain ⟨r, h1, _⟩ := row_ex hs ha
 obtain ⟨s, h3, _⟩ := row_ex hs hb
 unfold swapT
 rw [getT h1, getT h3]
 intro x hx
 rcases List.mem_or_eq_of_mem_set hx with hx | rfl
 ·rcases List.mem_or_eq_of_mem_set hx with hx | rfl
  ·exact h x hx
  ·exact h _ (List.mem_of_getElem? h3)
 ·exact h _ (List.mem_of_getElem? h1)
theorem scaleT_rows {T : List (List Rat)} {n C k a S : Nat} (hs : shp T n C) (hk : k < n) (ha : a < C) (h0 : entF T k a ≠ 0) (h : rowsL T S) : rowsL (scaleT T k (entF T k a)⁻¹) S := by
 obtain ⟨r, h1, _, h2⟩ := entF_at hs hk ha
 unfold scaleT
 rw [getT h1]
 intro x hx
 rcases List.mem_or_eq_of_mem_set hx with hx | rfl
 ·exact h x hx
 ·exact (h r (List.mem_of_getElem? h1)).scale (List.mem_of_getElem? h2) h0
theorem clrM_rows {T : List (List Rat)} {P : Nat → Bool} {p : List Rat} {n C a S : Nat} (hs : shp T n C) (ha : a < C) (h : rowsL T S) (hp : rowL p S) : ∀ x, x ≤ n → rowsL (clrM T P p a x) (S + S + 1)
  | 0, _ => h.mono (by omega)
  | x + 1, hx => by
    have ih := clrM_rows (P := P) hs ha h hp x (by omega)
    obtain ⟨r, h1, _, h2⟩ := entF_at hs (show x < n by omega) ha
    by_cases e : P x = true
    · rw [clrM_next e h1]
      intro y hy
      rcases List.mem_or_eq_of_mem_set hy with hy | rfl
      · exact ih y hy
      · exact (h r (List.mem_of_getElem? h1)).less hp (List.mem_of_getElem? h2)
    · rw [clrM_pass (by simpa using e)]; exact ih
/-- One pivot's way: the row f is changed to the place k, made 1 at the place a, and taken off those that are asked for. -/
def pivT (T : List (List Rat)) (P : Nat → Bool) (k f a n : Nat) : List (List Rat) :=
 clrM (scaleT (swapT T k f) k (entF (swapT T k f) k a)⁻¹) P ((scaleT (swapT T k f) k (entF (swapT T k f) k a)⁻¹).getD k []) a n
theorem swapT_self {T : List (List Rat)} {k : Nat} (h : k < T.length) : swapT T k k = T := by
 unfold swapT
 have e : T.getD k [] = T[k] := by rw [List.getD_eq_getElem?_getD, List.getElem?_eq_getElem h]; rfl
 rw [e]
 apply List.ext_getElem?
 intro i
 rw [List.getElem?_set, List.getElem?_set, List.length_set]
 by_cases hi : k = i
 ·subst hi
  rw [if_pos rfl, if_pos h, List.getElem?_eq_getElem h]
 ·rw [if_neg hi, if_neg hi]
structure PivAt (T : List (List Rat)) (P : Nat → Bool) (n C k f a : Nat) (p : Nat → Nat) : Prop where
 sh : shp T n C
 ech : Ech n a (entF T) k p
 ha : a < C
 hk : k ≤ f
 hf : f < n
 hne : entF T f a ≠ 0
 hP : P k = false
theorem PivAt.inv {T : List (List Rat)} {P : Nat → Bool} {n C k f a : Nat} {p : Nat → Nat} (h : PivAt T P n C k f a p) : entF T f a * (entF T f a)⁻¹ = 1 := Rat.mul_inv_cancel _ h.hne
theorem PivAt.inv_ne {T : List (List Rat)} {P : Nat → Bool} {n C k f a : Nat} {p : Nat → Nat} (h : PivAt T P n C k f a p) : (entF T f a)⁻¹ ≠ 0 := fun e => by
 have h1 := h.inv
 rw [e] at h1
 revert h1
 rw [Rat.mul_zero]
 decide
theorem PivAt.head {T : List (List Rat)} {P : Nat → Bool} {n C k f a : Nat} {p : Nat → Nat} (h : PivAt T P n C k f a p) : entF (swapT T k f) k a = entF T f a := by
 have h1 := h.hk
 have h2 := h.hf
 rw [swapT_ent h.sh (by omega) h.hf]
 exact congrFun (if_pos rfl) a
theorem PivAt.parts {T : List (List Rat)} {P : Nat → Bool} {n C k f a : Nat} {p : Nat → Nat} (h : PivAt T P n C k f a p) :
  ∃ (t : Nat → Rat), t k = 0 ∧ (∀ i, i < n → P i = true → t i = scaleF (swapF (entF T) k f) k (entF T f a)⁻¹ i a) ∧
   (∀ i j, j < C → entF (pivT T P k f a n) i j = clearF (scaleF (swapF (entF T) k f) k (entF T f a)⁻¹) k t i j) ∧ shp (pivT T P k f a n) n C ∧ scaleF (swapF (entF T) k f) k (entF T f a)⁻¹ k a = 1 := by
 have h1 := h.hk
 have h2 := h.hf
 have hk : k < n := by omega
 have s1 := swapT_shp h.sh hk h2
 have s2 := scaleT_shp (entF (swapT T k f) k a)⁻¹ s1 hk
 have e2 : ∀ i j, j < C → entF (scaleT (swapT T k f) k (entF (swapT T k f) k a)⁻¹) i j = scaleF (swapF (entF T) k f) k (entF T f a)⁻¹ i j := fun i j hj => by
  rw [scaleT_ent _ s1 hk i j hj, h.head]
  unfold scaleF
  rw [swapT_ent h.sh hk h2]
 obtain ⟨r, hr, hrl⟩ := row_ex s2 hk
 have hP : ¬ (k < n ∧ P k = true) := fun e => by rw [h.hP] at e; exact absurd e.2 (by decide)
 refine ⟨fun i => if i < n ∧ P i = true then entF (scaleT (swapT T k f) k (entF (swapT T k f) k a)⁻¹) i a else 0, if_neg hP, fun i h3 h4 => ?_, fun i j hj => ?_, ?_, ?_⟩
 ·show (if i < n ∧ P i = true then _ else _) = _
  rw [if_pos ⟨h3, h4⟩, e2 i a h.ha]
 ·unfold pivT
  rw [getT hr, clrM_clearF s2 hr h.ha (Nat.le_refl n) i j hj]
  unfold clearF
  rw [e2 i j hj, e2 k j hj]
 ·unfold pivT
  rw [getT hr]
  exact clrM_shp s2 hrl n (Nat.le_refl n)
 ·unfold scaleF swapF
  rw [if_pos rfl, if_pos rfl]
  exact h.inv
theorem PivAt.ker {T : List (List Rat)} {P : Nat → Bool} {n C k f a : Nat} {p : Nat → Nat} (h : PivAt T P n C k f a p) : KerEq n C (entF T) (entF (pivT T P k f a n)) := by
 obtain ⟨t, t0, t1, e, _, _⟩ := h.parts
 have h1 := h.hk
 have h2 := h.hf
 exact (ker_swap (entF T) (show k < n by omega) h2).trans ((ker_scale _ h.inv_ne).trans ((ker_clear _ (show k < n by omega) t0).trans (kerEq_of fun i j _ hj => (e i j hj).symm)))
theorem PivAt.ech' {T : List (List Rat)} {P : Nat → Bool} {n C k f a : Nat} {p : Nat → Nat} (h : PivAt T P n C k f a p) (hb : ∀ i, k < i → i < n → P i = true) : Ech n (a + 1) (entF (pivT T P k f a n)) (k + 1) (fun i => if i < k then p i else a) := by
 obtain ⟨t, t0, t1, e, _, e1⟩ := h.parts
 have h1 := h.hk
 have h2 := h.hf
 have h3 := h.ha
 exact (((h.ech.swap h1 h2).scale (entF T f a)⁻¹).clear (by omega) e1 t0 (fun i hi hn => t1 i hn (hb i hi hn))).congr (C := C) (by omega) (fun i j _ hj => (e i j hj).symm) (fun _ _ => rfl)
theorem PivAt.red {T : List (List Rat)} {P : Nat → Bool} {n C k f a : Nat} {p : Nat → Nat} (h : PivAt T P n C k f a p) (hr : Red n (entF T) k p 0) (hb : ∀ i, i ≠ k → i < n → P i = true) : Red n (entF (pivT T P k f a n)) (k + 1) (fun i => if i < k then p i else a) 0 := by
 obtain ⟨t, t0, t1, e, _, e1⟩ := h.parts
 have h1 := h.hk
 have h2 := h.hf
 have h3 := h.ha
 refine (Red.clear ((hr.swap h1 h2).scale (entF T f a)⁻¹) ((h.ech.swap h1 h2).scale (entF T f a)⁻¹) (by omega) e1 t0 (fun i hi hn => t1 i hn (hb i hi hn))).congr (C := C) (fun i hi => ?_) (fun i j _ hj => (e i j hj).symm) (fun _ _ => rfl)
 by_cases e : i < k
 ·simp only [if_pos e]; have := h.ech.lt i e; omega
 ·simp only [if_neg e]; exact h3
theorem PivAt.fn {T : List (List Rat)} {P : Nat → Bool} {n C k f a : Nat} {p : Nat → Nat} (h : PivAt T P n C k f a p) {C' : Nat} {F : (Nat → Nat → Rat) → Rat} (hC : C' ≤ C) (hF : RowFn n C' F) : F (entF T) = (if f = k then 1 else -1) * entF T f a * F (entF (pivT T P k f a n)) := by
 obtain ⟨t, t0, t1, e, _, e1⟩ := h.parts
 have h1 := h.hk
 have h2 := h.hf
 have g1 : F (entF (pivT T P k f a n)) = (entF T f a)⁻¹ * F (swapF (entF T) k f) := by
  rw [hF.congr _ _ (fun i j _ hj => e i j (by omega)), hF.clear _ (show k < n by omega) t0, hF.scale _ _ _ (by omega)]
 have hi := h.inv
 rw [g1]
 by_cases ef : f = k
 ·subst ef
  have g2 : F (swapF (entF T) f f) = F (entF T) := hF.congr _ _ fun i j _ _ => by
   unfold swapF
   by_cases e5 : i = f
   ·rw [if_pos e5, e5]
   ·rw [if_neg e5, if_neg e5]
  rw [g2, if_pos rfl]; grind
 ·rw [hF.swap _ (show k < n by omega) h2 (fun e => ef e.symm), if_neg ef]; grind
theorem PivAt.rows {T : List (List Rat)} {P : Nat → Bool} {n C k f a S : Nat} {p : Nat → Nat} (h : PivAt T P n C k f a p) (hl : rowsL T S) : rowsL (scaleT (swapT T k f) k (entF (swapT T k f) k a)⁻¹) S ∧ rowsL (pivT T P k f a n) (S + S + 1) ∧ ((∀ i, i < n → P i = false) → rowsL (pivT T P k f a n) S) := by
 have h1 := h.hk
 have h2 := h.hf
 have hk : k < n := by omega
 have s1 := swapT_shp h.sh hk h2
 have s2 := scaleT_shp (entF (swapT T k f) k a)⁻¹ s1 hk
 have r1 := swapT_rows h.sh hk h2 hl
 have r2 := scaleT_rows s1 hk h.ha (by rw [h.head]; exact h.hne) r1
 obtain ⟨r, hr, hrl⟩ := row_ex s2 hk
 refine ⟨r2, ?_, fun hn => ?_⟩
 ·unfold pivT
  rw [getT hr]
  exact clrM_rows s2 h.ha r2 (r2 r (List.mem_of_getElem? hr)) n (Nat.le_refl n)
 ·unfold pivT
  rw [clrM_none n hn]
  exact r2
/-- What goes down. -/
structure Dwn (T0 T : List (List Rat)) (n C a : Nat) (ps : List Nat) (d : Rat) (S : Nat) : Prop where
 sh : shp T n C
 ech : Ech n a (entF T) ps.length (pv ps)
 ker : KerEq n C (entF T0) (entF T)
 fn : ∀ (C' : Nat) (F : (Nat → Nat → Rat) → Rat), C' ≤ C → RowFn n C' F → F (entF T0) = d * F (entF T)
 ne : d ≠ 0
 len : ∃ S', rowsL T S' ∧ S' + 1 ≤ (S + 1) * 2 ^ (min ps.length (n - 1))
theorem Dwn.start {T : List (List Rat)} {n C S : Nat} (hs : shp T n C) (hl : rowsL T S) : Dwn T T n C 0 [] 1 S :=
 ⟨hs, Ech.zero n _ _, KerEq.refl _ _ _, fun C' F _ _ => (Rat.one_mul _).symm, by decide, ⟨S, hl, by simp⟩⟩
theorem Dwn.skip {T0 T : List (List Rat)} {n C a S : Nat} {ps : List Nat} {d : Rat} (h : Dwn T0 T n C a ps d S) (h0 : ∀ i, ps.length ≤ i → i < n → entF T i a = 0) : Dwn T0 T n C (a + 1) ps d S :=
 ⟨h.sh, h.ech.skip h0, h.ker, h.fn, h.ne, h.len⟩
theorem Dwn.at_ {T0 T : List (List Rat)} {n C a f S : Nat} {ps : List Nat} {d : Rat} (h : Dwn T0 T n C a ps d S) (ha : a < C) (hk : ps.length ≤ f) (hf : f < n) (hne : entF T f a ≠ 0) : PivAt T (fun i => decide (ps.length < i)) n C ps.length f a (pv ps) :=
 ⟨h.sh, h.ech, ha, hk, hf, hne, by simp⟩
theorem two_pow_step {S S' m : Nat} (h : S' + 1 ≤ (S + 1) * 2 ^ m) : S' + S' + 1 + 1 ≤ (S + 1) * 2 ^ (m + 1) := by
 rw [Nat.pow_succ, ← Nat.mul_assoc]; omega
theorem Dwn.pivot {T0 T : List (List Rat)} {n C a f S : Nat} {ps : List Nat} {d : Rat} (h : Dwn T0 T n C a ps d S) (ha : a < C) (hk : ps.length ≤ f) (hf : f < n) (hne : entF T f a ≠ 0) : Dwn T0 (pivT T (fun i => decide (ps.length < i)) ps.length f a n) n C (a + 1) (ps ++ [a]) ((if f = ps.length then d else -d) * entF T f a) S := by
 have g := h.at_ ha hk hf hne
 obtain ⟨t, t0, t1, e, s3, e1⟩ := g.parts
 have hl : (ps ++ [a]).length = ps.length + 1 := by simp
 refine ⟨s3, ?_, h.ker.trans g.ker, fun C' F hC hF => ?_, ?_, ?_⟩
 ·rw [hl]
  exact (g.ech' (fun i hi _ => by simpa using hi)).congr (C := C) (by omega) (fun _ _ _ _ => rfl) (fun i hi => pv_snoc ps a i hi)
 ·rw [h.fn C' F hC hF, g.fn hC hF]
  by_cases ef : f = ps.length
  ·rw [if_pos ef, if_pos ef]; grind
  ·rw [if_neg ef, if_neg ef]; grind
 ·intro e0
  rcases Rat.mul_eq_zero.1 e0 with h1 | h1
  ·have := h.ne
   by_cases ef : f = ps.length
   ·rw [if_pos ef] at h1; exact this h1
   ·rw [if_neg ef] at h1; grind
  ·exact hne h1
 ·obtain ⟨S', r, hS⟩ := h.len
  obtain ⟨_, r2, r3⟩ := g.rows r
  rw [hl]
  by_cases hn : ps.length + 1 < n
  ·refine ⟨_, r2, ?_⟩
   rw [show min (ps.length + 1) (n - 1) = ps.length + 1 by omega]
   rw [show min ps.length (n - 1) = ps.length by omega] at hS
   exact two_pow_step hS
  ·refine ⟨_, r3 (fun i hi => by simp; omega), ?_⟩
   rw [show min (ps.length + 1) (n - 1) = n - 1 by omega]
   rw [show min ps.length (n - 1) = n - 1 by omega] at hS
   exact hS
/-- What goes up: from the pivot u on all are alone. -/
structure Upw (T0 T : List (List Rat)) (n C a : Nat) (ps : List Nat) (u S : Nat) : Prop where
 sh : shp T n C
 ech : Ech n a (entF T) ps.length (pv ps)
 red : Red n (entF T) ps.length (pv ps) u
 ker : KerEq n C (entF T0) (entF T)
 len : ∃ S', rowsL T S' ∧ S' + 1 ≤ (S + 1) * 2 ^ (ps.length - max u 1)
theorem Upw.start {T0 T : List (List Rat)} {n C a S : Nat} {ps : List Nat} (hs : shp T n C) (he : Ech n a (entF T) ps.length (pv ps)) (hk : KerEq n C (entF T0) (entF T)) (hl : rowsL T S) : Upw T0 T n C a ps ps.length S :=
 ⟨hs, he, fun m h1 h2 => by omega, hk, S, hl, by rw [show ps.length - max ps.length 1 = 0 by omega]; simp⟩
/-- The rows above a pivot, cleared. -/
def upT (T : List (List Rat)) (m b : Nat) : List (List Rat) := clrM T (fun _ => true) (T.getD m []) b m
theorem Upw.step {T0 T : List (List Rat)} {n C a m S : Nat} {ps : List Nat} (h : Upw T0 T n C a ps (m + 1) S) (ha : a ≤ C) (hm : m < ps.length) : Upw T0 (upT T m (pv ps m)) n C a ps m S := by
 have hle := h.ech.le
 have hlt := h.ech.lt m hm
 obtain ⟨r, hr, hrl⟩ := row_ex h.sh (show m < n by omega)
 have e : ∀ i j, j < C → entF (upT T m (pv ps m)) i j = clearF (entF T) m (fun i => if i < m then entF T i (pv ps m) else 0) i j := fun i j hj => by
  unfold upT
  rw [getT hr, clrM_clearF h.sh hr (show pv ps m < C by omega) (show m ≤ n by omega) i j hj]
  unfold clearF
  by_cases e : i < m
  ·simp [e]
  ·simp [e]
 have t1 : ∀ i, m ≤ i → (fun i => if i < m then entF T i (pv ps m) else 0) i = 0 := fun i hi => if_neg (by omega)
 have t2 : ∀ i, i < m → (fun i => if i < m then entF T i (pv ps m) else 0) i = entF T i (pv ps m) := fun i hi => if_pos hi
 refine ⟨?_, ?_, ?_, ?_, ?_⟩
 ·unfold upT
  rw [getT hr]
  exact clrM_shp h.sh hrl m (by omega)
 ·exact (h.ech.up hm t1).congr (C := C) ha (fun i j _ hj => (e i j hj).symm) (fun _ _ => rfl)
 ·exact (h.red.up h.ech hm t1 t2).congr (C := C) (fun i hi => by have := h.ech.lt i hi; omega) (fun i j _ hj => (e i j hj).symm) (fun _ _ => rfl)
 ·exact h.ker.trans ((ker_clear _ (show m < n by omega) (t1 m (Nat.le_refl m))).trans (kerEq_of fun i j _ hj => (e i j hj).symm))
 ·obtain ⟨S', r1, hS⟩ := h.len
  by_cases h0 : m = 0
  ·subst h0
   exact ⟨S', r1, hS⟩
  ·refine ⟨S' + S' + 1, ?_, ?_⟩
   ·unfold upT
    rw [getT hr]
    exact clrM_rows h.sh (by omega) r1 (r1 r (List.mem_of_getElem? hr)) m (by omega)
   ·rw [show ps.length - max m 1 = (ps.length - max (m + 1) 1) + 1 by omega]
    exact two_pow_step hS
/-- The document's way. -/
structure Rdc (T0 T : List (List Rat)) (n C a : Nat) (ps : List Nat) (S : Nat) : Prop where
 sh : shp T n C
 ech : Ech n a (entF T) ps.length (pv ps)
 red : Red n (entF T) ps.length (pv ps) 0
 ker : KerEq n C (entF T0) (entF T)
 len : ∃ S', rowsL T S' ∧ S' + 1 ≤ (S + 1) * 2 ^ ps.length
theorem Rdc.start {T : List (List Rat)} {n C S : Nat} (hs : shp T n C) (hl : rowsL T S) : Rdc T T n C 0 [] S :=
 ⟨hs, Ech.zero n _ _, fun m _ h => by simp at h, KerEq.refl _ _ _, S, hl, by simp⟩
theorem Rdc.skip {T0 T : List (List Rat)} {n C a S : Nat} {ps : List Nat} (h : Rdc T0 T n C a ps S) (h0 : ∀ i, ps.length ≤ i → i < n → entF T i a = 0) : Rdc T0 T n C (a + 1) ps S :=
 ⟨h.sh, h.ech.skip h0, h.red, h.ker, h.len⟩
theorem Rdc.at_ {T0 T : List (List Rat)} {n C a f S : Nat} {ps : List Nat} (h : Rdc T0 T n C a ps S) (ha : a < C) (hk : ps.length ≤ f) (hf : f < n) (hne : entF T f a ≠ 0) : PivAt T (fun i => decide (i ≠ ps.length)) n C ps.length f a (pv ps) :=
 ⟨h.sh, h.ech, ha, hk, hf, hne, by simp⟩
theorem Rdc.pivot {T0 T : List (List Rat)} {n C a f S : Nat} {ps : List Nat} (h : Rdc T0 T n C a ps S) (ha : a < C) (hk : ps.length ≤ f) (hf : f < n) (hne : entF T f a ≠ 0) : Rdc T0 (pivT T (fun i => decide (i ≠ ps.length)) ps.length f a n) n C (a + 1) (ps ++ [a]) S := by
 have g := h.at_ ha hk hf hne
 obtain ⟨t, t0, t1, e, s3, e1⟩ := g.parts
 have hl : (ps ++ [a]).length = ps.length + 1 := by simp
 refine ⟨s3, ?_, ?_, h.ker.trans g.ker, ?_⟩
 ·rw [hl]
  exact (g.ech' (fun i hi _ => by simp; omega)).congr (C := C) (by omega) (fun _ _ _ _ => rfl) (fun i hi => pv_snoc ps a i hi)
 ·rw [hl]
  refine (g.red h.red (fun i hi _ => by simpa using hi)).congr (C := C) (fun i hi => ?_) (fun _ _ _ _ => rfl) (fun i hi => pv_snoc ps a i hi)
  by_cases e : i < ps.length
  ·simp only [if_pos e]; have := h.ech.lt i e; omega
  ·simp only [if_neg e]; exact ha
 ·obtain ⟨S', r, hS⟩ := h.len
  obtain ⟨_, r2, _⟩ := g.rows r
  rw [hl]
  exact ⟨_, r2, two_pow_step hS⟩
/-- Steps of one table are one, whichever way they are made. -/
theorem steps_same {T0 T U : List (List Rat)} {n C : Nat} {ps qs : List Nat} (hs : shp T n C) (he : Ech n C (entF T) ps.length (pv ps)) (hr : Red n (entF T) ps.length (pv ps) 0) (hk : KerEq n C (entF T0) (entF T)) (hs' : shp U n C) (he' : Ech n C (entF U) qs.length (pv qs)) (hr' : Red n (entF U) qs.length (pv qs) 0) (hk' : KerEq n C (entF T0) (entF U)) : T = U ∧ ps = qs := by
 obtain ⟨e1, e2, e3⟩ := steps_one he hr he' hr' (hk.symm.trans hk')
 exact ⟨shp_same hs hs' e3, pv_list e1 e2⟩
end Go.Proofs.YtmpalajamfiiiaaGreat.rat
namespace Go.Proofs.YtmpalajamfiiiaaGreat.flow
open Go.RowKit Go.Proofs.YtmpalajamfiiiaaGreat.num Go.Proofs.YtmpalajamfiiiaaGreat.mem Go.Proofs.YtmpalajamfiiiaaGreat.whl Go.Proofs.YtmpalajamfiiiaaGreat.rat
set_option linter.unusedVariables false
/-- A slice of one element of three cells, as told. -/
def pone (φ : Pd) : Pd := ⟨fun w v => ∃ g x y z, v = .slice (some ⟨g, 0, none⟩) 1 1 ∧ w.cell? ((⟨g, 0, none⟩ : Addr).add 0) = some x ∧ w.cell? ((⟨g, 0, none⟩ : Addr).add 1) = some y ∧ w.cell? ((⟨g, 0, none⟩ : Addr).add 2) = some z ∧ φ.p w (.agg #[x, y, z]), fun h hb => by
 obtain ⟨g, x, y, z, h0, h1, h2, h3, h4⟩ := h
 exact ⟨g, x, y, z, h0, (hb.cell (World.block_lt_of_cell? _ _ h1)).trans h1, (hb.cell (World.block_lt_of_cell? _ _ h2)).trans h2, (hb.cell (World.block_lt_of_cell? _ _ h3)).trans h3, φ.up h4 hb⟩⟩
section
variable {P : Program} {Q : Exit → Act → World → Prop} {ops : Array Oper} {L : List Oper} {Φ : List Pd} {w0 : World} {a0 : Act} {i : Nat} {o : Oper}
theorem ob_build_q {t T : TypeId} {x : Operand} {φ : Pd} {F : World → Value → Prop} (hop : o.op = .buildSlice t 1 #[(0, x)]) (hg : o.guard = none) (hx : Ev L Φ w0 a0 o x F) (hu : P.underlying t = some (.slice T)) (hI : ∃ i, P.info? T = some i ∧ i.zero = some (.agg #[.bool false, .slice none 0 0, .slice none 0 0]) ∧ i.size = 3 ∧ i.bytes = 56)
  (hF : ∀ w v, F w v → φ.p w v ∧ ∃ a b c, v = .agg #[a, b, c] ∧ a.oneCell' = true ∧ b.oneCell' = true ∧ c.oneCell' = true) (hP : ∀ w v, (pone φ).p w v → (ph Φ i).p w v) : Ob P Q ops L Φ w0 a0 i o := by
 intro ms w hS
 rw [if_pos (wt_none (ops := ops) (L := L) (Φ := Φ) (w0 := w0) (a0 := a0) hg ms w hS)]
 obtain ⟨h1, a, b, c, hv, ka, kb, kc⟩ := hF _ _ (hx ms w hS)
 obtain ⟨inf, hi, hz, hs, hb⟩ := hI
 have hr : (execOp (putM a0 L ms).eval o).run P w = .ok (.value (.slice (some ⟨w.heap.size, 0, none⟩) 1 1)) (w.alloc (.cells #[a, b, c] T)) := by
  generalize putM a0 L ms = A at hv
  have hz0 : (zeroValue T).run P w = .ok (.agg #[.bool false, .slice none 0 0, .slice none 0 0]) w := by simp [zeroValue, go_sem, typeInfo, hi, hz]
  simp only [hop, execOp, List.map_toArray, List.map_cons, List.map_nil, hv]
  generalize A.eval = ev
  simp [go_sem, run_underlying hu, sizeOf, typeInfo, hi, newRow, hs, hz0]
 unfold Oper.wp
 rw [hr]
 obtain ⟨c0, c1, c2⟩ := new_cells w T a b c
 have hbb := below_alloc (w := w) (Nat.le_refl _) (.cells #[a, b, c] T)
 exact ⟨_, rfl, hbb, hP _ _ ⟨_, a, b, c, rfl, c0, c1, c2, φ.up (hv ▸ h1) hbb⟩, fun h => by unfold isA at h; rw [hop] at h; cases h⟩
/-- Behind the flow: an append of one element to a row of the call's own. -/
theorem any_append_q {fuel : Nat} {listed : Array Bool} {a : Act} {w : World} (s x : Operand) {t : TypeId} (hr : Region.ready .any ops listed = [i]) (ho : ops[i]? = some o) (hg : o.guard = none) (hop : o.op = .call { callee := .builtin .append, args := #[s, x], argTypes := #[t, t] })
  {base : Nat} {T : TypeId} (hT : P.underlying t = some (.slice T)) (hI : ∃ i, P.info? T = some i ∧ i.zero = some (.agg #[.bool false, .slice none 0 0, .slice none 0 0]) ∧ i.size = 3 ∧ i.bytes = 56) {v : Value} {p : Elt} {ps : List Elt} (hs : a.eval s = v) (hown : RowF T w base v ps) {ad : Addr} {c : Nat} (hx : a.eval x = .slice (some ad) 1 c)
  (h0 : w.cell? (ad.add 0) = some (.bool (ngB p.1.num))) (h1 : w.cell? (ad.add 1) = some p.2.1) (h2 : w.cell? (ad.add 2) = some p.2.2) (k1 : p.2.1.oneCell' = true) (k2 : p.2.2.oneCell' = true) (hlen : ps.length ≤ 1000000000) (hbase : base ≤ w.heap.size)
  (h : ∀ v' w' b, RowF T w' base v' (ps ++ [p]) → Below base w w' → Hid (Grew w w' v v') → a.put o.dst v' = b → wpAny P .any ops Q fuel (listed.setIfInBounds i true) b w') : wpAny P .any ops Q (fuel + 1) listed a w :=
 any_one hr ho hg (wp_append_q s x hop hT hI hs hown hx h0 h1 h2 k1 k2 hlen hbase fun v' w' r b k => h v' w' _ r b k rfl)
end
end Go.Proofs.YtmpalajamfiiiaaGreat.flow
namespace Go.Proofs.YtmpalajamfiiiaaGreat.rat
open Go.RowKit Go.Proofs.YtmpalajamfiiiaaGreat.num Go.Proofs.YtmpalajamfiiiaaGreat.mem Go.Proofs.YtmpalajamfiiiaaGreat.nat Go.Proofs.YtmpalajamfiiiaaGreat.txt Go.Proofs.YtmpalajamfiiiaaGreat.str Go.Proofs.YtmpalajamfiiiaaGreat.flow Go.Proofs.YtmpalajamfiiiaaGreat.whl
end Go.Proofs.YtmpalajamfiiiaaGreat.rat
namespace Go.Proofs.YtmpalajamfiiiaaGreat.whl
open Go.RowKit Go.Proofs.YtmpalajamfiiiaaGreat.num Go.Proofs.YtmpalajamfiiiaaGreat.mem Go.Proofs.YtmpalajamfiiiaaGreat.nat Go.Proofs.YtmpalajamfiiiaaGreat.txt Go.Proofs.YtmpalajamfiiiaaGreat.str Go.Proofs.YtmpalajamfiiiaaGreat.flow
set_option linter.unusedVariables false
def prf (z : Int) (B : Nat) : Pd := ⟨fun w v => IsR w v z ∧ FreshZ B v, fun h hb => ⟨h.1.below hb, h.2⟩⟩
/-- The call's answer is this whole number, in new memory. -/
def RetRF (z : Int) (w : World) (e : Ending) (w' : World) : Prop := ∃ v, e = .returned v ∧ IsR w' v z ∧ FreshZ w.heap.size v ∧ Below w.heap.size w w'
theorem RetRF.pd {z : Int} {w : World} {e : Ending} {w' : World} {B : Nat} (h : RetRF z w e w') (hB : B ≤ w.heap.size) : RetPd (prf z B) w e w' := by
 obtain ⟨v, h1, h2, h3, h4⟩ := h
 exact ⟨v, h1, ⟨h2, h3.mono hB⟩, h4⟩
theorem made_pdf (b : Bool) (u : Value) (x : Nat) (z : Int) (w : World) {B : Nat} (h : IsS w .i64 u (digs 10000 x)) (hf : Fresh B u) (hz : sg b x = z) : Calls Tryz.prog 111 #[.bool b, u] w (RetPd (prf z B) w) :=
 (rmade_any b u x w h).mono fun e w' h' => ⟨_, h'.1, ⟨isR_mk (h.below h'.2) (by rw [← hz, sg_abs]) (by rw [hz]), freshZ_mk hf⟩, h'.2⟩
end Go.Proofs.YtmpalajamfiiiaaGreat.whl
namespace Go.Proofs.YtmpalajamfiiiaaGreat.rat
open Go.RowKit Go.Proofs.YtmpalajamfiiiaaGreat.num Go.Proofs.YtmpalajamfiiiaaGreat.mem Go.Proofs.YtmpalajamfiiiaaGreat.nat Go.Proofs.YtmpalajamfiiiaaGreat.txt Go.Proofs.YtmpalajamfiiiaaGreat.str Go.Proofs.YtmpalajamfiiiaaGreat.flow Go.Proofs.YtmpalajamfiiiaaGreat.whl
set_option linter.unusedVariables false
set_option maxHeartbeats 1600000 in
set_option maxRecDepth 100000 in
theorem roff_any (a0 : Value) (x : Int) (w : World) (h0 : IsZ w a0 x) (hl : lenZ x ≤ 30000) :
  Calls Tryz.prog 99 #[a0] w (RetRF x w) := by
 obtain ⟨u0, rfl, s0⟩ := h0
 obtain ⟨A0, c0, rfl, _⟩ := id s0
 have HL : Hid ((digs 4294967296 x.natAbs).length ≤ 100000) := by show _ ≤ _; unfold lenZ at hl; omega
 have HZ : Hid (sg (ngB x) x.natAbs = x) := by show _ = _; exact sg_self x
 go_enter Tryz.func99, Tryz.ntmps99
 go_upto_region 1 with (fail)
 obtain ⟨wx, hwx, bb, B0, B1, hsz⟩ := vars2 w 42 53 #[.bool (ngB x), .slice A0 (digs 4294967296 (x).natAbs).length c0] #[.bool false, .slice none 0 0]
 rw [hwx]
 clear hwx
 have k0s := s0.below bb
 have k0 : IsZ wx (.agg #[.bool (ngB x), .slice A0 (digs 4294967296 (x).natAbs).length c0]) (x) := isZ_mk k0s rfl rfl
 have hszb := bb.size
 refine flow 6 [Pd.eq (.pointer (some ⟨w.heap.size, 0, none⟩)), Pd.eq (.bool (ngB x)), Pd.eq (.pointer (some ⟨w.heap.size, 1, none⟩)), Pd.eq (.slice A0 (digs 4294967296 (x).natAbs).length c0), ps .i64 (digs 10000 x.natAbs) wx.heap.size, prf (x) wx.heap.size] (by kernel_rfl) (by kernel_rfl) ?ob1 ?done1
 case ob1 =>
  refine And.intro (ob_fieldAddr rfl (wt_none rfl) (ev_far rfl rfl) (fun _ => by kernel_rfl) (fun _ => rfl)) ?_
  refine And.intro (ob_load rfl (wt_none rfl) (ev_dep (j := 0) (by kernel_rfl) rfl rfl) (fun w2 hb => run_load1 Tryz.underlying4 rfl ((B0.drew.below hb).cell 0)) (fun _ _ => rfl)) ?_
  refine And.intro (ob_fieldAddr rfl (wt_none rfl) (ev_far rfl rfl) (fun _ => by kernel_rfl) (fun _ => rfl)) ?_
  refine And.intro (ob_load rfl (wt_none rfl) (ev_dep (j := 2) (by kernel_rfl) rfl rfl) (fun w2 hb => run_load1 Tryz.underlying40 rfl ((B0.drew.below hb).cell 1)) (fun _ _ => rfl)) ?_
  refine And.intro (ob_call1 rfl Tryz.func101 (by kernel_rfl) (wt_none rfl) (ev_dep (j := 3) (by kernel_rfl) rfl rfl) (fun w2 u0 hb h0 => by obtain rfl := h0; exact (refOf_any _ _ _ (k0s.drew.below hb) HL.out).mono fun e w3 h => RetS.pd h hb.size)) ?_
  refine And.intro (ob_call2 rfl Tryz.func111 (by kernel_rfl) (wt_none rfl) (ev_dep (j := 1) (by kernel_rfl) rfl rfl) (ev_dep (j := 4) (by kernel_rfl) rfl rfl) (fun w2 u0 u1 hb h0 h1 => by obtain rfl := h0; exact made_pdf _ _ _ (x) _ h1.1 h1.2 HZ.out)) ?_
  trivial
 case done1 =>
  refine fun w1 hb1 v0 h0 v1 h1 v2 h2 v3 h3 v4 h4 v5 h5 b hbf => ?_
  obtain rfl := h0; obtain rfl := h1; obtain rfl := h2; obtain rfl := h3
  obtain ⟨q4, f4⟩ := h4
  obtain ⟨q5, f5⟩ := h5
  simp only [Act.put, List.setIfInBounds_toArray, List.set_cons_zero, List.set_cons_succ] at hbf
  subst hbf
  obtain ⟨u5, rfl, q5⟩ := q5
  obtain ⟨A9, c9, rfl, _⟩ := id q5
  have B9 := B1.below hb1
  refine any_store (i := 6) (by kernel_rfl) rfl rfl rfl rfl rfl rfl (cells := [.bool (ngB (x)), .slice A9 (digs 10000 (x).natAbs).length c9]) rfl B9 rfl (by kernel_rfl) (one2 rfl rfl) fun w9 hg9 BB9 => ?_
  have k9 := off q5 B9 no_ints2 hg9
  have f9 := (f5 _ _ rfl).mono (show w.heap.size ≤ wx.heap.size from bb.size)
  have bb9 := ((bb.trans (hb1.mono bb.size)).trans ((Below.refl _ _).grown hg9 (Nat.le_trans bb.size hb1.size) (fun g hg => by injection hg with hg; omega)))
  obtain ⟨c0, c1, _, _⟩ := Blk.two BB9
  refine any_done (by kernel_rfl) ?_
  go_wp2
  exact bodyPost_ret (v := .agg #[.bool (ngB (x)), .slice A9 (digs 10000 (x).natAbs).length c9]) (by simp [results, Tryz.results99, go_sem, c0, c1]) rfl ⟨_, rfl, isR_mk k9 rfl rfl, freshZ_mk f9, bb9⟩
set_option maxHeartbeats 1600000 in
set_option maxRecDepth 100000 in
theorem qoff_any (a0 : Value) (q : Rat) (w : World) (h0 : IsQ w a0 q) (hl : lenQ q 30000) :
  Calls Tryz.prog 67 #[a0] w (RetPF q w) := by
 obtain ⟨u0, t0, rfl, s0, r0⟩ := h0
 obtain ⟨A0, c0, rfl, _⟩ := id s0
 obtain ⟨D0, e0, rfl, _⟩ := id r0
 go_enter Tryz.func67, Tryz.ntmps67
 go_upto_region 1 with (fail)
 obtain ⟨wx, hwx, bb, B0, BR0, hsz⟩ := vars2 w 44 55 #[.bool (ngB (q).num), .slice A0 (digs 4294967296 (q).num.natAbs).length c0, .slice D0 (digs 4294967296 (q).den).length e0] #[.bool false, .slice none 0 0, .slice none 0 0]
 rw [hwx]
 clear hwx
 have k0s := s0.below bb
 have k0d := r0.below bb
 have k0z : IsZ wx (.agg #[.bool (ngB (q).num), .slice A0 (digs 4294967296 (q).num.natAbs).length c0]) (q).num := ⟨_, rfl, k0s⟩
 have k0 : IsQ wx (.agg #[.bool (ngB (q).num), .slice A0 (digs 4294967296 (q).num.natAbs).length c0, .slice D0 (digs 4294967296 (q).den).length e0]) (q) := ⟨_, _, rfl, k0s, k0d⟩
 have hsz0 := bb.size
 have sB := bb.size
 refine flow 7 [Pd.eq (.pointer (some ⟨w.heap.size, 0, none⟩)), Pd.eq (.agg #[.bool (ngB (q).num), .slice A0 (digs 4294967296 (q).num.natAbs).length c0]), prf ((q).num) wx.heap.size, Pd.eq (.pointer (some ⟨w.heap.size, 2, none⟩)), Pd.eq (.slice D0 (digs 4294967296 (q).den).length e0), ps .i64 (digs 10000 (q).den) wx.heap.size, ppf (q) wx.heap.size] (by kernel_rfl) (by kernel_rfl) ?ob2 ?done2
 case ob2 =>
  refine And.intro (ob_fieldAddr rfl (wt_none rfl) (ev_far rfl rfl) (fun _ => by kernel_rfl) (fun _ => rfl)) ?_
  refine And.intro (ob_load rfl (wt_none rfl) (ev_dep (j := 0) (by kernel_rfl) rfl rfl) (fun w2 hb => run_loadPart Tryz.underlying42 rfl (by kernel_rfl) (B0.drew.below hb) rfl) (fun _ _ => rfl)) ?_
  refine And.intro (ob_call1 rfl Tryz.func99 (by kernel_rfl) (wt_none rfl) (ev_dep (j := 1) (by kernel_rfl) rfl rfl) (fun w2 u0 hb h0 => by obtain rfl := h0; exact (roff_any _ _ _ (k0z.drew.below hb) (Nat.le_trans hl.1 (by decide))).mono fun e w3 h => RetRF.pd h hb.size)) ?_
  refine And.intro (ob_fieldAddr rfl (wt_none rfl) (ev_far rfl rfl) (fun _ => by kernel_rfl) (fun _ => rfl)) ?_
  refine And.intro (ob_load rfl (wt_none rfl) (ev_dep (j := 3) (by kernel_rfl) rfl rfl) (fun w2 hb => run_load1 Tryz.underlying40 rfl ((B0.drew.below hb).cell 2)) (fun _ _ => rfl)) ?_
  refine And.intro (ob_call1 rfl Tryz.func101 (by kernel_rfl) (wt_none rfl) (ev_dep (j := 4) (by kernel_rfl) rfl rfl) (fun w2 u0 hb h0 => by obtain rfl := h0; exact (refOf_any _ _ _ (k0d.drew.below hb) (Nat.le_trans hl.2 (by decide))).mono fun e w3 h => RetS.pd h hb.size)) ?_
  refine And.intro (ob_build2b rfl (wt_none rfl) (ev_dep (j := 2) (by kernel_rfl) rfl rfl) (ev_dep (j := 5) (by kernel_rfl) rfl rfl) (fun w2 u v hb hu hv => by obtain ⟨u7, rfl, hu7⟩ := hu.1; obtain ⟨A7, c7, rfl, _⟩ := id hu7; obtain ⟨A8, c8, rfl, _⟩ := id hv.1; exact ⟨.agg #[.bool (ngB (q).num), .slice A7 (digs 10000 (q).num.natAbs).length c7, .slice A8 (digs 10000 (q).den).length c8], by kernel_rfl, ⟨⟨_, _, rfl, hu7, hv.1⟩, freshQ_mk (hu.2 _ _ rfl) hv.2⟩⟩)) ?_
  trivial
 case done2 =>
  refine fun w11 hb11 v0 h0 v1 h1 v2 h2 v3 h3 v4 h4 v5 h5 v6 h6 b hbf => ?_
  obtain rfl := h0; obtain rfl := h1; obtain rfl := h3; obtain rfl := h4
  obtain ⟨q2, f2⟩ := h2
  obtain ⟨q5, f5⟩ := h5
  obtain ⟨q6, f6⟩ := h6
  simp only [Act.put, List.setIfInBounds_toArray, List.set_cons_zero, List.set_cons_succ] at hbf
  subst hbf
  replace B0 := B0.below hb11
  replace k0s := k0s.below hb11
  replace k0d := k0d.below hb11
  replace k0z := k0z.below hb11
  replace k0 := k0.below hb11
  replace BR0 := BR0.below hb11
  replace bb := bb.trans (hb11.mono bb.size)
  have hsz11 := bb.size
  have s_2 := sB
  have s_5 := sB
  have s_6 := sB
  obtain ⟨u6, t6, rfl, q6, d6⟩ := q6
  obtain ⟨A9, c9, rfl, _⟩ := id q6
  obtain ⟨D9, e9, rfl, _⟩ := id d6
  refine any_store (i := 7) (by kernel_rfl) rfl rfl rfl rfl rfl rfl (cells := [.bool (ngB (q).num), .slice A9 (digs 10000 (q).num.natAbs).length c9, .slice D9 (digs 10000 (q).den).length e9]) rfl BR0 rfl (by kernel_rfl) (one3 rfl rfl rfl) fun w9 hg9 B9 => ?_
  have k9 := off q6 BR0 no_ints3 hg9
  have d9 := off d6 BR0 no_ints3 hg9
  have f9 := f6.mono (show w.heap.size ≤ _ from s_6)
  have bb9 := bb.trans ((Below.refl _ _).grown hg9 bb.size (fun g hg => by injection hg with hg; omega))
  obtain ⟨C0, C1, C2, _, _, _⟩ := three B9
  refine any_done (by kernel_rfl) ?_
  go_wp2
  exact bodyPost_ret (v := .agg #[.bool (ngB (q).num), .slice A9 (digs 10000 (q).num.natAbs).length c9, .slice D9 (digs 10000 (q).den).length e9]) (by simp [results, Tryz.results67, go_sem, C0, C1, C2]) rfl ⟨_, rfl, ⟨_, _, rfl, k9, d9⟩, f9, bb9⟩
theorem SlF.drew {k : IntKind} {B : Nat} {w : World} {v : Value} {qs : List Rat} (h : SlF k B w v qs) : SlF k B w.drew v qs := h
/-- A slice of fractions is kept where a variable without ints is set that is not its row. -/
theorem SlF.off {k : IntKind} {B : Nat} {w w' : World} {v : Value} {qs : List Rat} {g : Nat} {e : TypeId} {cs : Array Value} (h : SlF k B w v qs) (hB : w.heap[g]? = some (.cells cs e (0, 0))) (hno : ∀ c ∈ cs, ∀ n, c ≠ .int k n) (hg : w.grownBy w' (some g)) (hne : v.ownBlock ≠ some g) : SlF k B w' v qs := by
 obtain ⟨ps, e1, ⟨A, c, rfl, h1, h2, h3⟩, h4⟩ := h
 have key : ∀ (g2 o2 : Nat) (x : Value), A = some ⟨g2, o2, none⟩ → ∀ j, w.cell? ⟨g2, j, none⟩ = some x → w'.cell? ⟨g2, j, none⟩ = some x := fun g2 o2 x hA j hc => by
  subst hA
  have hne2 : g2 ≠ g := fun e => hne (by subst e; rfl)
  have hb := hg.block g2 (World.block_lt_of_cell? w _ hc) (fun e => hne2 (by injection e))
  rw [← hc]
  simp only [World.cell?, hb]
 refine ⟨ps, e1, ⟨A, c, rfl, h1, h2, fun i p hp => ?_⟩, fun p hp => ⟨Go.Proofs.YtmpalajamfiiiaaGreat.flow.off (h4 p hp).1 hB hno hg, Go.Proofs.YtmpalajamfiiiaaGreat.flow.off (h4 p hp).2 hB hno hg⟩⟩
 obtain ⟨g2, o2, hA, c0, c1, c2⟩ := h3 i p hp
 exact ⟨g2, o2, hA, key g2 o2 _ hA _ c0, key g2 o2 _ hA _ c1, key g2 o2 _ hA _ c2⟩
/-- A slice of these. -/
def RetSl (qs : List Rat) (w : World) (e : Ending) (w' : World) : Prop := ∃ V, e = .returned V ∧ SlF .u64 4294967296 w' V qs ∧ Below w.heap.size w w'
theorem SlF.at2 {k : IntKind} {B : Nat} {w : World} {g o n c : Nat} {qs : List Rat} {i : Nat} {q : Rat} (h : SlF k B w (.slice (some ⟨g, o, none⟩) n c) qs) (hq : qs[i]? = some q) : ∃ u t, i < n ∧ w.cell? ⟨g, o + i * 3, none⟩ = some (.bool (ngB q.num)) ∧ w.cell? ⟨g, o + i * 3 + 1, none⟩ = some u ∧ w.cell? ⟨g, o + i * 3 + 2, none⟩ = some t ∧ IsS w k u (digs B q.num.natAbs) ∧ IsS w k t (digs B q.den) := by
 obtain ⟨g', o', u, t, hA, h1, h2, h3, h4, h5, h6⟩ := h.at_ hq
 injection hA with hA
 injection hA with e1 e2
 subst e1
 subst e2
 exact ⟨u, t, h1, h2, h3, h4, h5, h6⟩
/-- A row that holds something has a place, and lies in what there is. -/
theorem SlF.place {k : IntKind} {B : Nat} {w : World} {v : Value} {qs : List Rat} (h : SlF k B w v qs) (hne : qs ≠ []) : ∃ g o c, v = .slice (some ⟨g, o, none⟩) qs.length c ∧ g < w.heap.size ∧ qs.length ≤ c ∧ c ≤ maxLen := by
  obtain ⟨A, c, rfl, h1, h2⟩ := h.shape
  cases qs with
  | nil => exact absurd rfl hne
  | cons q qs =>
    obtain ⟨g, o, u, t, rfl, _, hc, _⟩ := h.at_ (i := 0) (q := q) rfl
    exact ⟨g, o, c, rfl, World.block_lt_of_cell? w _ hc, h1, h2⟩
/-- A row of nothing lies nowhere. -/
theorem SlF.any {k : IntKind} {B : Nat} {w w' : World} {v : Value} (h : SlF k B w v []) : SlF k B w' v [] := by
 obtain ⟨ps, hp, ⟨A, c, h1, h2, h3, _⟩, _⟩ := h
 obtain rfl : ps = [] := List.map_eq_nil_iff.1 hp
 exact ⟨[], rfl, ⟨A, c, h1, h2, h3, fun i p hp => by simp at hp⟩, fun p hp => by cases hp⟩
section
variable {P : Program}
end
/-- A row of two rows. -/
def Two (w : World) (v : Value) (p q : List Rat) : Prop := ∃ u0 u1, IsV w v [u0, u1] ∧ SlF .u64 4294967296 w u0 p ∧ SlF .u64 4294967296 w u1 q
theorem slF_lit2 (w : World) (T : TypeId) {q r : Rat} {u t u' t' : Value} (h1 : IsS w .u64 u (digs 4294967296 q.num.natAbs)) (h2 : IsS w .u64 t (digs 4294967296 q.den)) (h3 : IsS w .u64 u' (digs 4294967296 r.num.natAbs)) (h4 : IsS w .u64 t' (digs 4294967296 r.den)) :
  SlF .u64 4294967296 (w.alloc (.cells #[.bool (ngB q.num), u, t, .bool (ngB r.num), u', t'] T)) (.slice (some ⟨w.heap.size, 0, none⟩) 2 2) [q, r] := by
 have hbb := below_alloc (w := w) (Nat.le_refl _) (.cells #[.bool (ngB q.num), u, t, .bool (ngB r.num), u', t'] T)
 have hB := Blk.new w T #[.bool (ngB q.num), u, t, .bool (ngB r.num), u', t']
 refine ⟨[(q, u, t), (r, u', t')], rfl, ⟨some ⟨w.heap.size, 0, none⟩, 2, rfl, Nat.le_refl _, by unfold maxLen; omega, fun i p hp => ?_⟩, fun p hp => ?_⟩
 ·rcases i with _ | _ | i
  ·obtain rfl : ((q, u, t) : Elt) = p := by simpa using hp
   exact ⟨_, _, rfl, hB.cell 0, hB.cell 1, hB.cell 2⟩
  ·obtain rfl : ((r, u', t') : Elt) = p := by simpa using hp
   exact ⟨_, _, rfl, hB.cell 3, hB.cell 4, hB.cell 5⟩
  ·simp at hp
 ·rcases List.mem_cons.1 hp with rfl | hp
  ·exact ⟨h1.below hbb, h2.below hbb⟩
  ·obtain rfl := List.mem_singleton.1 hp
   exact ⟨h3.below hbb, h4.below hbb⟩
section
variable {P : Program} {Q : Exit → Act → World → Prop} {ops : Array Oper} {L : List Oper} {Φ : List Pd} {w0 : World} {a0 : Act} {i : Nat} {o : Oper}
end
end Go.Proofs.YtmpalajamfiiiaaGreat.rat
namespace Go.Proofs.YtmpalajamfiiiaaGreat.rat
open Go.RowKit Go.ChangeShapes Go.WideShapes Go.ChangeAt Go.Joins Go.Deep Go.Proofs.YtmpalajamfiiiaaGreat.num Go.Proofs.YtmpalajamfiiiaaGreat.mem Go.Proofs.YtmpalajamfiiiaaGreat.nat Go.Proofs.YtmpalajamfiiiaaGreat.txt Go.Proofs.YtmpalajamfiiiaaGreat.str Go.Proofs.YtmpalajamfiiiaaGreat.flow Go.Proofs.YtmpalajamfiiiaaGreat.whl
set_option linter.unusedVariables false
theorem ArgQs.below {w w' : World} {v : Value} (h : ArgQs w v) (hb : Below w.heap.size w w') : ArgQs w' v := by
 obtain ⟨A, n, c, e, h1, h2, h3⟩ := h
 refine ⟨A, n, c, e, h1, h2, fun i hi => ?_⟩
 obtain ⟨ad, b, u, t, l, m, e2, c0, c1, c2, k1, k2, k3, k4⟩ := h3 i hi
 exact ⟨ad, b, u, t, l, m, e2, (hb.cell (World.block_lt_of_cell? w _ c0)).trans c0, (hb.cell (World.block_lt_of_cell? w _ c1)).trans c1, (hb.cell (World.block_lt_of_cell? w _ c2)).trans c2, k1.below hb, k2, k3.below hb, k4⟩
/-- Fractions of the program's in a slice, and an error's number. -/
def RetQLE (l : List Rat) (n : Int) (w : World) (e : Ending) (w' : World) : Prop := ∃ V, e = .returned (.tuple #[V, .int .i64 n]) ∧ SlF .u64 4294967296 w' V (if n = 0 then l else []) ∧ Below w.heap.size w w'
def vi (l : List Int) : List Value := l.map (.int .i64)
theorem vi_len (l : List Int) : (vi l).length = l.length := List.length_map _
section
variable {P : Program}
end
theorem info_int : ∃ i, Tryz.prog.info? 3 = some i ∧ i.zero = some (.int .i64 0) ∧ i.size = 1 ∧ i.bytes = 8 := info_parts (P := Tryz.prog) (e := 3) (z := .int .i64 0) (size := 1) (bytes := 8) (by kernel_rfl)
end Go.Proofs.YtmpalajamfiiiaaGreat.rat
namespace Go.Proofs.YtmpalajamfiiiaaGreat.rat
open Go.RowKit Go.Proofs.YtmpalajamfiiiaaGreat.num Go.Proofs.YtmpalajamfiiiaaGreat.mem Go.Proofs.YtmpalajamfiiiaaGreat.nat Go.Proofs.YtmpalajamfiiiaaGreat.txt Go.Proofs.YtmpalajamfiiiaaGreat.str Go.Proofs.YtmpalajamfiiiaaGreat.flow Go.Proofs.YtmpalajamfiiiaaGreat.whl
set_option linter.unusedVariables false
/-- Limbs in new memory; a row in new memory, limbs and all. -/
def NewL (B : Nat) (ps : List Elt) : Prop := ∀ p ∈ ps, Fresh B p.2.1 ∧ Fresh B p.2.2
theorem NewL.nil (B : Nat) : NewL B [] := fun p hp => by cases hp
theorem NewL.snoc {B : Nat} {ps : List Elt} {p : Elt} (h : NewL B ps) (h1 : Fresh B p.2.1) (h2 : Fresh B p.2.2) : NewL B (ps ++ [p]) := fun a ha => by
 rcases List.mem_append.1 ha with ha | ha
 ·exact h a ha
 ·rw [List.mem_singleton.1 ha]; exact ⟨h1, h2⟩
def IsN (k : IntKind) (B : Nat) (w : World) (B0 : Nat) (v : Value) (r : List Rat) : Prop := ∃ ps : List Elt, ps.map (·.1) = r ∧ IsVF w v ps ∧ (∀ p ∈ ps, IsE k B w p ∧ Fresh B0 p.2.1 ∧ Fresh B0 p.2.2) ∧ ∀ g, v.ownBlock = some g → B0 ≤ g ∧ g < w.heap.size
theorem IsN.sl {k : IntKind} {B : Nat} {w : World} {B0 : Nat} {v : Value} {r : List Rat} (h : IsN k B w B0 v r) : SlF k B w v r := by
 obtain ⟨ps, h1, h2, h3, _⟩ := h
 exact ⟨ps, h1, h2, fun p hp => (h3 p hp).1⟩
/-- A slice of slices of fractions. -/
def SlT (k : IntKind) (B : Nat) (w : World) (v : Value) (t : List (List Rat)) : Prop := ∃ us : List Value, us.length = t.length ∧ (∃ A c, v = .slice A us.length c ∧ us.length ≤ c ∧ c ≤ maxLen ∧ ∀ (i : Nat) (u : Value), us[i]? = some u → ∃ ad, A = some ad ∧ w.cell? (ad.add i) = some u) ∧ ∀ (i : Nat) (u : Value) (r : List Rat), us[i]? = some u → t[i]? = some r → SlF k B w u r
theorem SlT.below {k : IntKind} {B : Nat} {w w' : World} {v : Value} {t : List (List Rat)} (h : SlT k B w v t) (hb : Below w.heap.size w w') : SlT k B w' v t := by
 obtain ⟨us, h1, ⟨A, c, e, h2, h3, h4⟩, h5⟩ := h
 refine ⟨us, h1, ⟨A, c, e, h2, h3, fun i u hu => ?_⟩, fun i u r hu hr => (h5 i u r hu hr).below hb⟩
 obtain ⟨ad, ha, hc⟩ := h4 i u hu
 exact ⟨ad, ha, (hb.cell (World.block_lt_of_cell? w _ hc)).trans hc⟩
theorem SlT.shape {k : IntKind} {B : Nat} {w : World} {v : Value} {t : List (List Rat)} (h : SlT k B w v t) : ∃ A c, v = .slice A t.length c ∧ t.length ≤ c ∧ c ≤ maxLen := by
 obtain ⟨us, h1, ⟨A, c, e, h2, h3, _⟩, _⟩ := h
 exact ⟨A, c, by rw [e, h1], by omega, h3⟩
theorem SlT.at_ {k : IntKind} {B : Nat} {w : World} {A : Option Addr} {n c i : Nat} {t : List (List Rat)} {r : List Rat} (h : SlT k B w (.slice A n c) t) (hr : t[i]? = some r) : ∃ ad Ar cr, A = some ad ∧ i < n ∧ w.cell? (ad.add i) = some (.slice Ar r.length cr) ∧ SlF k B w (.slice Ar r.length cr) r := by
 obtain ⟨us, h1, ⟨A', c', e, h2, h3, h4⟩, h5⟩ := h
 injection e with e1 e2 e3
 subst e1; subst e2; subst e3
 have hi : i < us.length := by have := (List.getElem?_eq_some_iff.1 hr).1; omega
 obtain ⟨ad, ha, hc⟩ := h4 i _ (List.getElem?_eq_getElem hi)
 have hs := h5 i _ r (List.getElem?_eq_getElem hi) hr
 obtain ⟨Ar, cr, e, _, _⟩ := hs.shape
 rw [e] at hc hs
 exact ⟨ad, Ar, cr, ha, hi, hc, hs⟩
theorem slT_nil (k : IntKind) (B : Nat) (w : World) : SlT k B w (.slice none 0 0) [] := ⟨[], rfl, ⟨none, 0, rfl, by simp, by unfold maxLen; omega, fun i u hu => by simp at hu⟩, fun i u r hu => by simp at hu⟩
def RetTE (t : List (List Rat)) (n : Int) (w : World) (e : Ending) (w' : World) : Prop := ∃ V, e = .returned (.tuple #[V, .int .i64 n]) ∧ SlT .u64 4294967296 w' V (if n = 0 then t else []) ∧ Below w.heap.size w w'
/-! Tables that a call makes by append. -/
/-- A row of fractions that lies elsewhere, limbs and all. -/
def FarS (k : IntKind) (B : Nat) (w : World) (v u : Value) (r : List Rat) : Prop := ∃ ps : List Elt, ps.map (·.1) = r ∧ IsVF w u ps ∧ FarF k B w v ps ∧ ∀ g, u.ownBlock = some g → g < w.heap.size ∧ v.ownBlock ≠ some g
theorem FarS.sl {k : IntKind} {B : Nat} {w : World} {v u : Value} {r : List Rat} (h : FarS k B w v u r) : SlF k B w u r := by
 obtain ⟨ps, h1, h2, h3, _⟩ := h
 exact ⟨ps, h1, h2, fun p hp => (h3 p hp).1⟩
theorem FarS.below {k : IntKind} {B : Nat} {w w' : World} {v u : Value} {r : List Rat} (h : FarS k B w v u r) (hb : Below w.heap.size w w') : FarS k B w' v u r := by
 obtain ⟨ps, h1, h2, h3, h4⟩ := h
 exact ⟨ps, h1, h2.below hb, h3.below hb, fun g hg => ⟨Nat.lt_of_lt_of_le (h4 g hg).1 hb.size, (h4 g hg).2⟩⟩
theorem FarS.keep {k : IntKind} {B : Nat} {w w' : World} {v v' u : Value} {r : List Rat} (h : FarS k B w v u r) (hk : Grew w w' v v') : FarS k B w' v' u r := by
 obtain ⟨ps, h1, ⟨A, c, e, h2, h2', h2''⟩, h3, h4⟩ := h
 obtain ⟨k1, k2, k3⟩ := hk
 refine ⟨ps, h1, ⟨A, c, e, h2, h2', fun i p hp => ?_⟩, h3.keep k1, fun g hg => ⟨Nat.lt_of_lt_of_le (h4 g hg).1 k2.size, k3 g (h4 g hg).1 (h4 g hg).2⟩⟩
 obtain ⟨g, o, rfl, c0, c1, c2⟩ := h2'' i p hp
 have hne : some g ≠ v.ownBlock := fun e' => (h4 g (by rw [e]; rfl)).2 e'.symm
 exact ⟨g, o, rfl, k2.cell c0 hne, k2.cell c1 hne, k2.cell c2 hne⟩
theorem IsN.far {k : IntKind} {B : Nat} {w : World} {B0 : Nat} {v u : Value} {r : List Rat} (h : IsN k B w B0 u r) (hv : ∀ g, v.ownBlock = some g → g < B0) : FarS k B w v u r := by
 obtain ⟨ps, h1, h2, h3, h4⟩ := h
 exact ⟨ps, h1, h2, fun p hp => ⟨(h3 p hp).1, (h3 p hp).2.1.far hv, (h3 p hp).2.2.far hv⟩, fun g hg => ⟨(h4 g hg).2, fun e => by have h5 := hv _ e; have h6 := (h4 g hg).1; omega⟩⟩
end Go.Proofs.YtmpalajamfiiiaaGreat.rat
namespace Go.Proofs.YtmpalajamfiiiaaGreat.flow
open Go.RowKit Go.Proofs.YtmpalajamfiiiaaGreat.num Go.Proofs.YtmpalajamfiiiaaGreat.mem Go.Proofs.YtmpalajamfiiiaaGreat.whl Go.Proofs.YtmpalajamfiiiaaGreat.rat
set_option linter.unusedVariables false
section
variable {P : Program} {Q : Exit → Act → World → Prop} {ops : Array Oper} {L : List Oper} {Φ : List Pd} {w0 : World} {a0 : Act} {i : Nat} {o : Oper}
end
end Go.Proofs.YtmpalajamfiiiaaGreat.flow
namespace Go.Proofs.YtmpalajamfiiiaaGreat.rat
open Go.RowKit Go.Proofs.YtmpalajamfiiiaaGreat.num Go.Proofs.YtmpalajamfiiiaaGreat.mem Go.Proofs.YtmpalajamfiiiaaGreat.nat Go.Proofs.YtmpalajamfiiiaaGreat.txt Go.Proofs.YtmpalajamfiiiaaGreat.str Go.Proofs.YtmpalajamfiiiaaGreat.flow Go.Proofs.YtmpalajamfiiiaaGreat.whl
set_option linter.unusedVariables false
set_option maxHeartbeats 1600000 in
set_option maxRecDepth 100000 in
theorem inv8_ok (a0 : Value) (x : Rat) (w : World) (h0 : IsQ w a0 x) (hl : lenQ x 1000000) (hy : x ≠ 0) :
  Calls Tryz.prog 71 #[a0] w (RetQF x⁻¹ 0 w) := by
 rcases Int.lt_or_gt_of_ne (fun e => hy (Rat.num_eq_zero.1 e) : x.num ≠ 0) with hlt | hlt
 ·obtain ⟨u0, t0, rfl, s0, r0⟩ := h0
  obtain ⟨A0, c0, rfl, _⟩ := id s0
  obtain ⟨D0, e0, rfl, _⟩ := id r0
  obtain ⟨Q, hQ⟩ : ∃ Q, Q = x⁻¹ := ⟨_, rfl⟩
  have HQ0 : Hid (x⁻¹ = Q) := hQ.symm
  have HQN : Hid (Q.num = sg (ngB x.num) x.den) := by show _ = _; rw [hQ, (inv_parts hy).1]
  have HQD : Hid (x.num.natAbs = Q.den) := by show _ = _; rw [hQ, (inv_parts hy).2]
  have HS : Hid (((-1) : Int) = ordz x.num 0) := (ordz_lt hlt).symm
  clear hQ
  go_enter Tryz.func71, Tryz.ntmps71
  go_upto_region 1 with (fail)
  obtain ⟨wx, hwx, bb, B0, BR0, hsz⟩ := vars2 w 44 44 #[.bool (ngB (x).num), .slice A0 (digs 4294967296 (x).num.natAbs).length c0, .slice D0 (digs 4294967296 (x).den).length e0] #[.bool false, .slice none 0 0, .slice none 0 0]
  rw [hwx]
  clear hwx
  have k0s := s0.below bb
  have k0d := r0.below bb
  have k0z : IsZ wx (.agg #[.bool (ngB (x).num), .slice A0 (digs 4294967296 (x).num.natAbs).length c0]) (x).num := ⟨_, rfl, k0s⟩
  have k0 : IsQ wx (.agg #[.bool (ngB (x).num), .slice A0 (digs 4294967296 (x).num.natAbs).length c0, .slice D0 (digs 4294967296 (x).den).length e0]) (x) := ⟨_, _, rfl, k0s, k0d⟩
  have hsz0 := bb.size
  have sB := bb.size
  refine flowp 3 [Pd.eq (.agg #[.bool (ngB (x).num), .slice A0 (digs 4294967296 (x).num.natAbs).length c0, .slice D0 (digs 4294967296 (x).den).length e0]), Pd.eq (.int .i64 (-1)), Pd.eq (.bool false)] (by kernel_rfl) ?ob24 ?done24
  case ob24 =>
   refine And.intro (ob_load rfl (wt_none rfl) (ev_far rfl rfl) (fun w2 hb => run_loadAll Tryz.underlying44 rfl (by kernel_rfl) (B0.below hb)) (fun _ _ => rfl)) ?_
   refine And.intro (ob_call1 rfl Tryz.func62 (by kernel_rfl) (wt_none rfl) (ev_dep (j := 0) (by kernel_rfl) rfl rfl) (fun w2 u0 hb h0 => by obtain rfl := h0; exact (fsign0_any _ x (-1) _ (k0.below hb) HS.out).mono fun e w3 h => RetV.pd h)) ?_
   refine And.intro (ob_bin rfl (wt_none rfl) (ev_dep (j := 1) (by kernel_rfl) rfl rfl) (ev_const _) (fun _ _ _ hx hy => ⟨.bool ((-1 : Int) == 0), by rw [hx, hy]; exact bin_eql_int _ _ _ _ _, congrArg Value.bool (by decide)⟩)) ?_
   trivial
  case done24 =>
   refine fun w1 hb1 v0 h0 v1 h1 v2 h2 b hbf => ?_
   obtain rfl := h0; obtain rfl := h1; obtain rfl := h2
   simp only [Act.put, List.setIfInBounds_toArray, List.set_cons_zero, List.set_cons_succ] at hbf
   subst hbf
   replace B0 := B0.below hb1
   replace k0s := k0s.below hb1
   replace k0d := k0d.below hb1
   replace k0z := k0z.below hb1
   replace k0 := k0.below hb1
   replace BR0 := BR0.below hb1
   replace bb := bb.trans (hb1.mono bb.size)
   have hsz1 := bb.size
   refine ops_done ?_
   have sB := bb.size
   go_upto_region 3 with (fail)
   refine flow 11 [Pd.eq (.pointer (some ⟨w.heap.size, 0, none⟩)), Pd.eq (.pointer (some ⟨w.heap.size, 0, none⟩)), Pd.eq (.bool (ngB (x).num)), Pd.eq (.pointer (some ⟨w.heap.size, 2, none⟩)), Pd.eq (.slice D0 (digs 4294967296 (x).den).length e0), pz ((Q).num) w1.heap.size, Pd.eq (.pointer (some ⟨w.heap.size, 0, none⟩)), Pd.eq (.pointer (some ⟨w.heap.size, 1, none⟩)), Pd.eq (.slice A0 (digs 4294967296 (x).num.natAbs).length c0), ps .u64 (digs 4294967296 (Q).den) w1.heap.size, pq (Q) w1.heap.size] (by kernel_rfl) (by kernel_rfl) ?ob25 ?done25
   case ob25 =>
    refine And.intro (ob_fieldAddr rfl (wt_none rfl) (ev_far rfl rfl) (fun _ => by kernel_rfl) (fun _ => rfl)) ?_
    refine And.intro (ob_fieldAddr rfl (wt_none rfl) (ev_dep (j := 0) (by kernel_rfl) rfl rfl) (fun _ => by kernel_rfl) (fun _ => rfl)) ?_
    refine And.intro (ob_load rfl (wt_none rfl) (ev_dep (j := 1) (by kernel_rfl) rfl rfl) (fun w2 hb => run_load1 Tryz.underlying4 rfl ((B0.drew.below hb).cell 0)) (fun _ _ => rfl)) ?_
    refine And.intro (ob_fieldAddr rfl (wt_none rfl) (ev_far rfl rfl) (fun _ => by kernel_rfl) (fun _ => rfl)) ?_
    refine And.intro (ob_load rfl (wt_none rfl) (ev_dep (j := 3) (by kernel_rfl) rfl rfl) (fun w2 hb => run_load1 Tryz.underlying40 rfl ((B0.drew.below hb).cell 2)) (fun _ _ => rfl)) ?_
    refine And.intro (ob_call2 rfl Tryz.func105 (by kernel_rfl) (wt_none rfl) (ev_dep (j := 2) (by kernel_rfl) rfl rfl) (ev_dep (j := 4) (by kernel_rfl) rfl rfl) (fun w2 u0 u1 hb h0 h1 => by obtain rfl := h0; obtain rfl := h1; exact (made_any _ _ x.den (Q).num _ (k0d.drew.below hb) (Nat.le_trans hl.2 (by decide)) HQN.out).mono fun e w3 h => RetZ.pd h hb.size)) ?_
    refine And.intro (ob_fieldAddr rfl (wt_none rfl) (ev_far rfl rfl) (fun _ => by kernel_rfl) (fun _ => rfl)) ?_
    refine And.intro (ob_fieldAddr rfl (wt_none rfl) (ev_dep (j := 6) (by kernel_rfl) rfl rfl) (fun _ => by kernel_rfl) (fun _ => rfl)) ?_
    refine And.intro (ob_load rfl (wt_none rfl) (ev_dep (j := 7) (by kernel_rfl) rfl rfl) (fun w2 hb => run_load1 Tryz.underlying40 rfl ((B0.drew.below hb).cell 1)) (fun _ _ => rfl)) ?_
    refine And.intro (ob_call1 rfl Tryz.func93 (by kernel_rfl) (wt_none rfl) (ev_dep (j := 8) (by kernel_rfl) rfl rfl) (fun w2 u0 hb h0 => by obtain rfl := h0; exact (clone_any _ _ _ (k0s.drew.below hb) (Nat.le_trans hl.1 (by decide))).mono fun e w3 h => RetS.pd (RetS.to h (congrArg (digs 4294967296) HQD.out)) hb.size)) ?_
    refine And.intro (ob_build2b rfl (wt_none rfl) (ev_dep (j := 5) (by kernel_rfl) rfl rfl) (ev_dep (j := 9) (by kernel_rfl) rfl rfl) (fun w2 u v hb hu hv => by obtain ⟨u7, rfl, hu7⟩ := hu.1; obtain ⟨A7, c7, rfl, _⟩ := id hu7; obtain ⟨A8, c8, rfl, _⟩ := id hv.1; exact ⟨.agg #[.bool (ngB (Q).num), .slice A7 (digs 4294967296 (Q).num.natAbs).length c7, .slice A8 (digs 4294967296 (Q).den).length c8], by kernel_rfl, ⟨⟨_, _, rfl, hu7, hv.1⟩, freshQ_mk (hu.2 _ _ rfl) hv.2⟩⟩)) ?_
    trivial
   case done25 =>
    refine fun w2 hb2 v0 h0 v1 h1 v2 h2 v3 h3 v4 h4 v5 h5 v6 h6 v7 h7 v8 h8 v9 h9 v10 h10 b hbf => ?_
    obtain rfl := h0; obtain rfl := h1; obtain rfl := h2; obtain rfl := h3; obtain rfl := h4; obtain rfl := h6; obtain rfl := h7; obtain rfl := h8
    obtain ⟨q5, f5⟩ := h5
    obtain ⟨q9, f9⟩ := h9
    obtain ⟨q10, f10⟩ := h10
    simp only [Act.put, List.setIfInBounds_toArray, List.set_cons_zero, List.set_cons_succ] at hbf
    subst hbf
    replace B0 := B0.below hb2
    replace k0s := k0s.below hb2
    replace k0d := k0d.below hb2
    replace k0z := k0z.below hb2
    replace k0 := k0.below hb2
    replace BR0 := BR0.below hb2
    replace bb := bb.trans (hb2.mono bb.size)
    have hsz2 := bb.size
    have s_5 := sB
    have s_9 := sB
    have s_10 := sB
    obtain ⟨u10, t10, rfl, q10, d10⟩ := q10
    obtain ⟨A9, c9, rfl, _⟩ := id q10
    obtain ⟨D9, e9, rfl, _⟩ := id d10
    have fS := (f10 _ _ _ rfl).1.mono s_10
    have fT := (f10 _ _ _ rfl).2.mono s_10
    refine any_store (i := 11) (by kernel_rfl) rfl rfl rfl rfl rfl rfl (cells := [.bool (ngB (Q).num), .slice A9 (digs 4294967296 (Q).num.natAbs).length c9, .slice D9 (digs 4294967296 (Q).den).length e9]) rfl BR0 rfl (by kernel_rfl) (one3 rfl rfl rfl) fun w9 hg9 B9 => ?_
    have k9 := off q10 BR0 no_ints3 hg9
    have d9 := off d10 BR0 no_ints3 hg9
    have bb9 := bb.trans ((Below.refl _ _).grown hg9 bb.size (fun g hg => by injection hg with hg; omega))
    obtain ⟨C0, C1, C2, _, _, _⟩ := three B9
    refine any_assign (i := 12) (.int .i64 0) (by kernel_rfl) rfl rfl rfl rfl rfl fun b hbf => ?_
    simp only [Act.put, List.setIfInBounds_toArray, List.set_cons_zero, List.set_cons_succ] at hbf
    subst hbf
    refine any_done (by kernel_rfl) ?_
    go_wp2
    rw [HQ0.out]
    exact bodyPost_ret (v := .tuple #[.agg #[.bool (ngB (Q).num), .slice A9 (digs 4294967296 (Q).num.natAbs).length c9, .slice D9 (digs 4294967296 (Q).den).length e9], .int .i64 0]) (by simp [results, Tryz.results71, go_sem, C0, C1, C2]) rfl ⟨_, rfl, isQ_mk k9 d9 rfl rfl rfl, freshQ_mk fS fT, bb9⟩
 ·obtain ⟨u0, t0, rfl, s0, r0⟩ := h0
  obtain ⟨A0, c0, rfl, _⟩ := id s0
  obtain ⟨D0, e0, rfl, _⟩ := id r0
  obtain ⟨Q, hQ⟩ : ∃ Q, Q = x⁻¹ := ⟨_, rfl⟩
  have HQ0 : Hid (x⁻¹ = Q) := hQ.symm
  have HQN : Hid (Q.num = sg (ngB x.num) x.den) := by show _ = _; rw [hQ, (inv_parts hy).1]
  have HQD : Hid (x.num.natAbs = Q.den) := by show _ = _; rw [hQ, (inv_parts hy).2]
  have HS : Hid ((1 : Int) = ordz x.num 0) := (ordz_gt hlt).symm
  clear hQ
  go_enter Tryz.func71, Tryz.ntmps71
  go_upto_region 1 with (fail)
  obtain ⟨wx, hwx, bb, B0, BR0, hsz⟩ := vars2 w 44 44 #[.bool (ngB (x).num), .slice A0 (digs 4294967296 (x).num.natAbs).length c0, .slice D0 (digs 4294967296 (x).den).length e0] #[.bool false, .slice none 0 0, .slice none 0 0]
  rw [hwx]
  clear hwx
  have k0s := s0.below bb
  have k0d := r0.below bb
  have k0z : IsZ wx (.agg #[.bool (ngB (x).num), .slice A0 (digs 4294967296 (x).num.natAbs).length c0]) (x).num := ⟨_, rfl, k0s⟩
  have k0 : IsQ wx (.agg #[.bool (ngB (x).num), .slice A0 (digs 4294967296 (x).num.natAbs).length c0, .slice D0 (digs 4294967296 (x).den).length e0]) (x) := ⟨_, _, rfl, k0s, k0d⟩
  have hsz0 := bb.size
  have sB := bb.size
  refine flowp 3 [Pd.eq (.agg #[.bool (ngB (x).num), .slice A0 (digs 4294967296 (x).num.natAbs).length c0, .slice D0 (digs 4294967296 (x).den).length e0]), Pd.eq (.int .i64 1), Pd.eq (.bool false)] (by kernel_rfl) ?ob26 ?done26
  case ob26 =>
   refine And.intro (ob_load rfl (wt_none rfl) (ev_far rfl rfl) (fun w2 hb => run_loadAll Tryz.underlying44 rfl (by kernel_rfl) (B0.below hb)) (fun _ _ => rfl)) ?_
   refine And.intro (ob_call1 rfl Tryz.func62 (by kernel_rfl) (wt_none rfl) (ev_dep (j := 0) (by kernel_rfl) rfl rfl) (fun w2 u0 hb h0 => by obtain rfl := h0; exact (fsign0_any _ x 1 _ (k0.below hb) HS.out).mono fun e w3 h => RetV.pd h)) ?_
   refine And.intro (ob_bin rfl (wt_none rfl) (ev_dep (j := 1) (by kernel_rfl) rfl rfl) (ev_const _) (fun _ _ _ hx hy => ⟨.bool ((1 : Int) == 0), by rw [hx, hy]; exact bin_eql_int _ _ _ _ _, congrArg Value.bool (by decide)⟩)) ?_
   trivial
  case done26 =>
   refine fun w1 hb1 v0 h0 v1 h1 v2 h2 b hbf => ?_
   obtain rfl := h0; obtain rfl := h1; obtain rfl := h2
   simp only [Act.put, List.setIfInBounds_toArray, List.set_cons_zero, List.set_cons_succ] at hbf
   subst hbf
   replace B0 := B0.below hb1
   replace k0s := k0s.below hb1
   replace k0d := k0d.below hb1
   replace k0z := k0z.below hb1
   replace k0 := k0.below hb1
   replace BR0 := BR0.below hb1
   replace bb := bb.trans (hb1.mono bb.size)
   have hsz1 := bb.size
   refine ops_done ?_
   have sB := bb.size
   go_upto_region 3 with (fail)
   refine flow 11 [Pd.eq (.pointer (some ⟨w.heap.size, 0, none⟩)), Pd.eq (.pointer (some ⟨w.heap.size, 0, none⟩)), Pd.eq (.bool (ngB (x).num)), Pd.eq (.pointer (some ⟨w.heap.size, 2, none⟩)), Pd.eq (.slice D0 (digs 4294967296 (x).den).length e0), pz ((Q).num) w1.heap.size, Pd.eq (.pointer (some ⟨w.heap.size, 0, none⟩)), Pd.eq (.pointer (some ⟨w.heap.size, 1, none⟩)), Pd.eq (.slice A0 (digs 4294967296 (x).num.natAbs).length c0), ps .u64 (digs 4294967296 (Q).den) w1.heap.size, pq (Q) w1.heap.size] (by kernel_rfl) (by kernel_rfl) ?ob27 ?done27
   case ob27 =>
    refine And.intro (ob_fieldAddr rfl (wt_none rfl) (ev_far rfl rfl) (fun _ => by kernel_rfl) (fun _ => rfl)) ?_
    refine And.intro (ob_fieldAddr rfl (wt_none rfl) (ev_dep (j := 0) (by kernel_rfl) rfl rfl) (fun _ => by kernel_rfl) (fun _ => rfl)) ?_
    refine And.intro (ob_load rfl (wt_none rfl) (ev_dep (j := 1) (by kernel_rfl) rfl rfl) (fun w2 hb => run_load1 Tryz.underlying4 rfl ((B0.drew.below hb).cell 0)) (fun _ _ => rfl)) ?_
    refine And.intro (ob_fieldAddr rfl (wt_none rfl) (ev_far rfl rfl) (fun _ => by kernel_rfl) (fun _ => rfl)) ?_
    refine And.intro (ob_load rfl (wt_none rfl) (ev_dep (j := 3) (by kernel_rfl) rfl rfl) (fun w2 hb => run_load1 Tryz.underlying40 rfl ((B0.drew.below hb).cell 2)) (fun _ _ => rfl)) ?_
    refine And.intro (ob_call2 rfl Tryz.func105 (by kernel_rfl) (wt_none rfl) (ev_dep (j := 2) (by kernel_rfl) rfl rfl) (ev_dep (j := 4) (by kernel_rfl) rfl rfl) (fun w2 u0 u1 hb h0 h1 => by obtain rfl := h0; obtain rfl := h1; exact (made_any _ _ x.den (Q).num _ (k0d.drew.below hb) (Nat.le_trans hl.2 (by decide)) HQN.out).mono fun e w3 h => RetZ.pd h hb.size)) ?_
    refine And.intro (ob_fieldAddr rfl (wt_none rfl) (ev_far rfl rfl) (fun _ => by kernel_rfl) (fun _ => rfl)) ?_
    refine And.intro (ob_fieldAddr rfl (wt_none rfl) (ev_dep (j := 6) (by kernel_rfl) rfl rfl) (fun _ => by kernel_rfl) (fun _ => rfl)) ?_
    refine And.intro (ob_load rfl (wt_none rfl) (ev_dep (j := 7) (by kernel_rfl) rfl rfl) (fun w2 hb => run_load1 Tryz.underlying40 rfl ((B0.drew.below hb).cell 1)) (fun _ _ => rfl)) ?_
    refine And.intro (ob_call1 rfl Tryz.func93 (by kernel_rfl) (wt_none rfl) (ev_dep (j := 8) (by kernel_rfl) rfl rfl) (fun w2 u0 hb h0 => by obtain rfl := h0; exact (clone_any _ _ _ (k0s.drew.below hb) (Nat.le_trans hl.1 (by decide))).mono fun e w3 h => RetS.pd (RetS.to h (congrArg (digs 4294967296) HQD.out)) hb.size)) ?_
    refine And.intro (ob_build2b rfl (wt_none rfl) (ev_dep (j := 5) (by kernel_rfl) rfl rfl) (ev_dep (j := 9) (by kernel_rfl) rfl rfl) (fun w2 u v hb hu hv => by obtain ⟨u7, rfl, hu7⟩ := hu.1; obtain ⟨A7, c7, rfl, _⟩ := id hu7; obtain ⟨A8, c8, rfl, _⟩ := id hv.1; exact ⟨.agg #[.bool (ngB (Q).num), .slice A7 (digs 4294967296 (Q).num.natAbs).length c7, .slice A8 (digs 4294967296 (Q).den).length c8], by kernel_rfl, ⟨⟨_, _, rfl, hu7, hv.1⟩, freshQ_mk (hu.2 _ _ rfl) hv.2⟩⟩)) ?_
    trivial
   case done27 =>
    refine fun w2 hb2 v0 h0 v1 h1 v2 h2 v3 h3 v4 h4 v5 h5 v6 h6 v7 h7 v8 h8 v9 h9 v10 h10 b hbf => ?_
    obtain rfl := h0; obtain rfl := h1; obtain rfl := h2; obtain rfl := h3; obtain rfl := h4; obtain rfl := h6; obtain rfl := h7; obtain rfl := h8
    obtain ⟨q5, f5⟩ := h5
    obtain ⟨q9, f9⟩ := h9
    obtain ⟨q10, f10⟩ := h10
    simp only [Act.put, List.setIfInBounds_toArray, List.set_cons_zero, List.set_cons_succ] at hbf
    subst hbf
    replace B0 := B0.below hb2
    replace k0s := k0s.below hb2
    replace k0d := k0d.below hb2
    replace k0z := k0z.below hb2
    replace k0 := k0.below hb2
    replace BR0 := BR0.below hb2
    replace bb := bb.trans (hb2.mono bb.size)
    have hsz2 := bb.size
    have s_5 := sB
    have s_9 := sB
    have s_10 := sB
    obtain ⟨u10, t10, rfl, q10, d10⟩ := q10
    obtain ⟨A9, c9, rfl, _⟩ := id q10
    obtain ⟨D9, e9, rfl, _⟩ := id d10
    have fS := (f10 _ _ _ rfl).1.mono s_10
    have fT := (f10 _ _ _ rfl).2.mono s_10
    refine any_store (i := 11) (by kernel_rfl) rfl rfl rfl rfl rfl rfl (cells := [.bool (ngB (Q).num), .slice A9 (digs 4294967296 (Q).num.natAbs).length c9, .slice D9 (digs 4294967296 (Q).den).length e9]) rfl BR0 rfl (by kernel_rfl) (one3 rfl rfl rfl) fun w9 hg9 B9 => ?_
    have k9 := off q10 BR0 no_ints3 hg9
    have d9 := off d10 BR0 no_ints3 hg9
    have bb9 := bb.trans ((Below.refl _ _).grown hg9 bb.size (fun g hg => by injection hg with hg; omega))
    obtain ⟨C0, C1, C2, _, _, _⟩ := three B9
    refine any_assign (i := 12) (.int .i64 0) (by kernel_rfl) rfl rfl rfl rfl rfl fun b hbf => ?_
    simp only [Act.put, List.setIfInBounds_toArray, List.set_cons_zero, List.set_cons_succ] at hbf
    subst hbf
    refine any_done (by kernel_rfl) ?_
    go_wp2
    rw [HQ0.out]
    exact bodyPost_ret (v := .tuple #[.agg #[.bool (ngB (Q).num), .slice A9 (digs 4294967296 (Q).num.natAbs).length c9, .slice D9 (digs 4294967296 (Q).den).length e9], .int .i64 0]) (by simp [results, Tryz.results71, go_sem, C0, C1, C2]) rfl ⟨_, rfl, isQ_mk k9 d9 rfl rfl rfl, freshQ_mk fS fT, bb9⟩
set_option maxHeartbeats 3200000 in
set_option maxRecDepth 100000 in
theorem mul8_any (a0 : Value) (x : Rat) (a1 : Value) (y : Rat) (w : World) (h0 : IsQ w a0 x) (h1 : IsQ w a1 y) (hl : lenQ x 10000) (hl2 : lenQ y 10000) :
  Calls Tryz.prog 70 #[a0, a1] w (RetQ (x * y) w) := by
 obtain ⟨u0, t0, rfl, s0, r0⟩ := h0
 obtain ⟨A0, c0, rfl, _⟩ := id s0
 obtain ⟨D0, e0, rfl, _⟩ := id r0
 obtain ⟨u1, t1, rfl, s1, r1⟩ := h1
 obtain ⟨A1, c1, rfl, _⟩ := id s1
 obtain ⟨D1, e1, rfl, _⟩ := id r1
 obtain ⟨U, hU⟩ : ∃ U, U = (mkRat x.num y.den).num := ⟨_, rfl⟩
 obtain ⟨L, hL⟩ : ∃ L, L = (mkRat x.num y.den).den := ⟨_, rfl⟩
 obtain ⟨V, hV⟩ : ∃ V, V = (mkRat y.num x.den).num := ⟨_, rfl⟩
 obtain ⟨M, hM⟩ : ∃ M, M = (mkRat y.num x.den).den := ⟨_, rfl⟩
 obtain ⟨Q, hQ⟩ : ∃ Q, Q = x * y := ⟨_, rfl⟩
 have HQ0 : Hid (x * y = Q) := hQ.symm
 have HP := mul_parts x y
 rw [← hU, ← hL, ← hV, ← hM, ← hQ] at HP
 have HQN : Hid (U * V = (Q).num) := HP.1.symm
 have HQD : Hid (M * L = (Q).den) := HP.2.symm
 have lx1 := hl.1
 have lx2 := hl.2
 have ly1 := hl2.1
 have ly2 := hl2.2
 have HX : Hid (x.den ≠ 0) := x.den_nz
 have HY : Hid (y.den ≠ 0) := y.den_nz
 have lU : lenQ (mkRat x.num y.den) 10000 := lenQ_mk HY.out lx1 ly2
 have lV : lenQ (mkRat y.num x.den) 10000 := lenQ_mk HX.out ly1 lx2
 unfold lenQ at lU lV
 rw [← hU, ← hL] at lU
 rw [← hV, ← hM] at lV
 have HU := Lib.hid hU
 have HL := Lib.hid hL
 have HV := Lib.hid hV
 have HM := Lib.hid hM
 clear hU hL hV hM hQ HP
 go_enter Tryz.func70, Tryz.ntmps70
 go_upto_region 1 with (fail)
 obtain ⟨wx, hwx, bb, B0, B1, BR0, hsz⟩ := vars3 w 44 44 44 #[.bool (ngB (x).num), .slice A0 (digs 4294967296 (x).num.natAbs).length c0, .slice D0 (digs 4294967296 (x).den).length e0] #[.bool (ngB (y).num), .slice A1 (digs 4294967296 (y).num.natAbs).length c1, .slice D1 (digs 4294967296 (y).den).length e1] #[.bool false, .slice none 0 0, .slice none 0 0]
 rw [hwx]
 clear hwx
 have k0s := s0.below bb
 have k0d := r0.below bb
 have k0z : IsZ wx (.agg #[.bool (ngB (x).num), .slice A0 (digs 4294967296 (x).num.natAbs).length c0]) (x).num := ⟨_, rfl, k0s⟩
 have k0 : IsQ wx (.agg #[.bool (ngB (x).num), .slice A0 (digs 4294967296 (x).num.natAbs).length c0, .slice D0 (digs 4294967296 (x).den).length e0]) (x) := ⟨_, _, rfl, k0s, k0d⟩
 have k1s := s1.below bb
 have k1d := r1.below bb
 have k1z : IsZ wx (.agg #[.bool (ngB (y).num), .slice A1 (digs 4294967296 (y).num.natAbs).length c1]) (y).num := ⟨_, rfl, k1s⟩
 have k1 : IsQ wx (.agg #[.bool (ngB (y).num), .slice A1 (digs 4294967296 (y).num.natAbs).length c1, .slice D1 (digs 4294967296 (y).den).length e1]) (y) := ⟨_, _, rfl, k1s, k1d⟩
 have hsz0 := bb.size
 have sB := bb.size
 have lt0_2 := Blk.lt B0
 have lt0_3 := Blk.lt B1
 have lt0_4 := Blk.lt BR0
 refine flowp 9 [Pd.eq (.pointer (some ⟨w.heap.size, 0, none⟩)), Pd.eq (.agg #[.bool (ngB (x).num), .slice A0 (digs 4294967296 (x).num.natAbs).length c0]), Pd.eq (.pointer (some ⟨w.heap.size + 1, 2, none⟩)), Pd.eq (.slice D1 (digs 4294967296 (y).den).length e1), pzs (U) (L) wx.heap.size, pzs (U) (L) wx.heap.size, pz (U) wx.heap.size, ps .u64 (digs 4294967296 L) wx.heap.size, pn 42 #[.bool false, .slice none 0 0] wx.heap.size] (by kernel_rfl) ?ob28 ?done28
 case ob28 =>
  refine And.intro (ob_fieldAddr rfl (wt_none rfl) (ev_far rfl rfl) (fun _ => by kernel_rfl) (fun _ => rfl)) ?_
  refine And.intro (ob_load rfl (wt_none rfl) (ev_dep (j := 0) (by kernel_rfl) rfl rfl) (fun w2 hb => run_loadPart Tryz.underlying42 rfl (by kernel_rfl) (B0.below hb) rfl) (fun _ _ => rfl)) ?_
  refine And.intro (ob_fieldAddr rfl (wt_none rfl) (ev_far rfl rfl) (fun _ => by kernel_rfl) (fun _ => rfl)) ?_
  refine And.intro (ob_load rfl (wt_none rfl) (ev_dep (j := 2) (by kernel_rfl) rfl rfl) (fun w2 hb => run_load1 Tryz.underlying40 rfl ((B1.below hb).cell 2)) (fun _ _ => rfl)) ?_
  refine And.intro (ob_call2 rfl Tryz.func102 (by kernel_rfl) (wt_none rfl) (ev_dep (j := 1) (by kernel_rfl) rfl rfl) (ev_dep (j := 3) (by kernel_rfl) rfl rfl) (fun w2 u0 u1 hb h0 h1 => by obtain rfl := h0; obtain rfl := h1; exact (reduced_any _ x.num _ y.den U L _ (k0z.below hb) (k1d.below hb) HY.out (Nat.le_trans lx1 (by decide)) (Nat.le_trans ly2 (by decide)) HU.out HL.out).mono fun e w3 h => RetZS.pd h hb.size)) ?_
  refine And.intro (ob_move rfl (wt_none rfl) (ev_dep (j := 4) (by kernel_rfl) rfl rfl) (fun _ _ h => h)) ?_
  refine And.intro (ob_extract rfl (wt_none rfl) (ev_dep (j := 5) (by kernel_rfl) rfl rfl) (fun w2 u hu => by obtain ⟨v, u, rfl, q1, q2, q3, q4⟩ := hu; exact ⟨v, rfl, q1, q3⟩)) ?_
  refine And.intro (ob_extract rfl (wt_none rfl) (ev_dep (j := 5) (by kernel_rfl) rfl rfl) (fun w2 u hu => by obtain ⟨v, u, rfl, q1, q2, q3, q4⟩ := hu; exact ⟨u, rfl, q2, q4⟩)) ?_
  refine And.intro (ob_alloc (z := .agg #[.bool false, .slice none 0 0]) rfl rfl (fun _ => by kernel_rfl) (fun _ _ hB h => ⟨_, rfl, hB, h⟩)) ?_
  trivial
 case done28 =>
  refine fun w1 hb1 v0 h0 v1 h1 v2 h2 v3 h3 v4 h4 v5 h5 v6 h6 v7 h7 v8 h8 d8 b hbf => ?_
  obtain rfl := h0; obtain rfl := h1; obtain rfl := h2; obtain rfl := h3
  clear h4
  clear h5
  obtain ⟨q6, f6⟩ := h6
  obtain ⟨q7, f7⟩ := h7
  obtain ⟨g28_8, rfl, hg8, B8⟩ := h8
  simp only [Act.put, List.setIfInBounds_toArray, List.set_cons_zero, List.set_cons_succ] at hbf
  subst hbf
  replace B0 := B0.below hb1
  replace k0s := k0s.below hb1
  replace k0d := k0d.below hb1
  replace k0z := k0z.below hb1
  replace k0 := k0.below hb1
  replace B1 := B1.below hb1
  replace k1s := k1s.below hb1
  replace k1d := k1d.below hb1
  replace k1z := k1z.below hb1
  replace k1 := k1.below hb1
  replace BR0 := BR0.below hb1
  replace bb := bb.trans (hb1.mono bb.size)
  have hsz1 := bb.size
  have s_6 := sB
  have s_7 := sB
  obtain ⟨A16, c16, rfl, _⟩ := id q7
  have n16 := q7
  have n16f := f7
  have n16z_ := s_7
  have BA5 := B8
  obtain ⟨u6, rfl, q6⟩ := q6
  obtain ⟨A5, c5, rfl, _⟩ := id q6
  refine ops_store (i := 9) rfl rfl rfl rfl rfl rfl (cells := [.bool (ngB U), .slice A5 (digs 4294967296 (U).natAbs).length c5]) rfl BA5 rfl (by kernel_rfl) (one2 rfl rfl) fun w2 hg2 BN2 => ?_
  replace q6 := off q6 BA5 no_ints2 hg2
  replace n16 := off n16 BA5 no_ints2 hg2
  replace k0s := off k0s BA5 no_ints2 hg2
  replace k0d := off k0d BA5 no_ints2 hg2
  replace k0z : IsZ w2 (.agg #[.bool (ngB (x).num), .slice A0 (digs 4294967296 (x).num.natAbs).length c0]) ((x).num) := ⟨_, rfl, k0s⟩
  replace k0 : IsQ w2 (.agg #[.bool (ngB (x).num), .slice A0 (digs 4294967296 (x).num.natAbs).length c0, .slice D0 (digs 4294967296 (x).den).length e0]) (x) := ⟨_, _, rfl, k0s, k0d⟩
  replace B0 := B0.grown hg2 (by omega)
  replace k1s := off k1s BA5 no_ints2 hg2
  replace k1d := off k1d BA5 no_ints2 hg2
  replace k1z : IsZ w2 (.agg #[.bool (ngB (y).num), .slice A1 (digs 4294967296 (y).num.natAbs).length c1]) ((y).num) := ⟨_, rfl, k1s⟩
  replace k1 : IsQ w2 (.agg #[.bool (ngB (y).num), .slice A1 (digs 4294967296 (y).num.natAbs).length c1, .slice D1 (digs 4294967296 (y).den).length e1]) (y) := ⟨_, _, rfl, k1s, k1d⟩
  replace B1 := B1.grown hg2 (by omega)
  replace BR0 := BR0.grown hg2 (by omega)
  replace bb := bb.trans ((Below.refl _ _).grown hg2 bb.size (fun g hg => by injection hg with hg; omega))
  have hsz2 := bb.size
  have B5 : Blk w2 (g28_8) _ _ := BN2
  have k5s := q6
  have k5 : IsZ w2 (.agg #[.bool (ngB U), .slice A5 (digs 4294967296 (U).natAbs).length c5]) (U) := ⟨_, rfl, k5s⟩
  refine ops_assign (i := 10) (.slice A16 (digs 4294967296 L).length c16) rfl rfl rfl rfl rfl fun b hbf => ?_
  simp only [Act.put, List.setIfInBounds_toArray, List.set_cons_zero, List.set_cons_succ] at hbf
  subst hbf
  refine ops_done ?_
  have f5_ := (f6 _ _ rfl).mono s_6
  have sB := bb.size
  go_upto_region 2 with (fail)
  have lt2_2 := Blk.lt B0
  have lt2_3 := Blk.lt B1
  have lt2_4 := Blk.lt BR0
  have lt2_5 := Blk.lt B5
  refine flowp 9 [Pd.eq (.pointer (some ⟨w.heap.size + 1, 0, none⟩)), Pd.eq (.agg #[.bool (ngB (y).num), .slice A1 (digs 4294967296 (y).num.natAbs).length c1]), Pd.eq (.pointer (some ⟨w.heap.size, 2, none⟩)), Pd.eq (.slice D0 (digs 4294967296 (x).den).length e0), pzs (V) (M) w2.heap.size, pzs (V) (M) w2.heap.size, pz (V) w2.heap.size, ps .u64 (digs 4294967296 M) w2.heap.size, pn 42 #[.bool false, .slice none 0 0] w2.heap.size] (by kernel_rfl) ?ob29 ?done29
  case ob29 =>
   refine And.intro (ob_fieldAddr rfl (wt_none rfl) (ev_far rfl rfl) (fun _ => by kernel_rfl) (fun _ => rfl)) ?_
   refine And.intro (ob_load rfl (wt_none rfl) (ev_dep (j := 0) (by kernel_rfl) rfl rfl) (fun w2 hb => run_loadPart Tryz.underlying42 rfl (by kernel_rfl) (B1.below hb) rfl) (fun _ _ => rfl)) ?_
   refine And.intro (ob_fieldAddr rfl (wt_none rfl) (ev_far rfl rfl) (fun _ => by kernel_rfl) (fun _ => rfl)) ?_
   refine And.intro (ob_load rfl (wt_none rfl) (ev_dep (j := 2) (by kernel_rfl) rfl rfl) (fun w2 hb => run_load1 Tryz.underlying40 rfl ((B0.below hb).cell 2)) (fun _ _ => rfl)) ?_
   refine And.intro (ob_call2 rfl Tryz.func102 (by kernel_rfl) (wt_none rfl) (ev_dep (j := 1) (by kernel_rfl) rfl rfl) (ev_dep (j := 3) (by kernel_rfl) rfl rfl) (fun w2 u0 u1 hb h0 h1 => by obtain rfl := h0; obtain rfl := h1; exact (reduced_any _ y.num _ x.den V M _ (k1z.below hb) (k0d.below hb) HX.out (Nat.le_trans ly1 (by decide)) (Nat.le_trans lx2 (by decide)) HV.out HM.out).mono fun e w3 h => RetZS.pd h hb.size)) ?_
   refine And.intro (ob_move rfl (wt_none rfl) (ev_dep (j := 4) (by kernel_rfl) rfl rfl) (fun _ _ h => h)) ?_
   refine And.intro (ob_extract rfl (wt_none rfl) (ev_dep (j := 5) (by kernel_rfl) rfl rfl) (fun w2 u hu => by obtain ⟨v, u, rfl, q1, q2, q3, q4⟩ := hu; exact ⟨v, rfl, q1, q3⟩)) ?_
   refine And.intro (ob_extract rfl (wt_none rfl) (ev_dep (j := 5) (by kernel_rfl) rfl rfl) (fun w2 u hu => by obtain ⟨v, u, rfl, q1, q2, q3, q4⟩ := hu; exact ⟨u, rfl, q2, q4⟩)) ?_
   refine And.intro (ob_alloc (z := .agg #[.bool false, .slice none 0 0]) rfl rfl (fun _ => by kernel_rfl) (fun _ _ hB h => ⟨_, rfl, hB, h⟩)) ?_
   trivial
  case done29 =>
   refine fun w3 hb3 v0 h0 v1 h1 v2 h2 v3 h3 v4 h4 v5 h5 v6 h6 v7 h7 v8 h8 d8 b hbf => ?_
   obtain rfl := h0; obtain rfl := h1; obtain rfl := h2; obtain rfl := h3
   clear h4
   clear h5
   obtain ⟨q6, f6⟩ := h6
   obtain ⟨q7, f7⟩ := h7
   obtain ⟨g29_8, rfl, hg8, B8⟩ := h8
   simp only [Act.put, List.setIfInBounds_toArray, List.set_cons_zero, List.set_cons_succ] at hbf
   subst hbf
   replace B0 := B0.below hb3
   replace k0s := k0s.below hb3
   replace k0d := k0d.below hb3
   replace k0z := k0z.below hb3
   replace k0 := k0.below hb3
   replace B1 := B1.below hb3
   replace k1s := k1s.below hb3
   replace k1d := k1d.below hb3
   replace k1z := k1z.below hb3
   replace k1 := k1.below hb3
   replace BR0 := BR0.below hb3
   replace B5 := B5.below hb3
   replace k5s := k5s.below hb3
   replace k5 := k5.below hb3
   replace n16 := n16.below hb3
   replace bb := bb.trans (hb3.mono bb.size)
   have hsz3 := bb.size
   have s_6 := sB
   have s_7 := sB
   obtain ⟨A24, c24, rfl, _⟩ := id q7
   have n24 := q7
   have n24f := f7
   have n24z_ := s_7
   have BA7 := B8
   obtain ⟨u6, rfl, q6⟩ := q6
   obtain ⟨A7, c7, rfl, _⟩ := id q6
   refine ops_store (i := 9) rfl rfl rfl rfl rfl rfl (cells := [.bool (ngB V), .slice A7 (digs 4294967296 (V).natAbs).length c7]) rfl BA7 rfl (by kernel_rfl) (one2 rfl rfl) fun w4 hg4 BN4 => ?_
   replace q6 := off q6 BA7 no_ints2 hg4
   replace n16 := off n16 BA7 no_ints2 hg4
   replace n24 := off n24 BA7 no_ints2 hg4
   replace k0s := off k0s BA7 no_ints2 hg4
   replace k0d := off k0d BA7 no_ints2 hg4
   replace k0z : IsZ w4 (.agg #[.bool (ngB (x).num), .slice A0 (digs 4294967296 (x).num.natAbs).length c0]) ((x).num) := ⟨_, rfl, k0s⟩
   replace k0 : IsQ w4 (.agg #[.bool (ngB (x).num), .slice A0 (digs 4294967296 (x).num.natAbs).length c0, .slice D0 (digs 4294967296 (x).den).length e0]) (x) := ⟨_, _, rfl, k0s, k0d⟩
   replace B0 := B0.grown hg4 (by omega)
   replace k1s := off k1s BA7 no_ints2 hg4
   replace k1d := off k1d BA7 no_ints2 hg4
   replace k1z : IsZ w4 (.agg #[.bool (ngB (y).num), .slice A1 (digs 4294967296 (y).num.natAbs).length c1]) ((y).num) := ⟨_, rfl, k1s⟩
   replace k1 : IsQ w4 (.agg #[.bool (ngB (y).num), .slice A1 (digs 4294967296 (y).num.natAbs).length c1, .slice D1 (digs 4294967296 (y).den).length e1]) (y) := ⟨_, _, rfl, k1s, k1d⟩
   replace B1 := B1.grown hg4 (by omega)
   replace BR0 := BR0.grown hg4 (by omega)
   replace k5s := off k5s BA7 no_ints2 hg4
   replace k5 : IsZ w4 (.agg #[.bool (ngB U), .slice A5 (digs 4294967296 (U).natAbs).length c5]) (U) := ⟨_, rfl, k5s⟩
   replace B5 := B5.grown hg4 (by omega)
   replace bb := bb.trans ((Below.refl _ _).grown hg4 bb.size (fun g hg => by injection hg with hg; omega))
   have hsz4 := bb.size
   have B7 : Blk w4 (g29_8) _ _ := BN4
   have k7s := q6
   have k7 : IsZ w4 (.agg #[.bool (ngB V), .slice A7 (digs 4294967296 (V).natAbs).length c7]) (V) := ⟨_, rfl, k7s⟩
   refine ops_assign (i := 10) (.slice A24 (digs 4294967296 M).length c24) rfl rfl rfl rfl rfl fun b hbf => ?_
   simp only [Act.put, List.setIfInBounds_toArray, List.set_cons_zero, List.set_cons_succ] at hbf
   subst hbf
   refine ops_done ?_
   have f7_ := (f6 _ _ rfl).mono s_6
   have sB := bb.size
   go_upto_region 3 with (fail)
   refine flowp 7 [Pd.eq (.agg #[.bool (ngB U), .slice A5 (digs 4294967296 (U).natAbs).length c5]), Pd.eq (.agg #[.bool (ngB V), .slice A7 (digs 4294967296 (V).natAbs).length c7]), pz ((Q).num) w4.heap.size, Pd.eq (.slice A24 (digs 4294967296 M).length c24), Pd.eq (.slice A16 (digs 4294967296 L).length c16), ps .u64 (digs 4294967296 (Q).den) w4.heap.size, pq (Q) w4.heap.size] (by kernel_rfl) ?ob30 ?done30
   case ob30 =>
    refine And.intro (ob_load rfl (wt_none rfl) (ev_far rfl rfl) (fun w2 hb => run_loadAll Tryz.underlying42 rfl (by kernel_rfl) (B5.below hb)) (fun _ _ => rfl)) ?_
    refine And.intro (ob_load rfl (wt_none rfl) (ev_far rfl rfl) (fun w2 hb => run_loadAll Tryz.underlying42 rfl (by kernel_rfl) (B7.below hb)) (fun _ _ => rfl)) ?_
    refine And.intro (ob_call2 rfl Tryz.func103 (by kernel_rfl) (wt_none rfl) (ev_dep (j := 0) (by kernel_rfl) rfl rfl) (ev_dep (j := 1) (by kernel_rfl) rfl rfl) (fun w2 u0 u1 hb h0 h1 => by obtain rfl := h0; obtain rfl := h1; exact (zmul_any _ _ U V (Q).num _ (k5.below hb) (k7.below hb) (Nat.le_trans lU.1 (by decide)) (Nat.le_trans lV.1 (by decide)) HQN.out.symm).mono fun e w3 h => RetZ.pd h hb.size)) ?_
    refine And.intro (ob_move rfl (wt_none rfl) (ev_far rfl rfl) (fun _ _ h => h)) ?_
    refine And.intro (ob_move rfl (wt_none rfl) (ev_far rfl rfl) (fun _ _ h => h)) ?_
    refine And.intro (ob_call2 rfl Tryz.func104 (by kernel_rfl) (wt_none rfl) (ev_dep (j := 3) (by kernel_rfl) rfl rfl) (ev_dep (j := 4) (by kernel_rfl) rfl rfl) (fun w2 u0 u1 hb h0 h1 => by obtain rfl := h0; obtain rfl := h1; exact (times_any _ M _ L _ (n24.below hb) (n16.below hb) (Nat.le_trans lV.2 (by decide)) (Nat.le_trans lU.2 (by decide))).mono fun e w3 h => RetS.pd (RetS.to h (congrArg (digs 4294967296) HQD.out)) hb.size)) ?_
    refine And.intro (ob_build2b rfl (wt_none rfl) (ev_dep (j := 2) (by kernel_rfl) rfl rfl) (ev_dep (j := 5) (by kernel_rfl) rfl rfl) (fun w2 u v hb hu hv => by obtain ⟨u7, rfl, hu7⟩ := hu.1; obtain ⟨A7, c7, rfl, _⟩ := id hu7; obtain ⟨A8, c8, rfl, _⟩ := id hv.1; exact ⟨.agg #[.bool (ngB (Q).num), .slice A7 (digs 4294967296 (Q).num.natAbs).length c7, .slice A8 (digs 4294967296 (Q).den).length c8], by kernel_rfl, ⟨⟨_, _, rfl, hu7, hv.1⟩, freshQ_mk (hu.2 _ _ rfl) hv.2⟩⟩)) ?_
    trivial
   case done30 =>
    refine fun w5 hb5 v0 h0 v1 h1 v2 h2 v3 h3 v4 h4 v5 h5 v6 h6 b hbf => ?_
    obtain rfl := h0; obtain rfl := h1; obtain rfl := h3; obtain rfl := h4
    obtain ⟨q2, f2⟩ := h2
    obtain ⟨q5, f5⟩ := h5
    obtain ⟨q6, f6⟩ := h6
    simp only [Act.put, List.setIfInBounds_toArray, List.set_cons_zero, List.set_cons_succ] at hbf
    subst hbf
    replace B0 := B0.below hb5
    replace k0s := k0s.below hb5
    replace k0d := k0d.below hb5
    replace k0z := k0z.below hb5
    replace k0 := k0.below hb5
    replace B1 := B1.below hb5
    replace k1s := k1s.below hb5
    replace k1d := k1d.below hb5
    replace k1z := k1z.below hb5
    replace k1 := k1.below hb5
    replace BR0 := BR0.below hb5
    replace B5 := B5.below hb5
    replace k5s := k5s.below hb5
    replace k5 := k5.below hb5
    replace B7 := B7.below hb5
    replace k7s := k7s.below hb5
    replace k7 := k7.below hb5
    replace n16 := n16.below hb5
    replace n24 := n24.below hb5
    replace bb := bb.trans (hb5.mono bb.size)
    have hsz5 := bb.size
    have s_2 := sB
    have s_5 := sB
    have s_6 := sB
    obtain ⟨u6, t6, rfl, q6, d6⟩ := q6
    obtain ⟨A9, c9, rfl, _⟩ := id q6
    obtain ⟨D9, e9, rfl, _⟩ := id d6
    have fS := (f6 _ _ _ rfl).1.mono s_6
    have fT := (f6 _ _ _ rfl).2.mono s_6
    refine ops_store (i := 7) rfl rfl rfl rfl rfl rfl (cells := [.bool (ngB (Q).num), .slice A9 (digs 4294967296 (Q).num.natAbs).length c9, .slice D9 (digs 4294967296 (Q).den).length e9]) rfl BR0 rfl (by kernel_rfl) (one3 rfl rfl rfl) fun w9 hg9 B9 => ?_
    have k9 := off q6 BR0 no_ints3 hg9
    have d9 := off d6 BR0 no_ints3 hg9
    have bb9 := bb.trans ((Below.refl _ _).grown hg9 bb.size (fun g hg => by injection hg with hg; omega))
    obtain ⟨C0, C1, C2, _, _, _⟩ := three B9
    refine ops_done ?_
    go_wp2
    rw [HQ0.out]
    exact bodyPost_ret (v := .agg #[.bool (ngB (Q).num), .slice A9 (digs 4294967296 (Q).num.natAbs).length c9, .slice D9 (digs 4294967296 (Q).den).length e9]) (by simp [results, Tryz.results70, go_sem, C0, C1, C2]) rfl ⟨_, rfl, isQ_mk k9 d9 rfl rfl rfl, freshQ_mk fS fT, bb9⟩
set_option maxHeartbeats 3200000 in
set_option maxRecDepth 100000 in
theorem add9_any (a0 : Value) (x : Rat) (a1 : Value) (y : Rat) (w : World) (h0 : IsQ w a0 x) (h1 : IsQ w a1 y) (hl : lenQ x 4900) (hl2 : lenQ y 4900) :
  Calls Tryz.prog 120 #[a0, a1] w (RetQ (x + y) w) := by
 obtain ⟨u0, t0, rfl, s0, r0⟩ := h0
 obtain ⟨A0, c0, rfl, _⟩ := id s0
 obtain ⟨D0, e0, rfl, _⟩ := id r0
 obtain ⟨u1, t1, rfl, s1, r1⟩ := h1
 obtain ⟨A1, c1, rfl, _⟩ := id s1
 obtain ⟨D1, e1, rfl, _⟩ := id r1
 obtain ⟨G, hG⟩ : ∃ G, G = Nat.gcd x.den y.den := ⟨_, rfl⟩
 obtain ⟨m1, ha⟩ : ∃ m1, m1 = x.den / G := ⟨_, rfl⟩
 obtain ⟨m2, hb_⟩ : ∃ m2, m2 = y.den / G := ⟨_, rfl⟩
 have hGp : 0 < G := by rw [hG]; exact Nat.gcd_pos_of_pos_left _ x.den_pos
 have hGd : G ≤ x.den := by rw [hG]; exact Nat.gcd_le_left _ x.den_pos
 obtain ⟨S, hS⟩ : ∃ S, S = (x.num * ((m2 : Nat) : Int) + y.num * ((m1 : Nat) : Int)) := ⟨_, rfl⟩
 obtain ⟨U, hU⟩ : ∃ U, U = (mkRat S G).num := ⟨_, rfl⟩
 obtain ⟨L, hL⟩ : ∃ L, L = (mkRat S G).den := ⟨_, rfl⟩
 obtain ⟨Q, hQ⟩ : ∃ Q, Q = x + y := ⟨_, rfl⟩
 have HQ0 : Hid (x + y = Q) := hQ.symm
 have HP := add_parts x y hG ha hb_
 rw [← hS, ← hU, ← hL, ← hQ] at HP
 have HQN := Lib.hid HP.1
 have HQD := Lib.hid HP.2
 have lx1 := hl.1
 have lx2 := hl.2
 have ly1 := hl2.1
 have ly2 := hl2.2
 have la : (digs 4294967296 m1).length ≤ 4900 := Nat.le_trans (digs_len_mono (by omega) (by rw [ha]; exact Nat.div_le_self _ _)) lx2
 have lb : (digs 4294967296 m2).length ≤ 4900 := Nat.le_trans (digs_len_mono (by omega) (by rw [hb_]; exact Nat.div_le_self _ _)) ly2
 have lG : (digs 4294967296 G).length ≤ 4900 := Nat.le_trans (digs_len_mono (by omega) hGd) lx2
 have lza : lenZ ((m1 : Nat) : Int) ≤ 4900 := by rw [lenD]; exact la
 have lzb : lenZ ((m2 : Nat) : Int) ≤ 4900 := by rw [lenD]; exact lb
 have lp : lenZ (x.num * ((m2 : Nat) : Int)) ≤ 9800 := lenZ_mul_le lx1 lzb
 have lq : lenZ (y.num * ((m1 : Nat) : Int)) ≤ 9800 := lenZ_mul_le ly1 lza
 have lS : lenZ S ≤ 19601 := by rw [hS]; exact lenZ_add_le lp lq
 have HL1 : Hid ((digs 4294967296 x.den).length ≤ 90000) := Nat.le_trans lx2 (by decide)
 have HL2 : Hid ((digs 4294967296 y.den).length ≤ 90000) := Nat.le_trans ly2 (by decide)
 have lL : (digs 4294967296 L).length ≤ 4900 := Nat.le_trans (digs_len_mono (by omega) (by rw [hL, mk_den S (by omega)]; exact Nat.div_le_self _ _)) lG
 have lab : (digs 4294967296 (m1 * m2)).length ≤ 9800 := by have := mul_len m1 m2; omega
 have HG : Hid (gcds [x.den, y.den] = G) := by show _ = _; rw [hG]; simp [gcds]
 have HM1 : Hid (x.den % G = 0) := by show _ = _; rw [hG]; exact Nat.mod_eq_zero_of_dvd (Nat.gcd_dvd_left _ _)
 have HM2 : Hid (y.den % G = 0) := by show _ = _; rw [hG]; exact Nat.mod_eq_zero_of_dvd (Nat.gcd_dvd_right _ _)
 have HA := Lib.hid ha
 have HB := Lib.hid hb_
 have HS : Hid ((x.num * ((m2 : Nat) : Int) + y.num * ((m1 : Nat) : Int)) = S) := hS.symm
 have HU := Lib.hid hU
 have HL := Lib.hid hL
 have HGn : Hid (G ≠ 0) := by show _ ≠ _; omega
 clear hG ha hb_ hS hU hL hQ HP
 go_enter Tryz.func120, Tryz.ntmps120
 go_upto_region 1 with (fail)
 obtain ⟨wx, hwx, bb, B0, B1, BR0, hsz⟩ := vars3 w 44 44 44 #[.bool (ngB (x).num), .slice A0 (digs 4294967296 (x).num.natAbs).length c0, .slice D0 (digs 4294967296 (x).den).length e0] #[.bool (ngB (y).num), .slice A1 (digs 4294967296 (y).num.natAbs).length c1, .slice D1 (digs 4294967296 (y).den).length e1] #[.bool false, .slice none 0 0, .slice none 0 0]
 rw [hwx]
 clear hwx
 have k0s := s0.below bb
 have k0d := r0.below bb
 have k0z : IsZ wx (.agg #[.bool (ngB (x).num), .slice A0 (digs 4294967296 (x).num.natAbs).length c0]) (x).num := ⟨_, rfl, k0s⟩
 have k0 : IsQ wx (.agg #[.bool (ngB (x).num), .slice A0 (digs 4294967296 (x).num.natAbs).length c0, .slice D0 (digs 4294967296 (x).den).length e0]) (x) := ⟨_, _, rfl, k0s, k0d⟩
 have k1s := s1.below bb
 have k1d := r1.below bb
 have k1z : IsZ wx (.agg #[.bool (ngB (y).num), .slice A1 (digs 4294967296 (y).num.natAbs).length c1]) (y).num := ⟨_, rfl, k1s⟩
 have k1 : IsQ wx (.agg #[.bool (ngB (y).num), .slice A1 (digs 4294967296 (y).num.natAbs).length c1, .slice D1 (digs 4294967296 (y).den).length e1]) (y) := ⟨_, _, rfl, k1s, k1d⟩
 have hsz0 := bb.size
 obtain ⟨x00, x01, x02, _, _, _⟩ := three B0
 obtain ⟨x10, x11, x12, _, _, _⟩ := three B1
 go_wp2_with fail
 have hbA := below_alloc (Nat.le_refl wx.heap.size) (.cells #[.slice D0 (digs 4294967296 (x).den).length e0, .slice D1 (digs 4294967296 (y).den).length e1] 40)
 refine (ggcd_any _ [_, _] [x.den, y.den] _ (isV_lit wx 40 [_, _]) (nums2 (k0d.below hbA) (k1d.below hbA)) (by simp) (by intro q hq; simp at hq; rcases hq with rfl | rfl; exact HL1.out; exact HL2.out)).mono ?_
 rintro e w1 ⟨v1, rfl, kg, kgf, b1⟩
 have hb1 := hbA.trans (b1.mono hbA.size)
 rw [HG.out] at kg
 clear x00 x01 x02 x10 x11 x12
 replace B0 := B0.below hb1
 replace k0s := k0s.below hb1
 replace k0d := k0d.below hb1
 replace k0z := k0z.below hb1
 replace k0 := k0.below hb1
 replace B1 := B1.below hb1
 replace k1s := k1s.below hb1
 replace k1d := k1d.below hb1
 replace k1z := k1z.below hb1
 replace k1 := k1.below hb1
 replace BR0 := BR0.below hb1
 replace bb := bb.trans (hb1.mono bb.size)
 have hsz1 := bb.size
 obtain ⟨Akg, ckg, rfl, _⟩ := id kg
 have sB := bb.size
 go_upto_region 2 with (fail)
 refine flowp 9 [Pd.eq (.pointer (some ⟨w.heap.size, 2, none⟩)), Pd.eq (.slice D0 (digs 4294967296 (x).den).length e0), Pd.eq (.slice Akg (digs 4294967296 G).length ckg), pt .u64 (digs 4294967296 m1) 0 w1.heap.size, pt .u64 (digs 4294967296 m1) 0 w1.heap.size, ps .u64 (digs 4294967296 m1) w1.heap.size, Pd.eq (.int .i64 0), ps .u64 (digs 4294967296 m1) w1.heap.size, Pd.eq (.int .i64 0)] (by kernel_rfl) ?ob37 ?done37
 case ob37 =>
  refine And.intro (ob_fieldAddr rfl (wt_none rfl) (ev_far rfl rfl) (fun _ => by kernel_rfl) (fun _ => rfl)) ?_
  refine And.intro (ob_load rfl (wt_none rfl) (ev_dep (j := 0) (by kernel_rfl) rfl rfl) (fun w2 hb => run_load1 Tryz.underlying40 rfl ((B0.below hb).cell 2)) (fun _ _ => rfl)) ?_
  refine And.intro (ob_move rfl (wt_none rfl) (ev_far rfl rfl) (fun _ _ h => h)) ?_
  refine And.intro (ob_call2 rfl Tryz.func124 (by kernel_rfl) (wt_none rfl) (ev_dep (j := 1) (by kernel_rfl) rfl rfl) (ev_dep (j := 2) (by kernel_rfl) rfl rfl) (fun w2 u0 u1 hb h0 h1 => by obtain rfl := h0; obtain rfl := h1; exact (dexact_ok _ _ x.den G _ (k0d.below hb) (kg.below hb) HL1.out (Nat.le_trans lG (by decide)) hGp m1 HM1.out HA.out).mono fun e w3 h => RetSI.pd h hb.size)) ?_
  refine And.intro (ob_move rfl (wt_none rfl) (ev_dep (j := 3) (by kernel_rfl) rfl rfl) (fun _ _ h => h)) ?_
  refine And.intro (ob_extract rfl (wt_none rfl) (ev_dep (j := 4) (by kernel_rfl) rfl rfl) (fun w2 u hu => by obtain ⟨v, rfl, q1, q2⟩ := hu; exact ⟨v, rfl, q1, q2⟩)) ?_
  refine And.intro (ob_extract rfl (wt_none rfl) (ev_dep (j := 4) (by kernel_rfl) rfl rfl) (fun w2 u hu => by obtain ⟨v, rfl, q1, q2⟩ := hu; exact ⟨_, rfl, rfl⟩)) ?_
  refine And.intro (ob_assign rfl (wt_none rfl) (ev_dep (j := 5) (by kernel_rfl) rfl rfl) (fun _ _ h => h)) ?_
  refine And.intro (ob_assign rfl (wt_none rfl) (ev_dep (j := 6) (by kernel_rfl) rfl rfl) (fun _ _ h => h)) ?_
  trivial
 case done37 =>
  refine fun w2 hb2 v0 h0 v1 h1 v2 h2 v3 h3 v4 h4 v5 h5 v6 h6 v7 h7 v8 h8 b hbf => ?_
  obtain rfl := h0; obtain rfl := h1; obtain rfl := h2; obtain rfl := h6; obtain rfl := h8
  clear h3
  clear h4
  obtain ⟨q5, f5⟩ := h5
  obtain ⟨q7, f7⟩ := h7
  simp only [Act.put, List.setIfInBounds_toArray, List.set_cons_zero, List.set_cons_succ] at hbf
  subst hbf
  replace B0 := B0.below hb2
  replace k0s := k0s.below hb2
  replace k0d := k0d.below hb2
  replace k0z := k0z.below hb2
  replace k0 := k0.below hb2
  replace B1 := B1.below hb2
  replace k1s := k1s.below hb2
  replace k1d := k1d.below hb2
  replace k1z := k1z.below hb2
  replace k1 := k1.below hb2
  replace BR0 := BR0.below hb2
  replace kg := kg.below hb2
  replace bb := bb.trans (hb2.mono bb.size)
  have hsz2 := bb.size
  have s_5 := sB
  have s_7 := sB
  refine ops_done ?_
  obtain ⟨A6, c6, rfl, _⟩ := id q7
  have n6 := q7
  have n6f := f7
  have n6z_ := s_7
  have sB := bb.size
  go_upto_region 3 with (fail)
  refine flowp 9 [Pd.eq (.pointer (some ⟨w.heap.size + 1, 2, none⟩)), Pd.eq (.slice D1 (digs 4294967296 (y).den).length e1), Pd.eq (.slice Akg (digs 4294967296 G).length ckg), pt .u64 (digs 4294967296 m2) 0 w2.heap.size, pt .u64 (digs 4294967296 m2) 0 w2.heap.size, ps .u64 (digs 4294967296 m2) w2.heap.size, Pd.eq (.int .i64 0), ps .u64 (digs 4294967296 m2) w2.heap.size, Pd.eq (.int .i64 0)] (by kernel_rfl) ?ob38 ?done38
  case ob38 =>
   refine And.intro (ob_fieldAddr rfl (wt_none rfl) (ev_far rfl rfl) (fun _ => by kernel_rfl) (fun _ => rfl)) ?_
   refine And.intro (ob_load rfl (wt_none rfl) (ev_dep (j := 0) (by kernel_rfl) rfl rfl) (fun w2 hb => run_load1 Tryz.underlying40 rfl ((B1.below hb).cell 2)) (fun _ _ => rfl)) ?_
   refine And.intro (ob_move rfl (wt_none rfl) (ev_far rfl rfl) (fun _ _ h => h)) ?_
   refine And.intro (ob_call2 rfl Tryz.func124 (by kernel_rfl) (wt_none rfl) (ev_dep (j := 1) (by kernel_rfl) rfl rfl) (ev_dep (j := 2) (by kernel_rfl) rfl rfl) (fun w2 u0 u1 hb h0 h1 => by obtain rfl := h0; obtain rfl := h1; exact (dexact_ok _ _ y.den G _ (k1d.below hb) (kg.below hb) HL2.out (Nat.le_trans lG (by decide)) hGp m2 HM2.out HB.out).mono fun e w3 h => RetSI.pd h hb.size)) ?_
   refine And.intro (ob_move rfl (wt_none rfl) (ev_dep (j := 3) (by kernel_rfl) rfl rfl) (fun _ _ h => h)) ?_
   refine And.intro (ob_extract rfl (wt_none rfl) (ev_dep (j := 4) (by kernel_rfl) rfl rfl) (fun w2 u hu => by obtain ⟨v, rfl, q1, q2⟩ := hu; exact ⟨v, rfl, q1, q2⟩)) ?_
   refine And.intro (ob_extract rfl (wt_none rfl) (ev_dep (j := 4) (by kernel_rfl) rfl rfl) (fun w2 u hu => by obtain ⟨v, rfl, q1, q2⟩ := hu; exact ⟨_, rfl, rfl⟩)) ?_
   refine And.intro (ob_assign rfl (wt_none rfl) (ev_dep (j := 5) (by kernel_rfl) rfl rfl) (fun _ _ h => h)) ?_
   refine And.intro (ob_assign rfl (wt_none rfl) (ev_dep (j := 6) (by kernel_rfl) rfl rfl) (fun _ _ h => h)) ?_
   trivial
  case done38 =>
   refine fun w3 hb3 v0 h0 v1 h1 v2 h2 v3 h3 v4 h4 v5 h5 v6 h6 v7 h7 v8 h8 b hbf => ?_
   obtain rfl := h0; obtain rfl := h1; obtain rfl := h2; obtain rfl := h6; obtain rfl := h8
   clear h3
   clear h4
   obtain ⟨q5, f5⟩ := h5
   obtain ⟨q7, f7⟩ := h7
   simp only [Act.put, List.setIfInBounds_toArray, List.set_cons_zero, List.set_cons_succ] at hbf
   subst hbf
   replace B0 := B0.below hb3
   replace k0s := k0s.below hb3
   replace k0d := k0d.below hb3
   replace k0z := k0z.below hb3
   replace k0 := k0.below hb3
   replace B1 := B1.below hb3
   replace k1s := k1s.below hb3
   replace k1d := k1d.below hb3
   replace k1z := k1z.below hb3
   replace k1 := k1.below hb3
   replace BR0 := BR0.below hb3
   replace kg := kg.below hb3
   replace n6 := n6.below hb3
   replace bb := bb.trans (hb3.mono bb.size)
   have hsz3 := bb.size
   have s_5 := sB
   have s_7 := sB
   refine ops_done ?_
   obtain ⟨A8, c8, rfl, _⟩ := id q7
   have n8 := q7
   have n8f := f7
   have n8z_ := s_7
   have sB := bb.size
   go_upto_region 4 with (fail)
   have lt3_2 := Blk.lt B0
   have lt3_3 := Blk.lt B1
   have lt3_4 := Blk.lt BR0
   refine flow 12 [Pd.eq (.pointer (some ⟨w.heap.size, 0, none⟩)), Pd.eq (.agg #[.bool (ngB (x).num), .slice A0 (digs 4294967296 (x).num.natAbs).length c0]), Pd.eq (.slice A8 (digs 4294967296 m2).length c8), pi (((m2 : Nat) : Int)), pi ((x.num * ((m2 : Nat) : Int))), Pd.eq (.pointer (some ⟨w.heap.size + 1, 0, none⟩)), Pd.eq (.agg #[.bool (ngB (y).num), .slice A1 (digs 4294967296 (y).num.natAbs).length c1]), Pd.eq (.slice A6 (digs 4294967296 m1).length c6), pi (((m1 : Nat) : Int)), pi ((y.num * ((m1 : Nat) : Int))), pz (S) w3.heap.size, pn 42 #[.bool false, .slice none 0 0] w3.heap.size] (by kernel_rfl) (by kernel_rfl) ?ob39 ?done39
   case ob39 =>
    refine And.intro (ob_fieldAddr rfl (wt_none rfl) (ev_far rfl rfl) (fun _ => by kernel_rfl) (fun _ => rfl)) ?_
    refine And.intro (ob_load rfl (wt_none rfl) (ev_dep (j := 0) (by kernel_rfl) rfl rfl) (fun w2 hb => run_loadPart Tryz.underlying42 rfl (by kernel_rfl) (B0.drew.below hb) rfl) (fun _ _ => rfl)) ?_
    refine And.intro (ob_move rfl (wt_none rfl) (ev_far rfl rfl) (fun _ _ h => h)) ?_
    refine And.intro (ob_call1 rfl Tryz.func123 (by kernel_rfl) (wt_none rfl) (ev_dep (j := 2) (by kernel_rfl) rfl rfl) (fun w2 u0 hb h0 => by obtain rfl := h0; exact unsigned_pd _ (m2) _ (n8.drew.below hb))) ?_
    refine And.intro (ob_call2 rfl Tryz.func103 (by kernel_rfl) (wt_none rfl) (ev_dep (j := 1) (by kernel_rfl) rfl rfl) (ev_dep (j := 3) (by kernel_rfl) rfl rfl) (fun w2 u0 u1 hb h0 h1 => by obtain rfl := h0; exact (zmul_any _ _ _ _ (x.num * ((m2 : Nat) : Int)) _ (k0z.drew.below hb) h1 (Nat.le_trans lx1 (by decide)) (Nat.le_trans lzb (by decide)) rfl).mono fun e w3 h => RetZ.pi h)) ?_
    refine And.intro (ob_fieldAddr rfl (wt_none rfl) (ev_far rfl rfl) (fun _ => by kernel_rfl) (fun _ => rfl)) ?_
    refine And.intro (ob_load rfl (wt_none rfl) (ev_dep (j := 5) (by kernel_rfl) rfl rfl) (fun w2 hb => run_loadPart Tryz.underlying42 rfl (by kernel_rfl) (B1.drew.below hb) rfl) (fun _ _ => rfl)) ?_
    refine And.intro (ob_move rfl (wt_none rfl) (ev_far rfl rfl) (fun _ _ h => h)) ?_
    refine And.intro (ob_call1 rfl Tryz.func123 (by kernel_rfl) (wt_none rfl) (ev_dep (j := 7) (by kernel_rfl) rfl rfl) (fun w2 u0 hb h0 => by obtain rfl := h0; exact unsigned_pd _ (m1) _ (n6.drew.below hb))) ?_
    refine And.intro (ob_call2 rfl Tryz.func103 (by kernel_rfl) (wt_none rfl) (ev_dep (j := 6) (by kernel_rfl) rfl rfl) (ev_dep (j := 8) (by kernel_rfl) rfl rfl) (fun w2 u0 u1 hb h0 h1 => by obtain rfl := h0; exact (zmul_any _ _ _ _ (y.num * ((m1 : Nat) : Int)) _ (k1z.drew.below hb) h1 (Nat.le_trans ly1 (by decide)) (Nat.le_trans lza (by decide)) rfl).mono fun e w3 h => RetZ.pi h)) ?_
    refine And.intro (ob_call2 rfl Tryz.func128 (by kernel_rfl) (wt_none rfl) (ev_dep (j := 4) (by kernel_rfl) rfl rfl) (ev_dep (j := 9) (by kernel_rfl) rfl rfl) (fun w2 u0 u1 hb h0 h1 => by exact (HS.out ▸ zadd_any _ _ _ _ _ h0 h1 (Nat.le_trans lp (by decide)) (Nat.le_trans lq (by decide))).mono fun e w3 h => RetZ.pd h hb.size)) ?_
    refine And.intro (ob_alloc (z := .agg #[.bool false, .slice none 0 0]) rfl rfl (fun _ => by kernel_rfl) (fun _ _ hB h => ⟨_, rfl, hB, h⟩)) ?_
    trivial
   case done39 =>
    refine fun w4 hb4 v0 h0 v1 h1 v2 h2 v3 h3 v4 h4 v5 h5 v6 h6 v7 h7 v8 h8 v9 h9 v10 h10 v11 h11 d11 b hbf => ?_
    obtain rfl := h0; obtain rfl := h1; obtain rfl := h2; obtain rfl := h5; obtain rfl := h6; obtain rfl := h7
    have q3 := h3
    have q4 := h4
    have q8 := h8
    have q9 := h9
    obtain ⟨q10, f10⟩ := h10
    obtain ⟨g39_11, rfl, hg11, B11⟩ := h11
    simp only [Act.put, List.setIfInBounds_toArray, List.set_cons_zero, List.set_cons_succ] at hbf
    subst hbf
    replace B0 := B0.below hb4
    replace k0s := k0s.below hb4
    replace k0d := k0d.below hb4
    replace k0z := k0z.below hb4
    replace k0 := k0.below hb4
    replace B1 := B1.below hb4
    replace k1s := k1s.below hb4
    replace k1d := k1d.below hb4
    replace k1z := k1z.below hb4
    replace k1 := k1.below hb4
    replace BR0 := BR0.below hb4
    replace kg := kg.below hb4
    replace n6 := n6.below hb4
    replace n8 := n8.below hb4
    replace bb := bb.trans (hb4.mono bb.size)
    have hsz4 := bb.size
    have s_10 := sB
    have BA10 := B11
    obtain ⟨u10, rfl, q10⟩ := q10
    obtain ⟨A10, c10, rfl, _⟩ := id q10
    refine any_store (i := 12) (by kernel_rfl) rfl rfl rfl rfl rfl rfl (cells := [.bool (ngB S), .slice A10 (digs 4294967296 (S).natAbs).length c10]) rfl BA10 rfl (by kernel_rfl) (one2 rfl rfl) fun w5 hg5 BN5 => ?_
    replace q10 := off q10 BA10 no_ints2 hg5
    replace kg := off kg BA10 no_ints2 hg5
    replace n6 := off n6 BA10 no_ints2 hg5
    replace n8 := off n8 BA10 no_ints2 hg5
    replace k0s := off k0s BA10 no_ints2 hg5
    replace k0d := off k0d BA10 no_ints2 hg5
    replace k0z : IsZ w5 (.agg #[.bool (ngB (x).num), .slice A0 (digs 4294967296 (x).num.natAbs).length c0]) ((x).num) := ⟨_, rfl, k0s⟩
    replace k0 : IsQ w5 (.agg #[.bool (ngB (x).num), .slice A0 (digs 4294967296 (x).num.natAbs).length c0, .slice D0 (digs 4294967296 (x).den).length e0]) (x) := ⟨_, _, rfl, k0s, k0d⟩
    replace B0 := B0.grown hg5 (by omega)
    replace k1s := off k1s BA10 no_ints2 hg5
    replace k1d := off k1d BA10 no_ints2 hg5
    replace k1z : IsZ w5 (.agg #[.bool (ngB (y).num), .slice A1 (digs 4294967296 (y).num.natAbs).length c1]) ((y).num) := ⟨_, rfl, k1s⟩
    replace k1 : IsQ w5 (.agg #[.bool (ngB (y).num), .slice A1 (digs 4294967296 (y).num.natAbs).length c1, .slice D1 (digs 4294967296 (y).den).length e1]) (y) := ⟨_, _, rfl, k1s, k1d⟩
    replace B1 := B1.grown hg5 (by omega)
    replace BR0 := BR0.grown hg5 (by omega)
    replace bb := bb.trans ((Below.refl _ _).grown hg5 bb.size (fun g hg => by injection hg with hg; omega))
    have hsz5 := bb.size
    have B10 : Blk w5 (g39_11) _ _ := BN5
    have k10s := q10
    have k10 : IsZ w5 (.agg #[.bool (ngB S), .slice A10 (digs 4294967296 (S).natAbs).length c10]) (S) := ⟨_, rfl, k10s⟩
    refine any_done (by kernel_rfl) ?_
    have sB := bb.size
    go_upto_region 5 with (fail)
    have lt5_2 := Blk.lt B0
    have lt5_3 := Blk.lt B1
    have lt5_4 := Blk.lt BR0
    have lt5_10 := Blk.lt B10
    refine flowp 7 [Pd.eq (.agg #[.bool (ngB S), .slice A10 (digs 4294967296 (S).natAbs).length c10]), Pd.eq (.slice Akg (digs 4294967296 G).length ckg), pzs (U) (L) w5.heap.size, pzs (U) (L) w5.heap.size, pz (U) w5.heap.size, ps .u64 (digs 4294967296 L) w5.heap.size, pn 42 #[.bool false, .slice none 0 0] w5.heap.size] (by kernel_rfl) ?ob40 ?done40
    case ob40 =>
     refine And.intro (ob_load rfl (wt_none rfl) (ev_far rfl rfl) (fun w2 hb => run_loadAll Tryz.underlying42 rfl (by kernel_rfl) (B10.below hb)) (fun _ _ => rfl)) ?_
     refine And.intro (ob_move rfl (wt_none rfl) (ev_far rfl rfl) (fun _ _ h => h)) ?_
     refine And.intro (ob_call2 rfl Tryz.func102 (by kernel_rfl) (wt_none rfl) (ev_dep (j := 0) (by kernel_rfl) rfl rfl) (ev_dep (j := 1) (by kernel_rfl) rfl rfl) (fun w2 u0 u1 hb h0 h1 => by obtain rfl := h0; obtain rfl := h1; exact (reduced_any _ S _ G U L _ (k10.below hb) (kg.below hb) HGn.out (Nat.le_trans lS (by decide)) (Nat.le_trans lG (by decide)) HU.out HL.out).mono fun e w3 h => RetZS.pd h hb.size)) ?_
     refine And.intro (ob_move rfl (wt_none rfl) (ev_dep (j := 2) (by kernel_rfl) rfl rfl) (fun _ _ h => h)) ?_
     refine And.intro (ob_extract rfl (wt_none rfl) (ev_dep (j := 3) (by kernel_rfl) rfl rfl) (fun w2 u hu => by obtain ⟨v, u, rfl, q1, q2, q3, q4⟩ := hu; exact ⟨v, rfl, q1, q3⟩)) ?_
     refine And.intro (ob_extract rfl (wt_none rfl) (ev_dep (j := 3) (by kernel_rfl) rfl rfl) (fun w2 u hu => by obtain ⟨v, u, rfl, q1, q2, q3, q4⟩ := hu; exact ⟨u, rfl, q2, q4⟩)) ?_
     refine And.intro (ob_alloc (z := .agg #[.bool false, .slice none 0 0]) rfl rfl (fun _ => by kernel_rfl) (fun _ _ hB h => ⟨_, rfl, hB, h⟩)) ?_
     trivial
    case done40 =>
     refine fun w6 hb6 v0 h0 v1 h1 v2 h2 v3 h3 v4 h4 v5 h5 v6 h6 d6 b hbf => ?_
     obtain rfl := h0; obtain rfl := h1
     clear h2
     clear h3
     obtain ⟨q4, f4⟩ := h4
     obtain ⟨q5, f5⟩ := h5
     obtain ⟨g40_6, rfl, hg6, B6⟩ := h6
     simp only [Act.put, List.setIfInBounds_toArray, List.set_cons_zero, List.set_cons_succ] at hbf
     subst hbf
     replace B0 := B0.below hb6
     replace k0s := k0s.below hb6
     replace k0d := k0d.below hb6
     replace k0z := k0z.below hb6
     replace k0 := k0.below hb6
     replace B1 := B1.below hb6
     replace k1s := k1s.below hb6
     replace k1d := k1d.below hb6
     replace k1z := k1z.below hb6
     replace k1 := k1.below hb6
     replace BR0 := BR0.below hb6
     replace B10 := B10.below hb6
     replace k10s := k10s.below hb6
     replace k10 := k10.below hb6
     replace kg := kg.below hb6
     replace n6 := n6.below hb6
     replace n8 := n8.below hb6
     replace bb := bb.trans (hb6.mono bb.size)
     have hsz6 := bb.size
     have s_4 := sB
     have s_5 := sB
     obtain ⟨A49, c49, rfl, _⟩ := id q5
     have n49 := q5
     have n49f := f5
     have n49z_ := s_5
     have BA11 := B6
     obtain ⟨u4, rfl, q4⟩ := q4
     obtain ⟨A11, c11, rfl, _⟩ := id q4
     refine ops_store (i := 7) rfl rfl rfl rfl rfl rfl (cells := [.bool (ngB U), .slice A11 (digs 4294967296 (U).natAbs).length c11]) rfl BA11 rfl (by kernel_rfl) (one2 rfl rfl) fun w7 hg7 BN7 => ?_
     replace q4 := off q4 BA11 no_ints2 hg7
     replace kg := off kg BA11 no_ints2 hg7
     replace n6 := off n6 BA11 no_ints2 hg7
     replace n8 := off n8 BA11 no_ints2 hg7
     replace n49 := off n49 BA11 no_ints2 hg7
     replace k0s := off k0s BA11 no_ints2 hg7
     replace k0d := off k0d BA11 no_ints2 hg7
     replace k0z : IsZ w7 (.agg #[.bool (ngB (x).num), .slice A0 (digs 4294967296 (x).num.natAbs).length c0]) ((x).num) := ⟨_, rfl, k0s⟩
     replace k0 : IsQ w7 (.agg #[.bool (ngB (x).num), .slice A0 (digs 4294967296 (x).num.natAbs).length c0, .slice D0 (digs 4294967296 (x).den).length e0]) (x) := ⟨_, _, rfl, k0s, k0d⟩
     replace B0 := B0.grown hg7 (by omega)
     replace k1s := off k1s BA11 no_ints2 hg7
     replace k1d := off k1d BA11 no_ints2 hg7
     replace k1z : IsZ w7 (.agg #[.bool (ngB (y).num), .slice A1 (digs 4294967296 (y).num.natAbs).length c1]) ((y).num) := ⟨_, rfl, k1s⟩
     replace k1 : IsQ w7 (.agg #[.bool (ngB (y).num), .slice A1 (digs 4294967296 (y).num.natAbs).length c1, .slice D1 (digs 4294967296 (y).den).length e1]) (y) := ⟨_, _, rfl, k1s, k1d⟩
     replace B1 := B1.grown hg7 (by omega)
     replace BR0 := BR0.grown hg7 (by omega)
     replace k10s := off k10s BA11 no_ints2 hg7
     replace k10 : IsZ w7 (.agg #[.bool (ngB S), .slice A10 (digs 4294967296 (S).natAbs).length c10]) (S) := ⟨_, rfl, k10s⟩
     replace B10 := B10.grown hg7 (by omega)
     replace bb := bb.trans ((Below.refl _ _).grown hg7 bb.size (fun g hg => by injection hg with hg; omega))
     have hsz7 := bb.size
     have B11 : Blk w7 (g40_6) _ _ := BN7
     have k11s := q4
     have k11 : IsZ w7 (.agg #[.bool (ngB U), .slice A11 (digs 4294967296 (U).natAbs).length c11]) (U) := ⟨_, rfl, k11s⟩
     refine ops_assign (i := 8) (.slice A49 (digs 4294967296 L).length c49) rfl rfl rfl rfl rfl fun b hbf => ?_
     simp only [Act.put, List.setIfInBounds_toArray, List.set_cons_zero, List.set_cons_succ] at hbf
     subst hbf
     refine ops_done ?_
     have f11_ := (f4 _ _ rfl).mono s_4
     have sB := bb.size
     go_upto_region 6 with (fail)
     refine flow 7 [Pd.eq (.agg #[.bool (ngB U), .slice A11 (digs 4294967296 (U).natAbs).length c11]), Pd.eq (.slice A6 (digs 4294967296 m1).length c6), Pd.eq (.slice A8 (digs 4294967296 m2).length c8), ps .u64 (digs 4294967296 (m1 * m2)) w7.heap.size, Pd.eq (.slice A49 (digs 4294967296 L).length c49), ps .u64 (digs 4294967296 ((m1 * m2) * L)) w7.heap.size, pbq (ngB U) (.slice A11 (digs 4294967296 (U).natAbs).length c11) (digs 4294967296 ((m1 * m2) * L)) w7.heap.size] (by kernel_rfl) (by kernel_rfl) ?ob41 ?done41
     case ob41 =>
      refine And.intro (ob_load rfl (wt_none rfl) (ev_far rfl rfl) (fun w2 hb => run_loadAll Tryz.underlying42 rfl (by kernel_rfl) (B11.drew.below hb)) (fun _ _ => rfl)) ?_
      refine And.intro (ob_move rfl (wt_none rfl) (ev_far rfl rfl) (fun _ _ h => h)) ?_
      refine And.intro (ob_move rfl (wt_none rfl) (ev_far rfl rfl) (fun _ _ h => h)) ?_
      refine And.intro (ob_call2 rfl Tryz.func104 (by kernel_rfl) (wt_none rfl) (ev_dep (j := 1) (by kernel_rfl) rfl rfl) (ev_dep (j := 2) (by kernel_rfl) rfl rfl) (fun w2 u0 u1 hb h0 h1 => by obtain rfl := h0; obtain rfl := h1; exact (times_any _ m1 _ m2 _ (n6.drew.below hb) (n8.drew.below hb) (Nat.le_trans la (by decide)) (Nat.le_trans lb (by decide))).mono fun e w3 h => RetS.pd h hb.size)) ?_
      refine And.intro (ob_move rfl (wt_none rfl) (ev_far rfl rfl) (fun _ _ h => h)) ?_
      refine And.intro (ob_call2 rfl Tryz.func104 (by kernel_rfl) (wt_none rfl) (ev_dep (j := 3) (by kernel_rfl) rfl rfl) (ev_dep (j := 4) (by kernel_rfl) rfl rfl) (fun w2 u0 u1 hb h0 h1 => by obtain rfl := h1; exact (times_any _ (m1 * m2) _ L _ h0.1 (n49.drew.below hb) (Nat.le_trans lab (by decide)) (Nat.le_trans lL (by decide))).mono fun e w3 h => RetS.pd h hb.size)) ?_
      refine And.intro (ob_build2b rfl (wt_none rfl) (ev_dep (j := 0) (by kernel_rfl) rfl rfl) (ev_dep (j := 5) (by kernel_rfl) rfl rfl) (fun w2 u v hb hu hv => by obtain rfl := hu; obtain ⟨A7, c7, rfl, _⟩ := id hv.1; exact ⟨.agg #[.bool (ngB U), .slice A11 (digs 4294967296 (U).natAbs).length c11, .slice A7 (digs 4294967296 ((m1 * m2) * L)).length c7], by kernel_rfl, ⟨A7, c7, rfl, hv.1, hv.2⟩⟩)) ?_
      trivial
     case done41 =>
      refine fun w8 hb8 v0 h0 v1 h1 v2 h2 v3 h3 v4 h4 v5 h5 v6 h6 b hbf => ?_
      obtain rfl := h0; obtain rfl := h1; obtain rfl := h2; obtain rfl := h4
      obtain ⟨q3, f3⟩ := h3
      obtain ⟨q5, f5⟩ := h5
      have q6 := h6; have s9_ := sB
      simp only [Act.put, List.setIfInBounds_toArray, List.set_cons_zero, List.set_cons_succ] at hbf
      subst hbf
      replace B0 := B0.below hb8
      replace k0s := k0s.below hb8
      replace k0d := k0d.below hb8
      replace k0z := k0z.below hb8
      replace k0 := k0.below hb8
      replace B1 := B1.below hb8
      replace k1s := k1s.below hb8
      replace k1d := k1d.below hb8
      replace k1z := k1z.below hb8
      replace k1 := k1.below hb8
      replace BR0 := BR0.below hb8
      replace B10 := B10.below hb8
      replace k10s := k10s.below hb8
      replace k10 := k10.below hb8
      replace B11 := B11.below hb8
      replace k11s := k11s.below hb8
      replace k11 := k11.below hb8
      replace kg := kg.below hb8
      replace n6 := n6.below hb8
      replace n8 := n8.below hb8
      replace n49 := n49.below hb8
      replace bb := bb.trans (hb8.mono bb.size)
      have hsz8 := bb.size
      have s_3 := sB
      have s_5 := sB
      obtain ⟨A9, c9, rfl, q9, f9⟩ := q6
      refine any_store (i := 7) (by kernel_rfl) rfl rfl rfl rfl rfl rfl (cells := [.bool (ngB U), .slice A11 (digs 4294967296 (U).natAbs).length c11, .slice A9 (digs 4294967296 ((m1 * m2) * L)).length c9]) rfl BR0 rfl (by kernel_rfl) (one3 rfl rfl rfl) fun w9 hg9 B9 => ?_
      have k9 := off k11s BR0 no_ints3 hg9
      have d9 := off q9 BR0 no_ints3 hg9
      have bb9 := bb.trans ((Below.refl _ _).grown hg9 bb.size (fun g hg => by injection hg with hg; omega))
      obtain ⟨C0, C1, C2, _, _, _⟩ := three B9
      refine any_done (by kernel_rfl) ?_
      go_wp2
      rw [HQ0.out]
      exact bodyPost_ret (v := .agg #[.bool (ngB U), .slice A11 (digs 4294967296 (U).natAbs).length c11, .slice A9 (digs 4294967296 ((m1 * m2) * L)).length c9]) (by simp [results, Tryz.results120, go_sem, C0, C1, C2]) rfl ⟨_, rfl, isQ_mk k9 d9 (by rw [HQN.out]) (by rw [HQN.out]) HQD.out, freshQ_mk f11_ (f9.mono s9_), bb9⟩
set_option maxHeartbeats 1600000 in
set_option maxRecDepth 100000 in
theorem sub9_any (a0 : Value) (x : Rat) (a1 : Value) (y : Rat) (w : World) (h0 : IsQ w a0 x) (h1 : IsQ w a1 y) (hl : lenQ x 4900) (hl2 : lenQ y 4900) :
  Calls Tryz.prog 127 #[a0, a1] w (RetQ (x - y) w) := by
 obtain ⟨u0, t0, rfl, s0, r0⟩ := h0
 obtain ⟨A0, c0, rfl, _⟩ := id s0
 obtain ⟨D0, e0, rfl, _⟩ := id r0
 obtain ⟨u1, t1, rfl, s1, r1⟩ := h1
 obtain ⟨A1, c1, rfl, _⟩ := id s1
 obtain ⟨D1, e1, rfl, _⟩ := id r1
 have HS : Hid (x + -y = x - y) := (Rat.sub_eq_add_neg x y).symm
 go_enter Tryz.func127, Tryz.ntmps127
 go_upto_region 1 with (fail)
 obtain ⟨wx, hwx, bb, B0, B1, BR0, hsz⟩ := vars3 w 44 44 44 #[.bool (ngB (x).num), .slice A0 (digs 4294967296 (x).num.natAbs).length c0, .slice D0 (digs 4294967296 (x).den).length e0] #[.bool (ngB (y).num), .slice A1 (digs 4294967296 (y).num.natAbs).length c1, .slice D1 (digs 4294967296 (y).den).length e1] #[.bool false, .slice none 0 0, .slice none 0 0]
 rw [hwx]
 clear hwx
 have k0s := s0.below bb
 have k0d := r0.below bb
 have k0z : IsZ wx (.agg #[.bool (ngB (x).num), .slice A0 (digs 4294967296 (x).num.natAbs).length c0]) (x).num := ⟨_, rfl, k0s⟩
 have k0 : IsQ wx (.agg #[.bool (ngB (x).num), .slice A0 (digs 4294967296 (x).num.natAbs).length c0, .slice D0 (digs 4294967296 (x).den).length e0]) (x) := ⟨_, _, rfl, k0s, k0d⟩
 have k1s := s1.below bb
 have k1d := r1.below bb
 have k1z : IsZ wx (.agg #[.bool (ngB (y).num), .slice A1 (digs 4294967296 (y).num.natAbs).length c1]) (y).num := ⟨_, rfl, k1s⟩
 have k1 : IsQ wx (.agg #[.bool (ngB (y).num), .slice A1 (digs 4294967296 (y).num.natAbs).length c1, .slice D1 (digs 4294967296 (y).den).length e1]) (y) := ⟨_, _, rfl, k1s, k1d⟩
 have hsz0 := bb.size
 have sB := bb.size
 refine flow 4 [Pd.eq (.agg #[.bool (ngB (x).num), .slice A0 (digs 4294967296 (x).num.natAbs).length c0, .slice D0 (digs 4294967296 (x).den).length e0]), Pd.eq (.agg #[.bool (ngB (y).num), .slice A1 (digs 4294967296 (y).num.natAbs).length c1, .slice D1 (digs 4294967296 (y).den).length e1]), pq (-y) wx.heap.size, pq (x - y) wx.heap.size] (by kernel_rfl) (by kernel_rfl) ?ob42 ?done42
 case ob42 =>
  refine And.intro (ob_load rfl (wt_none rfl) (ev_far rfl rfl) (fun w2 hb => run_loadAll Tryz.underlying44 rfl (by kernel_rfl) (B0.drew.below hb)) (fun _ _ => rfl)) ?_
  refine And.intro (ob_load rfl (wt_none rfl) (ev_far rfl rfl) (fun w2 hb => run_loadAll Tryz.underlying44 rfl (by kernel_rfl) (B1.drew.below hb)) (fun _ _ => rfl)) ?_
  refine And.intro (ob_call1 rfl Tryz.func60 (by kernel_rfl) (wt_none rfl) (ev_dep (j := 1) (by kernel_rfl) rfl rfl) (fun w2 u0 hb h0 => by obtain rfl := h0; exact (neg8_any _ y _ (k1.drew.below hb) (hl2.mono (by decide))).mono fun e w3 h => RetQ.pd h hb.size)) ?_
  refine And.intro (ob_call2 rfl Tryz.func120 (by kernel_rfl) (wt_none rfl) (ev_dep (j := 0) (by kernel_rfl) rfl rfl) (ev_dep (j := 2) (by kernel_rfl) rfl rfl) (fun w2 u0 u1 hb h0 h1 => by obtain rfl := h0; exact (HS.out ▸ add9_any _ x _ (-y) _ (k0.drew.below hb) h1.1 hl (lenQ_neg hl2)).mono fun e w3 h => RetQ.pd h hb.size)) ?_
  trivial
 case done42 =>
  refine fun w11 hb11 v0 h0 v1 h1 v2 h2 v3 h3 b hbf => ?_
  obtain rfl := h0; obtain rfl := h1
  obtain ⟨q2, f2⟩ := h2
  obtain ⟨q3, f3⟩ := h3
  simp only [Act.put, List.setIfInBounds_toArray, List.set_cons_zero, List.set_cons_succ] at hbf
  subst hbf
  replace B0 := B0.below hb11
  replace k0s := k0s.below hb11
  replace k0d := k0d.below hb11
  replace k0z := k0z.below hb11
  replace k0 := k0.below hb11
  replace B1 := B1.below hb11
  replace k1s := k1s.below hb11
  replace k1d := k1d.below hb11
  replace k1z := k1z.below hb11
  replace k1 := k1.below hb11
  replace BR0 := BR0.below hb11
  replace bb := bb.trans (hb11.mono bb.size)
  have hsz11 := bb.size
  have s_2 := sB
  have s_3 := sB
  obtain ⟨u3, t3, rfl, q3, d3⟩ := q3
  obtain ⟨A9, c9, rfl, _⟩ := id q3
  obtain ⟨D9, e9, rfl, _⟩ := id d3
  refine any_store (i := 4) (by kernel_rfl) rfl rfl rfl rfl rfl rfl (cells := [.bool (ngB (x - y).num), .slice A9 (digs 4294967296 (x - y).num.natAbs).length c9, .slice D9 (digs 4294967296 (x - y).den).length e9]) rfl BR0 rfl (by kernel_rfl) (one3 rfl rfl rfl) fun w9 hg9 B9 => ?_
  have k9 := off q3 BR0 no_ints3 hg9
  have d9 := off d3 BR0 no_ints3 hg9
  have f9 := f3.mono (show w.heap.size ≤ _ from s_3)
  have bb9 := bb.trans ((Below.refl _ _).grown hg9 bb.size (fun g hg => by injection hg with hg; omega))
  obtain ⟨C0, C1, C2, _, _, _⟩ := three B9
  refine any_done (by kernel_rfl) ?_
  go_wp2
  exact bodyPost_ret (v := .agg #[.bool (ngB (x - y).num), .slice A9 (digs 4294967296 (x - y).num.natAbs).length c9, .slice D9 (digs 4294967296 (x - y).den).length e9]) (by simp [results, Tryz.results127, go_sem, C0, C1, C2]) rfl ⟨_, rfl, ⟨_, _, rfl, k9, d9⟩, f9, bb9⟩
set_option maxHeartbeats 1600000 in
set_option maxRecDepth 100000 in
theorem of8_any (n : Int) (w : World) (h1 : -9223372036854775808 ≤ n) (h2 : n ≤ 9223372036854775807) :
  Calls Tryz.prog 30 #[.int .i64 n] w (RetQ (n : Rat) w) := by
 obtain ⟨Q, hQ⟩ : ∃ Q, Q = (n : Rat) := ⟨_, rfl⟩
 have HQ0 : Hid ((n : Rat) = Q) := hQ.symm
 have HQN : Hid (Q.num = n) := by show _ = _; rw [hQ]; exact Rat.num_intCast n
 have HQD : Hid (Q.den = 1) := by show _ = _; rw [hQ]; exact Rat.den_intCast n
 clear hQ
 go_enter Tryz.func30, Tryz.ntmps30
 go_upto_region 1 with (fail)
 obtain ⟨wx, hwx, bb, BR0, hsz⟩ := vars1 w 44 #[.bool false, .slice none 0 0, .slice none 0 0]
 rw [hwx]
 clear hwx
 have hsz0 := bb.size
 have sB := bb.size
 refine flowp 4 [Pd.eq (.int .i64 n), pz ((Q).num) wx.heap.size, ps .u64 (digs 4294967296 (Q).den) wx.heap.size, pq (Q) wx.heap.size] (by kernel_rfl) ?ob19 ?done19
 case ob19 =>
  refine And.intro (ob_move rfl (wt_none rfl) (ev_far rfl rfl) (fun _ _ h => h)) ?_
  refine And.intro (ob_call1 rfl Tryz.func64 (by kernel_rfl) (wt_none rfl) (ev_dep (j := 0) (by kernel_rfl) rfl rfl) (fun w2 u0 hb h0 => by obtain rfl := h0; exact (zof_any n _ h1 h2).mono fun e w3 h => RetZ.pd (RetZ.to h HQN.out.symm) hb.size)) ?_
  refine And.intro (ob_call1 rfl Tryz.func65 (by kernel_rfl) (wt_none rfl) (ev_const _) (fun w2 u0 hb h0 => by obtain rfl := h0; exact (of_any 1 1 _ rfl (by omega)).mono fun e w3 h => RetS.pd (RetS.to h (congrArg (digs 4294967296) HQD.out.symm)) hb.size)) ?_
  refine And.intro (ob_build2b rfl (wt_none rfl) (ev_dep (j := 1) (by kernel_rfl) rfl rfl) (ev_dep (j := 2) (by kernel_rfl) rfl rfl) (fun w2 u v hb hu hv => by obtain ⟨u7, rfl, hu7⟩ := hu.1; obtain ⟨A7, c7, rfl, _⟩ := id hu7; obtain ⟨A8, c8, rfl, _⟩ := id hv.1; exact ⟨.agg #[.bool (ngB (Q).num), .slice A7 (digs 4294967296 (Q).num.natAbs).length c7, .slice A8 (digs 4294967296 (Q).den).length c8], by kernel_rfl, ⟨⟨_, _, rfl, hu7, hv.1⟩, freshQ_mk (hu.2 _ _ rfl) hv.2⟩⟩)) ?_
  trivial
 case done19 =>
  refine fun w1 hb1 v0 h0 v1 h1 v2 h2 v3 h3 b hbf => ?_
  obtain rfl := h0
  obtain ⟨q1, f1⟩ := h1
  obtain ⟨q2, f2⟩ := h2
  obtain ⟨q3, f3⟩ := h3
  simp only [Act.put, List.setIfInBounds_toArray, List.set_cons_zero, List.set_cons_succ] at hbf
  subst hbf
  replace BR0 := BR0.below hb1
  replace bb := bb.trans (hb1.mono bb.size)
  have hsz1 := bb.size
  have s_1 := sB
  have s_2 := sB
  have s_3 := sB
  obtain ⟨u3, t3, rfl, q3, d3⟩ := q3
  obtain ⟨A9, c9, rfl, _⟩ := id q3
  obtain ⟨D9, e9, rfl, _⟩ := id d3
  refine ops_store (i := 4) rfl rfl rfl rfl rfl rfl (cells := [.bool (ngB (Q).num), .slice A9 (digs 4294967296 (Q).num.natAbs).length c9, .slice D9 (digs 4294967296 (Q).den).length e9]) rfl BR0 rfl (by kernel_rfl) (one3 rfl rfl rfl) fun w9 hg9 B9 => ?_
  have k9 := off q3 BR0 no_ints3 hg9
  have d9 := off d3 BR0 no_ints3 hg9
  have f9 := f3.mono (show w.heap.size ≤ _ from s_3)
  have bb9 := bb.trans ((Below.refl _ _).grown hg9 bb.size (fun g hg => by injection hg with hg; omega))
  obtain ⟨C0, C1, C2, _, _, _⟩ := three B9
  refine ops_done ?_
  go_wp2
  rw [HQ0.out]
  exact bodyPost_ret (v := .agg #[.bool (ngB (Q).num), .slice A9 (digs 4294967296 (Q).num.natAbs).length c9, .slice D9 (digs 4294967296 (Q).den).length e9]) (by simp [results, Tryz.results30, go_sem, C0, C1, C2]) rfl ⟨_, rfl, ⟨_, _, rfl, k9, d9⟩, f9, bb9⟩
theorem limbs_any (v u : Value) (l m : List Nat) (b : Bool) (w : World) (h : IsS w .u64 v l) (h' : IsS w .u64 u m) (hu : Lt 18446744073709551616 l) (hu' : Lt 18446744073709551616 m) (hb_ : b = sameB l m) :
  Calls Tryz.prog 63 #[v, u] w (RetV (.bool b) w) := by
 have HB := Lib.hid hb_
 clear hb_
 obtain ⟨A, c, rfl, hc, hm, hr⟩ := h
 obtain ⟨A', c', rfl, hc', hmm, hr'⟩ := h'
 unfold maxLen at hm hmm
 by_cases hne : l.length = m.length
 ·have hb1 : ((l.length : Int) != (m.length : Int)) = false := by rw [hne]; simp
  have HL := Lib.hid hne
  have hl1 : l.length ≤ m.length := by omega
  have hl2 : m.length ≤ l.length := by omega
  clear hne
  go_enter Tryz.func63, Tryz.ntmps63
  go_wp2
  go_loopw [13] (fun vi wr => ∃ k : Nat, k ≤ l.length ∧ Hid (l.take k = m.take k) ∧ Below w.heap.size w wr ∧ vi = .int .i64 (k : Int)) (fun vi _ => l.length - (intOf vi).toNat)
  case atStart => exact ⟨0, by omega, by show _ = _; simp, Below.refl _ _, rfl⟩
  case round =>
   obtain ⟨k, hk, HT, hb, rfl⟩ := hrel
   by_cases hlt : k < l.length
   ·obtain ⟨ad, d, rfl, hd, hcell⟩ := (hr.below hb).at_ hlt
    obtain ⟨ad', e, rfl, he, hcell'⟩ := (hr'.below hb).at_ (i := k) (by omega)
    by_cases hde : d = e
    ·subst hde
     have HN : Hid (l.take (k + 1) = m.take (k + 1)) := by show _ = _; rw [take_step hd, take_step he, HT.out]
     have hz : ((d : Int) != (d : Int)) = false := by simp
     clear hd he
     go_wp2
     go_quiet (fail)
     go_wp2
     go_roundw
     case rel => exact ⟨k + 1, by omega, HN, below_drewN hb _, by go_num⟩
     case measure => simp [intOf]; omega
    ·have HN : Hid (sameB l m = false) := sameB_at hd he hde
     have hz : ((d : Int) != (e : Int)) = true := by rw [bne_iff_ne]; omega
     clear hd he hde
     go_wp2
     go_quiet (fail)
     go_wp2
     go_ret
     exact ⟨by rw [HB.out, HN.out]; rfl, below_drewN hb _⟩
   ·obtain rfl : k = l.length := by omega
    have HN : Hid (sameB l m = true) := by
     have := HT.out
     rw [List.take_length, List.take_of_length_le hl2] at this
     rw [this]; exact sameB_refl m
    go_wp2
    go_ret
    exact ⟨by rw [HB.out, HN.out]; rfl, hb⟩
 ·have hb1 : ((l.length : Int) != (m.length : Int)) = true := by rw [bne_iff_ne]; omega
  have HN : Hid (sameB l m = false) := sameB_of_len hne
  clear hne
  go_enter Tryz.func63, Tryz.ntmps63
  go_wp2
  go_ret
  exact ⟨by rw [HB.out, HN.out]; rfl, Below.refl _ _⟩
theorem limbs_num (v u : Value) (x y : Nat) (b : Bool) (w : World) (h : IsS w .u64 v (digs 4294967296 x)) (h' : IsS w .u64 u (digs 4294967296 y)) (hb : b = decide (x = y)) :
  Calls Tryz.prog 63 #[v, u] w (RetV (.bool b) w) :=
 limbs_any v u _ _ b w h h' (digs_lt_u x) (digs_lt_u y) (by rw [hb, sameB_digs])
set_option maxHeartbeats 1600000 in
set_option maxRecDepth 100000 in
theorem same8_any (a0 a1 : Value) (x y : Rat) (b : Bool) (w : World) (h0 : IsQ w a0 x) (h1 : IsQ w a1 y) (hb : b = decide (x = y)) :
  Calls Tryz.prog 29 #[a0, a1] w (RetV (.bool b) w) := by
 by_cases hs : ngB x.num = ngB y.num
 ·by_cases hn : x.num.natAbs = y.num.natAbs
  ·obtain ⟨u0, t0, rfl, s0, r0⟩ := h0
   obtain ⟨A0, c0, rfl, _⟩ := id s0
   obtain ⟨D0, e0, rfl, _⟩ := id r0
   obtain ⟨u1, t1, rfl, s1, r1⟩ := h1
   obtain ⟨A1, c1, rfl, _⟩ := id s1
   obtain ⟨D1, e1, rfl, _⟩ := id r1
   have HE : Hid ((ngB x.num == ngB y.num) = true) := by show _ = _; rw [hs]; exact beq_self_eq_true _
   have HB : Hid (b = decide (x.den = y.den)) := by show _ = _; rw [hb, decide_eq_decide, eq_parts]; exact ⟨fun e => e.2, fun e => ⟨by rw [← sg_self x.num, ← sg_self y.num, hs, hn], e⟩⟩
   clear hb hs
   have HN : Hid (true = decide (x.num.natAbs = y.num.natAbs)) := (decide_eq_true hn).symm
   clear hn
   go_enter Tryz.func29, Tryz.ntmps29
   go_upto_region 1 with (fail)
   obtain ⟨wx, hwx, bb, B0, B1, hsz⟩ := vars2 w 44 44 #[.bool (ngB (x).num), .slice A0 (digs 4294967296 (x).num.natAbs).length c0, .slice D0 (digs 4294967296 (x).den).length e0] #[.bool (ngB (y).num), .slice A1 (digs 4294967296 (y).num.natAbs).length c1, .slice D1 (digs 4294967296 (y).den).length e1]
   rw [hwx]
   clear hwx
   have k0s := s0.below bb
   have k0d := r0.below bb
   have k0z : IsZ wx (.agg #[.bool (ngB (x).num), .slice A0 (digs 4294967296 (x).num.natAbs).length c0]) (x).num := ⟨_, rfl, k0s⟩
   have k0 : IsQ wx (.agg #[.bool (ngB (x).num), .slice A0 (digs 4294967296 (x).num.natAbs).length c0, .slice D0 (digs 4294967296 (x).den).length e0]) (x) := ⟨_, _, rfl, k0s, k0d⟩
   have k1s := s1.below bb
   have k1d := r1.below bb
   have k1z : IsZ wx (.agg #[.bool (ngB (y).num), .slice A1 (digs 4294967296 (y).num.natAbs).length c1]) (y).num := ⟨_, rfl, k1s⟩
   have k1 : IsQ wx (.agg #[.bool (ngB (y).num), .slice A1 (digs 4294967296 (y).num.natAbs).length c1, .slice D1 (digs 4294967296 (y).den).length e1]) (y) := ⟨_, _, rfl, k1s, k1d⟩
   have hsz0 := bb.size
   have sB := bb.size
   refine flowp 24 [Pd.eq (.pointer (some ⟨w.heap.size, 0, none⟩)), Pd.eq (.pointer (some ⟨w.heap.size, 0, none⟩)), Pd.eq (.bool (ngB (x).num)), Pd.eq (.pointer (some ⟨w.heap.size + 1, 0, none⟩)), Pd.eq (.pointer (some ⟨w.heap.size + 1, 0, none⟩)), Pd.eq (.bool (ngB (y).num)), Pd.eq (.bool true), Pd.eq (.bool true), Pd.eq (.pointer (some ⟨w.heap.size, 0, none⟩)), Pd.eq (.pointer (some ⟨w.heap.size, 1, none⟩)), Pd.eq (.slice A0 (digs 4294967296 (x).num.natAbs).length c0), Pd.eq (.pointer (some ⟨w.heap.size + 1, 0, none⟩)), Pd.eq (.pointer (some ⟨w.heap.size + 1, 1, none⟩)), Pd.eq (.slice A1 (digs 4294967296 (y).num.natAbs).length c1), Pd.eq (.bool true), Pd.eq (.bool true), Pd.eq (.bool true), Pd.eq (.pointer (some ⟨w.heap.size, 2, none⟩)), Pd.eq (.slice D0 (digs 4294967296 (x).den).length e0), Pd.eq (.pointer (some ⟨w.heap.size + 1, 2, none⟩)), Pd.eq (.slice D1 (digs 4294967296 (y).den).length e1), Pd.eq (.bool b), Pd.eq (.bool b), Pd.eq (.bool b)] (by kernel_rfl) ?ob46 ?done46
   case ob46 =>
    refine And.intro (ob_fieldAddr rfl (wt_none rfl) (ev_far rfl rfl) (fun _ => by kernel_rfl) (fun _ => rfl)) ?_
    refine And.intro (ob_fieldAddr rfl (wt_none rfl) (ev_dep (j := 0) (by kernel_rfl) rfl rfl) (fun _ => by kernel_rfl) (fun _ => rfl)) ?_
    refine And.intro (ob_load rfl (wt_none rfl) (ev_dep (j := 1) (by kernel_rfl) rfl rfl) (fun w2 hb => run_load1 Tryz.underlying4 rfl ((B0.below hb).cell 0)) (fun _ _ => rfl)) ?_
    refine And.intro (ob_fieldAddr rfl (wt_none rfl) (ev_far rfl rfl) (fun _ => by kernel_rfl) (fun _ => rfl)) ?_
    refine And.intro (ob_fieldAddr rfl (wt_none rfl) (ev_dep (j := 3) (by kernel_rfl) rfl rfl) (fun _ => by kernel_rfl) (fun _ => rfl)) ?_
    refine And.intro (ob_load rfl (wt_none rfl) (ev_dep (j := 4) (by kernel_rfl) rfl rfl) (fun w2 hb => run_load1 Tryz.underlying4 rfl ((B1.below hb).cell 0)) (fun _ _ => rfl)) ?_
    refine And.intro (ob_bin rfl (wt_none rfl) (ev_dep (j := 2) (by kernel_rfl) rfl rfl) (ev_dep (j := 5) (by kernel_rfl) rfl rfl) (fun _ _ _ hx hy => ⟨.bool true, by rw [hx, hy]; exact (bin_eql_bool _ _ _ _ Tryz.underlying4 _).trans (by rw [HE.out]), rfl⟩)) ?_
    refine And.intro (ob_move rfl (wt_none rfl) (ev_dep (j := 6) (by kernel_rfl) rfl rfl) (fun _ _ h => h)) ?_
    refine And.intro (ob_fieldAddr rfl (wt_dep (c := true) (b := true) (g := 7) rfl (by kernel_rfl) rfl rfl rfl (by exact fun _ _ h => h)) (ev_far rfl rfl) (fun _ => by kernel_rfl) (fun _ => rfl)) ?_
    refine And.intro (ob_fieldAddr rfl (wt_dep (c := true) (b := true) (g := 7) rfl (by kernel_rfl) rfl rfl rfl (by exact fun _ _ h => h)) (ev_dep (j := 8) (by kernel_rfl) rfl rfl) (fun _ => by kernel_rfl) (fun _ => rfl)) ?_
    refine And.intro (ob_load rfl (wt_dep (c := true) (b := true) (g := 7) rfl (by kernel_rfl) rfl rfl rfl (by exact fun _ _ h => h)) (ev_dep (j := 9) (by kernel_rfl) rfl rfl) (fun w2 hb => run_load1 Tryz.underlying40 rfl ((B0.below hb).cell 1)) (fun _ _ => rfl)) ?_
    refine And.intro (ob_fieldAddr rfl (wt_dep (c := true) (b := true) (g := 7) rfl (by kernel_rfl) rfl rfl rfl (by exact fun _ _ h => h)) (ev_far rfl rfl) (fun _ => by kernel_rfl) (fun _ => rfl)) ?_
    refine And.intro (ob_fieldAddr rfl (wt_dep (c := true) (b := true) (g := 7) rfl (by kernel_rfl) rfl rfl rfl (by exact fun _ _ h => h)) (ev_dep (j := 11) (by kernel_rfl) rfl rfl) (fun _ => by kernel_rfl) (fun _ => rfl)) ?_
    refine And.intro (ob_load rfl (wt_dep (c := true) (b := true) (g := 7) rfl (by kernel_rfl) rfl rfl rfl (by exact fun _ _ h => h)) (ev_dep (j := 12) (by kernel_rfl) rfl rfl) (fun w2 hb => run_load1 Tryz.underlying40 rfl ((B1.below hb).cell 1)) (fun _ _ => rfl)) ?_
    refine And.intro (ob_call2 rfl Tryz.func63 (by kernel_rfl) (wt_dep (c := true) (b := true) (g := 7) rfl (by kernel_rfl) rfl rfl rfl (by exact fun _ _ h => h)) (ev_dep (j := 10) (by kernel_rfl) rfl rfl) (ev_dep (j := 13) (by kernel_rfl) rfl rfl) (fun w2 u0 u1 hb h0 h1 => by obtain rfl := h0; obtain rfl := h1; exact (limbs_num _ _ (x).num.natAbs (y).num.natAbs true _ (k0s.below hb) (k1s.below hb) HN.out).mono fun e w3 h => RetV.pd h)) ?_
    refine And.intro (ob_pick (b := true) rfl (wt_none rfl) (ev_dep (j := 7) (by kernel_rfl) rfl rfl) (ev_dep (j := 14) (by kernel_rfl) rfl rfl) (fun _ _ h => h)) ?_
    refine And.intro (ob_move rfl (wt_none rfl) (ev_dep (j := 15) (by kernel_rfl) rfl rfl) (fun _ _ h => h)) ?_
    refine And.intro (ob_fieldAddr rfl (wt_dep (c := true) (b := true) (g := 16) rfl (by kernel_rfl) rfl rfl rfl (by exact fun _ _ h => h)) (ev_far rfl rfl) (fun _ => by kernel_rfl) (fun _ => rfl)) ?_
    refine And.intro (ob_load rfl (wt_dep (c := true) (b := true) (g := 16) rfl (by kernel_rfl) rfl rfl rfl (by exact fun _ _ h => h)) (ev_dep (j := 17) (by kernel_rfl) rfl rfl) (fun w2 hb => run_load1 Tryz.underlying40 rfl ((B0.below hb).cell 2)) (fun _ _ => rfl)) ?_
    refine And.intro (ob_fieldAddr rfl (wt_dep (c := true) (b := true) (g := 16) rfl (by kernel_rfl) rfl rfl rfl (by exact fun _ _ h => h)) (ev_far rfl rfl) (fun _ => by kernel_rfl) (fun _ => rfl)) ?_
    refine And.intro (ob_load rfl (wt_dep (c := true) (b := true) (g := 16) rfl (by kernel_rfl) rfl rfl rfl (by exact fun _ _ h => h)) (ev_dep (j := 19) (by kernel_rfl) rfl rfl) (fun w2 hb => run_load1 Tryz.underlying40 rfl ((B1.below hb).cell 2)) (fun _ _ => rfl)) ?_
    refine And.intro (ob_call2 rfl Tryz.func63 (by kernel_rfl) (wt_dep (c := true) (b := true) (g := 16) rfl (by kernel_rfl) rfl rfl rfl (by exact fun _ _ h => h)) (ev_dep (j := 18) (by kernel_rfl) rfl rfl) (ev_dep (j := 20) (by kernel_rfl) rfl rfl) (fun w2 u0 u1 hb h0 h1 => by obtain rfl := h0; obtain rfl := h1; exact (limbs_num _ _ (x).den (y).den b _ (k0d.below hb) (k1d.below hb) HB.out).mono fun e w3 h => RetV.pd h)) ?_
    refine And.intro (ob_pick (b := true) rfl (wt_none rfl) (ev_dep (j := 16) (by kernel_rfl) rfl rfl) (ev_dep (j := 21) (by kernel_rfl) rfl rfl) (fun _ _ h => h)) ?_
    refine And.intro (ob_assign rfl (wt_none rfl) (ev_dep (j := 22) (by kernel_rfl) rfl rfl) (fun _ _ h => h)) ?_
    trivial
   case done46 =>
    refine fun w1 hb1 v0 h0 v1 h1 v2 h2 v3 h3 v4 h4 v5 h5 v6 h6 v7 h7 v8 h8 v9 h9 v10 h10 v11 h11 v12 h12 v13 h13 v14 h14 v15 h15 v16 h16 v17 h17 v18 h18 v19 h19 v20 h20 v21 h21 v22 h22 v23 h23 b hbf => ?_
    obtain rfl := h0; obtain rfl := h1; obtain rfl := h2; obtain rfl := h3; obtain rfl := h4; obtain rfl := h5; obtain rfl := h6; obtain rfl := h7; obtain rfl := h8; obtain rfl := h9; obtain rfl := h10; obtain rfl := h11; obtain rfl := h12; obtain rfl := h13; obtain rfl := h14; obtain rfl := h15; obtain rfl := h16; obtain rfl := h17; obtain rfl := h18; obtain rfl := h19; obtain rfl := h20; obtain rfl := h21; obtain rfl := h22; obtain rfl := h23
    simp only [Act.put, List.setIfInBounds_toArray, List.set_cons_zero, List.set_cons_succ] at hbf
    subst hbf
    replace B0 := B0.below hb1
    replace k0s := k0s.below hb1
    replace k0d := k0d.below hb1
    replace k0z := k0z.below hb1
    replace k0 := k0.below hb1
    replace B1 := B1.below hb1
    replace k1s := k1s.below hb1
    replace k1d := k1d.below hb1
    replace k1z := k1z.below hb1
    replace k1 := k1.below hb1
    replace bb := bb.trans (hb1.mono bb.size)
    have hsz1 := bb.size
    refine ops_done ?_
    go_wp2
    go_ret
    exact ⟨rfl, bb⟩
  ·obtain ⟨u0, t0, rfl, s0, r0⟩ := h0
   obtain ⟨A0, c0, rfl, _⟩ := id s0
   obtain ⟨D0, e0, rfl, _⟩ := id r0
   obtain ⟨u1, t1, rfl, s1, r1⟩ := h1
   obtain ⟨A1, c1, rfl, _⟩ := id s1
   obtain ⟨D1, e1, rfl, _⟩ := id r1
   have HE : Hid ((ngB x.num == ngB y.num) = true) := by show _ = _; rw [hs]; exact beq_self_eq_true _
   obtain rfl : b = false := by rw [hb, decide_eq_false_iff_not]; exact fun e => hn (by rw [e])
   clear hb hs
   have HN : Hid (false = decide (x.num.natAbs = y.num.natAbs)) := (decide_eq_false hn).symm
   clear hn
   go_enter Tryz.func29, Tryz.ntmps29
   go_upto_region 1 with (fail)
   obtain ⟨wx, hwx, bb, B0, B1, hsz⟩ := vars2 w 44 44 #[.bool (ngB (x).num), .slice A0 (digs 4294967296 (x).num.natAbs).length c0, .slice D0 (digs 4294967296 (x).den).length e0] #[.bool (ngB (y).num), .slice A1 (digs 4294967296 (y).num.natAbs).length c1, .slice D1 (digs 4294967296 (y).den).length e1]
   rw [hwx]
   clear hwx
   have k0s := s0.below bb
   have k0d := r0.below bb
   have k0z : IsZ wx (.agg #[.bool (ngB (x).num), .slice A0 (digs 4294967296 (x).num.natAbs).length c0]) (x).num := ⟨_, rfl, k0s⟩
   have k0 : IsQ wx (.agg #[.bool (ngB (x).num), .slice A0 (digs 4294967296 (x).num.natAbs).length c0, .slice D0 (digs 4294967296 (x).den).length e0]) (x) := ⟨_, _, rfl, k0s, k0d⟩
   have k1s := s1.below bb
   have k1d := r1.below bb
   have k1z : IsZ wx (.agg #[.bool (ngB (y).num), .slice A1 (digs 4294967296 (y).num.natAbs).length c1]) (y).num := ⟨_, rfl, k1s⟩
   have k1 : IsQ wx (.agg #[.bool (ngB (y).num), .slice A1 (digs 4294967296 (y).num.natAbs).length c1, .slice D1 (digs 4294967296 (y).den).length e1]) (y) := ⟨_, _, rfl, k1s, k1d⟩
   have hsz0 := bb.size
   have sB := bb.size
   refine flowp 24 [Pd.eq (.pointer (some ⟨w.heap.size, 0, none⟩)), Pd.eq (.pointer (some ⟨w.heap.size, 0, none⟩)), Pd.eq (.bool (ngB (x).num)), Pd.eq (.pointer (some ⟨w.heap.size + 1, 0, none⟩)), Pd.eq (.pointer (some ⟨w.heap.size + 1, 0, none⟩)), Pd.eq (.bool (ngB (y).num)), Pd.eq (.bool true), Pd.eq (.bool true), Pd.eq (.pointer (some ⟨w.heap.size, 0, none⟩)), Pd.eq (.pointer (some ⟨w.heap.size, 1, none⟩)), Pd.eq (.slice A0 (digs 4294967296 (x).num.natAbs).length c0), Pd.eq (.pointer (some ⟨w.heap.size + 1, 0, none⟩)), Pd.eq (.pointer (some ⟨w.heap.size + 1, 1, none⟩)), Pd.eq (.slice A1 (digs 4294967296 (y).num.natAbs).length c1), Pd.eq (.bool false), Pd.eq (.bool false), Pd.eq (.bool false), Pd.any, Pd.any, Pd.any, Pd.any, Pd.any, Pd.eq (.bool false), Pd.eq (.bool false)] (by kernel_rfl) ?ob45 ?done45
   case ob45 =>
    refine And.intro (ob_fieldAddr rfl (wt_none rfl) (ev_far rfl rfl) (fun _ => by kernel_rfl) (fun _ => rfl)) ?_
    refine And.intro (ob_fieldAddr rfl (wt_none rfl) (ev_dep (j := 0) (by kernel_rfl) rfl rfl) (fun _ => by kernel_rfl) (fun _ => rfl)) ?_
    refine And.intro (ob_load rfl (wt_none rfl) (ev_dep (j := 1) (by kernel_rfl) rfl rfl) (fun w2 hb => run_load1 Tryz.underlying4 rfl ((B0.below hb).cell 0)) (fun _ _ => rfl)) ?_
    refine And.intro (ob_fieldAddr rfl (wt_none rfl) (ev_far rfl rfl) (fun _ => by kernel_rfl) (fun _ => rfl)) ?_
    refine And.intro (ob_fieldAddr rfl (wt_none rfl) (ev_dep (j := 3) (by kernel_rfl) rfl rfl) (fun _ => by kernel_rfl) (fun _ => rfl)) ?_
    refine And.intro (ob_load rfl (wt_none rfl) (ev_dep (j := 4) (by kernel_rfl) rfl rfl) (fun w2 hb => run_load1 Tryz.underlying4 rfl ((B1.below hb).cell 0)) (fun _ _ => rfl)) ?_
    refine And.intro (ob_bin rfl (wt_none rfl) (ev_dep (j := 2) (by kernel_rfl) rfl rfl) (ev_dep (j := 5) (by kernel_rfl) rfl rfl) (fun _ _ _ hx hy => ⟨.bool true, by rw [hx, hy]; exact (bin_eql_bool _ _ _ _ Tryz.underlying4 _).trans (by rw [HE.out]), rfl⟩)) ?_
    refine And.intro (ob_move rfl (wt_none rfl) (ev_dep (j := 6) (by kernel_rfl) rfl rfl) (fun _ _ h => h)) ?_
    refine And.intro (ob_fieldAddr rfl (wt_dep (c := true) (b := true) (g := 7) rfl (by kernel_rfl) rfl rfl rfl (by exact fun _ _ h => h)) (ev_far rfl rfl) (fun _ => by kernel_rfl) (fun _ => rfl)) ?_
    refine And.intro (ob_fieldAddr rfl (wt_dep (c := true) (b := true) (g := 7) rfl (by kernel_rfl) rfl rfl rfl (by exact fun _ _ h => h)) (ev_dep (j := 8) (by kernel_rfl) rfl rfl) (fun _ => by kernel_rfl) (fun _ => rfl)) ?_
    refine And.intro (ob_load rfl (wt_dep (c := true) (b := true) (g := 7) rfl (by kernel_rfl) rfl rfl rfl (by exact fun _ _ h => h)) (ev_dep (j := 9) (by kernel_rfl) rfl rfl) (fun w2 hb => run_load1 Tryz.underlying40 rfl ((B0.below hb).cell 1)) (fun _ _ => rfl)) ?_
    refine And.intro (ob_fieldAddr rfl (wt_dep (c := true) (b := true) (g := 7) rfl (by kernel_rfl) rfl rfl rfl (by exact fun _ _ h => h)) (ev_far rfl rfl) (fun _ => by kernel_rfl) (fun _ => rfl)) ?_
    refine And.intro (ob_fieldAddr rfl (wt_dep (c := true) (b := true) (g := 7) rfl (by kernel_rfl) rfl rfl rfl (by exact fun _ _ h => h)) (ev_dep (j := 11) (by kernel_rfl) rfl rfl) (fun _ => by kernel_rfl) (fun _ => rfl)) ?_
    refine And.intro (ob_load rfl (wt_dep (c := true) (b := true) (g := 7) rfl (by kernel_rfl) rfl rfl rfl (by exact fun _ _ h => h)) (ev_dep (j := 12) (by kernel_rfl) rfl rfl) (fun w2 hb => run_load1 Tryz.underlying40 rfl ((B1.below hb).cell 1)) (fun _ _ => rfl)) ?_
    refine And.intro (ob_call2 rfl Tryz.func63 (by kernel_rfl) (wt_dep (c := true) (b := true) (g := 7) rfl (by kernel_rfl) rfl rfl rfl (by exact fun _ _ h => h)) (ev_dep (j := 10) (by kernel_rfl) rfl rfl) (ev_dep (j := 13) (by kernel_rfl) rfl rfl) (fun w2 u0 u1 hb h0 h1 => by obtain rfl := h0; obtain rfl := h1; exact (limbs_num _ _ (x).num.natAbs (y).num.natAbs false _ (k0s.below hb) (k1s.below hb) HN.out).mono fun e w3 h => RetV.pd h)) ?_
    refine And.intro (ob_pick (b := true) rfl (wt_none rfl) (ev_dep (j := 7) (by kernel_rfl) rfl rfl) (ev_dep (j := 14) (by kernel_rfl) rfl rfl) (fun _ _ h => h)) ?_
    refine And.intro (ob_move rfl (wt_none rfl) (ev_dep (j := 15) (by kernel_rfl) rfl rfl) (fun _ _ h => h)) ?_
    refine And.intro (ob_not (wt_dep (c := false) (b := true) (g := 16) rfl (by kernel_rfl) rfl rfl rfl (by exact fun _ _ h => h)) (fun _ => trivial) rfl) ?_
    refine And.intro (ob_not (wt_dep (c := false) (b := true) (g := 16) rfl (by kernel_rfl) rfl rfl rfl (by exact fun _ _ h => h)) (fun _ => trivial) rfl) ?_
    refine And.intro (ob_not (wt_dep (c := false) (b := true) (g := 16) rfl (by kernel_rfl) rfl rfl rfl (by exact fun _ _ h => h)) (fun _ => trivial) rfl) ?_
    refine And.intro (ob_not (wt_dep (c := false) (b := true) (g := 16) rfl (by kernel_rfl) rfl rfl rfl (by exact fun _ _ h => h)) (fun _ => trivial) rfl) ?_
    refine And.intro (ob_not (wt_dep (c := false) (b := true) (g := 16) rfl (by kernel_rfl) rfl rfl rfl (by exact fun _ _ h => h)) (fun _ => trivial) rfl) ?_
    refine And.intro (ob_pick (b := false) rfl (wt_none rfl) (ev_dep (j := 16) (by kernel_rfl) rfl rfl) (ev_const _) (fun _ _ h => h)) ?_
    refine And.intro (ob_assign rfl (wt_none rfl) (ev_dep (j := 22) (by kernel_rfl) rfl rfl) (fun _ _ h => h)) ?_
    trivial
   case done45 =>
    refine fun w1 hb1 v0 h0 v1 h1 v2 h2 v3 h3 v4 h4 v5 h5 v6 h6 v7 h7 v8 h8 v9 h9 v10 h10 v11 h11 v12 h12 v13 h13 v14 h14 v15 h15 v16 h16 v17 h17 v18 h18 v19 h19 v20 h20 v21 h21 v22 h22 v23 h23 b hbf => ?_
    obtain rfl := h0; obtain rfl := h1; obtain rfl := h2; obtain rfl := h3; obtain rfl := h4; obtain rfl := h5; obtain rfl := h6; obtain rfl := h7; obtain rfl := h8; obtain rfl := h9; obtain rfl := h10; obtain rfl := h11; obtain rfl := h12; obtain rfl := h13; obtain rfl := h14; obtain rfl := h15; obtain rfl := h16; obtain rfl := h22; obtain rfl := h23
    clear h17
    clear h18
    clear h19
    clear h20
    clear h21
    simp only [Act.put, List.setIfInBounds_toArray, List.set_cons_zero, List.set_cons_succ] at hbf
    subst hbf
    replace B0 := B0.below hb1
    replace k0s := k0s.below hb1
    replace k0d := k0d.below hb1
    replace k0z := k0z.below hb1
    replace k0 := k0.below hb1
    replace B1 := B1.below hb1
    replace k1s := k1s.below hb1
    replace k1d := k1d.below hb1
    replace k1z := k1z.below hb1
    replace k1 := k1.below hb1
    replace bb := bb.trans (hb1.mono bb.size)
    have hsz1 := bb.size
    refine ops_done ?_
    go_wp2
    go_ret
    exact ⟨rfl, bb⟩
 ·obtain ⟨u0, t0, rfl, s0, r0⟩ := h0
  obtain ⟨A0, c0, rfl, _⟩ := id s0
  obtain ⟨D0, e0, rfl, _⟩ := id r0
  obtain ⟨u1, t1, rfl, s1, r1⟩ := h1
  obtain ⟨A1, c1, rfl, _⟩ := id s1
  obtain ⟨D1, e1, rfl, _⟩ := id r1
  obtain rfl : b = false := by rw [hb, decide_eq_false_iff_not]; exact fun e => hs (by rw [e])
  clear hb
  have HE : Hid ((ngB x.num == ngB y.num) = false) := by show _ = _; rw [beq_eq_false_iff_ne]; exact hs
  clear hs
  go_enter Tryz.func29, Tryz.ntmps29
  go_upto_region 1 with (fail)
  obtain ⟨wx, hwx, bb, B0, B1, hsz⟩ := vars2 w 44 44 #[.bool (ngB (x).num), .slice A0 (digs 4294967296 (x).num.natAbs).length c0, .slice D0 (digs 4294967296 (x).den).length e0] #[.bool (ngB (y).num), .slice A1 (digs 4294967296 (y).num.natAbs).length c1, .slice D1 (digs 4294967296 (y).den).length e1]
  rw [hwx]
  clear hwx
  have k0s := s0.below bb
  have k0d := r0.below bb
  have k0z : IsZ wx (.agg #[.bool (ngB (x).num), .slice A0 (digs 4294967296 (x).num.natAbs).length c0]) (x).num := ⟨_, rfl, k0s⟩
  have k0 : IsQ wx (.agg #[.bool (ngB (x).num), .slice A0 (digs 4294967296 (x).num.natAbs).length c0, .slice D0 (digs 4294967296 (x).den).length e0]) (x) := ⟨_, _, rfl, k0s, k0d⟩
  have k1s := s1.below bb
  have k1d := r1.below bb
  have k1z : IsZ wx (.agg #[.bool (ngB (y).num), .slice A1 (digs 4294967296 (y).num.natAbs).length c1]) (y).num := ⟨_, rfl, k1s⟩
  have k1 : IsQ wx (.agg #[.bool (ngB (y).num), .slice A1 (digs 4294967296 (y).num.natAbs).length c1, .slice D1 (digs 4294967296 (y).den).length e1]) (y) := ⟨_, _, rfl, k1s, k1d⟩
  have hsz0 := bb.size
  have sB := bb.size
  refine flowp 24 [Pd.eq (.pointer (some ⟨w.heap.size, 0, none⟩)), Pd.eq (.pointer (some ⟨w.heap.size, 0, none⟩)), Pd.eq (.bool (ngB (x).num)), Pd.eq (.pointer (some ⟨w.heap.size + 1, 0, none⟩)), Pd.eq (.pointer (some ⟨w.heap.size + 1, 0, none⟩)), Pd.eq (.bool (ngB (y).num)), Pd.eq (.bool false), Pd.eq (.bool false), Pd.any, Pd.any, Pd.any, Pd.any, Pd.any, Pd.any, Pd.any, Pd.eq (.bool false), Pd.eq (.bool false), Pd.any, Pd.any, Pd.any, Pd.any, Pd.any, Pd.eq (.bool false), Pd.eq (.bool false)] (by kernel_rfl) ?ob44 ?done44
  case ob44 =>
   refine And.intro (ob_fieldAddr rfl (wt_none rfl) (ev_far rfl rfl) (fun _ => by kernel_rfl) (fun _ => rfl)) ?_
   refine And.intro (ob_fieldAddr rfl (wt_none rfl) (ev_dep (j := 0) (by kernel_rfl) rfl rfl) (fun _ => by kernel_rfl) (fun _ => rfl)) ?_
   refine And.intro (ob_load rfl (wt_none rfl) (ev_dep (j := 1) (by kernel_rfl) rfl rfl) (fun w2 hb => run_load1 Tryz.underlying4 rfl ((B0.below hb).cell 0)) (fun _ _ => rfl)) ?_
   refine And.intro (ob_fieldAddr rfl (wt_none rfl) (ev_far rfl rfl) (fun _ => by kernel_rfl) (fun _ => rfl)) ?_
   refine And.intro (ob_fieldAddr rfl (wt_none rfl) (ev_dep (j := 3) (by kernel_rfl) rfl rfl) (fun _ => by kernel_rfl) (fun _ => rfl)) ?_
   refine And.intro (ob_load rfl (wt_none rfl) (ev_dep (j := 4) (by kernel_rfl) rfl rfl) (fun w2 hb => run_load1 Tryz.underlying4 rfl ((B1.below hb).cell 0)) (fun _ _ => rfl)) ?_
   refine And.intro (ob_bin rfl (wt_none rfl) (ev_dep (j := 2) (by kernel_rfl) rfl rfl) (ev_dep (j := 5) (by kernel_rfl) rfl rfl) (fun _ _ _ hx hy => ⟨.bool false, by rw [hx, hy]; exact (bin_eql_bool _ _ _ _ Tryz.underlying4 _).trans (by rw [HE.out]), rfl⟩)) ?_
   refine And.intro (ob_move rfl (wt_none rfl) (ev_dep (j := 6) (by kernel_rfl) rfl rfl) (fun _ _ h => h)) ?_
   refine And.intro (ob_not (wt_dep (c := false) (b := true) (g := 7) rfl (by kernel_rfl) rfl rfl rfl (by exact fun _ _ h => h)) (fun _ => trivial) rfl) ?_
   refine And.intro (ob_not (wt_dep (c := false) (b := true) (g := 7) rfl (by kernel_rfl) rfl rfl rfl (by exact fun _ _ h => h)) (fun _ => trivial) rfl) ?_
   refine And.intro (ob_not (wt_dep (c := false) (b := true) (g := 7) rfl (by kernel_rfl) rfl rfl rfl (by exact fun _ _ h => h)) (fun _ => trivial) rfl) ?_
   refine And.intro (ob_not (wt_dep (c := false) (b := true) (g := 7) rfl (by kernel_rfl) rfl rfl rfl (by exact fun _ _ h => h)) (fun _ => trivial) rfl) ?_
   refine And.intro (ob_not (wt_dep (c := false) (b := true) (g := 7) rfl (by kernel_rfl) rfl rfl rfl (by exact fun _ _ h => h)) (fun _ => trivial) rfl) ?_
   refine And.intro (ob_not (wt_dep (c := false) (b := true) (g := 7) rfl (by kernel_rfl) rfl rfl rfl (by exact fun _ _ h => h)) (fun _ => trivial) rfl) ?_
   refine And.intro (ob_not (wt_dep (c := false) (b := true) (g := 7) rfl (by kernel_rfl) rfl rfl rfl (by exact fun _ _ h => h)) (fun _ => trivial) rfl) ?_
   refine And.intro (ob_pick (b := false) rfl (wt_none rfl) (ev_dep (j := 7) (by kernel_rfl) rfl rfl) (ev_const _) (fun _ _ h => h)) ?_
   refine And.intro (ob_move rfl (wt_none rfl) (ev_dep (j := 15) (by kernel_rfl) rfl rfl) (fun _ _ h => h)) ?_
   refine And.intro (ob_not (wt_dep (c := false) (b := true) (g := 16) rfl (by kernel_rfl) rfl rfl rfl (by exact fun _ _ h => h)) (fun _ => trivial) rfl) ?_
   refine And.intro (ob_not (wt_dep (c := false) (b := true) (g := 16) rfl (by kernel_rfl) rfl rfl rfl (by exact fun _ _ h => h)) (fun _ => trivial) rfl) ?_
   refine And.intro (ob_not (wt_dep (c := false) (b := true) (g := 16) rfl (by kernel_rfl) rfl rfl rfl (by exact fun _ _ h => h)) (fun _ => trivial) rfl) ?_
   refine And.intro (ob_not (wt_dep (c := false) (b := true) (g := 16) rfl (by kernel_rfl) rfl rfl rfl (by exact fun _ _ h => h)) (fun _ => trivial) rfl) ?_
   refine And.intro (ob_not (wt_dep (c := false) (b := true) (g := 16) rfl (by kernel_rfl) rfl rfl rfl (by exact fun _ _ h => h)) (fun _ => trivial) rfl) ?_
   refine And.intro (ob_pick (b := false) rfl (wt_none rfl) (ev_dep (j := 16) (by kernel_rfl) rfl rfl) (ev_const _) (fun _ _ h => h)) ?_
   refine And.intro (ob_assign rfl (wt_none rfl) (ev_dep (j := 22) (by kernel_rfl) rfl rfl) (fun _ _ h => h)) ?_
   trivial
  case done44 =>
   refine fun w1 hb1 v0 h0 v1 h1 v2 h2 v3 h3 v4 h4 v5 h5 v6 h6 v7 h7 v8 h8 v9 h9 v10 h10 v11 h11 v12 h12 v13 h13 v14 h14 v15 h15 v16 h16 v17 h17 v18 h18 v19 h19 v20 h20 v21 h21 v22 h22 v23 h23 b hbf => ?_
   obtain rfl := h0; obtain rfl := h1; obtain rfl := h2; obtain rfl := h3; obtain rfl := h4; obtain rfl := h5; obtain rfl := h6; obtain rfl := h7; obtain rfl := h15; obtain rfl := h16; obtain rfl := h22; obtain rfl := h23
   clear h8
   clear h9
   clear h10
   clear h11
   clear h12
   clear h13
   clear h14
   clear h17
   clear h18
   clear h19
   clear h20
   clear h21
   simp only [Act.put, List.setIfInBounds_toArray, List.set_cons_zero, List.set_cons_succ] at hbf
   subst hbf
   replace B0 := B0.below hb1
   replace k0s := k0s.below hb1
   replace k0d := k0d.below hb1
   replace k0z := k0z.below hb1
   replace k0 := k0.below hb1
   replace B1 := B1.below hb1
   replace k1s := k1s.below hb1
   replace k1d := k1d.below hb1
   replace k1z := k1z.below hb1
   replace k1 := k1.below hb1
   replace bb := bb.trans (hb1.mono bb.size)
   have hsz1 := bb.size
   refine ops_done ?_
   go_wp2
   go_ret
   exact ⟨rfl, bb⟩
theorem cells3_len (p : Elt) : (cells3 p).length = 3 := rfl
theorem flat3_len (ps : List Elt) : (flat3 ps).length = ps.length * 3 := by
 induction ps with
 | nil => rfl
 | cons p ps ih => show (cells3 p ++ flat3 ps).length = _; rw [List.length_append, ih, cells3_len, List.length_cons]; omega
theorem flat3_cons (p : Elt) (ps : List Elt) : flat3 (p :: ps) = cells3 p ++ flat3 ps := rfl
theorem flat3_set : ∀ (ps : List Elt) (i : Nat) (p : Elt), i < ps.length → (flat3 ps).take (i * 3) ++ cells3 p ++ (flat3 ps).drop (i * 3 + 3) = flat3 (ps.set i p)
  | [], i, p, h => by simp at h
  | q :: ps, 0, p, h => by
    rw [List.set_cons_zero, flat3_cons, flat3_cons]
    simp [cells3]
  | q :: ps, i + 1, p, h => by
    have ih := flat3_set ps i p (by simpa using h)
    rw [List.set_cons_succ, flat3_cons, flat3_cons, ← ih, show (i + 1) * 3 = i * 3 + 1 + 1 + 1 from by omega, show i * 3 + 1 + 1 + 1 + 3 = i * 3 + 3 + 1 + 1 + 1 from by omega]
    simp [cells3]
/-- The block holds so many elements; the first ones read as these fractions. -/
def RowN (w : World) (g n : Nat) (qs : List Rat) : Prop := ∃ ps : List Elt, ps.length = n ∧ qs.length ≤ n ∧ Blk w g 44 (flat3 ps).toArray ∧ (∀ p ∈ ps, (∃ A m c, p.2.1 = .slice A m c) ∧ ∃ A m c, p.2.2 = .slice A m c) ∧ ∀ (i : Nat) (q : Rat), qs[i]? = some q → ∃ p, ps[i]? = some p ∧ p.1 = q ∧ IsE .u64 4294967296 w p
theorem RowN.below {w w' : World} {g n : Nat} {qs : List Rat} (h : RowN w g n qs) (hb : Below w.heap.size w w') : RowN w' g n qs := by
 obtain ⟨ps, h1, h2, h3, h4, h5⟩ := h
 refine ⟨ps, h1, h2, h3.below hb, h4, fun i q hq => ?_⟩
 obtain ⟨p, k1, k2, k3⟩ := h5 i q hq
 exact ⟨p, k1, k2, k3.below hb⟩
theorem RowN.lt {w : World} {g n : Nat} {qs : List Rat} (h : RowN w g n qs) : g < w.heap.size := by
 obtain ⟨ps, _, _, h3, _⟩ := h
 exact h3.lt
/-- Another variable, without ints, is set. -/
theorem RowN.offb {w w' : World} {g g2 n : Nat} {qs : List Rat} {e : TypeId} {cs : Array Value} (h : RowN w g n qs) (hB : w.heap[g2]? = some (.cells cs e (0, 0))) (hno : ∀ c ∈ cs, ∀ n, c ≠ .int .u64 n) (hg : w.grownBy w' (some g2)) (hne : g ≠ g2) : RowN w' g n qs := by
 obtain ⟨ps, h1, h2, h3, h4, h5⟩ := h
 refine ⟨ps, h1, h2, h3.grown hg hne, h4, fun i q hq => ?_⟩
 obtain ⟨p, k1, k2, k3⟩ := h5 i q hq
 exact ⟨p, k1, k2, Go.Proofs.YtmpalajamfiiiaaGreat.flow.off k3.1 hB hno hg, Go.Proofs.YtmpalajamfiiiaaGreat.flow.off k3.2 hB hno hg⟩
theorem flat3_mem {ps : List Elt} {c : Value} (h : c ∈ flat3 ps) : ∃ p ∈ ps, c ∈ cells3 p := List.mem_flatMap.1 h
theorem no_ints_flat {k : IntKind} {ps : List Elt} (h4 : ∀ p ∈ ps, (∃ A m c, p.2.1 = .slice A m c) ∧ ∃ A m c, p.2.2 = .slice A m c) : ∀ c ∈ (flat3 ps).toArray, ∀ n, c ≠ .int k n := by
 intro c hc n
 obtain ⟨p, hp, hc⟩ := flat3_mem (List.mem_toArray.1 hc)
 obtain ⟨⟨A, m, d, e1⟩, ⟨A', m', d', e2⟩⟩ := h4 p hp
 simp only [cells3, e1, e2, List.mem_cons, List.not_mem_nil, or_false] at hc
 rcases hc with rfl | rfl | rfl <;> simp
/-- A list of limbs is kept where the row is written. -/
theorem RowN.keep {w w' : World} {g n : Nat} {qs : List Rat} {k : IntKind} {v : Value} {l : List Nat} (h : RowN w g n qs) (hg : w.grownBy w' (some g)) (hs : IsS w k v l) : IsS w' k v l := by
 obtain ⟨ps, _, _, h3, h4, _⟩ := h
 exact Go.Proofs.YtmpalajamfiiiaaGreat.flow.off hs h3 (no_ints_flat h4) hg
/-- A full row is a slice of these fractions. -/
theorem RowN.sl {w : World} {g n : Nat} {qs : List Rat} (h : RowN w g n qs) (hn : qs.length = n) (hm : n ≤ 1000000000) : SlF .u64 4294967296 w (.slice (some ⟨g, 0, none⟩) n n) qs := by
  obtain ⟨ps, h1, h2, h3, h4, h5⟩ := h
  have key : ∀ (i : Nat) (p : Elt), ps[i]? = some p → qs[i]? = some p.1 ∧ IsE .u64 4294967296 w p := by
    intro i p hp
    have hi := (List.getElem?_eq_some_iff.1 hp).1
    have hq : qs[i]? = some (qs[i]'(by omega)) := List.getElem?_eq_getElem (by omega)
    obtain ⟨p', k1, k2, k3⟩ := h5 i _ hq
    rw [hp] at k1
    injection k1 with k1
    subst k1
    exact ⟨by rw [hq, k2], k3⟩
  refine ⟨ps, ?_, ⟨some ⟨g, 0, none⟩, n, by rw [h1], by omega, by unfold maxLen; omega, fun i p hp => ⟨g, 0, rfl, ?_⟩⟩, fun p hp => ?_⟩
  · refine List.ext_getElem? fun i => ?_
    rw [List.getElem?_map]
    cases hp : ps[i]? with
    | none =>
      have : ps.length ≤ i := List.getElem?_eq_none_iff.1 hp
      rw [List.getElem?_eq_none (by omega)]; rfl
    | some p => rw [(key i p hp).1]; rfl
  · obtain ⟨f0, f1, f2⟩ := flat3_at ps i p hp
    rw [Nat.zero_add]
    refine ⟨?_, ?_, ?_⟩
    · rw [h3.cell, List.getElem?_toArray]; exact f0
    · rw [h3.cell, List.getElem?_toArray]; exact f1
    · rw [h3.cell, List.getElem?_toArray]; exact f2
  · obtain ⟨i, hi⟩ := List.mem_iff_getElem?.1 hp
    exact (key i p hi).2
/-- A row that 'make' made. -/
theorem rowN_made {w : World} {g n : Nat} (h : Blk w g 44 (flat3 (List.replicate n ((0, .slice none 0 0, .slice none 0 0) : Elt))).toArray) : RowN w g n [] :=
 ⟨_, List.length_replicate, Nat.zero_le _, h, fun p hp => by obtain rfl := (List.mem_replicate.1 hp).2; exact ⟨⟨_, _, _, rfl⟩, ⟨_, _, _, rfl⟩⟩, fun i q hq => by simp at hq⟩
theorem made3 (n : Nat) : (madeCells #[.bool false, .slice none 0 0, .slice none 0 0] (n * 3)).toList = flat3 (List.replicate n ((0, .slice none 0 0, .slice none 0 0) : Elt)) := by
  have key : ∀ n j : Nat, (flat3 (List.replicate n ((0, .slice none 0 0, .slice none 0 0) : Elt)))[j]? = if j < n * 3 then some ((#[.bool false, .slice none 0 0, .slice none 0 0] : Array Value)[j % 3]?.getD undef) else none := by
    intro n
    induction n with
    | zero => intro j; simp [flat3]
    | succ n ih =>
      intro j
      rw [List.replicate_succ, flat3_cons]
      match j with
      | 0 => simp [cells3, ngB]
      | 1 => simp [cells3]; omega
      | 2 => simp [cells3]; omega
      | j + 3 =>
        have e : (cells3 ((0, .slice none 0 0, .slice none 0 0) : Elt) ++ flat3 (List.replicate n ((0, .slice none 0 0, .slice none 0 0) : Elt)))[j + 3]? = (flat3 (List.replicate n ((0, .slice none 0 0, .slice none 0 0) : Elt)))[j]? := by simp [cells3]
        rw [e, ih j]
        have h1 : (j + 3) % 3 = j % 3 := by omega
        rw [h1]
        by_cases h : j < n * 3
        · rw [if_pos h, if_pos (by omega)]
        · rw [if_neg h, if_neg (by omega)]
  apply List.ext_getElem?
  intro j
  rw [key n j]
  have h3 : j % 3 < 3 := Nat.mod_lt _ (by omega)
  by_cases h : j < n * 3
  · rw [if_pos h]
    rcases (by omega : j % 3 = 0 ∨ j % 3 = 1 ∨ j % 3 = 2) with e | e | e <;> simp [madeCells, h, e]
  · rw [if_neg h]
    simp [madeCells, h]
section
variable {P : Program}
theorem run_make_q {w : World} {t : TypeId} (ht : P.underlying t = some (.slice 44)) (hI : ∃ i, P.info? 44 = some i ∧ i.zero = some (.agg #[.bool false, .slice none 0 0, .slice none 0 0]) ∧ i.size = 3 ∧ i.bytes = 56) (n : Nat) (hn : n ≤ 1000000000) :
  ∃ w', (Instr.makeSlice t (.int .i64 (n : Int)) (.int .i64 (n : Int))).run P w = .ok (.slice (some ⟨w.heap.size, 0, none⟩) n n) w' ∧ RowN w' w.heap.size n [] ∧ Below w.heap.size w w' := by
 obtain ⟨i, hi, hz, hs, hb⟩ := hI
 obtain ⟨w', h1, h2, h3⟩ := run_make_full (P := P) w w.heap.size t 44 i _ 3 ht hi hz hs .i64 .i64 n (by rw [hb]; omega) (by unfold maxLen; omega) (Nat.le_refl _)
 refine ⟨w', h1, rowN_made ?_, (Below.refl _ w).grown h3 (Nat.le_refl _) (fun g hg => by cases hg)⟩
 obtain ⟨hl, h2⟩ := h2
 rcases h2 with ⟨h4, _⟩ | ⟨g, cap, cur, h4, _, h5, _, _, h6, h7⟩
 ·cases h4
 ·injection h4 with h4 _ h8
  injection h4 with h4
  injection h4 with h4 _ _
  subst h4; subst h8
  rw [List.take_of_length_le (by simp [h6])] at h7
  have e : cur = (flat3 (List.replicate n ((0, .slice none 0 0, .slice none 0 0) : Elt))).toArray := by
   rw [← made3]
   rw [show (Value.agg #[.bool false, .slice none 0 0, .slice none 0 0]).cells = #[.bool false, .slice none 0 0, .slice none 0 0] from rfl] at h7
   rw [← h7]
  rw [← e]
  exact h5
theorem wpList_make_q {w : World} {ops : Array Oper} {rest : List Oper} {o : Oper} {a : Act} {Q : Exit → Act → World → Prop} (hgd : o.guard = none) (lo co : Operand) {t : TypeId} (ho : o.op = Op.makeSlice t lo co)
  (ht : P.underlying t = some (.slice 44)) (hI : ∃ i, P.info? 44 = some i ∧ i.zero = some (.agg #[.bool false, .slice none 0 0, .slice none 0 0]) ∧ i.size = 3 ∧ i.bytes = 56) (n : Nat) (hl : a.eval lo = .int .i64 (n : Int)) (hc : a.eval co = .int .i64 (n : Int)) (hn : n ≤ 1000000000)
  (h : ∀ w', RowN w' w.heap.size n [] → Below w.heap.size w w' → wpList P ops Q rest (a.put o.dst (.slice (some ⟨w.heap.size, 0, none⟩) n n)) w') : wpList P ops Q (o :: rest) a w := by
 obtain ⟨w', h1, h2, h3⟩ := run_make_q (P := P) (w := w) ht hI n hn
 refine wpList_plain hgd fun K hK => ?_
 unfold Oper.wp execOp
 simp only [ho, hl, hc, Sem.run_bind, h1, Result.andThen_ok]
 exact hK _ _ (h w' h2 h3)
/-- The row is written at one place. -/
theorem RowN.put {w w' : World} {g n i : Nat} {qs : List Rat} {q : Rat} {u t : Value} (h : RowN w g n qs) (hi : i < n) (hu : IsS w .u64 u (digs 4294967296 q.num.natAbs)) (ht : IsS w .u64 t (digs 4294967296 q.den)) (hg : w.grownBy w' (some g)) (hc : ∀ cs, Blk w g 44 cs → Blk w' g 44 (cs.toList.take (0 + i * 3) ++ [.bool (ngB q.num), u, t] ++ cs.toList.drop (0 + i * 3 + 3)).toArray) : (i = qs.length → RowN w' g n (qs ++ [q])) ∧ (i < qs.length → RowN w' g n (qs.set i q)) := by
 have keep := fun {k v l} => h.keep (k := k) (v := v) (l := l) hg
 obtain ⟨ps, h1, h2, h3, h4, h5⟩ := h
 have hB : Blk w' g 44 (flat3 (ps.set i (q, u, t))).toArray := by
  have h6 := hc _ h3
  rw [Nat.zero_add, List.toList_toArray] at h6
  rw [← flat3_set ps i (q, u, t) (by omega)]
  exact h6
 have hS : ∀ p ∈ ps.set i (q, u, t), (∃ A m c, p.2.1 = .slice A m c) ∧ ∃ A m c, p.2.2 = .slice A m c := by
  intro p hp
  rcases List.mem_or_eq_of_mem_set hp with hp | rfl
  ·exact h4 p hp
  ·obtain ⟨A, c, e1, _⟩ := hu
   obtain ⟨D, d, e2, _⟩ := ht
   exact ⟨⟨_, _, _, e1⟩, ⟨_, _, _, e2⟩⟩
 have hE : IsE .u64 4294967296 w' ((q, u, t) : Elt) := ⟨keep hu, keep ht⟩
 have old : ∀ (j : Nat) (x : Rat), j ≠ i → qs[j]? = some x → ∃ p, (ps.set i (q, u, t))[j]? = some p ∧ p.1 = x ∧ IsE .u64 4294967296 w' p := by
  intro j x hj hx
  obtain ⟨p, k1, k2, k3⟩ := h5 j x hx
  exact ⟨p, by rw [List.getElem?_set_ne (fun e => hj e.symm)]; exact k1, k2, keep k3.1, keep k3.2⟩
 have new : (ps.set i (q, u, t))[i]? = some ((q, u, t) : Elt) := by rw [List.getElem?_set_self (by omega)]
 constructor
 ·intro hiq
  refine ⟨ps.set i (q, u, t), by rw [List.length_set]; exact h1, by simp; omega, hB, hS, fun j x hx => ?_⟩
  by_cases hj : j = i
  ·subst hj
   rw [hiq, List.getElem?_concat_length] at hx
   injection hx with hx
   subst hx
   exact ⟨_, new, rfl, hE⟩
  ·refine old j x hj ?_
   have hl := (List.getElem?_eq_some_iff.1 hx).1
   rw [List.length_append, List.length_singleton] at hl
   rwa [List.getElem?_append_left (by omega)] at hx
 ·intro hiq
  refine ⟨ps.set i (q, u, t), by rw [List.length_set]; exact h1, by simp; omega, hB, hS, fun j x hx => ?_⟩
  by_cases hj : j = i
  ·subst hj
   rw [List.getElem?_set_self hiq] at hx
   injection hx with hx
   subst hx
   exact ⟨_, new, rfl, hE⟩
  ·rw [List.getElem?_set_ne (fun e => hj e.symm)] at hx
   exact old j x hj hx
theorem grownBy_setRow (w : World) (g : Nat) (cs : Array Value) : w.grownBy (w.setRow g cs) (some g) := ⟨rfl, rfl, rfl, by simp [World.setRow], fun k _ hk => setRow_other w g k cs (fun e => hk (by rw [e]))⟩
theorem wp_store_q {o : Oper} {a : Act} {w : World} {K : Act → World → Prop} {Q : Exit → Act → World → Prop} {ty : TypeId} {x y : Operand} {g n i : Nat} {qs : List Rat} {q : Rat} {u t : Value} (hd : o.dst = none) (hop : o.op = .store ty x y) (hx : a.eval x = .pointer (some ⟨g, 0 + i * 3, none⟩)) (hy : a.eval y = .agg #[.bool (ngB q.num), u, t])
    (hI : (P.info? ty).map (·.size) = some 3) (hR : RowN w g n qs) (hi : i < n) (hu : IsS w .u64 u (digs 4294967296 q.num.natAbs)) (ht : IsS w .u64 t (digs 4294967296 q.den))
    (h : ∀ w', w.grownBy w' (some g) → (i = qs.length → RowN w' g n (qs ++ [q])) ∧ (i < qs.length → RowN w' g n (qs.set i q)) → K a w') : o.wp P a w K Q := by
  obtain ⟨ps, h1, h2, h3, h4, h5⟩ := id hR
  have one : ∀ v ∈ [Value.bool (ngB q.num), u, t], v.oneCell' = true := by
    obtain ⟨A, c, rfl, _⟩ := id hu
    obtain ⟨D, d, rfl, _⟩ := id ht
    exact one3 rfl rfl rfl
  have hrun := run_storeCells_at (P := P) g (0 + i * 3) 44 [Value.bool (ngB q.num), u, t] 0 (flat3 ps).toArray w h3 (by simp [flat3_len]; omega) one
  rw [Nat.add_zero] at hrun
  have key : ∀ (A : Addr) (W : World), (storeCells A [Value.bool (ngB q.num), u, t] 0).run P w = .ok () W → (storeVar ty A (.agg #[.bool (ngB q.num), u, t])).run P w = .ok () W := by
    intro A W hrun
    cases hq : P.info? ty with
    | none => simp [hq] at hI
    | some inf =>
      have hsz : 3 = inf.size := by simp [hq] at hI; omega
      have e : (Value.agg #[.bool (ngB q.num), u, t]).cells = ([Value.bool (ngB q.num), u, t] : List Value).toArray := rfl
      simp [storeVar, sizeOf, typeInfo, hq, e, ← hsz, hrun]
  have hst := key _ _ hrun
  unfold Oper.wp execOp
  simp only [hop, hx, hy, Instr.storeAt, Instr.sureAddr, Sem.run_bind, Sem.run_pure, Result.andThen_ok, hst, Oper.upon_skip, hd]
  refine h _ (grownBy_setRow _ _ _) (hR.put hi hu ht (grownBy_setRow _ _ _) fun cs hcs => ?_)
  unfold Blk at hcs h3 ⊢
  rw [h3] at hcs
  injection hcs with hcs
  injection hcs with hcs
  subst hcs
  exact setRow_heap w g _ _ _ _ h3
theorem ops_store_q {Q : Exit → Act → World → Prop} {ops : Array Oper} {o : Oper} {j : Nat} {rest : List Nat} {a : Act} {w : World} {ty : TypeId} {x y : Operand} {g n i : Nat} {qs : List Rat} {q : Rat} {u t : Value} (ho : ops[j]? = some o) (hgd : o.guard = none) (hd : o.dst = none) (hop : o.op = .store ty x y) (hx : a.eval x = .pointer (some ⟨g, 0 + i * 3, none⟩)) (hy : a.eval y = .agg #[.bool (ngB q.num), u, t])
  (hI : (P.info? ty).map (·.size) = some 3) (hR : RowN w g n qs) (hi : i < n) (hu : IsS w .u64 u (digs 4294967296 q.num.natAbs)) (ht : IsS w .u64 t (digs 4294967296 q.den))
  (h : ∀ w', w.grownBy w' (some g) → (i = qs.length → RowN w' g n (qs ++ [q])) ∧ (i < qs.length → RowN w' g n (qs.set i q)) → wpOps P ops Q rest a w') : wpOps P ops Q (j :: rest) a w :=
 ops_one ho hgd (wp_store_q hd hop hx hy hI hR hi hu ht h)
theorem any_store_q {Q : Exit → Act → World → Prop} {ops : Array Oper} {o : Oper} {fuel j : Nat} {listed : Array Bool} {a : Act} {w : World} {ty : TypeId} {x y : Operand} {g n i : Nat} {qs : List Rat} {q : Rat} {u t : Value} (hr : Region.ready .any ops listed = [j]) (ho : ops[j]? = some o) (hgd : o.guard = none) (hd : o.dst = none) (hop : o.op = .store ty x y) (hx : a.eval x = .pointer (some ⟨g, 0 + i * 3, none⟩)) (hy : a.eval y = .agg #[.bool (ngB q.num), u, t])
  (hI : (P.info? ty).map (·.size) = some 3) (hR : RowN w g n qs) (hi : i < n) (hu : IsS w .u64 u (digs 4294967296 q.num.natAbs)) (ht : IsS w .u64 t (digs 4294967296 q.den))
  (h : ∀ w', w.grownBy w' (some g) → (i = qs.length → RowN w' g n (qs ++ [q])) ∧ (i < qs.length → RowN w' g n (qs.set i q)) → wpAny P .any ops Q fuel (listed.setIfInBounds j true) a w') : wpAny P .any ops Q (fuel + 1) listed a w :=
 any_one hr ho hgd (wp_store_q hd hop hx hy hI hR hi hu ht h)
end
/-! Calls through a function's value. -/
section
variable {P : Program} {Q : Exit → Act → World → Prop} {ops : Array Oper} {L : List Oper} {Φ : List Pd} {w0 : World} {a0 : Act} {i : Nat} {o : Oper}
theorem ev_func (f : FuncId) : Ev L Φ w0 a0 o (.func f) (fun _ u => u = .func (.func f) #[] #[]) := fun _ _ _ => rfl
theorem exec_callv {ρ : Operand → Value} {f : FuncId} {z : Operand} {xs : Array Operand} {at_ : Array TypeId} {w : World} (hop : o.op = .call { callee := .value z, args := xs, argTypes := at_ }) (hρ : ρ z = .func (.func f) #[] #[]) {args : Array Value} (ha : xs.map ρ = args) : (execOp ρ o).run P w = (callFunc f args).run P w := by
 subst ha
 unfold execOp
 simp [hop, resolve, hρ, Deferred.ofValue, invoke]
theorem ob_callv2 {f : FuncId} {fn : Func} {z x y : Operand} {at_ : Array TypeId} {F G : World → Value → Prop} (hop : o.op = .call { callee := .value z, args := #[x, y], argTypes := at_ }) (hz : Ev L Φ w0 a0 o z (fun _ u => u = .func (.func f) #[] #[])) (hf : P.funcs[f]? = some fn) (hB : (!(fn.name == "runtime.NumGoroutine") && fn.body.isSome) = true) (hw : Wt ops L Φ w0 a0 o true)
  (hx : Ev L Φ w0 a0 o x F) (hy : Ev L Φ w0 a0 o y G) (hc : ∀ w u v, Below w0.heap.size w0 w → F w u → G w v → Calls P f #[u, v] w (RetPd (ph Φ i) w)) : Ob P Q ops L Φ w0 a0 i o :=
 ob_enter hf hB hw (by unfold isA; rw [hop]) fun ms w hS => ⟨#[(putM a0 L ms).eval x, (putM a0 L ms).eval y], exec_callv hop (hz ms w hS) (by simp), hc w _ _ hS.below (hx ms w hS) (hy ms w hS)⟩
end
/-- A row of these, made by the call, and an error's number. -/
def RetRN (qs : List Rat) (w : World) (e : Ending) (w' : World) : Prop := ∃ g, e = .returned (.tuple #[.slice (some ⟨g, 0, none⟩) qs.length qs.length, .int .i64 0]) ∧ RowN w' g qs.length qs ∧ w.heap.size ≤ g ∧ Below w.heap.size w w'
/-- A row of these, made by the call. -/
def prn (n : Nat) (qs : List Rat) (B : Nat) : Pd := ⟨fun w t => ∃ g, t = .tuple #[.slice (some ⟨g, 0, none⟩) n n, .int .i64 0] ∧ RowN w g n qs ∧ B ≤ g, fun h hb => by obtain ⟨g, e, h1, h2⟩ := h; exact ⟨g, e, h1.below hb, h2⟩⟩
def pro (n : Nat) (qs : List Rat) (B : Nat) : Pd := ⟨fun w v => ∃ g, v = .slice (some ⟨g, 0, none⟩) n n ∧ RowN w g n qs ∧ B ≤ g, fun h hb => by obtain ⟨g, e, h1, h2⟩ := h; exact ⟨g, e, h1.below hb, h2⟩⟩
theorem RetRN.pd {n : Nat} {qs : List Rat} {w : World} {e : Ending} {w' : World} {B : Nat} (h : RetRN qs w e w') (hn : qs.length = n) (hB : B ≤ w.heap.size) : RetPd (prn n qs B) w e w' := by
 obtain ⟨g, h1, h2, h3, h4⟩ := h
 rw [hn] at h1 h2
 exact ⟨_, h1, ⟨g, rfl, h2, Nat.le_trans hB h3⟩, h4⟩
section
variable {P : Program} {Q : Exit → Act → World → Prop} {ops : Array Oper} {L : List Oper} {Φ : List Pd} {w0 : World} {a0 : Act} {i : Nat} {o : Oper}
theorem ob_make_q {t : TypeId} {x y : Operand} (n : Nat) (hop : o.op = .makeSlice t x y) (hg : o.guard = none) (hx : Ev L Φ w0 a0 o x (fun _ u => u = .int .i64 (n : Int))) (hy : Ev L Φ w0 a0 o y (fun _ u => u = .int .i64 (n : Int))) (ht : P.underlying t = some (.slice 44)) (hI : ∃ i, P.info? 44 = some i ∧ i.zero = some (.agg #[.bool false, .slice none 0 0, .slice none 0 0]) ∧ i.size = 3 ∧ i.bytes = 56) (hn : n ≤ 1000000000)
  (hP : ∀ w v, (pro n [] w0.heap.size).p w v → (ph Φ i).p w v) : Ob P Q ops L Φ w0 a0 i o := by
 intro ms w hS
 rw [if_pos (wt_none (ops := ops) (L := L) (Φ := Φ) (w0 := w0) (a0 := a0) hg ms w hS)]
 obtain ⟨w', h1, h2, h3⟩ := run_make_q (P := P) (w := w) ht hI n hn
 have hr : (execOp (putM a0 L ms).eval o).run P w = .ok (.value (.slice (some ⟨w.heap.size, 0, none⟩) n n)) w' := by
  unfold execOp
  simp only [hop, hx ms w hS, hy ms w hS, Sem.run_bind, h1, Result.andThen_ok]
  rfl
 unfold Oper.wp
 rw [hr]
 exact ⟨_, rfl, h3, hP _ _ ⟨_, rfl, h2, hS.below.size⟩, fun h => by unfold isA at h; rw [hop] at h; cases h⟩
end
theorem addr_zero (g i : Nat) : (⟨g, 0, none⟩ : Addr).add i = ⟨g, i, none⟩ := by
 unfold Addr.add
 by_cases h : i = 0
 ·simp [h]
 ·simp [h]
/-- Block g is a table of slices, at its full length. -/
def TabB (w : World) (g : Nat) (TS : TypeId) (us : List Value) : Prop := Blk w g TS us.toArray ∧ ∀ u ∈ us, ∃ A n c, u = .slice A n c
theorem TabB.below {w w' : World} {g : Nat} {TS : TypeId} {us : List Value} (h : TabB w g TS us) (hb : Below w.heap.size w w') : TabB w' g TS us := ⟨h.1.below hb, h.2⟩
theorem TabB.lt {w : World} {g : Nat} {TS : TypeId} {us : List Value} (h : TabB w g TS us) : g < w.heap.size := h.1.lt
theorem TabB.cell {w : World} {g : Nat} {TS : TypeId} {us : List Value} (h : TabB w g TS us) {i : Nat} {u : Value} (hu : us[i]? = some u) : w.cell? ((⟨g, 0, none⟩ : Addr).add i) = some u := by
 rw [addr_zero, h.1.cell, List.getElem?_toArray]; exact hu
theorem TabB.keep {w w' : World} {g : Nat} {TS : TypeId} {us : List Value} {k : IntKind} {v : Value} {l : List Nat} (h : TabB w g TS us) (hg : w.grownBy w' (some g)) (hs : IsS w k v l) : IsS w' k v l :=
 Go.Proofs.YtmpalajamfiiiaaGreat.flow.off hs h.1 (fun c hc n e => by
  obtain ⟨A, m, d, e1⟩ := h.2 c (List.mem_toArray.1 hc)
  rw [e1] at e
  cases e) hg
theorem TabB.keepF {w w' : World} {g : Nat} {TS : TypeId} {us : List Value} {k : IntKind} {B : Nat} {v : Value} {r : List Rat} (h : TabB w g TS us) (hg : w.grownBy w' (some g)) (hs : SlF k B w v r) : SlF k B w' v r := by
 obtain ⟨ps, h1, ⟨A, c, e, h2, h3, h4⟩, h5⟩ := hs
 refine ⟨ps, h1, ⟨A, c, e, h2, h3, fun i p hp => ?_⟩, fun p hp => ⟨h.keep hg (h5 p hp).1, h.keep hg (h5 p hp).2⟩⟩
 obtain ⟨g', o, e2, c0, c1, c2⟩ := h4 i p hp
 have hne : some g' ≠ some g := by
  intro e3
  injection e3 with e3
  subst e3
  rw [h.1.cell, List.getElem?_toArray] at c0
  obtain ⟨A', m, d, e4⟩ := h.2 _ (List.mem_of_getElem? c0)
  cases e4
 exact ⟨g', o, e2, hg.cell c0 hne, hg.cell c1 hne, hg.cell c2 hne⟩
theorem TabB.put {w w' : World} {g i : Nat} {TS : TypeId} {us : List Value} {u : Value} (h : TabB w g TS us) (hB : w'.heap[g]? = some (.cells (us.toArray.setIfInBounds i u) TS (0, 0))) (hu : ∃ A n c, u = .slice A n c) : TabB w' g TS (us.set i u) := by
 refine ⟨by unfold Blk; rw [hB]; simp, fun v hv => ?_⟩
 rcases List.mem_or_eq_of_mem_set hv with hv | rfl
 ·exact h.2 v hv
 ·exact hu
theorem TabB.grown {w w' : World} {g : Nat} {TS : TypeId} {us : List Value} {row : Option Nat} (h : TabB w g TS us) (hg : w.grownBy w' row) (hne : row ≠ some g) : TabB w' g TS us :=
 ⟨(hg.block g h.1.lt (fun e => hne e.symm)).trans h.1, h.2⟩
/-- A table whose rows read as these. -/
def TabS (k : IntKind) (B : Nat) (w : World) (g : Nat) (TS : TypeId) (us : List Value) (t : List (List Rat)) : Prop := TabB w g TS us ∧ us.length = t.length ∧ ∀ (i : Nat) (u : Value) (r : List Rat), us[i]? = some u → t[i]? = some r → SlF k B w u r
theorem TabS.below {k : IntKind} {B : Nat} {w w' : World} {g : Nat} {TS : TypeId} {us : List Value} {t : List (List Rat)} (h : TabS k B w g TS us t) (hb : Below w.heap.size w w') : TabS k B w' g TS us t := ⟨h.1.below hb, h.2.1, fun i u r hu hr => (h.2.2 i u r hu hr).below hb⟩
theorem TabS.drew {k : IntKind} {B : Nat} {w : World} {g : Nat} {TS : TypeId} {us : List Value} {t : List (List Rat)} (h : TabS k B w g TS us t) : TabS k B w.drew g TS us t := h.below (Below.refl _ w).drew
theorem TabS.lt {k : IntKind} {B : Nat} {w : World} {g : Nat} {TS : TypeId} {us : List Value} {t : List (List Rat)} (h : TabS k B w g TS us t) : g < w.heap.size := h.1.lt
theorem TabS.put {k : IntKind} {B : Nat} {w w' : World} {g i : Nat} {TS : TypeId} {us : List Value} {t : List (List Rat)} {u : Value} {r : List Rat} (h : TabS k B w g TS us t) (hg : w.grownBy w' (some g)) (hB : w'.heap[g]? = some (.cells (us.toArray.setIfInBounds i u) TS (0, 0))) (hu : SlF k B w u r) : TabS k B w' g TS (us.set i u) (t.set i r) := by
 obtain ⟨A, c, eu, _⟩ := hu.shape
 refine ⟨h.1.put hB ⟨_, _, _, eu⟩, by rw [List.length_set, List.length_set]; exact h.2.1, fun j x y hx hy => ?_⟩
 by_cases hj : i = j
 ·subst hj
  have hi : i < us.length := by have := (List.getElem?_eq_some_iff.1 hx).1; rwa [List.length_set] at this
  rw [List.getElem?_set_self hi] at hx
  rw [List.getElem?_set_self (by rw [← h.2.1]; exact hi)] at hy
  injection hx with hx
  injection hy with hy
  subst hx; subst hy
  exact h.1.keepF hg hu
 ·rw [List.getElem?_set_ne hj] at hx hy
  exact h.1.keepF hg (h.2.2 j x y hx hy)
theorem TabS.slT {k : IntKind} {B : Nat} {w : World} {g n : Nat} {TS : TypeId} {us : List Value} {t : List (List Rat)} (h : TabS k B w g TS us t) (hn : t.length = n) (hm : n ≤ 1000000000) : SlT k B w (.slice (some ⟨g, 0, none⟩) n n) t :=
 ⟨us, h.2.1, ⟨some ⟨g, 0, none⟩, n, by rw [h.2.1, hn], by rw [h.2.1, hn]; exact Nat.le_refl _, by unfold maxLen; omega, fun i u hu => ⟨_, rfl, h.1.cell hu⟩⟩, h.2.2⟩
section
variable {P : Program}
theorem run_make_v {w : World} {t TS : TypeId} (ht : P.underlying t = some (.slice TS)) (hI : ∃ i, P.info? TS = some i ∧ i.zero = some (.slice none 0 0) ∧ i.size = 1 ∧ i.bytes = 24) (n : Nat) (hn : n ≤ 1000000000) :
  ∃ w', (Instr.makeSlice t (.int .i64 (n : Int)) (.int .i64 (n : Int))).run P w = .ok (.slice (some ⟨w.heap.size, 0, none⟩) n n) w' ∧ TabB w' w.heap.size TS (List.replicate n (.slice none 0 0)) ∧ Below w.heap.size w w' := by
 obtain ⟨i, hi, hz, hs, hb⟩ := hI
 obtain ⟨w', h1, h2, h3⟩ := run_make_full (P := P) w w.heap.size t TS i _ 1 ht hi hz hs .i64 .i64 n (by rw [hb]; omega) (by unfold maxLen; omega) (Nat.le_refl _)
 refine ⟨w', h1, ⟨?_, fun u hu => ⟨_, _, _, (List.mem_replicate.1 hu).2⟩⟩, (Below.refl _ w).grown h3 (Nat.le_refl _) (fun g hg => by cases hg)⟩
 obtain ⟨hl, h2⟩ := h2
 rcases h2 with ⟨h4, _⟩ | ⟨g, cap, cur, h4, _, h5, _, _, h6, h7⟩
 ·cases h4
 ·injection h4 with h4 _ h8
  injection h4 with h4
  injection h4 with h4 _ _
  subst h4; subst h8
  rw [List.take_of_length_le (by simp [h6])] at h7
  have e : cur = (List.replicate n (Value.slice none 0 0)).toArray := by
   have e1 : (madeCells (Value.slice none 0 0).cells (n * 1)).toList = List.replicate n (.slice none 0 0) := by rw [Nat.mul_one]; exact toList_madeCells_one _ _
   rw [← e1, ← h7]
  rw [← e]
  exact h5
end
end Go.Proofs.YtmpalajamfiiiaaGreat.rat
namespace Go.Proofs.YtmpalajamfiiiaaGreat.flow
open Go.RowKit Go.Proofs.YtmpalajamfiiiaaGreat.num Go.Proofs.YtmpalajamfiiiaaGreat.mem Go.Proofs.YtmpalajamfiiiaaGreat.whl Go.Proofs.YtmpalajamfiiiaaGreat.rat
set_option linter.unusedVariables false
/-- A table of rows that have no places yet, made by the call. -/
def pbar (n : Nat) (TS : TypeId) (B : Nat) : Pd := ⟨fun w v => ∃ g, v = .slice (some ⟨g, 0, none⟩) n n ∧ TabB w g TS (List.replicate n (.slice none 0 0)) ∧ B ≤ g, fun h hb => by obtain ⟨g, e, h1, h2⟩ := h; exact ⟨g, e, h1.below hb, h2⟩⟩
section
variable {P : Program} {Q : Exit → Act → World → Prop} {ops : Array Oper} {L : List Oper} {Φ : List Pd} {w0 : World} {a0 : Act} {i : Nat} {o : Oper}
theorem ob_make_v {t TS : TypeId} {x y : Operand} (n : Nat) (hop : o.op = .makeSlice t x y) (hg : o.guard = none) (hx : Ev L Φ w0 a0 o x (fun _ u => u = .int .i64 (n : Int))) (hy : Ev L Φ w0 a0 o y (fun _ u => u = .int .i64 (n : Int))) (ht : P.underlying t = some (.slice TS)) (hI : ∃ i, P.info? TS = some i ∧ i.zero = some (.slice none 0 0) ∧ i.size = 1 ∧ i.bytes = 24) (hn : n ≤ 1000000000)
  (hP : ∀ w v, (pbar n TS w0.heap.size).p w v → (ph Φ i).p w v) : Ob P Q ops L Φ w0 a0 i o := by
 intro ms w hS
 rw [if_pos (wt_none (ops := ops) (L := L) (Φ := Φ) (w0 := w0) (a0 := a0) hg ms w hS)]
 obtain ⟨w', h1, h2, h3⟩ := run_make_v (P := P) (w := w) ht hI n hn
 have hr : (execOp (putM a0 L ms).eval o).run P w = .ok (.value (.slice (some ⟨w.heap.size, 0, none⟩) n n)) w' := by
  unfold execOp
  simp only [hop, hx ms w hS, hy ms w hS, Sem.run_bind, h1, Result.andThen_ok]
  rfl
 unfold Oper.wp
 rw [hr]
 exact ⟨_, rfl, h3, hP _ _ ⟨_, rfl, h2, hS.below.size⟩, fun h => by unfold isA at h; rw [hop] at h; cases h⟩
end
end Go.Proofs.YtmpalajamfiiiaaGreat.flow
namespace Go.Proofs.YtmpalajamfiiiaaGreat.rat
open Go.RowKit Go.Proofs.YtmpalajamfiiiaaGreat.num Go.Proofs.YtmpalajamfiiiaaGreat.mem Go.Proofs.YtmpalajamfiiiaaGreat.nat Go.Proofs.YtmpalajamfiiiaaGreat.txt Go.Proofs.YtmpalajamfiiiaaGreat.str Go.Proofs.YtmpalajamfiiiaaGreat.flow Go.Proofs.YtmpalajamfiiiaaGreat.whl
set_option linter.unusedVariables false
/-- A table whose rows the call owns, each in a block of its own; their elements' limbs lie elsewhere than all rows, and than the table. -/
structure TabO (k : IntKind) (B : Nat) (T : TypeId) (w : World) (base : Nat) (TS : TypeId) (V : Value) (us : List Value) (pss : List (List Elt)) : Prop where
 row : RowV w base TS V us
 len : us.length = pss.length
 own : ∀ (i : Nat) (u : Value) (ps : List Elt), us[i]? = some u → pss[i]? = some ps → RowF T w base u ps
 far : ∀ u ∈ us, ∀ ps ∈ pss, FarF k B w u ps
 farV : ∀ ps ∈ pss, FarF k B w V ps
 apart : ∀ (i j : Nat) (u v : Value), i ≠ j → us[i]? = some u → us[j]? = some v → ∀ h, u.ownBlock = some h → v.ownBlock ≠ some h
theorem TabO.below {k : IntKind} {B : Nat} {T : TypeId} {w w' : World} {base : Nat} {TS : TypeId} {V : Value} {us : List Value} {pss : List (List Elt)} (h : TabO k B T w base TS V us pss) (hb : Below w.heap.size w w') : TabO k B T w' base TS V us pss :=
 ⟨h.row.below hb, h.len, fun i u ps hu hp => (h.own i u ps hu hp).below hb, fun u hu ps hp => (h.far u hu ps hp).below hb, fun ps hp => (h.farV ps hp).below hb, h.apart⟩
/-- The rows as fractions. -/
def valq (pss : List (List Elt)) : List (List Rat) := pss.map fun ps => ps.map (·.1)
theorem TabO.slT {k : IntKind} {B : Nat} {T : TypeId} {w : World} {base : Nat} {TS : TypeId} {V : Value} {us : List Value} {pss : List (List Elt)} (h : TabO k B T w base TS V us pss) : SlT k B w V (valq pss) := by
  refine ⟨us, by rw [valq, List.length_map]; exact h.len, ?_, fun i u r hu hr => ?_⟩
  · rcases h.row.2 with ⟨rfl, h0⟩ | ⟨g, cap, cur, rfl, _, hg, hn, hm, _, _⟩
    · obtain rfl : us = [] := List.length_eq_zero_iff.1 h0
      exact ⟨none, 0, rfl, by simp, by unfold maxLen; omega, fun i u hu => by simp at hu⟩
    · exact ⟨_, cap, rfl, hn, hm, fun i u hu => ⟨_, rfl, World.ownsRow.cells h.row (g := g) rfl i u hu⟩⟩
  rw [valq, List.getElem?_map] at hr
  cases hp : pss[i]? with
  | none => rw [hp] at hr; cases hr
  | some ps =>
    rw [hp] at hr
    obtain rfl : ps.map (·.1) = r := by simpa using hr
    exact (h.own i u ps hu hp).sl (h.far u (List.mem_of_getElem? hu) ps (List.mem_of_getElem? hp))
theorem TabB.rowV {w : World} {base g n : Nat} {TS : TypeId} {us : List Value} (h : TabB w g TS us) (hn : us.length = n) (hb : base ≤ g) (hm : n ≤ 1000000000) : RowV w base TS (.slice (some ⟨g, 0, none⟩) n n) us := by
 unfold RowV
 rw [hn]
 exact ⟨by simp [hn], .inr ⟨g, n, us.toArray, rfl, hb, h.1, Nat.le_refl _, by unfold maxLen; omega, by simp [hn], by simp [← hn]⟩⟩
theorem TabB.owned {k : IntKind} {B : Nat} {T : TypeId} {w : World} {base g n : Nat} {TS : TypeId} (h : TabB w g TS (List.replicate n (.slice none 0 0))) (hb : base ≤ g) (hm : n ≤ 1000000000) : TabO k B T w base TS (.slice (some ⟨g, 0, none⟩) n n) (List.replicate n (.slice none 0 0)) (List.replicate n []) := by
 have key : ∀ u ∈ List.replicate n (Value.slice none 0 0), u = .slice none 0 0 := fun u hu => (List.mem_replicate.1 hu).2
 refine ⟨h.rowV (by simp) hb hm, by simp, fun i u ps hu hp => ?_, fun u hu ps hp => ?_, fun ps hp => ?_, fun i j u v _ hu hv q hq => ?_⟩
 ·have h1 := key u (List.mem_of_getElem? hu)
  have h2 := (List.mem_replicate.1 (List.mem_of_getElem? hp)).2
  subst h1; subst h2
  exact rowF_nil _ _ _
 ·rw [(List.mem_replicate.1 hp).2]
  exact FarF.nil _ _ _ _
 ·rw [(List.mem_replicate.1 hp).2]
  exact FarF.nil _ _ _ _
 ·rw [key u (List.mem_of_getElem? hu)] at hq
  cases hq
theorem RowF.notRow {T TS : TypeId} {w : World} {base base' : Nat} {v V : Value} {ps : List Elt} {us : List Value} (h : RowF T w base v ps) (hV : RowV w base' TS V us) (hne : T ≠ TS) : ∀ g, v.ownBlock = some g → V.ownBlock ≠ some g := by
 intro g e e2
 rcases h.2 with ⟨rfl, _⟩ | ⟨g', cap, cur, rfl, _, hg, _⟩
 ·cases e
 ·rcases hV.2 with ⟨rfl, _⟩ | ⟨g2, cap2, cur2, rfl, _, hg2, _⟩
  ·cases e2
  ·have e1 : g' = g := by simpa [Value.ownBlock] using e
   have e3 : g2 = g := by simpa [Value.ownBlock] using e2
   subst e1; subst e3
   rw [hg] at hg2
   injection hg2 with hg2
   injection hg2 with _ hg2
   exact hne hg2
theorem mem_set_at {α : Type} {l : List α} {i j : Nat} {a x : α} (h : (l.set i a)[j]? = some x) : (i = j ∧ x = a) ∨ (i ≠ j ∧ l[j]? = some x) := by
 by_cases e : i = j
 ·subst e
  have hi : i < l.length := by have := (List.getElem?_eq_some_iff.1 h).1; rwa [List.length_set] at this
  rw [List.getElem?_set_self hi] at h
  injection h with h
  exact .inl ⟨rfl, h.symm⟩
 ·rw [List.getElem?_set_ne e] at h
  exact .inr ⟨e, h⟩
/-- A row grows: the table stands as it was, but for that row. -/
theorem TabO.put {k : IntKind} {B : Nat} {T : TypeId} {w w1 : World} {base g n c i : Nat} {TS : TypeId} {us : List Value} {pss : List (List Elt)} {u u' : Value} {ps new : List Elt} (hT : T ≠ TS) (h : TabO k B T w base TS (.slice (some ⟨g, 0, none⟩) n c) us pss) (hu : us[i]? = some u) (hps : pss[i]? = some ps) (hrow : RowF T w1 base u' (ps ++ new)) (hgr : Grew w w1 u u') (hnew : FarF k B w1 u' new) (hfar : ∀ v ∈ us, ∀ p ∈ new, Far v p.2.1 ∧ Far v p.2.2) (hfarV : ∀ p ∈ new, Far (.slice (some ⟨g, 0, none⟩) n c) p.2.1 ∧ Far (.slice (some ⟨g, 0, none⟩) n c) p.2.2) :
  TabO k B T (w1.setCell ⟨g, i, none⟩ u') base TS (.slice (some ⟨g, 0, none⟩) n c) (us.set i u') (pss.set i (ps ++ new)) := by
 obtain ⟨k1, k2, k3⟩ := hgr
 have hui := h.own i u ps hu hps
 have hs := grown_set w1 g i u'
 have hV : Value.ownBlock (.slice (some ⟨g, 0, none⟩) n c) = some g := rfl
 have hng : u.ownBlock ≠ some g := fun e => hui.notRow h.row hT g e hV
 have ht1 : RowV w1 base TS (.slice (some ⟨g, 0, none⟩) n c) us := World.ownsRow.kept (row := u.ownBlock) h.row k2 (.inr (by rw [hV]; exact fun e => hng e.symm))
 have hum := List.mem_of_getElem? hu
 have off2 : ∀ {l : List Nat} {x : Value}, IsS w1 k x l → Far (.slice (some ⟨g, 0, none⟩) n c) x → IsS (w1.setCell ⟨g, i, none⟩ u') k x l := fun a b => a.farKept b hs
 have lift : ∀ p, IsE k B w p → Far u p.2.1 → Far u p.2.2 → Far (.slice (some ⟨g, 0, none⟩) n c) p.2.1 → Far (.slice (some ⟨g, 0, none⟩) n c) p.2.2 → IsE k B (w1.setCell ⟨g, i, none⟩ u') p ∧ Far u' p.2.1 ∧ Far u' p.2.2 := fun p a b c d e => by
  have x1 := k1 _ _ _ a.1 b
  have x2 := k1 _ _ _ a.2 c
  exact ⟨⟨off2 x1.1 d, off2 x2.1 e⟩, x1.2, x2.2⟩
 have hall : ∀ qs ∈ pss.set i (ps ++ new), ∀ p ∈ qs, IsE k B (w1.setCell ⟨g, i, none⟩ u') p ∧ (Far u' p.2.1 ∧ Far u' p.2.2) ∧ (∀ v ∈ us, Far v p.2.1 ∧ Far v p.2.2) ∧ Far (.slice (some ⟨g, 0, none⟩) n c) p.2.1 ∧ Far (.slice (some ⟨g, 0, none⟩) n c) p.2.2 := by
  intro qs hqs p hp
  have hpq : (p ∈ new) ∨ ∃ qs' ∈ pss, p ∈ qs' := by
   rcases List.mem_or_eq_of_mem_set hqs with hqs | rfl
   ·exact .inr ⟨qs, hqs, hp⟩
   ·rcases List.mem_append.1 hp with hp | hp
    ·exact .inr ⟨ps, List.mem_of_getElem? hps, hp⟩
    ·exact .inl hp
  rcases hpq with hp | ⟨qs', hq', hp⟩
  ·obtain ⟨e1, f1, f2⟩ := hnew p hp
   have fV := hfarV p hp
   exact ⟨⟨off2 e1.1 fV.1, off2 e1.2 fV.2⟩, ⟨f1, f2⟩, fun v hv => hfar v hv p hp, fV⟩
  ·obtain ⟨e1, f1, f2⟩ := h.far u hum qs' hq' p hp
   have fV := (h.farV qs' hq' p hp).2
   obtain ⟨e2, f3, f4⟩ := lift p e1 f1 f2 fV.1 fV.2
   exact ⟨e2, ⟨f3, f4⟩, fun v hv => (h.far v hv qs' hq' p hp).2, fV⟩
 refine ⟨ht1.stored i u', by rw [List.length_set, List.length_set]; exact h.len, fun j x y hx hy => ?_, fun v hv qs hqs p hp => ?_, fun qs hqs p hp => ⟨(hall qs hqs p hp).1, (hall qs hqs p hp).2.2.2⟩, fun a b x y hab hx hy q hq hq2 => ?_⟩
 ·rcases mem_set_at hx with ⟨rfl, rfl⟩ | ⟨hj, hx⟩
  ·rcases mem_set_at hy with ⟨_, rfl⟩ | ⟨hj, _⟩
   ·exact hrow.other hs fun q hq e => hrow.notRow ht1 hT q hq e
   ·exact absurd rfl hj
  ·rcases mem_set_at hy with ⟨e, _⟩ | ⟨_, hy⟩
   ·exact absurd e hj
   ·have r0 := h.own j x y hx hy
    have r1 := r0.other k2 fun q hq e => h.apart i j u x hj hu hx q e hq
    exact r1.other hs fun q hq e => r1.notRow ht1 hT q hq e
 ·obtain ⟨e1, f1, f2, _⟩ := hall qs hqs p hp
  refine ⟨e1, ?_⟩
  rcases List.mem_or_eq_of_mem_set hv with hv | rfl
  ·exact f2 v hv
  ·exact f1
 ·rcases mem_set_at hx with ⟨rfl, rfl⟩ | ⟨ha, hx1⟩
  ·rcases mem_set_at hy with ⟨e, _⟩ | ⟨_, hy⟩
   ·exact hab e
   ·obtain ⟨pb, hpb⟩ : ∃ pb, pss[b]? = some pb := ⟨_, List.getElem?_eq_getElem (by rw [← h.len]; exact (List.getElem?_eq_some_iff.1 hy).1)⟩
    have hlt := (h.own b y pb hy hpb).under q hq2
    exact k3 q hlt (fun e => h.apart i b u y hab hu hy q e hq2) hq
  ·rcases mem_set_at hy with ⟨rfl, rfl⟩ | ⟨hb, hy1⟩
   ·obtain ⟨pa, hpa⟩ : ∃ pa, pss[a]? = some pa := ⟨_, List.getElem?_eq_getElem (by rw [← h.len]; exact (List.getElem?_eq_some_iff.1 hx1).1)⟩
    have hlt := (h.own a x pa hx1 hpa).under q hq
    exact k3 q hlt (fun e => h.apart i a u x ha hu hx1 q e hq) hq2
   ·exact h.apart a b x y hab hx1 hy1 q hq hq2
theorem TabO.cell {k : IntKind} {B : Nat} {T : TypeId} {w : World} {base g n c : Nat} {TS : TypeId} {us : List Value} {pss : List (List Elt)} (h : TabO k B T w base TS (.slice (some ⟨g, 0, none⟩) n c) us pss) {i : Nat} {u : Value} (hu : us[i]? = some u) : w.cell? ⟨g, i, none⟩ = some u := h.row.cellAt hu
/-- Limbs in new memory (or none) lie elsewhere than all rows and the table. -/
theorem TabO.farNew {k : IntKind} {B : Nat} {T : TypeId} {w : World} {base : Nat} {TS : TypeId} {V : Value} {us : List Value} {pss : List (List Elt)} (h : TabO k B T w base TS V us pss) {x : Value} (hx : Fresh w.heap.size x) : (∀ v ∈ us, Far v x) ∧ Far V x := by
 refine ⟨fun v hv => ?_, hx.far h.row.under⟩
 obtain ⟨i, hi⟩ := List.mem_iff_getElem?.1 hv
 obtain ⟨ps, hp⟩ : ∃ ps, pss[i]? = some ps := ⟨_, List.getElem?_eq_getElem (by rw [← h.len]; exact (List.getElem?_eq_some_iff.1 hi).1)⟩
 exact hx.far (h.own i v ps hi hp).under
theorem valq_set (pss : List (List Elt)) (i : Nat) (ps : List Elt) : valq (pss.set i ps) = (valq pss).set i (ps.map (·.1)) := by rw [valq, List.map_set]; rfl
theorem valq_at {pss : List (List Elt)} {i : Nat} {ps : List Elt} (h : pss[i]? = some ps) : (valq pss)[i]? = some (ps.map (·.1)) := by rw [valq, List.getElem?_map, h]; rfl
theorem valq_len (pss : List (List Elt)) : (valq pss).length = pss.length := List.length_map _
theorem valq_nil (n : Nat) : valq (List.replicate n []) = List.replicate n [] := by rw [valq, List.map_replicate]; rfl
/-- A slice of tables. -/
def ListT (w : World) (v : Value) (ts : List (List (List Rat))) : Prop := ∃ us : List Value, us.length = ts.length ∧ IsV w v us ∧ us.length ≤ 1000000 ∧ ∀ (i : Nat) (u : Value) (t : List (List Rat)), us[i]? = some u → ts[i]? = some t → SlT .u64 4294967296 w u t
theorem ListT.below {w w' : World} {v : Value} {ts : List (List (List Rat))} (h : ListT w v ts) (hb : Below w.heap.size w w') : ListT w' v ts := by
 obtain ⟨us, h1, h2, h3, h4⟩ := h
 exact ⟨us, h1, h2.below hb, h3, fun i u t hu ht => (h4 i u t hu ht).below hb⟩
theorem ListT.shape {w : World} {v : Value} {ts : List (List (List Rat))} (h : ListT w v ts) : ∃ A c, v = .slice A ts.length c ∧ ts.length ≤ c := by
 obtain ⟨us, h1, ⟨A, c, e, h2, _⟩, _⟩ := h
 exact ⟨A, c, by rw [e, h1], by omega⟩
theorem ListT.at_ {w : World} {A : Option Addr} {n c i : Nat} {ts : List (List (List Rat))} {t : List (List Rat)} (h : ListT w (.slice A n c) ts) (hr : ts[i]? = some t) : ∃ ad Ar cr, A = some ad ∧ i < n ∧ w.cell? (ad.add i) = some (.slice Ar t.length cr) ∧ SlT .u64 4294967296 w (.slice Ar t.length cr) t := by
 obtain ⟨us, h1, ⟨A', c', e, h2, h3⟩, _, h5⟩ := h
 injection e with e1 e2 e3
 subst e1; subst e2; subst e3
 have hi : i < us.length := by have := (List.getElem?_eq_some_iff.1 hr).1; omega
 obtain ⟨ad, ha, hc⟩ := h3 i _ (List.getElem?_eq_getElem hi)
 have hs := h5 i _ t (List.getElem?_eq_getElem hi) hr
 obtain ⟨Ar, cr, e, _, _⟩ := hs.shape
 rw [e] at hc hs
 exact ⟨ad, Ar, cr, ha, hi, hc, hs⟩
theorem SlT.place {k : IntKind} {B : Nat} {w : World} {A : Option Addr} {n c : Nat} {t : List (List Rat)} (h : SlT k B w (.slice A n c) t) (hne : t ≠ []) : ∃ ad, A = some ad := by
 obtain ⟨r, hr⟩ : ∃ r, t[0]? = some r := ⟨_, List.getElem?_eq_getElem (List.length_pos_iff.2 hne)⟩
 obtain ⟨ad, _, _, e, _⟩ := h.at_ hr
 exact ⟨ad, e⟩
theorem SlT.at2 {k : IntKind} {B : Nat} {w : World} {ad : Addr} {n c i : Nat} {t : List (List Rat)} {r : List Rat} (h : SlT k B w (.slice (some ad) n c) t) (hr : t[i]? = some r) : ∃ Ar cr, i < n ∧ w.cell? (ad.add i) = some (.slice Ar r.length cr) ∧ SlF k B w (.slice Ar r.length cr) r := by
 obtain ⟨ad', Ar, cr, e, h1, h2, h3⟩ := h.at_ hr
 injection e with e
 subst e
 exact ⟨Ar, cr, h1, h2, h3⟩
theorem ListT.place {w : World} {A : Option Addr} {n c : Nat} {ts : List (List (List Rat))} (h : ListT w (.slice A n c) ts) (hne : ts ≠ []) : ∃ ad, A = some ad := by
 obtain ⟨r, hr⟩ : ∃ r, ts[0]? = some r := ⟨_, List.getElem?_eq_getElem (List.length_pos_iff.2 hne)⟩
 obtain ⟨ad, _, _, e, _⟩ := h.at_ hr
 exact ⟨ad, e⟩
theorem ListT.at2 {w : World} {ad : Addr} {n c i : Nat} {ts : List (List (List Rat))} {t : List (List Rat)} (h : ListT w (.slice (some ad) n c) ts) (hr : ts[i]? = some t) : ∃ Ar cr, i < n ∧ w.cell? (ad.add i) = some (.slice Ar t.length cr) ∧ SlT .u64 4294967296 w (.slice Ar t.length cr) t := by
 obtain ⟨ad', Ar, cr, e, h1, h2, h3⟩ := h.at_ hr
 injection e with e
 subst e
 exact ⟨Ar, cr, h1, h2, h3⟩
section
variable {P : Program} {Q : Exit → Act → World → Prop} {ops : Array Oper} {L : List Oper} {Φ : List Pd} {w0 : World} {a0 : Act} {i : Nat} {o : Oper}
end
set_option linter.unusedSimpArgs false
/-- The whole numbers 0 and 1 as fractions. -/
theorem RatV_of0 (w : World) : Calls Tryz.prog 30 #[.int .i64 0] w (RetQ (0 : Rat) w) := of8_any 0 w (by omega) (by omega)
theorem RatV_of1 (w : World) : Calls Tryz.prog 30 #[.int .i64 1] w (RetQ (1 : Rat) w) := of8_any 1 w (by omega) (by omega)
/-- A row of these, made by the call. -/
def RetRo (qs : List Rat) (w : World) (e : Ending) (w' : World) : Prop := ∃ g, e = .returned (.slice (some ⟨g, 0, none⟩) qs.length qs.length) ∧ RowN w' g qs.length qs ∧ w.heap.size ≤ g ∧ Below w.heap.size w w'
theorem RetRo.pd {n : Nat} {qs : List Rat} {w : World} {e : Ending} {w' : World} {B : Nat} (h : RetRo qs w e w') (hn : qs.length = n) (hB : B ≤ w.heap.size) : RetPd (pro n qs B) w e w' := by
 obtain ⟨g, h1, h2, h3, h4⟩ := h
 rw [hn] at h1 h2
 exact ⟨_, h1, ⟨g, rfl, h2, Nat.le_trans hB h3⟩, h4⟩
set_option maxHeartbeats 3200000 in
set_option maxRecDepth 100000 in
theorem noughts_any (n : Int) (d : Nat) (w : World) (hn : n = (d : Int)) (hd : d ≤ 200) :
  Calls Tryz.prog 117 #[.int .i64 n] w (RetRo (zerosq d) w) := by
 have bb : Below w.heap.size w w := Below.refl _ _
 subst hn
 have HZL : Hid ((zerosq d).length = d) := zerosq_len d
 go_enter Tryz.func117, Tryz.ntmps117
 go_upto_region 1 with (fail)
 have hsz0 := bb.size
 go_wp2_with (at_make; refine wpList_make_q rfl _ _ rfl Tryz.underlying64 info_rat d rfl rfl (by omega) ?_; intro wm RN hbm)
 replace bb := bb.trans (hbm.mono bb.size)
 have hsz1 := bb.size
 obtain ⟨g, hg⟩ : ∃ g, g = w.heap.size := ⟨_, rfl⟩
 rw [← hg] at RN ⊢
 have hg_ : w.heap.size ≤ g := by omega
 clear hg
 have hg := hg_
 clear hg_
 go_wp2
 go_loopw [9] (fun v9 wr => ∃ k : Nat, k ≤ d ∧ RowN wr g d ((zerosq d).take k) ∧ Below w.heap.size w wr ∧ v9 = .int .i64 (k : Int)) (fun v9 _ => d - (intOf v9).toNat)
 case atStart => exact ⟨0, by omega, RN, bb, rfl⟩
 case round =>
  obtain ⟨k, hk, hR, hbw, rfl⟩ := hrel
  clear RN bb
  have RN := hR
  have bb := hbw
  clear hR hbw
  have hszr := bb.size
  have hgl := RN.lt
  by_cases hlt : k < d
  ·have HTK : Hid ((zerosq d).take (k + 1) = (zerosq d).take k ++ [0]) := take_snoc (zerosq_at hlt)
   have HLK : Hid (k = ((zerosq d).take k).length) := by show _ = _; rw [List.length_take, HZL.out]; omega
   have sB := bb.size
   go_upto_region 5 with (fail)
   refine flowp 4 [Pd.eq (.slice (some ⟨g, 0, none⟩) d d), Pd.eq (.int .i64 (k : Int)), pq ((0 : Rat)) wr.heap.size, Pd.eq (.pointer (some ⟨g, 0 + k * 3, none⟩))] (by kernel_rfl) ?ob1 ?done1
   case ob1 =>
    refine And.intro (ob_move rfl (wt_none rfl) (ev_far rfl rfl) (fun _ _ h => h)) ?_
    refine And.intro (ob_move rfl (wt_none rfl) (ev_far rfl rfl) (fun _ _ h => h)) ?_
    refine And.intro (ob_call1 rfl Tryz.func30 (by kernel_rfl) (wt_none rfl) (ev_const _) (fun w2 u0 hb h0 => by obtain rfl := h0; exact (RatV_of0 _).mono fun e w3 h => RetQ.pd h hb.size)) ?_
    refine And.intro (ob_indexAddr rfl (wt_none rfl) (ev_dep (j := 0) (by kernel_rfl) rfl rfl) (ev_dep (j := 1) (by kernel_rfl) rfl rfl) (fun _ _ _ hx hy => ⟨_, by rw [hx, hy]; exact index3 (k := k) Tryz.underlying64 (by kernel_rfl) hlt _, rfl⟩)) ?_
    trivial
   case done1 =>
    refine fun w3 hb3 v0 h0 v1 h1 v2 h2 v3 h3 b hbf => ?_
    obtain rfl := h0; obtain rfl := h1; obtain rfl := h3
    obtain ⟨q2, f2⟩ := h2
    simp only [Act.put, List.setIfInBounds_toArray, List.set_cons_zero, List.set_cons_succ] at hbf
    subst hbf
    replace RN := RN.below hb3
    replace bb := bb.trans (hb3.mono bb.size)
    have hsz3 := bb.size
    have s_2 := sB
    obtain ⟨u2, t2, rfl, q2, d2⟩ := q2
    obtain ⟨A9, c9, rfl, _⟩ := id q2
    obtain ⟨D9, e9, rfl, _⟩ := id d2
    refine ops_store_q (j := 4) rfl rfl rfl rfl (g := g) (i := k) (q := (0 : Rat)) rfl rfl (by kernel_rfl) RN hlt q2 d2 fun w4 hg4 hP4 => ?_
    replace bb := bb.trans ((Below.refl _ _).grown hg4 bb.size (fun g hg => by injection hg with hg; omega))
    have hsz4 := bb.size
    replace RN := hP4.1 HLK.out
    clear hP4
    refine ops_done ?_
    rw [← HTK.out] at RN
    have hsk : d - (k + 1) < d - k := by omega
    go_wp2
    go_roundw
    case rel => exact ⟨k + 1, by omega, RN, bb, by go_num⟩
    case measure => simp [intOf]; omega
  ·rw [List.take_of_length_le (by rw [HZL.out]; omega)] at RN
   go_wp2
   go_ret
   exact ⟨g, by rw [HZL.out]; rfl, by rw [HZL.out]; exact RN, hg, bb⟩
set_option maxHeartbeats 3200000 in
set_option maxRecDepth 100000 in
theorem zero_row (n : Int) (d : Nat) (w : World) (hn : n = (d : Int)) (hd : d ≤ 200) :
  Calls Tryz.prog 87 #[.int .i64 n] w (RetRN (zerosq d) w) := by
 have bb : Below w.heap.size w w := Below.refl _ _
 subst hn
 have HL : Hid (decide ((d : Int) < 0) = false) := decide_eq_false (by omega)
 have HG : Hid (decide (200 < (d : Int)) = false) := decide_eq_false (by omega)
 have HZL : Hid ((zerosq d).length = d) := zerosq_len d
 go_enter Tryz.func87, Tryz.ntmps87
 go_upto_region 1 with (fail)
 have hsz0 := bb.size
 have sB := bb.size
 refine flowp 6 [Pd.eq (.int .i64 (d : Int)), Pd.eq (.bool false), Pd.eq (.bool false), Pd.eq (.int .i64 (d : Int)), Pd.eq (.bool false), Pd.eq (.bool false)] (by kernel_rfl) ?ob4 ?done4
 case ob4 =>
  refine And.intro (ob_move rfl (wt_none rfl) (ev_far rfl rfl) (fun _ _ h => h)) ?_
  refine And.intro (ob_bin rfl (wt_none rfl) (ev_dep (j := 0) (by kernel_rfl) rfl rfl) (ev_const _) (fun _ _ _ hx hy => ⟨.bool false, by rw [hx, hy, bin_lss_int, HL.out], rfl⟩)) ?_
  refine And.intro (ob_move rfl (wt_none rfl) (ev_dep (j := 1) (by kernel_rfl) rfl rfl) (fun _ _ h => h)) ?_
  refine And.intro (ob_move rfl (wt_dep (c := false) (b := false) (g := 2) rfl (by kernel_rfl) rfl rfl rfl (by exact fun _ _ h => h)) (ev_far rfl rfl) (fun _ _ h => h)) ?_
  refine And.intro (ob_bin rfl (wt_dep (c := false) (b := false) (g := 2) rfl (by kernel_rfl) rfl rfl rfl (by exact fun _ _ h => h)) (ev_dep (j := 3) (by kernel_rfl) rfl rfl) (ev_const _) (fun _ _ _ hx hy => ⟨.bool false, by rw [hx, hy, bin_gtr_int, HG.out], rfl⟩)) ?_
  refine And.intro (ob_pick (b := false) rfl (wt_none rfl) (ev_dep (j := 2) (by kernel_rfl) rfl rfl) (ev_dep (j := 4) (by kernel_rfl) rfl rfl) (fun _ _ h => h)) ?_
  trivial
 case done4 =>
  refine fun w1 hb1 v0 h0 v1 h1 v2 h2 v3 h3 v4 h4 v5 h5 b hbf => ?_
  obtain rfl := h0; obtain rfl := h1; obtain rfl := h2; obtain rfl := h3; obtain rfl := h4; obtain rfl := h5
  simp only [Act.put, List.setIfInBounds_toArray, List.set_cons_zero, List.set_cons_succ] at hbf
  subst hbf
  replace bb := bb.trans (hb1.mono bb.size)
  have hsz1 := bb.size
  refine ops_done ?_
  have hw1 := bb.size
  have sB := bb.size
  go_upto_region 3 with (fail)
  refine flowp 4 [Pd.eq (.int .i64 (d : Int)), pro d (zerosq d) w1.heap.size, pro d (zerosq d) w1.heap.size, Pd.eq (.int .i64 0)] (by kernel_rfl) ?ob5 ?done5
  case ob5 =>
   refine And.intro (ob_move rfl (wt_none rfl) (ev_far rfl rfl) (fun _ _ h => h)) ?_
   refine And.intro (ob_call1 rfl Tryz.func117 (by kernel_rfl) (wt_none rfl) (ev_dep (j := 0) (by kernel_rfl) rfl rfl) (fun w2 u0 hb h0 => by obtain rfl := h0; exact (noughts_any _ (d) _ rfl hd).mono fun e w3 h => RetRo.pd h HZL.out hb.size)) ?_
   refine And.intro (ob_assign rfl (wt_none rfl) (ev_dep (j := 1) (by kernel_rfl) rfl rfl) (fun _ _ h => h)) ?_
   refine And.intro (ob_assign rfl (wt_none rfl) (ev_const _) (fun _ _ h => h)) ?_
   trivial
  case done5 =>
   refine fun w2 hb2 v0 h0 v1 h1 v2 h2 v3 h3 b hbf => ?_
   obtain rfl := h0; obtain rfl := h3
   obtain ⟨g, rfl, RN, hg⟩ := h1
   obtain ⟨g, rfl, RN, hg⟩ := h2
   simp only [Act.put, List.setIfInBounds_toArray, List.set_cons_zero, List.set_cons_succ] at hbf
   subst hbf
   replace bb := bb.trans (hb2.mono bb.size)
   have hsz2 := bb.size
   refine ops_done ?_
   go_wp2
   go_ret2
   exact ⟨_, by rw [HZL.out]; rfl, by rw [HZL.out]; exact RN, by omega, bb⟩
set_option maxHeartbeats 3200000 in
set_option maxRecDepth 100000 in
theorem unit_row (n i : Int) (d k : Nat) (w : World) (hn : n = (d : Int)) (hi : i = (k : Int)) (hd : d ≤ 200) (hk : k < d) :
  Calls Tryz.prog 53 #[.int .i64 n, .int .i64 i] w (RetRN (unitq d k) w) := by
 have bb : Below w.heap.size w w := Below.refl _ _
 have HN := Lib.hid hn
 have H3 : Hid (decide (i < 0) = false) := decide_eq_false (by omega)
 have H4 : Hid (decide (n ≤ i) = false) := decide_eq_false (by omega)
 have HZL : Hid ((zerosq d).length = d) := zerosq_len d
 have HUL : Hid ((unitq d k).length = d) := unitq_len d k
 subst hi
 clear hn
 go_enter Tryz.func53, Tryz.ntmps53
 go_upto_region 1 with (fail)
 have hsz0 := bb.size
 have sB := bb.size
 refine flowp 7 [Pd.eq (.int .i64 n), prn d (zerosq d) w.heap.size, prn d (zerosq d) w.heap.size, pro d (zerosq d) w.heap.size, Pd.eq (.int .i64 0), pro d (zerosq d) w.heap.size, Pd.eq (.int .i64 0)] (by kernel_rfl) ?ob12 ?done12
 case ob12 =>
  refine And.intro (ob_move rfl (wt_none rfl) (ev_far rfl rfl) (fun _ _ h => h)) ?_
  refine And.intro (ob_call1 rfl Tryz.func87 (by kernel_rfl) (wt_none rfl) (ev_dep (j := 0) (by kernel_rfl) rfl rfl) (fun w2 u0 hb h0 => by obtain rfl := h0; exact (zero_row n d _ HN.out hd).mono fun e w3 h => RetRN.pd h (zerosq_len d) hb.size)) ?_
  refine And.intro (ob_move rfl (wt_none rfl) (ev_dep (j := 1) (by kernel_rfl) rfl rfl) (fun _ _ h => h)) ?_
  refine And.intro (ob_extract rfl (wt_none rfl) (ev_dep (j := 2) (by kernel_rfl) rfl rfl) (fun w2 u hu => by obtain ⟨g_, rfl, q1, q2⟩ := hu; exact ⟨_, rfl, g_, rfl, q1, q2⟩)) ?_
  refine And.intro (ob_extract rfl (wt_none rfl) (ev_dep (j := 2) (by kernel_rfl) rfl rfl) (fun w2 u hu => by obtain ⟨g_, rfl, q1, q2⟩ := hu; exact ⟨_, rfl, rfl⟩)) ?_
  refine And.intro (ob_assign rfl (wt_none rfl) (ev_dep (j := 3) (by kernel_rfl) rfl rfl) (fun _ _ h => h)) ?_
  refine And.intro (ob_assign rfl (wt_none rfl) (ev_dep (j := 4) (by kernel_rfl) rfl rfl) (fun _ _ h => h)) ?_
  trivial
 case done12 =>
  refine fun w1 hb1 v0 h0 v1 h1 v2 h2 v3 h3 v4 h4 v5 h5 v6 h6 b hbf => ?_
  obtain rfl := h0; obtain rfl := h4; obtain rfl := h6
  clear h1
  clear h2
  obtain ⟨g, rfl, RN, hg⟩ := h3
  obtain ⟨g, rfl, RN, hg⟩ := h5
  simp only [Act.put, List.setIfInBounds_toArray, List.set_cons_zero, List.set_cons_succ] at hbf
  subst hbf
  replace bb := bb.trans (hb1.mono bb.size)
  have hsz1 := bb.size
  refine ops_done ?_
  have sB := bb.size
  go_upto_region 2 with (fail)
  refine flowp 11 [Pd.eq (.int .i64 0), Pd.eq (.bool false), Pd.eq (.bool false), Pd.eq (.int .i64 (k : Int)), Pd.eq (.bool false), Pd.eq (.bool false), Pd.eq (.bool false), Pd.eq (.int .i64 (k : Int)), Pd.eq (.int .i64 n), Pd.eq (.bool false), Pd.eq (.bool false)] (by kernel_rfl) ?ob13 ?done13
  case ob13 =>
   refine And.intro (ob_move rfl (wt_none rfl) (ev_far rfl rfl) (fun _ _ h => h)) ?_
   refine And.intro (ob_bin rfl (wt_none rfl) (ev_dep (j := 0) (by kernel_rfl) rfl rfl) (ev_const _) (fun _ _ _ hx hy => ⟨.bool ((0 : Int) != 0), by rw [hx, hy]; exact bin_neq_int _ _ _ _ _, congrArg Value.bool (by decide)⟩)) ?_
   refine And.intro (ob_move rfl (wt_none rfl) (ev_dep (j := 1) (by kernel_rfl) rfl rfl) (fun _ _ h => h)) ?_
   refine And.intro (ob_move rfl (wt_dep (c := false) (b := false) (g := 2) rfl (by kernel_rfl) rfl rfl rfl (by exact fun _ _ h => h)) (ev_far rfl rfl) (fun _ _ h => h)) ?_
   refine And.intro (ob_bin rfl (wt_dep (c := false) (b := false) (g := 2) rfl (by kernel_rfl) rfl rfl rfl (by exact fun _ _ h => h)) (ev_dep (j := 3) (by kernel_rfl) rfl rfl) (ev_const _) (fun _ _ _ hx hy => ⟨.bool false, by rw [hx, hy, bin_lss_int, H3.out], rfl⟩)) ?_
   refine And.intro (ob_pick (b := false) rfl (wt_none rfl) (ev_dep (j := 2) (by kernel_rfl) rfl rfl) (ev_dep (j := 4) (by kernel_rfl) rfl rfl) (fun _ _ h => h)) ?_
   refine And.intro (ob_move rfl (wt_none rfl) (ev_dep (j := 5) (by kernel_rfl) rfl rfl) (fun _ _ h => h)) ?_
   refine And.intro (ob_move rfl (wt_dep (c := false) (b := false) (g := 6) rfl (by kernel_rfl) rfl rfl rfl (by exact fun _ _ h => h)) (ev_far rfl rfl) (fun _ _ h => h)) ?_
   refine And.intro (ob_move rfl (wt_dep (c := false) (b := false) (g := 6) rfl (by kernel_rfl) rfl rfl rfl (by exact fun _ _ h => h)) (ev_far rfl rfl) (fun _ _ h => h)) ?_
   refine And.intro (ob_bin rfl (wt_dep (c := false) (b := false) (g := 6) rfl (by kernel_rfl) rfl rfl rfl (by exact fun _ _ h => h)) (ev_dep (j := 7) (by kernel_rfl) rfl rfl) (ev_dep (j := 8) (by kernel_rfl) rfl rfl) (fun _ _ _ hx hy => ⟨.bool false, by rw [hx, hy, bin_geq_int, H4.out], rfl⟩)) ?_
   refine And.intro (ob_pick (b := false) rfl (wt_none rfl) (ev_dep (j := 6) (by kernel_rfl) rfl rfl) (ev_dep (j := 9) (by kernel_rfl) rfl rfl) (fun _ _ h => h)) ?_
   trivial
  case done13 =>
   refine fun w2 hb2 v0 h0 v1 h1 v2 h2 v3 h3 v4 h4 v5 h5 v6 h6 v7 h7 v8 h8 v9 h9 v10 h10 b hbf => ?_
   obtain rfl := h0; obtain rfl := h1; obtain rfl := h2; obtain rfl := h3; obtain rfl := h4; obtain rfl := h5; obtain rfl := h6; obtain rfl := h7; obtain rfl := h8; obtain rfl := h9; obtain rfl := h10
   simp only [Act.put, List.setIfInBounds_toArray, List.set_cons_zero, List.set_cons_succ] at hbf
   subst hbf
   replace RN := RN.below hb2
   replace bb := bb.trans (hb2.mono bb.size)
   have hsz2 := bb.size
   refine ops_done ?_
   have sB := bb.size
   go_upto_region 4 with (fail)
   refine flowp 4 [Pd.eq (.slice (some ⟨g, 0, none⟩) d d), Pd.eq (.int .i64 (k : Int)), pq ((1 : Rat)) w2.heap.size, Pd.eq (.pointer (some ⟨g, 0 + k * 3, none⟩))] (by kernel_rfl) ?ob14 ?done14
   case ob14 =>
    refine And.intro (ob_move rfl (wt_none rfl) (ev_far rfl rfl) (fun _ _ h => h)) ?_
    refine And.intro (ob_move rfl (wt_none rfl) (ev_far rfl rfl) (fun _ _ h => h)) ?_
    refine And.intro (ob_call1 rfl Tryz.func30 (by kernel_rfl) (wt_none rfl) (ev_const _) (fun w2 u0 hb h0 => by obtain rfl := h0; exact (RatV_of1 _).mono fun e w3 h => RetQ.pd h hb.size)) ?_
    refine And.intro (ob_indexAddr rfl (wt_none rfl) (ev_dep (j := 0) (by kernel_rfl) rfl rfl) (ev_dep (j := 1) (by kernel_rfl) rfl rfl) (fun _ _ _ hx hy => ⟨_, by rw [hx, hy]; exact index3 (k := k) Tryz.underlying64 (by kernel_rfl) hk _, rfl⟩)) ?_
    trivial
   case done14 =>
    refine fun w3 hb3 v0 h0 v1 h1 v2 h2 v3 h3 b hbf => ?_
    obtain rfl := h0; obtain rfl := h1; obtain rfl := h3
    obtain ⟨q2, f2⟩ := h2
    simp only [Act.put, List.setIfInBounds_toArray, List.set_cons_zero, List.set_cons_succ] at hbf
    subst hbf
    replace RN := RN.below hb3
    replace bb := bb.trans (hb3.mono bb.size)
    have hsz3 := bb.size
    have s_2 := sB
    obtain ⟨u2, t2, rfl, q2, d2⟩ := q2
    obtain ⟨A9, c9, rfl, _⟩ := id q2
    obtain ⟨D9, e9, rfl, _⟩ := id d2
    refine ops_store_q (j := 4) rfl rfl rfl rfl (g := g) (i := k) (q := (1 : Rat)) rfl rfl (by kernel_rfl) RN hk q2 d2 fun w4 hg4 hP4 => ?_
    replace bb := bb.trans ((Below.refl _ _).grown hg4 bb.size (fun g hg => by injection hg with hg; omega))
    have hsz4 := bb.size
    replace RN := hP4.2 (by rw [HZL.out]; exact hk)
    clear hP4
    refine ops_done ?_
    go_wp2
    go_ret2
    exact ⟨g, by rw [HUL.out]; rfl, by rw [HUL.out]; exact RN, hg, bb⟩
theorem lenQ_prods2 {p q : List Rat} {m n : Nat} (h : ∀ x ∈ p, lenQ x m) (h2 : ∀ x ∈ q, lenQ x n) : ∀ x ∈ prods p q, lenQ x (m + n) := by
 intro r hr
 obtain ⟨x, hx, y, hy, rfl⟩ := zip_mem hr
 exact lenQ_mul (h x hx) (h2 y hy)
theorem num_ordz {x : Rat} : (ordz x.num 0 == 0) = decide (x = 0) := by
 by_cases h : x = 0
 ·rw [h, decide_eq_true rfl]; rfl
 ·rw [decide_eq_false h, beq_eq_false_iff_ne]
  intro e
  have hz : x.num ≠ 0 := fun k => h (Rat.num_eq_zero.1 k)
  rcases Int.lt_or_gt_of_ne hz with k | k
  ·rw [ordz_lt k] at e; cases e
  ·rw [ordz_gt k] at e; cases e
theorem mul_zero_iff {x y : Rat} : x * y = 0 ↔ x = 0 ∨ y = 0 := by
 constructor
 ·intro h
  exact Rat.mul_eq_zero.1 h
 ·rintro (rfl | rfl)
  ·exact Rat.zero_mul _
  ·exact Rat.mul_zero _
set_option maxHeartbeats 1600000 in
set_option maxRecDepth 100000 in
theorem vanishes_any (a0 a1 : Value) (x y : Rat) (b : Bool) (w : World) (h0 : IsQ w a0 x) (h1 : IsQ w a1 y) (hb : b = decide (x * y = 0)) :
  Calls Tryz.prog 119 #[a0, a1] w (RetV (.bool b) w) := by
 obtain ⟨s, hs⟩ : ∃ s, s = ordz x.num 0 := ⟨_, rfl⟩
 obtain ⟨t, ht⟩ : ∃ t, t = ordz y.num 0 := ⟨_, rfl⟩
 have HS := Lib.hid hs
 have HT := Lib.hid ht
 have HB := Lib.hid hb
 clear hb
 by_cases hx : x = 0
 ·obtain ⟨u0, t0, rfl, s0, r0⟩ := h0
  obtain ⟨A0, c0, rfl, _⟩ := id s0
  obtain ⟨D0, e0, rfl, _⟩ := id r0
  obtain ⟨u1, t1, rfl, s1, r1⟩ := h1
  obtain ⟨A1, c1, rfl, _⟩ := id s1
  obtain ⟨D1, e1, rfl, _⟩ := id r1
  have H1 : Hid ((s == 0) = true) := by show _ = _; rw [hs, num_ordz, decide_eq_true hx]
  have HW : Hid (b = true) := by show _ = _; rw [HB.out]; exact decide_eq_true (mul_zero_iff.2 (.inl hx))
  clear hs ht hx
  go_enter Tryz.func119, Tryz.ntmps119
  go_upto_region 1 with (fail)
  obtain ⟨wx, hwx, bb, B0, B1, hsz⟩ := vars2 w 44 44 #[.bool (ngB (x).num), .slice A0 (digs 4294967296 (x).num.natAbs).length c0, .slice D0 (digs 4294967296 (x).den).length e0] #[.bool (ngB (y).num), .slice A1 (digs 4294967296 (y).num.natAbs).length c1, .slice D1 (digs 4294967296 (y).den).length e1]
  rw [hwx]
  clear hwx
  have k0s := s0.below bb
  have k0d := r0.below bb
  have k0z : IsZ wx (.agg #[.bool (ngB (x).num), .slice A0 (digs 4294967296 (x).num.natAbs).length c0]) (x).num := ⟨_, rfl, k0s⟩
  have k0 : IsQ wx (.agg #[.bool (ngB (x).num), .slice A0 (digs 4294967296 (x).num.natAbs).length c0, .slice D0 (digs 4294967296 (x).den).length e0]) (x) := ⟨_, _, rfl, k0s, k0d⟩
  have k1s := s1.below bb
  have k1d := r1.below bb
  have k1z : IsZ wx (.agg #[.bool (ngB (y).num), .slice A1 (digs 4294967296 (y).num.natAbs).length c1]) (y).num := ⟨_, rfl, k1s⟩
  have k1 : IsQ wx (.agg #[.bool (ngB (y).num), .slice A1 (digs 4294967296 (y).num.natAbs).length c1, .slice D1 (digs 4294967296 (y).den).length e1]) (y) := ⟨_, _, rfl, k1s, k1d⟩
  have hsz0 := bb.size
  have sB := bb.size
  refine flowp 9 [Pd.eq (.agg #[.bool (ngB (x).num), .slice A0 (digs 4294967296 (x).num.natAbs).length c0, .slice D0 (digs 4294967296 (x).den).length e0]), Pd.eq (.int .i64 s), Pd.eq (.bool true), Pd.eq (.bool true), Pd.any, Pd.any, Pd.any, Pd.eq (.bool true), Pd.eq (.bool true)] (by kernel_rfl) ?ob1 ?done1
  case ob1 =>
   refine And.intro (ob_load rfl (wt_none rfl) (ev_far rfl rfl) (fun w2 hb => run_loadAll Tryz.underlying44 rfl (by kernel_rfl) (B0.below hb)) (fun _ _ => rfl)) ?_
   refine And.intro (ob_call1 rfl Tryz.func62 (by kernel_rfl) (wt_none rfl) (ev_dep (j := 0) (by kernel_rfl) rfl rfl) (fun w2 u0 hb h0 => by obtain rfl := h0; exact (fsign0_any _ x s _ (k0.below hb) HS.out).mono fun e w3 h => RetV.pd h)) ?_
   refine And.intro (ob_bin rfl (wt_none rfl) (ev_dep (j := 1) (by kernel_rfl) rfl rfl) (ev_const _) (fun _ _ _ hx hy => ⟨.bool true, by rw [hx, hy, bin_eql_int, H1.out], rfl⟩)) ?_
   refine And.intro (ob_move rfl (wt_none rfl) (ev_dep (j := 2) (by kernel_rfl) rfl rfl) (fun _ _ h => h)) ?_
   refine And.intro (ob_not (wt_dep (c := true) (b := false) (g := 3) rfl (by kernel_rfl) rfl rfl rfl (by exact fun _ _ h => h)) (fun _ => trivial) rfl) ?_
   refine And.intro (ob_not (wt_dep (c := true) (b := false) (g := 3) rfl (by kernel_rfl) rfl rfl rfl (by exact fun _ _ h => h)) (fun _ => trivial) rfl) ?_
   refine And.intro (ob_not (wt_dep (c := true) (b := false) (g := 3) rfl (by kernel_rfl) rfl rfl rfl (by exact fun _ _ h => h)) (fun _ => trivial) rfl) ?_
   refine And.intro (ob_pick (b := true) rfl (wt_none rfl) (ev_dep (j := 3) (by kernel_rfl) rfl rfl) (ev_const _) (fun _ _ h => h)) ?_
   refine And.intro (ob_assign rfl (wt_none rfl) (ev_dep (j := 7) (by kernel_rfl) rfl rfl) (fun _ _ h => h)) ?_
   trivial
  case done1 =>
   refine fun w1 hb1 v0 h0 v1 h1 v2 h2 v3 h3 v4 h4 v5 h5 v6 h6 v7 h7 v8 h8 b hbf => ?_
   obtain rfl := h0; obtain rfl := h1; obtain rfl := h2; obtain rfl := h3; obtain rfl := h7; obtain rfl := h8
   clear h4
   clear h5
   clear h6
   simp only [Act.put, List.setIfInBounds_toArray, List.set_cons_zero, List.set_cons_succ] at hbf
   subst hbf
   replace B0 := B0.below hb1
   replace k0s := k0s.below hb1
   replace k0d := k0d.below hb1
   replace k0z := k0z.below hb1
   replace k0 := k0.below hb1
   replace B1 := B1.below hb1
   replace k1s := k1s.below hb1
   replace k1d := k1d.below hb1
   replace k1z := k1z.below hb1
   replace k1 := k1.below hb1
   replace bb := bb.trans (hb1.mono bb.size)
   have hsz1 := bb.size
   refine ops_done ?_
   go_wp2
   go_ret
   exact ⟨by rw [HW.out]; rfl, bb⟩
 ·by_cases hy : y = 0
  ·obtain ⟨u0, t0, rfl, s0, r0⟩ := h0
   obtain ⟨A0, c0, rfl, _⟩ := id s0
   obtain ⟨D0, e0, rfl, _⟩ := id r0
   obtain ⟨u1, t1, rfl, s1, r1⟩ := h1
   obtain ⟨A1, c1, rfl, _⟩ := id s1
   obtain ⟨D1, e1, rfl, _⟩ := id r1
   have H1 : Hid ((s == 0) = false) := by show _ = _; rw [hs, num_ordz, decide_eq_false hx]
   have H2 : Hid ((t == 0) = true) := by show _ = _; rw [ht, num_ordz, decide_eq_true hy]
   have HW : Hid (b = true) := by show _ = _; rw [HB.out]; exact decide_eq_true (mul_zero_iff.2 (.inr hy))
   clear hs ht hx hy
   go_enter Tryz.func119, Tryz.ntmps119
   go_upto_region 1 with (fail)
   obtain ⟨wx, hwx, bb, B0, B1, hsz⟩ := vars2 w 44 44 #[.bool (ngB (x).num), .slice A0 (digs 4294967296 (x).num.natAbs).length c0, .slice D0 (digs 4294967296 (x).den).length e0] #[.bool (ngB (y).num), .slice A1 (digs 4294967296 (y).num.natAbs).length c1, .slice D1 (digs 4294967296 (y).den).length e1]
   rw [hwx]
   clear hwx
   have k0s := s0.below bb
   have k0d := r0.below bb
   have k0z : IsZ wx (.agg #[.bool (ngB (x).num), .slice A0 (digs 4294967296 (x).num.natAbs).length c0]) (x).num := ⟨_, rfl, k0s⟩
   have k0 : IsQ wx (.agg #[.bool (ngB (x).num), .slice A0 (digs 4294967296 (x).num.natAbs).length c0, .slice D0 (digs 4294967296 (x).den).length e0]) (x) := ⟨_, _, rfl, k0s, k0d⟩
   have k1s := s1.below bb
   have k1d := r1.below bb
   have k1z : IsZ wx (.agg #[.bool (ngB (y).num), .slice A1 (digs 4294967296 (y).num.natAbs).length c1]) (y).num := ⟨_, rfl, k1s⟩
   have k1 : IsQ wx (.agg #[.bool (ngB (y).num), .slice A1 (digs 4294967296 (y).num.natAbs).length c1, .slice D1 (digs 4294967296 (y).den).length e1]) (y) := ⟨_, _, rfl, k1s, k1d⟩
   have hsz0 := bb.size
   have sB := bb.size
   refine flowp 9 [Pd.eq (.agg #[.bool (ngB (x).num), .slice A0 (digs 4294967296 (x).num.natAbs).length c0, .slice D0 (digs 4294967296 (x).den).length e0]), Pd.eq (.int .i64 s), Pd.eq (.bool false), Pd.eq (.bool false), Pd.eq (.agg #[.bool (ngB (y).num), .slice A1 (digs 4294967296 (y).num.natAbs).length c1, .slice D1 (digs 4294967296 (y).den).length e1]), Pd.eq (.int .i64 t), Pd.eq (.bool true), Pd.eq (.bool true), Pd.eq (.bool true)] (by kernel_rfl) ?ob2 ?done2
   case ob2 =>
    refine And.intro (ob_load rfl (wt_none rfl) (ev_far rfl rfl) (fun w2 hb => run_loadAll Tryz.underlying44 rfl (by kernel_rfl) (B0.below hb)) (fun _ _ => rfl)) ?_
    refine And.intro (ob_call1 rfl Tryz.func62 (by kernel_rfl) (wt_none rfl) (ev_dep (j := 0) (by kernel_rfl) rfl rfl) (fun w2 u0 hb h0 => by obtain rfl := h0; exact (fsign0_any _ x s _ (k0.below hb) HS.out).mono fun e w3 h => RetV.pd h)) ?_
    refine And.intro (ob_bin rfl (wt_none rfl) (ev_dep (j := 1) (by kernel_rfl) rfl rfl) (ev_const _) (fun _ _ _ hx hy => ⟨.bool false, by rw [hx, hy, bin_eql_int, H1.out], rfl⟩)) ?_
    refine And.intro (ob_move rfl (wt_none rfl) (ev_dep (j := 2) (by kernel_rfl) rfl rfl) (fun _ _ h => h)) ?_
    refine And.intro (ob_load rfl (wt_dep (c := false) (b := false) (g := 3) rfl (by kernel_rfl) rfl rfl rfl (by exact fun _ _ h => h)) (ev_far rfl rfl) (fun w2 hb => run_loadAll Tryz.underlying44 rfl (by kernel_rfl) (B1.below hb)) (fun _ _ => rfl)) ?_
    refine And.intro (ob_call1 rfl Tryz.func62 (by kernel_rfl) (wt_dep (c := false) (b := false) (g := 3) rfl (by kernel_rfl) rfl rfl rfl (by exact fun _ _ h => h)) (ev_dep (j := 4) (by kernel_rfl) rfl rfl) (fun w2 u0 hb h0 => by obtain rfl := h0; exact (fsign0_any _ y t _ (k1.below hb) HT.out).mono fun e w3 h => RetV.pd h)) ?_
    refine And.intro (ob_bin rfl (wt_dep (c := false) (b := false) (g := 3) rfl (by kernel_rfl) rfl rfl rfl (by exact fun _ _ h => h)) (ev_dep (j := 5) (by kernel_rfl) rfl rfl) (ev_const _) (fun _ _ _ hx hy => ⟨.bool true, by rw [hx, hy, bin_eql_int, H2.out], rfl⟩)) ?_
    refine And.intro (ob_pick (b := false) rfl (wt_none rfl) (ev_dep (j := 3) (by kernel_rfl) rfl rfl) (ev_dep (j := 6) (by kernel_rfl) rfl rfl) (fun _ _ h => h)) ?_
    refine And.intro (ob_assign rfl (wt_none rfl) (ev_dep (j := 7) (by kernel_rfl) rfl rfl) (fun _ _ h => h)) ?_
    trivial
   case done2 =>
    refine fun w1 hb1 v0 h0 v1 h1 v2 h2 v3 h3 v4 h4 v5 h5 v6 h6 v7 h7 v8 h8 b hbf => ?_
    obtain rfl := h0; obtain rfl := h1; obtain rfl := h2; obtain rfl := h3; obtain rfl := h4; obtain rfl := h5; obtain rfl := h6; obtain rfl := h7; obtain rfl := h8
    simp only [Act.put, List.setIfInBounds_toArray, List.set_cons_zero, List.set_cons_succ] at hbf
    subst hbf
    replace B0 := B0.below hb1
    replace k0s := k0s.below hb1
    replace k0d := k0d.below hb1
    replace k0z := k0z.below hb1
    replace k0 := k0.below hb1
    replace B1 := B1.below hb1
    replace k1s := k1s.below hb1
    replace k1d := k1d.below hb1
    replace k1z := k1z.below hb1
    replace k1 := k1.below hb1
    replace bb := bb.trans (hb1.mono bb.size)
    have hsz1 := bb.size
    refine ops_done ?_
    go_wp2
    go_ret
    exact ⟨by rw [HW.out]; rfl, bb⟩
  ·obtain ⟨u0, t0, rfl, s0, r0⟩ := h0
   obtain ⟨A0, c0, rfl, _⟩ := id s0
   obtain ⟨D0, e0, rfl, _⟩ := id r0
   obtain ⟨u1, t1, rfl, s1, r1⟩ := h1
   obtain ⟨A1, c1, rfl, _⟩ := id s1
   obtain ⟨D1, e1, rfl, _⟩ := id r1
   have H1 : Hid ((s == 0) = false) := by show _ = _; rw [hs, num_ordz, decide_eq_false hx]
   have H2 : Hid ((t == 0) = false) := by show _ = _; rw [ht, num_ordz, decide_eq_false hy]
   have HW : Hid (b = false) := by show _ = _; rw [HB.out]; exact decide_eq_false (fun h => by rcases mul_zero_iff.1 h with h | h; exact hx h; exact hy h)
   clear hs ht hx hy
   go_enter Tryz.func119, Tryz.ntmps119
   go_upto_region 1 with (fail)
   obtain ⟨wx, hwx, bb, B0, B1, hsz⟩ := vars2 w 44 44 #[.bool (ngB (x).num), .slice A0 (digs 4294967296 (x).num.natAbs).length c0, .slice D0 (digs 4294967296 (x).den).length e0] #[.bool (ngB (y).num), .slice A1 (digs 4294967296 (y).num.natAbs).length c1, .slice D1 (digs 4294967296 (y).den).length e1]
   rw [hwx]
   clear hwx
   have k0s := s0.below bb
   have k0d := r0.below bb
   have k0z : IsZ wx (.agg #[.bool (ngB (x).num), .slice A0 (digs 4294967296 (x).num.natAbs).length c0]) (x).num := ⟨_, rfl, k0s⟩
   have k0 : IsQ wx (.agg #[.bool (ngB (x).num), .slice A0 (digs 4294967296 (x).num.natAbs).length c0, .slice D0 (digs 4294967296 (x).den).length e0]) (x) := ⟨_, _, rfl, k0s, k0d⟩
   have k1s := s1.below bb
   have k1d := r1.below bb
   have k1z : IsZ wx (.agg #[.bool (ngB (y).num), .slice A1 (digs 4294967296 (y).num.natAbs).length c1]) (y).num := ⟨_, rfl, k1s⟩
   have k1 : IsQ wx (.agg #[.bool (ngB (y).num), .slice A1 (digs 4294967296 (y).num.natAbs).length c1, .slice D1 (digs 4294967296 (y).den).length e1]) (y) := ⟨_, _, rfl, k1s, k1d⟩
   have hsz0 := bb.size
   have sB := bb.size
   refine flowp 9 [Pd.eq (.agg #[.bool (ngB (x).num), .slice A0 (digs 4294967296 (x).num.natAbs).length c0, .slice D0 (digs 4294967296 (x).den).length e0]), Pd.eq (.int .i64 s), Pd.eq (.bool false), Pd.eq (.bool false), Pd.eq (.agg #[.bool (ngB (y).num), .slice A1 (digs 4294967296 (y).num.natAbs).length c1, .slice D1 (digs 4294967296 (y).den).length e1]), Pd.eq (.int .i64 t), Pd.eq (.bool false), Pd.eq (.bool false), Pd.eq (.bool false)] (by kernel_rfl) ?ob3 ?done3
   case ob3 =>
    refine And.intro (ob_load rfl (wt_none rfl) (ev_far rfl rfl) (fun w2 hb => run_loadAll Tryz.underlying44 rfl (by kernel_rfl) (B0.below hb)) (fun _ _ => rfl)) ?_
    refine And.intro (ob_call1 rfl Tryz.func62 (by kernel_rfl) (wt_none rfl) (ev_dep (j := 0) (by kernel_rfl) rfl rfl) (fun w2 u0 hb h0 => by obtain rfl := h0; exact (fsign0_any _ x s _ (k0.below hb) HS.out).mono fun e w3 h => RetV.pd h)) ?_
    refine And.intro (ob_bin rfl (wt_none rfl) (ev_dep (j := 1) (by kernel_rfl) rfl rfl) (ev_const _) (fun _ _ _ hx hy => ⟨.bool false, by rw [hx, hy, bin_eql_int, H1.out], rfl⟩)) ?_
    refine And.intro (ob_move rfl (wt_none rfl) (ev_dep (j := 2) (by kernel_rfl) rfl rfl) (fun _ _ h => h)) ?_
    refine And.intro (ob_load rfl (wt_dep (c := false) (b := false) (g := 3) rfl (by kernel_rfl) rfl rfl rfl (by exact fun _ _ h => h)) (ev_far rfl rfl) (fun w2 hb => run_loadAll Tryz.underlying44 rfl (by kernel_rfl) (B1.below hb)) (fun _ _ => rfl)) ?_
    refine And.intro (ob_call1 rfl Tryz.func62 (by kernel_rfl) (wt_dep (c := false) (b := false) (g := 3) rfl (by kernel_rfl) rfl rfl rfl (by exact fun _ _ h => h)) (ev_dep (j := 4) (by kernel_rfl) rfl rfl) (fun w2 u0 hb h0 => by obtain rfl := h0; exact (fsign0_any _ y t _ (k1.below hb) HT.out).mono fun e w3 h => RetV.pd h)) ?_
    refine And.intro (ob_bin rfl (wt_dep (c := false) (b := false) (g := 3) rfl (by kernel_rfl) rfl rfl rfl (by exact fun _ _ h => h)) (ev_dep (j := 5) (by kernel_rfl) rfl rfl) (ev_const _) (fun _ _ _ hx hy => ⟨.bool false, by rw [hx, hy, bin_eql_int, H2.out], rfl⟩)) ?_
    refine And.intro (ob_pick (b := false) rfl (wt_none rfl) (ev_dep (j := 3) (by kernel_rfl) rfl rfl) (ev_dep (j := 6) (by kernel_rfl) rfl rfl) (fun _ _ h => h)) ?_
    refine And.intro (ob_assign rfl (wt_none rfl) (ev_dep (j := 7) (by kernel_rfl) rfl rfl) (fun _ _ h => h)) ?_
    trivial
   case done3 =>
    refine fun w1 hb1 v0 h0 v1 h1 v2 h2 v3 h3 v4 h4 v5 h5 v6 h6 v7 h7 v8 h8 b hbf => ?_
    obtain rfl := h0; obtain rfl := h1; obtain rfl := h2; obtain rfl := h3; obtain rfl := h4; obtain rfl := h5; obtain rfl := h6; obtain rfl := h7; obtain rfl := h8
    simp only [Act.put, List.setIfInBounds_toArray, List.set_cons_zero, List.set_cons_succ] at hbf
    subst hbf
    replace B0 := B0.below hb1
    replace k0s := k0s.below hb1
    replace k0d := k0d.below hb1
    replace k0z := k0z.below hb1
    replace k0 := k0.below hb1
    replace B1 := B1.below hb1
    replace k1s := k1s.below hb1
    replace k1d := k1d.below hb1
    replace k1z := k1z.below hb1
    replace k1 := k1.below hb1
    replace bb := bb.trans (hb1.mono bb.size)
    have hsz1 := bb.size
    refine ops_done ?_
    go_wp2
    go_ret
    exact ⟨by rw [HW.out]; rfl, bb⟩
set_option maxHeartbeats 3200000 in
set_option maxRecDepth 100000 in
theorem fscale_own (a0 a1 : Value) (p : List Rat) (K : Rat) (m n : Nat) (w : World) (h0 : SlF .u64 4294967296 w a0 p) (h1 : IsQ w a1 K) (hl : p.length ≤ 1000 ∧ (∀ x ∈ p, lenQ x m) ∧ lenQ K n ∧ m ≤ 4900 ∧ n ≤ 4900) :
  Calls Tryz.prog 72 #[a0, a1] w (RetRo (scaleq p K) w) := by
 obtain ⟨u1, t1, rfl, s1, r1⟩ := h1
 obtain ⟨A1, c1, rfl, _⟩ := id s1
 obtain ⟨D1, e1, rfl, _⟩ := id r1
 have sl0 := h0
 obtain ⟨A0, c0, rfl, hc0, hm0⟩ := h0.shape
 unfold maxLen at hm0
 have HL := Lib.hid hl
 have lK : lenQ K n := hl.2.2.1
 have hm9 : m ≤ 4900 := hl.2.2.2.1
 have hn9 : n ≤ 4900 := hl.2.2.2.2
 have hl8 : p.length ≤ 1000 := hl.1
 have HRL : Hid ((scaleq p K).length = p.length) := scaleq_len p K
 clear hl
 go_enter Tryz.func72, Tryz.ntmps72
 go_upto_region 1 with (fail)
 obtain ⟨wx, hwx, bb, B1, hsz⟩ := vars1 w 44 #[.bool (ngB (K).num), .slice A1 (digs 4294967296 (K).num.natAbs).length c1, .slice D1 (digs 4294967296 (K).den).length e1]
 rw [hwx]
 clear hwx
 have k1s := s1.below bb
 have k1d := r1.below bb
 have k1z : IsZ wx (.agg #[.bool (ngB (K).num), .slice A1 (digs 4294967296 (K).num.natAbs).length c1]) (K).num := ⟨_, rfl, k1s⟩
 have k1 : IsQ wx (.agg #[.bool (ngB (K).num), .slice A1 (digs 4294967296 (K).num.natAbs).length c1, .slice D1 (digs 4294967296 (K).den).length e1]) (K) := ⟨_, _, rfl, k1s, k1d⟩
 have hsz0 := bb.size
 go_wp2_with (at_make; refine wpList_make_q rfl _ _ rfl Tryz.underlying64 info_rat p.length rfl rfl (by omega) ?_; intro wm RN hbm)
 have hwg : w.heap.size ≤ wx.heap.size := bb.size
 have hlb3 := B1.lt
 replace B1 := B1.below hbm
 replace k1s := k1s.below hbm
 replace k1d := k1d.below hbm
 replace k1z := k1z.below hbm
 replace k1 := k1.below hbm
 replace bb := bb.trans (hbm.mono bb.size)
 have hsz1 := bb.size
 obtain ⟨g, hg⟩ : ∃ g, g = wx.heap.size := ⟨_, rfl⟩
 rw [← hg] at RN ⊢
 have hg_ : wx.heap.size ≤ g := by omega
 clear hg
 have hg := hg_
 clear hg_
 have hgw : w.heap.size ≤ g := by omega
 have RN0 : RowN wm g p.length ((scaleq p K).take 0) := RN
 clear RN
 go_wp2
 go_loopw [13] (fun v13 wr => ∃ k : Nat, k ≤ p.length ∧ RowN wr g p.length ((scaleq p K).take k) ∧ Blk wr (w.heap.size) 44 #[.bool (ngB (K).num), .slice A1 (digs 4294967296 (K).num.natAbs).length c1, .slice D1 (digs 4294967296 (K).den).length e1] ∧ Below w.heap.size w wr ∧ v13 = .int .i64 (k : Int)) (fun v13 _ => p.length - (intOf v13).toNat)
 case atStart => exact ⟨0, by omega, RN0, B1, bb, rfl⟩
 case round =>
  obtain ⟨k, hk, hR, hB3, hbw, rfl⟩ := hrel
  clear RN0 bb B1 k1s k1d k1z k1
  have RN := hR
  have bb := hbw
  clear hR hbw
  have B1 := hB3
  have k1s := s1.below bb
  have k1d := r1.below bb
  have k1z : IsZ wr (.agg #[.bool (ngB (K).num), .slice A1 (digs 4294967296 (K).num.natAbs).length c1]) (K).num := ⟨_, rfl, k1s⟩
  have k1 : IsQ wr (.agg #[.bool (ngB (K).num), .slice A1 (digs 4294967296 (K).num.natAbs).length c1, .slice D1 (digs 4294967296 (K).den).length e1]) (K) := ⟨_, _, rfl, k1s, k1d⟩
  have hlc3 := B1.lt
  clear hB3
  have hszr := bb.size
  have hgl := RN.lt
  by_cases hlt : k < p.length
  ·obtain ⟨x, hq0_⟩ : ∃ x, p[k]? = some x := ⟨_, List.getElem?_eq_getElem hlt⟩
   obtain ⟨g0_, o0_, ue0, te0, hA0_, _, e00, e01, e02, es0, ed0⟩ := (sl0.below bb).at_ hq0_
   subst hA0_
   have HQ0 := Lib.hid hq0_
   clear hq0_
   obtain ⟨Ae0, ce0, rfl, _⟩ := id es0
   obtain ⟨De0, ee0, rfl, _⟩ := id ed0
   have ke0 : IsQ wr (.agg #[.bool (ngB x.num), .slice Ae0 (digs 4294967296 x.num.natAbs).length ce0, .slice De0 (digs 4294967296 x.den).length ee0]) x := ⟨_, _, rfl, es0, ed0⟩
   have lx : lenQ x m := HL.out.2.1 x (List.mem_of_getElem? HQ0.out)
   have HAT : Hid ((scaleq p K)[k]? = some (x * K)) := by show _ = _; rw [scaleq, List.getElem?_map, HQ0.out]; rfl
   have HTK : Hid ((scaleq p K).take (k + 1) = (scaleq p K).take k ++ [(x * K)]) := take_snoc HAT.out
   have HLK : Hid (k = ((scaleq p K).take k).length) := by show _ = _; rw [List.length_take, HRL.out]; omega
   have sB := bb.size
   go_upto_region 4 with (fail)
   have lt2_3 := Blk.lt B1
   refine flowp 5 [Pd.eq (.int .i64 (k : Int)), Pd.eq (.pointer (some ⟨g0_, o0_ + k * 3, none⟩)), Pd.eq (.agg #[.bool (ngB x.num), .slice Ae0 (digs 4294967296 x.num.natAbs).length ce0, .slice De0 (digs 4294967296 x.den).length ee0]), pn 44 #[.bool false, .slice none 0 0, .slice none 0 0] wr.heap.size, Pd.eq (.int .i64 (k : Int))] (by kernel_rfl) ?ob4 ?done4
   case ob4 =>
    refine And.intro (ob_move rfl (wt_none rfl) (ev_far rfl rfl) (fun _ _ h => h)) ?_
    refine And.intro (ob_indexAddr rfl (wt_none rfl) (ev_far rfl rfl) (ev_far rfl rfl) (fun _ _ _ hx hy => ⟨_, by rw [hx, hy]; exact index3 Tryz.underlying64 (by kernel_rfl) hlt _, rfl⟩)) ?_
    refine And.intro (ob_load rfl (wt_none rfl) (ev_dep (j := 1) (by kernel_rfl) rfl rfl) (fun w2 hb => load3 Tryz.underlying44 rfl (by kernel_rfl) ((hb.cell (World.block_lt_of_cell? wr _ e00)).trans e00) ((hb.cell (World.block_lt_of_cell? wr _ e01)).trans e01) ((hb.cell (World.block_lt_of_cell? wr _ e02)).trans e02)) (fun _ _ => rfl)) ?_
    refine And.intro (ob_alloc (z := .agg #[.bool false, .slice none 0 0, .slice none 0 0]) rfl rfl (fun _ => by kernel_rfl) (fun _ _ hB h => ⟨_, rfl, hB, h⟩)) ?_
    refine And.intro (ob_assign rfl (wt_none rfl) (ev_dep (j := 0) (by kernel_rfl) rfl rfl) (fun _ _ h => h)) ?_
    trivial
   case done4 =>
    refine fun w3 hb3 v0 h0 v1 h1 v2 h2 v3 h3 d3 v4 h4 b hbf => ?_
    obtain rfl := h0; obtain rfl := h1; obtain rfl := h2; obtain rfl := h4
    obtain ⟨g4_3, rfl, hg3, B3⟩ := h3
    simp only [Act.put, List.setIfInBounds_toArray, List.set_cons_zero, List.set_cons_succ] at hbf
    subst hbf
    replace B1 := B1.below hb3
    replace k1s := k1s.below hb3
    replace k1d := k1d.below hb3
    replace k1z := k1z.below hb3
    replace k1 := k1.below hb3
    replace RN := RN.below hb3
    replace es0 := es0.below hb3
    replace ed0 := ed0.below hb3
    replace bb := bb.trans (hb3.mono bb.size)
    have hsz3 := bb.size
    have BA7 := B3
    have q2 := es0
    have d2 := ed0
    refine ops_store (i := 5) rfl rfl rfl rfl rfl rfl (cells := [.bool (ngB (x).num), .slice Ae0 (digs 4294967296 (x).num.natAbs).length ce0, .slice De0 (digs 4294967296 (x).den).length ee0]) rfl BA7 rfl (by kernel_rfl) (one3 rfl rfl rfl) fun w4 hg4 BN4 => ?_
    replace q2 := off q2 BA7 no_ints3 hg4
    replace d2 := off d2 BA7 no_ints3 hg4
    replace RN := RowN.offb RN BA7 no_ints3 hg4 (by omega)
    replace k1s := off k1s BA7 no_ints3 hg4
    replace k1d := off k1d BA7 no_ints3 hg4
    replace k1z : IsZ w4 (.agg #[.bool (ngB (K).num), .slice A1 (digs 4294967296 (K).num.natAbs).length c1]) ((K).num) := ⟨_, rfl, k1s⟩
    replace k1 : IsQ w4 (.agg #[.bool (ngB (K).num), .slice A1 (digs 4294967296 (K).num.natAbs).length c1, .slice D1 (digs 4294967296 (K).den).length e1]) (K) := ⟨_, _, rfl, k1s, k1d⟩
    replace B1 := B1.grown hg4 (by omega)
    replace bb := bb.trans ((Below.refl _ _).grown hg4 bb.size (fun g hg => by injection hg with hg; omega))
    have hsz4 := bb.size
    have Be0 : Blk w4 (g4_3) _ _ := BN4
    have ke0s := q2
    have ke0d := d2
    have ke0z : IsZ w4 (.agg #[.bool (ngB (x).num), .slice Ae0 (digs 4294967296 (x).num.natAbs).length ce0]) ((x).num) := ⟨_, rfl, ke0s⟩
    have ke0 : IsQ w4 (.agg #[.bool (ngB (x).num), .slice Ae0 (digs 4294967296 (x).num.natAbs).length ce0, .slice De0 (digs 4294967296 (x).den).length ee0]) (x) := ⟨_, _, rfl, ke0s, ke0d⟩
    refine ops_done ?_
    have hle := Be0.lt
    have hneE : g ≠ g4_3 := by omega
    have sB := bb.size
    go_upto_region 5 with (fail)
    refine flowp 6 [Pd.eq (.slice (some ⟨g, 0, none⟩) p.length p.length), Pd.eq (.int .i64 (k : Int)), Pd.eq (.agg #[.bool (ngB (x).num), .slice Ae0 (digs 4294967296 (x).num.natAbs).length ce0, .slice De0 (digs 4294967296 (x).den).length ee0]), Pd.eq (.agg #[.bool (ngB (K).num), .slice A1 (digs 4294967296 (K).num.natAbs).length c1, .slice D1 (digs 4294967296 (K).den).length e1]), pq ((x * K)) w4.heap.size, Pd.eq (.pointer (some ⟨g, 0 + k * 3, none⟩))] (by kernel_rfl) ?ob5 ?done5
    case ob5 =>
     refine And.intro (ob_move rfl (wt_none rfl) (ev_far rfl rfl) (fun _ _ h => h)) ?_
     refine And.intro (ob_move rfl (wt_none rfl) (ev_far rfl rfl) (fun _ _ h => h)) ?_
     refine And.intro (ob_load rfl (wt_none rfl) (ev_far rfl rfl) (fun w2 hb => run_loadAll Tryz.underlying44 rfl (by kernel_rfl) (Be0.below hb)) (fun _ _ => rfl)) ?_
     refine And.intro (ob_load rfl (wt_none rfl) (ev_far rfl rfl) (fun w2 hb => run_loadAll Tryz.underlying44 rfl (by kernel_rfl) (B1.below hb)) (fun _ _ => rfl)) ?_
     refine And.intro (ob_call2 rfl Tryz.func70 (by kernel_rfl) (wt_none rfl) (ev_dep (j := 2) (by kernel_rfl) rfl rfl) (ev_dep (j := 3) (by kernel_rfl) rfl rfl) (fun w2 u0 u1 hb h0 h1 => by obtain rfl := h0; obtain rfl := h1; exact (mul8_any _ x _ K _ (ke0.below hb) (k1.below hb) (lx.mono (by omega)) (lK.mono (by omega))).mono fun e w3 h => RetQ.pd h hb.size)) ?_
     refine And.intro (ob_indexAddr rfl (wt_none rfl) (ev_dep (j := 0) (by kernel_rfl) rfl rfl) (ev_dep (j := 1) (by kernel_rfl) rfl rfl) (fun _ _ _ hx hy => ⟨_, by rw [hx, hy]; exact index3 (k := k) Tryz.underlying64 (by kernel_rfl) hlt _, rfl⟩)) ?_
     trivial
    case done5 =>
     refine fun w5 hb5 v0 h0 v1 h1 v2 h2 v3 h3 v4 h4 v5 h5 b hbf => ?_
     obtain rfl := h0; obtain rfl := h1; obtain rfl := h2; obtain rfl := h3; obtain rfl := h5
     obtain ⟨q4, f4⟩ := h4
     simp only [Act.put, List.setIfInBounds_toArray, List.set_cons_zero, List.set_cons_succ] at hbf
     subst hbf
     replace B1 := B1.below hb5
     replace k1s := k1s.below hb5
     replace k1d := k1d.below hb5
     replace k1z := k1z.below hb5
     replace k1 := k1.below hb5
     replace Be0 := Be0.below hb5
     replace ke0s := ke0s.below hb5
     replace ke0d := ke0d.below hb5
     replace ke0z := ke0z.below hb5
     replace ke0 := ke0.below hb5
     replace RN := RN.below hb5
     replace bb := bb.trans (hb5.mono bb.size)
     have hsz5 := bb.size
     have s_4 := sB
     obtain ⟨u4, t4, rfl, q4, d4⟩ := q4
     obtain ⟨A9, c9, rfl, _⟩ := id q4
     obtain ⟨D9, e9, rfl, _⟩ := id d4
     refine ops_store_q (j := 6) rfl rfl rfl rfl (g := g) (i := k) (q := (x * K)) rfl rfl (by kernel_rfl) RN hlt q4 d4 fun w6 hg6 hP6 => ?_
     replace k1s := RN.keep hg6 k1s
     replace k1d := RN.keep hg6 k1d
     replace k1z : IsZ w6 (.agg #[.bool (ngB (K).num), .slice A1 (digs 4294967296 (K).num.natAbs).length c1]) ((K).num) := ⟨_, rfl, k1s⟩
     replace k1 : IsQ w6 (.agg #[.bool (ngB (K).num), .slice A1 (digs 4294967296 (K).num.natAbs).length c1, .slice D1 (digs 4294967296 (K).den).length e1]) (K) := ⟨_, _, rfl, k1s, k1d⟩
     replace B1 := B1.grown hg6 (by omega)
     replace ke0s := RN.keep hg6 ke0s
     replace ke0d := RN.keep hg6 ke0d
     replace ke0z : IsZ w6 (.agg #[.bool (ngB (x).num), .slice Ae0 (digs 4294967296 (x).num.natAbs).length ce0]) ((x).num) := ⟨_, rfl, ke0s⟩
     replace ke0 : IsQ w6 (.agg #[.bool (ngB (x).num), .slice Ae0 (digs 4294967296 (x).num.natAbs).length ce0, .slice De0 (digs 4294967296 (x).den).length ee0]) (x) := ⟨_, _, rfl, ke0s, ke0d⟩
     replace Be0 := Be0.grown hg6 (by omega)
     replace bb := bb.trans ((Below.refl _ _).grown hg6 bb.size (fun g hg => by injection hg with hg; omega))
     have hsz6 := bb.size
     replace RN := hP6.1 HLK.out
     clear hP6
     refine ops_done ?_
     rw [← HTK.out] at RN
     have hsk : p.length - (k + 1) < p.length - k := by omega
     go_wp2
     go_roundw
     case rel => exact ⟨k + 1, by omega, RN, B1, bb, by go_num⟩
     case measure => simp [intOf]; omega
  ·rw [List.take_of_length_le (by rw [HRL.out]; omega)] at RN
   have HRN : Hid (RowN wr g (scaleq p K).length (scaleq p K)) := by
    show RowN _ _ _ _
    rw [HRL.out]; exact RN
   clear RN
   go_wp2
   go_ret
   exact ⟨g, by rw [HRL.out]; rfl, HRN.out, hgw, bb⟩
set_option maxHeartbeats 3200000 in
set_option maxRecDepth 100000 in
theorem fdot_gen (a0 a1 : Value) (p q : List Rat) (m n : Nat) (w : World) (h0 : SlF .u64 4294967296 w a0 p) (h1 : SlF .u64 4294967296 w a1 q) (he : p.length = q.length) (hl : p.length ≤ 1000 ∧ (∀ x ∈ p, lenQ x m) ∧ (∀ x ∈ q, lenQ x n) ∧ (m + n + 1) * p.length + 1 ≤ 4800) :
    Calls Tryz.prog 94 #[a0, a1] w (RetQE (dotq p q) 0 w) := by
  have sl0 := h0
  obtain ⟨A0, c0, rfl, hc0, hm0⟩ := h0.shape
  unfold maxLen at hm0
  have sl1 := h1
  obtain ⟨A1, c1, rfl, hc1, hm1⟩ := h1.shape
  unfold maxLen at hm1
  have HNE : Hid ((((p.length : Nat) : Int) != ((q.length : Nat) : Int)) = false) := by show _ = _; rw [bne_eq_false_iff_eq]; omega
  have HE := Lib.hid he
  have HLE := Lib.hid hl
  have hl8 : p.length ≤ 1000 := hl.1
  clear he hl
  go_enter Tryz.func94, Tryz.ntmps94
  go_upto_region 1 with (fail)
  obtain ⟨wx, hwx, bb, BR0, hsz⟩ := vars1 w 44 #[.bool false, .slice none 0 0, .slice none 0 0]
  rw [hwx]
  clear hwx
  have hsz0 := bb.size
  have sB := bb.size
  refine flowp 5 [Pd.eq (.slice A0 p.length c0), Pd.eq (.int .i64 ((p.length : Nat) : Int)), Pd.eq (.slice A1 q.length c1), Pd.eq (.int .i64 ((q.length : Nat) : Int)), Pd.eq (.bool false)] (by kernel_rfl) ?ob8 ?done8
  case ob8 =>
    refine And.intro (ob_move rfl (wt_none rfl) (ev_far rfl rfl) (fun _ _ h => h)) ?_
    refine And.intro (ob_len rfl (wt_none rfl) (ev_dep (j := 0) (by kernel_rfl) rfl rfl) (fun _ _ hx => ⟨_, by rw [hx]; exact len_slice Tryz.underlying64 _ _ _ _, rfl⟩)) ?_
    refine And.intro (ob_move rfl (wt_none rfl) (ev_far rfl rfl) (fun _ _ h => h)) ?_
    refine And.intro (ob_len rfl (wt_none rfl) (ev_dep (j := 2) (by kernel_rfl) rfl rfl) (fun _ _ hx => ⟨_, by rw [hx]; exact len_slice Tryz.underlying64 _ _ _ _, rfl⟩)) ?_
    refine And.intro (ob_bin rfl (wt_none rfl) (ev_dep (j := 1) (by kernel_rfl) rfl rfl) (ev_dep (j := 3) (by kernel_rfl) rfl rfl) (fun _ _ _ hx hy => ⟨.bool false, by rw [hx, hy, bin_neq_int, HNE.out], rfl⟩)) ?_
    trivial
  case done8 =>
    refine fun w1 hb1 v0 h0 v1 h1 v2 h2 v3 h3 v4 h4 b hbf => ?_
    obtain rfl := h0; obtain rfl := h1; obtain rfl := h2; obtain rfl := h3; obtain rfl := h4
    simp only [Act.put, List.setIfInBounds_toArray, List.set_cons_zero, List.set_cons_succ] at hbf
    subst hbf
    replace BR0 := BR0.below hb1
    replace bb := bb.trans (hb1.mono bb.size)
    have hsz1 := bb.size
    refine ops_done ?_
    have sB := bb.size
    go_upto_region 3 with (fail)
    have lt1_4 := Blk.lt BR0
    refine flowp 2 [pq ((0 : Rat)) w1.heap.size, pn 44 #[.bool false, .slice none 0 0, .slice none 0 0] w1.heap.size] (by kernel_rfl) ?ob9 ?done9
    case ob9 =>
      refine And.intro (ob_call1 rfl Tryz.func30 (by kernel_rfl) (wt_none rfl) (ev_const _) (fun w2 u0 hb h0 => by obtain rfl := h0; exact (RatV_of0 _).mono fun e w3 h => RetQ.pd h hb.size)) ?_
      refine And.intro (ob_alloc (z := .agg #[.bool false, .slice none 0 0, .slice none 0 0]) rfl rfl (fun _ => by kernel_rfl) (fun _ _ hB h => ⟨_, rfl, hB, h⟩)) ?_
      trivial
    case done9 =>
      refine fun w2 hb2 v0 h0 v1 h1 d1 b hbf => ?_
      obtain ⟨q0, f0⟩ := h0
      obtain ⟨g9_1, rfl, hg1, B1⟩ := h1
      simp only [Act.put, List.setIfInBounds_toArray, List.set_cons_zero, List.set_cons_succ] at hbf
      subst hbf
      replace BR0 := BR0.below hb2
      replace bb := bb.trans (hb2.mono bb.size)
      have hsz2 := bb.size
      have s_0 := sB
      have BA6 := B1
      obtain ⟨u0, t0, rfl, q0, d0⟩ := q0
      obtain ⟨A6, c6, rfl, _⟩ := id q0
      obtain ⟨D6, e6, rfl, _⟩ := id d0
      refine ops_store (i := 2) rfl rfl rfl rfl rfl rfl (cells := [.bool (ngB ((0 : Rat)).num), .slice A6 (digs 4294967296 ((0 : Rat)).num.natAbs).length c6, .slice D6 (digs 4294967296 ((0 : Rat)).den).length e6]) rfl BA6 rfl (by kernel_rfl) (one3 rfl rfl rfl) fun w3 hg3 BN3 => ?_
      replace q0 := off q0 BA6 no_ints3 hg3
      replace d0 := off d0 BA6 no_ints3 hg3
      replace BR0 := BR0.grown hg3 (by omega)
      replace bb := bb.trans ((Below.refl _ _).grown hg3 bb.size (fun g hg => by injection hg with hg; omega))
      have hsz3 := bb.size
      have B6 : Blk w3 (g9_1) _ _ := BN3
      have k6s := q0
      have k6d := d0
      have k6z : IsZ w3 (.agg #[.bool (ngB ((0 : Rat)).num), .slice A6 (digs 4294967296 ((0 : Rat)).num.natAbs).length c6]) (((0 : Rat)).num) := ⟨_, rfl, k6s⟩
      have k6 : IsQ w3 (.agg #[.bool (ngB ((0 : Rat)).num), .slice A6 (digs 4294967296 ((0 : Rat)).num.natAbs).length c6, .slice D6 (digs 4294967296 ((0 : Rat)).den).length e6]) ((0 : Rat)) := ⟨_, _, rfl, k6s, k6d⟩
      refine ops_done ?_
      go_wp2
      go_loopw [18] (fun v18 wr => ∃ k : Nat, k ≤ p.length ∧ HoldQ wr g9_1 (sumq ((prods p q).take k)) ∧ Blk wr w.heap.size 44 #[.bool false, .slice none 0 0, .slice none 0 0] ∧ Below w.heap.size w wr ∧ g9_1 < wr.heap.size ∧ v18 = .int .i64 (k : Int)) (fun v18 _ => p.length - (intOf v18).toNat)
      case atStart => exact ⟨0, by omega, ⟨_, _, B6, k6s, k6d⟩, BR0, bb, B6.lt, rfl⟩
      case round =>
        obtain ⟨k, hk, hH, hR, hbw, hGl, rfl⟩ := hrel
        clear B6 k6s k6d k6z k6 BR0 bb
        have BR0 := hR
        have bb := hbw
        obtain ⟨s, hs⟩ : ∃ s, s = sumq ((prods p q).take k) := ⟨_, rfl⟩
        rw [← hs] at hH
        have HS := Lib.hid hs
        clear hs hR hbw
        have ls : lenQ s 4800 := by
          rw [HS.out]
          refine (lenQ_sumq (fun x hx => lenQ_prods2 HLE.out.2.1 HLE.out.2.2.1 x (List.mem_of_mem_take hx))).mono ?_
          refine Nat.le_trans (Nat.add_le_add_right (Nat.mul_le_mul_left _ ?_) _) HLE.out.2.2.2
          rw [List.length_take]
          omega
        obtain ⟨u6, t6, B6, k6s, k6d⟩ := hH
        obtain ⟨A6, c6, rfl, _⟩ := id k6s
        obtain ⟨D6, e6, rfl, _⟩ := id k6d
        have k6z : IsZ wr (.agg #[.bool (ngB (s).num), .slice A6 (digs 4294967296 (s).num.natAbs).length c6]) (s).num := ⟨_, rfl, k6s⟩
        have k6 : IsQ wr (.agg #[.bool (ngB (s).num), .slice A6 (digs 4294967296 (s).num.natAbs).length c6, .slice D6 (digs 4294967296 (s).den).length e6]) (s) := ⟨_, _, rfl, k6s, k6d⟩
        have hszr := bb.size
        by_cases hlt : k < p.length
        · have hlt2 : k < q.length := by have := HE.out; omega
          obtain ⟨x, hq0_⟩ : ∃ x, p[k]? = some x := ⟨_, List.getElem?_eq_getElem hlt⟩
          obtain ⟨g0_, o0_, ue0, te0, hA0_, _, e00, e01, e02, es0, ed0⟩ := (sl0.below bb).at_ hq0_
          subst hA0_
          have HQ0 := Lib.hid hq0_
          clear hq0_
          obtain ⟨Ae0, ce0, rfl, _⟩ := id es0
          obtain ⟨De0, ee0, rfl, _⟩ := id ed0
          have ke0 : IsQ wr (.agg #[.bool (ngB x.num), .slice Ae0 (digs 4294967296 x.num.natAbs).length ce0, .slice De0 (digs 4294967296 x.den).length ee0]) x := ⟨_, _, rfl, es0, ed0⟩
          obtain ⟨y, hy⟩ : ∃ y, q[k]? = some y := ⟨_, List.getElem?_eq_getElem hlt2⟩
          have HY := Lib.hid hy
          have lx : lenQ x m := HLE.out.2.1 x (List.mem_of_getElem? HQ0.out)
          have ly : lenQ y n := HLE.out.2.2.1 y (List.mem_of_getElem? hy)
          have lxy : lenQ (x * y) (m + n) := lenQ_mul lx ly
          have hmn : m + n ≤ 4800 := by
            have h1 := HLE.out.2.2.2
            have h2 := Nat.le_mul_of_pos_right (m + n + 1) (show 0 < p.length by omega)
            omega
          clear hy
          have hneq : q ≠ [] := List.length_pos_iff.1 (by omega)
          have sB := bb.size
          go_upto_region 6 with (fail)
          have lt4_4 := Blk.lt BR0
          have lt4_6 := Blk.lt B6
          refine flowp 5 [Pd.eq (.int .i64 (k : Int)), Pd.eq (.pointer (some ⟨g0_, o0_ + k * 3, none⟩)), Pd.eq (.agg #[.bool (ngB x.num), .slice Ae0 (digs 4294967296 x.num.natAbs).length ce0, .slice De0 (digs 4294967296 x.den).length ee0]), pn 44 #[.bool false, .slice none 0 0, .slice none 0 0] wr.heap.size, Pd.eq (.int .i64 (k : Int))] (by kernel_rfl) ?ob10 ?done10
          case ob10 =>
            refine And.intro (ob_move rfl (wt_none rfl) (ev_far rfl rfl) (fun _ _ h => h)) ?_
            refine And.intro (ob_indexAddr rfl (wt_none rfl) (ev_far rfl rfl) (ev_far rfl rfl) (fun _ _ _ hx hy => ⟨_, by rw [hx, hy]; exact index3 Tryz.underlying64 (by kernel_rfl) hlt _, rfl⟩)) ?_
            refine And.intro (ob_load rfl (wt_none rfl) (ev_dep (j := 1) (by kernel_rfl) rfl rfl) (fun w2 hb => load3 Tryz.underlying44 rfl (by kernel_rfl) ((hb.cell (World.block_lt_of_cell? wr _ e00)).trans e00) ((hb.cell (World.block_lt_of_cell? wr _ e01)).trans e01) ((hb.cell (World.block_lt_of_cell? wr _ e02)).trans e02)) (fun _ _ => rfl)) ?_
            refine And.intro (ob_alloc (z := .agg #[.bool false, .slice none 0 0, .slice none 0 0]) rfl rfl (fun _ => by kernel_rfl) (fun _ _ hB h => ⟨_, rfl, hB, h⟩)) ?_
            refine And.intro (ob_assign rfl (wt_none rfl) (ev_dep (j := 0) (by kernel_rfl) rfl rfl) (fun _ _ h => h)) ?_
            trivial
          case done10 =>
            refine fun w5 hb5 v0 h0 v1 h1 v2 h2 v3 h3 d3 v4 h4 b hbf => ?_
            obtain rfl := h0; obtain rfl := h1; obtain rfl := h2; obtain rfl := h4
            obtain ⟨g10_3, rfl, hg3, B3⟩ := h3
            simp only [Act.put, List.setIfInBounds_toArray, List.set_cons_zero, List.set_cons_succ] at hbf
            subst hbf
            replace BR0 := BR0.below hb5
            replace B6 := B6.below hb5
            replace k6s := k6s.below hb5
            replace k6d := k6d.below hb5
            replace k6z := k6z.below hb5
            replace k6 := k6.below hb5
            replace es0 := es0.below hb5
            replace ed0 := ed0.below hb5
            replace bb := bb.trans (hb5.mono bb.size)
            have hsz5 := bb.size
            have BA8 := B3
            have q2 := es0
            have d2 := ed0
            refine ops_store (i := 5) rfl rfl rfl rfl rfl rfl (cells := [.bool (ngB (x).num), .slice Ae0 (digs 4294967296 (x).num.natAbs).length ce0, .slice De0 (digs 4294967296 (x).den).length ee0]) rfl BA8 rfl (by kernel_rfl) (one3 rfl rfl rfl) fun w6 hg6 BN6 => ?_
            replace q2 := off q2 BA8 no_ints3 hg6
            replace d2 := off d2 BA8 no_ints3 hg6
            replace BR0 := BR0.grown hg6 (by omega)
            replace k6s := off k6s BA8 no_ints3 hg6
            replace k6d := off k6d BA8 no_ints3 hg6
            replace k6z : IsZ w6 (.agg #[.bool (ngB (s).num), .slice A6 (digs 4294967296 (s).num.natAbs).length c6]) ((s).num) := ⟨_, rfl, k6s⟩
            replace k6 : IsQ w6 (.agg #[.bool (ngB (s).num), .slice A6 (digs 4294967296 (s).num.natAbs).length c6, .slice D6 (digs 4294967296 (s).den).length e6]) (s) := ⟨_, _, rfl, k6s, k6d⟩
            replace B6 := B6.grown hg6 (by omega)
            replace bb := bb.trans ((Below.refl _ _).grown hg6 bb.size (fun g hg => by injection hg with hg; omega))
            have hsz6 := bb.size
            have Be0 : Blk w6 (g10_3) _ _ := BN6
            have ke0s := q2
            have ke0d := d2
            have ke0z : IsZ w6 (.agg #[.bool (ngB (x).num), .slice Ae0 (digs 4294967296 (x).num.natAbs).length ce0]) ((x).num) := ⟨_, rfl, ke0s⟩
            have ke0 : IsQ w6 (.agg #[.bool (ngB (x).num), .slice Ae0 (digs 4294967296 (x).num.natAbs).length ce0, .slice De0 (digs 4294967296 (x).den).length ee0]) (x) := ⟨_, _, rfl, ke0s, ke0d⟩
            refine ops_done ?_
            obtain ⟨g1_, o1_, cp1_, hA1_, _, _, _⟩ := sl1.place hneq
            injection hA1_ with e1_ _ e3_
            subst e1_
            subst e3_
            obtain ⟨uy, ty, hlty, zy0, zy1, zy2, zys, zyd⟩ := (sl1.below bb).at2 HY.out
            obtain ⟨Ay, cy, rfl, _⟩ := id zys
            obtain ⟨Dy, ey, rfl, _⟩ := id zyd
            have zy : IsQ w6 (.agg #[.bool (ngB (y).num), .slice Ay (digs 4294967296 (y).num.natAbs).length cy, .slice Dy (digs 4294967296 (y).den).length ey]) (y) := ⟨_, _, rfl, zys, zyd⟩
            by_cases hv : x * y = 0
            · have HV : Hid (true = decide (x * y = 0)) := (decide_eq_true hv).symm
              have HN : Hid (s = sumq ((prods p q).take (k + 1))) := by show _ = _; rw [take_snoc (show (prods p q)[k]? = some (x * y) from zip_at HQ0.out HY.out), sumq_snoc, hv, Rat.add_zero, HS.out]
              clear hv
              have sB := bb.size
              go_upto_region 7 with (fail)
              refine flow 7 [Pd.eq (.agg #[.bool (ngB (x).num), .slice Ae0 (digs 4294967296 (x).num.natAbs).length ce0, .slice De0 (digs 4294967296 (x).den).length ee0]), Pd.eq (.slice (some ⟨g1_, o1_, none⟩) q.length c1), Pd.eq (.int .i64 (k : Int)), Pd.eq (.pointer (some ⟨g1_, o1_ + k * 3, none⟩)), Pd.eq (.agg #[.bool (ngB (y).num), .slice Ay (digs 4294967296 (y).num.natAbs).length cy, .slice Dy (digs 4294967296 (y).den).length ey]), Pd.eq (.bool true), Pd.eq (.bool false)] (by kernel_rfl) (by kernel_rfl) ?ob11 ?done11
              case ob11 =>
                refine And.intro (ob_load rfl (wt_none rfl) (ev_far rfl rfl) (fun w2 hb => run_loadAll Tryz.underlying44 rfl (by kernel_rfl) (Be0.drew.below hb)) (fun _ _ => rfl)) ?_
                refine And.intro (ob_move rfl (wt_none rfl) (ev_far rfl rfl) (fun _ _ h => h)) ?_
                refine And.intro (ob_move rfl (wt_none rfl) (ev_far rfl rfl) (fun _ _ h => h)) ?_
                refine And.intro (ob_indexAddr rfl (wt_none rfl) (ev_dep (j := 1) (by kernel_rfl) rfl rfl) (ev_dep (j := 2) (by kernel_rfl) rfl rfl) (fun _ _ _ hx hy => ⟨_, by rw [hx, hy]; exact index3 (k := k) Tryz.underlying64 (by kernel_rfl) hlty _, rfl⟩)) ?_
                refine And.intro (ob_load rfl (wt_none rfl) (ev_dep (j := 3) (by kernel_rfl) rfl rfl) (fun w2 hb => load3 Tryz.underlying44 rfl (by kernel_rfl) ((hb.cell (World.block_lt_of_cell? w6 _ zy0)).trans zy0) ((hb.cell (World.block_lt_of_cell? w6 _ zy1)).trans zy1) ((hb.cell (World.block_lt_of_cell? w6 _ zy2)).trans zy2)) (fun _ _ => rfl)) ?_
                refine And.intro (ob_call2 rfl Tryz.func119 (by kernel_rfl) (wt_none rfl) (ev_dep (j := 0) (by kernel_rfl) rfl rfl) (ev_dep (j := 4) (by kernel_rfl) rfl rfl) (fun w2 u0 u1 hb h0 h1 => by obtain rfl := h0; obtain rfl := h1; exact (vanishes_any _ _ (x) (y) true _ (ke0.drew.below hb) (zy.drew.below hb) HV.out).mono fun e w3 h => RetV.pd h)) ?_
                refine And.intro (ob_un rfl (wt_none rfl) (ev_dep (j := 5) (by kernel_rfl) rfl rfl) (fun _ => un_not _ _) (fun _ => rfl)) ?_
                trivial
              case done11 =>
                refine fun w8 hb8 v0 h0 v1 h1 v2 h2 v3 h3 v4 h4 v5 h5 v6 h6 b hbf => ?_
                obtain rfl := h0; obtain rfl := h1; obtain rfl := h2; obtain rfl := h3; obtain rfl := h4; obtain rfl := h5; obtain rfl := h6
                simp only [Act.put, List.setIfInBounds_toArray, List.set_cons_zero, List.set_cons_succ] at hbf
                subst hbf
                replace BR0 := BR0.below hb8
                replace B6 := B6.below hb8
                replace k6s := k6s.below hb8
                replace k6d := k6d.below hb8
                replace k6z := k6z.below hb8
                replace k6 := k6.below hb8
                replace Be0 := Be0.below hb8
                replace ke0s := ke0s.below hb8
                replace ke0d := ke0d.below hb8
                replace ke0z := ke0z.below hb8
                replace ke0 := ke0.below hb8
                replace bb := bb.trans (hb8.mono bb.size)
                have hsz8 := bb.size
                refine any_done (by kernel_rfl) ?_
                have hsk : p.length - (k + 1) < p.length - k := by omega
                go_wp2
                go_roundw
                case rel => exact ⟨k + 1, by omega, by rw [← HN.out]; exact ⟨_, _, B6, k6s, k6d⟩, BR0, bb, B6.lt, by go_num⟩
                case measure => simp [intOf]; omega
            · have HV : Hid (false = decide (x * y = 0)) := (decide_eq_false hv).symm
              clear hv
              have sB := bb.size
              go_upto_region 7 with (fail)
              refine flow 7 [Pd.eq (.agg #[.bool (ngB (x).num), .slice Ae0 (digs 4294967296 (x).num.natAbs).length ce0, .slice De0 (digs 4294967296 (x).den).length ee0]), Pd.eq (.slice (some ⟨g1_, o1_, none⟩) q.length c1), Pd.eq (.int .i64 (k : Int)), Pd.eq (.pointer (some ⟨g1_, o1_ + k * 3, none⟩)), Pd.eq (.agg #[.bool (ngB (y).num), .slice Ay (digs 4294967296 (y).num.natAbs).length cy, .slice Dy (digs 4294967296 (y).den).length ey]), Pd.eq (.bool false), Pd.eq (.bool true)] (by kernel_rfl) (by kernel_rfl) ?ob12 ?done12
              case ob12 =>
                refine And.intro (ob_load rfl (wt_none rfl) (ev_far rfl rfl) (fun w2 hb => run_loadAll Tryz.underlying44 rfl (by kernel_rfl) (Be0.drew.below hb)) (fun _ _ => rfl)) ?_
                refine And.intro (ob_move rfl (wt_none rfl) (ev_far rfl rfl) (fun _ _ h => h)) ?_
                refine And.intro (ob_move rfl (wt_none rfl) (ev_far rfl rfl) (fun _ _ h => h)) ?_
                refine And.intro (ob_indexAddr rfl (wt_none rfl) (ev_dep (j := 1) (by kernel_rfl) rfl rfl) (ev_dep (j := 2) (by kernel_rfl) rfl rfl) (fun _ _ _ hx hy => ⟨_, by rw [hx, hy]; exact index3 (k := k) Tryz.underlying64 (by kernel_rfl) hlty _, rfl⟩)) ?_
                refine And.intro (ob_load rfl (wt_none rfl) (ev_dep (j := 3) (by kernel_rfl) rfl rfl) (fun w2 hb => load3 Tryz.underlying44 rfl (by kernel_rfl) ((hb.cell (World.block_lt_of_cell? w6 _ zy0)).trans zy0) ((hb.cell (World.block_lt_of_cell? w6 _ zy1)).trans zy1) ((hb.cell (World.block_lt_of_cell? w6 _ zy2)).trans zy2)) (fun _ _ => rfl)) ?_
                refine And.intro (ob_call2 rfl Tryz.func119 (by kernel_rfl) (wt_none rfl) (ev_dep (j := 0) (by kernel_rfl) rfl rfl) (ev_dep (j := 4) (by kernel_rfl) rfl rfl) (fun w2 u0 u1 hb h0 h1 => by obtain rfl := h0; obtain rfl := h1; exact (vanishes_any _ _ (x) (y) false _ (ke0.drew.below hb) (zy.drew.below hb) HV.out).mono fun e w3 h => RetV.pd h)) ?_
                refine And.intro (ob_un rfl (wt_none rfl) (ev_dep (j := 5) (by kernel_rfl) rfl rfl) (fun _ => un_not _ _) (fun _ => rfl)) ?_
                trivial
              case done12 =>
                refine fun w8 hb8 v0 h0 v1 h1 v2 h2 v3 h3 v4 h4 v5 h5 v6 h6 b hbf => ?_
                obtain rfl := h0; obtain rfl := h1; obtain rfl := h2; obtain rfl := h3; obtain rfl := h4; obtain rfl := h5; obtain rfl := h6
                simp only [Act.put, List.setIfInBounds_toArray, List.set_cons_zero, List.set_cons_succ] at hbf
                subst hbf
                replace BR0 := BR0.below hb8
                replace B6 := B6.below hb8
                replace k6s := k6s.below hb8
                replace k6d := k6d.below hb8
                replace k6z := k6z.below hb8
                replace k6 := k6.below hb8
                replace Be0 := Be0.below hb8
                replace ke0s := ke0s.below hb8
                replace ke0d := ke0d.below hb8
                replace ke0z := ke0z.below hb8
                replace ke0 := ke0.below hb8
                replace bb := bb.trans (hb8.mono bb.size)
                have hsz8 := bb.size
                refine any_done (by kernel_rfl) ?_
                clear zy zy0 zy1 zy2 zys zyd
                obtain ⟨ub, tb, hltb, zb0, zb1, zb2, zbs, zbd⟩ := (sl1.below bb).at2 HY.out
                obtain ⟨Ab, cb, rfl, _⟩ := id zbs
                obtain ⟨Db, eb, rfl, _⟩ := id zbd
                have zb : IsQ w8 (.agg #[.bool (ngB (y).num), .slice Ab (digs 4294967296 (y).num.natAbs).length cb, .slice Db (digs 4294967296 (y).den).length eb]) (y) := ⟨_, _, rfl, zbs, zbd⟩
                have sB := bb.size
                go_upto_region 8 with (fail)
                refine flow 8 [Pd.eq (.agg #[.bool (ngB (s).num), .slice A6 (digs 4294967296 (s).num.natAbs).length c6, .slice D6 (digs 4294967296 (s).den).length e6]), Pd.eq (.agg #[.bool (ngB (x).num), .slice Ae0 (digs 4294967296 (x).num.natAbs).length ce0, .slice De0 (digs 4294967296 (x).den).length ee0]), Pd.eq (.slice (some ⟨g1_, o1_, none⟩) q.length c1), Pd.eq (.int .i64 (k : Int)), Pd.eq (.pointer (some ⟨g1_, o1_ + k * 3, none⟩)), Pd.eq (.agg #[.bool (ngB (y).num), .slice Ab (digs 4294967296 (y).num.natAbs).length cb, .slice Db (digs 4294967296 (y).den).length eb]), pqn (x * y), pq ((s + x * y)) w8.heap.size] (by kernel_rfl) (by kernel_rfl) ?ob13 ?done13
                case ob13 =>
                  refine And.intro (ob_load rfl (wt_none rfl) (ev_far rfl rfl) (fun w2 hb => run_loadAll Tryz.underlying44 rfl (by kernel_rfl) (B6.drew.below hb)) (fun _ _ => rfl)) ?_
                  refine And.intro (ob_load rfl (wt_none rfl) (ev_far rfl rfl) (fun w2 hb => run_loadAll Tryz.underlying44 rfl (by kernel_rfl) (Be0.drew.below hb)) (fun _ _ => rfl)) ?_
                  refine And.intro (ob_move rfl (wt_none rfl) (ev_far rfl rfl) (fun _ _ h => h)) ?_
                  refine And.intro (ob_move rfl (wt_none rfl) (ev_far rfl rfl) (fun _ _ h => h)) ?_
                  refine And.intro (ob_indexAddr rfl (wt_none rfl) (ev_dep (j := 2) (by kernel_rfl) rfl rfl) (ev_dep (j := 3) (by kernel_rfl) rfl rfl) (fun _ _ _ hx hy => ⟨_, by rw [hx, hy]; exact index3 (k := k) Tryz.underlying64 (by kernel_rfl) hltb _, rfl⟩)) ?_
                  refine And.intro (ob_load rfl (wt_none rfl) (ev_dep (j := 4) (by kernel_rfl) rfl rfl) (fun w2 hb => load3 Tryz.underlying44 rfl (by kernel_rfl) ((hb.cell (World.block_lt_of_cell? w8 _ zb0)).trans zb0) ((hb.cell (World.block_lt_of_cell? w8 _ zb1)).trans zb1) ((hb.cell (World.block_lt_of_cell? w8 _ zb2)).trans zb2)) (fun _ _ => rfl)) ?_
                  refine And.intro (ob_call2 rfl Tryz.func70 (by kernel_rfl) (wt_none rfl) (ev_dep (j := 1) (by kernel_rfl) rfl rfl) (ev_dep (j := 5) (by kernel_rfl) rfl rfl) (fun w2 u0 u1 hb h0 h1 => by obtain rfl := h0; obtain rfl := h1; exact (mul8_any _ x _ y _ (ke0.drew.below hb) (zb.drew.below hb) (lx.mono (by omega)) (ly.mono (by omega))).mono fun e w3 h => RetQn.pd h.n)) ?_
                  refine And.intro (ob_call2 rfl Tryz.func120 (by kernel_rfl) (wt_none rfl) (ev_dep (j := 0) (by kernel_rfl) rfl rfl) (ev_dep (j := 6) (by kernel_rfl) rfl rfl) (fun w2 u0 u1 hb h0 h1 => by obtain rfl := h0; exact (add9_any _ s _ (x * y) _ (k6.drew.below hb) h1 (ls.mono (by decide)) (lxy.mono (by omega))).mono fun e w3 h => RetQ.pd h hb.size)) ?_
                  trivial
                case done13 =>
                  refine fun w9 hb9 v0 h0 v1 h1 v2 h2 v3 h3 v4 h4 v5 h5 v6 h6 v7 h7 b hbf => ?_
                  obtain rfl := h0; obtain rfl := h1; obtain rfl := h2; obtain rfl := h3; obtain rfl := h4; obtain rfl := h5
                  have q6 := h6
                  obtain ⟨q7, f7⟩ := h7
                  simp only [Act.put, List.setIfInBounds_toArray, List.set_cons_zero, List.set_cons_succ] at hbf
                  subst hbf
                  replace BR0 := BR0.below hb9
                  replace B6 := B6.below hb9
                  replace k6s := k6s.below hb9
                  replace k6d := k6d.below hb9
                  replace k6z := k6z.below hb9
                  replace k6 := k6.below hb9
                  replace Be0 := Be0.below hb9
                  replace ke0s := ke0s.below hb9
                  replace ke0d := ke0d.below hb9
                  replace ke0z := ke0z.below hb9
                  replace ke0 := ke0.below hb9
                  replace bb := bb.trans (hb9.mono bb.size)
                  have hsz9 := bb.size
                  have s_7 := sB
                  obtain ⟨u7, t7, rfl, q7, d7⟩ := q7
                  obtain ⟨A4, c4, rfl, _⟩ := id q7
                  obtain ⟨D4, e4, rfl, _⟩ := id d7
                  refine any_store (i := 8) (by kernel_rfl) rfl rfl rfl rfl rfl rfl (cells := [.bool (ngB ((s + x * y)).num), .slice A4 (digs 4294967296 ((s + x * y)).num.natAbs).length c4, .slice D4 (digs 4294967296 ((s + x * y)).den).length e4]) rfl B6 rfl (by kernel_rfl) (one3 rfl rfl rfl) fun w10 hg10 BN10 => ?_
                  replace q7 := off q7 B6 no_ints3 hg10
                  replace d7 := off d7 B6 no_ints3 hg10
                  replace BR0 := BR0.grown hg10 (by omega)
                  replace ke0s := off ke0s B6 no_ints3 hg10
                  replace ke0d := off ke0d B6 no_ints3 hg10
                  replace ke0z : IsZ w10 (.agg #[.bool (ngB (x).num), .slice Ae0 (digs 4294967296 (x).num.natAbs).length ce0]) ((x).num) := ⟨_, rfl, ke0s⟩
                  replace ke0 : IsQ w10 (.agg #[.bool (ngB (x).num), .slice Ae0 (digs 4294967296 (x).num.natAbs).length ce0, .slice De0 (digs 4294967296 (x).den).length ee0]) (x) := ⟨_, _, rfl, ke0s, ke0d⟩
                  replace Be0 := Be0.grown hg10 (by omega)
                  replace bb := bb.trans ((Below.refl _ _).grown hg10 bb.size (fun g hg => by injection hg with hg; omega))
                  have hsz10 := bb.size
                  have B4 : Blk w10 (g9_1) _ _ := BN10
                  have k4s := q7
                  have k4d := d7
                  have k4z : IsZ w10 (.agg #[.bool (ngB ((s + x * y)).num), .slice A4 (digs 4294967296 ((s + x * y)).num.natAbs).length c4]) (((s + x * y)).num) := ⟨_, rfl, k4s⟩
                  have k4 : IsQ w10 (.agg #[.bool (ngB ((s + x * y)).num), .slice A4 (digs 4294967296 ((s + x * y)).num.natAbs).length c4, .slice D4 (digs 4294967296 ((s + x * y)).den).length e4]) ((s + x * y)) := ⟨_, _, rfl, k4s, k4d⟩
                  refine any_done (by kernel_rfl) ?_
                  have HN : Hid (s + x * y = sumq ((prods p q).take (k + 1))) := by show _ = _; rw [take_snoc (show (prods p q)[k]? = some (x * y) from zip_at HQ0.out HY.out), sumq_snoc, HS.out]
                  have hsk : p.length - (k + 1) < p.length - k := by omega
                  go_wp2
                  go_roundw
                  case rel => exact ⟨k + 1, by omega, by rw [← HN.out]; exact ⟨_, _, B4, k4s, k4d⟩, BR0, bb, B4.lt, by go_num⟩
                  case measure => simp [intOf]; omega
        · have HN : Hid (s = dotq p q) := by show _ = _; rw [HS.out, List.take_of_length_le (by rw [show (prods p q).length = p.length from zip_len HE.out]; omega)]; rfl
          have sB := bb.size
          go_upto_region 10 with (fail)
          refine flowp 1 [Pd.eq (.agg #[.bool (ngB (s).num), .slice A6 (digs 4294967296 (s).num.natAbs).length c6, .slice D6 (digs 4294967296 (s).den).length e6])] (by kernel_rfl) ?ob14 ?done14
          case ob14 =>
            refine And.intro (ob_load rfl (wt_none rfl) (ev_far rfl rfl) (fun w2 hb => run_loadAll Tryz.underlying44 rfl (by kernel_rfl) (B6.below hb)) (fun _ _ => rfl)) ?_
            trivial
          case done14 =>
            refine fun w5 hb5 v0 h0 b hbf => ?_
            obtain rfl := h0
            simp only [Act.put, List.setIfInBounds_toArray, List.set_cons_zero, List.set_cons_succ] at hbf
            subst hbf
            replace BR0 := BR0.below hb5
            replace B6 := B6.below hb5
            replace k6s := k6s.below hb5
            replace k6d := k6d.below hb5
            replace k6z := k6z.below hb5
            replace k6 := k6.below hb5
            replace bb := bb.trans (hb5.mono bb.size)
            have hsz5 := bb.size
            refine ops_store (i := 1) rfl rfl rfl rfl rfl rfl (cells := [.bool (ngB (s).num), .slice A6 (digs 4294967296 (s).num.natAbs).length c6, .slice D6 (digs 4294967296 (s).den).length e6]) rfl BR0 rfl (by kernel_rfl) (one3 rfl rfl rfl) fun w9 hg9 B9 => ?_
            have k9 := off k6s BR0 no_ints3 hg9
            have d9 := off k6d BR0 no_ints3 hg9
            have bb9 := bb.trans ((Below.refl _ _).grown hg9 bb.size (fun g hg => by injection hg with hg; omega))
            obtain ⟨C0, C1, C2, _, _, _⟩ := three B9
            refine ops_assign (i := 2) (.int .i64 0) rfl rfl rfl rfl rfl fun b hbf => ?_
            simp only [Act.put, List.setIfInBounds_toArray, List.set_cons_zero, List.set_cons_succ] at hbf
            subst hbf
            refine ops_done ?_
            go_wp2
            rw [← HN.out]
            exact bodyPost_ret (v := .tuple #[.agg #[.bool (ngB (s).num), .slice A6 (digs 4294967296 (s).num.natAbs).length c6, .slice D6 (digs 4294967296 (s).den).length e6], .int .i64 0]) (by simp [results, Tryz.results94, go_sem, C0, C1, C2]) rfl ⟨_, rfl, ⟨_, _, rfl, k9, d9⟩, bb9⟩
set_option maxHeartbeats 3200000 in
set_option maxRecDepth 100000 in
theorem flead_gen (a0 : Value) (p : List Rat) (n : Int) (w : World) (h0 : SlF .u64 4294967296 w a0 p) (hn : n = (leadq p : Int)) :
  Calls Tryz.prog 28 #[a0] w (RetV (.int .i64 n) w) := by
 have bb : Below w.heap.size w w := Below.refl _ _
 have sl0 := h0
 obtain ⟨A0, c0, rfl, hc0, hm0⟩ := h0.shape
 unfold maxLen at hm0
 have HN := Lib.hid hn
 clear hn
 go_enter Tryz.func28, Tryz.ntmps28
 go_upto_region 1 with (fail)
 have hsz0 := bb.size
 go_wp2
 go_loopw [7] (fun v7 wr => ∃ k : Nat, k ≤ p.length ∧ Hid (∀ x ∈ p.take k, x = 0) ∧ Below w.heap.size w wr ∧ v7 = .int .i64 (k : Int)) (fun v7 _ => p.length - (intOf v7).toNat)
 case atStart => exact ⟨0, by omega, by show ∀ x ∈ _, _; intro x hx; simp at hx, bb, rfl⟩
 case round =>
  obtain ⟨k, hk, HA, hbw, rfl⟩ := hrel
  clear bb
  have bb := hbw
  clear hbw
  have hszr := bb.size
  by_cases hlt : k < p.length
  ·obtain ⟨x, hq0_⟩ : ∃ x, p[k]? = some x := ⟨_, List.getElem?_eq_getElem hlt⟩
   obtain ⟨g0_, o0_, ue0, te0, hA0_, _, e00, e01, e02, es0, ed0⟩ := (sl0.below bb).at_ hq0_
   subst hA0_
   have HQ0 := Lib.hid hq0_
   clear hq0_
   obtain ⟨Ae0, ce0, rfl, _⟩ := id es0
   obtain ⟨De0, ee0, rfl, _⟩ := id ed0
   have ke0 : IsQ wr (.agg #[.bool (ngB x.num), .slice Ae0 (digs 4294967296 x.num.natAbs).length ce0, .slice De0 (digs 4294967296 x.den).length ee0]) x := ⟨_, _, rfl, es0, ed0⟩
   have sB := bb.size
   go_upto_region 3 with (fail)
   refine flowp 5 [Pd.eq (.int .i64 (k : Int)), Pd.eq (.pointer (some ⟨g0_, o0_ + k * 3, none⟩)), Pd.eq (.agg #[.bool (ngB x.num), .slice Ae0 (digs 4294967296 x.num.natAbs).length ce0, .slice De0 (digs 4294967296 x.den).length ee0]), pn 44 #[.bool false, .slice none 0 0, .slice none 0 0] wr.heap.size, Pd.eq (.int .i64 (k : Int))] (by kernel_rfl) ?ob15 ?done15
   case ob15 =>
    refine And.intro (ob_move rfl (wt_none rfl) (ev_far rfl rfl) (fun _ _ h => h)) ?_
    refine And.intro (ob_indexAddr rfl (wt_none rfl) (ev_far rfl rfl) (ev_far rfl rfl) (fun _ _ _ hx hy => ⟨_, by rw [hx, hy]; exact index3 Tryz.underlying64 (by kernel_rfl) hlt _, rfl⟩)) ?_
    refine And.intro (ob_load rfl (wt_none rfl) (ev_dep (j := 1) (by kernel_rfl) rfl rfl) (fun w2 hb => load3 Tryz.underlying44 rfl (by kernel_rfl) ((hb.cell (World.block_lt_of_cell? wr _ e00)).trans e00) ((hb.cell (World.block_lt_of_cell? wr _ e01)).trans e01) ((hb.cell (World.block_lt_of_cell? wr _ e02)).trans e02)) (fun _ _ => rfl)) ?_
    refine And.intro (ob_alloc (z := .agg #[.bool false, .slice none 0 0, .slice none 0 0]) rfl rfl (fun _ => by kernel_rfl) (fun _ _ hB h => ⟨_, rfl, hB, h⟩)) ?_
    refine And.intro (ob_assign rfl (wt_none rfl) (ev_dep (j := 0) (by kernel_rfl) rfl rfl) (fun _ _ h => h)) ?_
    trivial
   case done15 =>
    refine fun w2 hb2 v0 h0 v1 h1 v2 h2 v3 h3 d3 v4 h4 b hbf => ?_
    obtain rfl := h0; obtain rfl := h1; obtain rfl := h2; obtain rfl := h4
    obtain ⟨g15_3, rfl, hg3, B3⟩ := h3
    simp only [Act.put, List.setIfInBounds_toArray, List.set_cons_zero, List.set_cons_succ] at hbf
    subst hbf
    replace es0 := es0.below hb2
    replace ed0 := ed0.below hb2
    replace bb := bb.trans (hb2.mono bb.size)
    have hsz2 := bb.size
    have BA4 := B3
    have q2 := es0
    have d2 := ed0
    refine ops_store (i := 5) rfl rfl rfl rfl rfl rfl (cells := [.bool (ngB (x).num), .slice Ae0 (digs 4294967296 (x).num.natAbs).length ce0, .slice De0 (digs 4294967296 (x).den).length ee0]) rfl BA4 rfl (by kernel_rfl) (one3 rfl rfl rfl) fun w3 hg3 BN3 => ?_
    replace q2 := off q2 BA4 no_ints3 hg3
    replace d2 := off d2 BA4 no_ints3 hg3
    replace bb := bb.trans ((Below.refl _ _).grown hg3 bb.size (fun g hg => by injection hg with hg; omega))
    have hsz3 := bb.size
    have Be0 : Blk w3 (g15_3) _ _ := BN3
    have ke0s := q2
    have ke0d := d2
    have ke0z : IsZ w3 (.agg #[.bool (ngB (x).num), .slice Ae0 (digs 4294967296 (x).num.natAbs).length ce0]) ((x).num) := ⟨_, rfl, ke0s⟩
    have ke0 : IsQ w3 (.agg #[.bool (ngB (x).num), .slice Ae0 (digs 4294967296 (x).num.natAbs).length ce0, .slice De0 (digs 4294967296 (x).den).length ee0]) (x) := ⟨_, _, rfl, ke0s, ke0d⟩
    refine ops_done ?_
    obtain ⟨t, ht⟩ : ∃ t, t = ordz x.num 0 := ⟨_, rfl⟩
    have HT := Lib.hid ht
    by_cases hx : x = 0
    ·have HTB : Hid ((t != 0) = false) := by show _ = _; rw [ht, hx]; rfl
     have HA2 : Hid (∀ y ∈ p.take (k + 1), y = 0) := by
      show ∀ y ∈ _, _
      rw [take_snoc HQ0.out]
      intro y hy
      rcases List.mem_append.1 hy with hy | hy
      ·exact HA.out y hy
      ·rw [List.mem_singleton.1 hy]; exact hx
     clear ht hx
     have sB := bb.size
     go_upto_region 4 with (fail)
     refine flowp 3 [Pd.eq (.agg #[.bool (ngB (x).num), .slice Ae0 (digs 4294967296 (x).num.natAbs).length ce0, .slice De0 (digs 4294967296 (x).den).length ee0]), Pd.eq (.int .i64 t), Pd.eq (.bool false)] (by kernel_rfl) ?ob16 ?done16
     case ob16 =>
      refine And.intro (ob_load rfl (wt_none rfl) (ev_far rfl rfl) (fun w2 hb => run_loadAll Tryz.underlying44 rfl (by kernel_rfl) (Be0.below hb)) (fun _ _ => rfl)) ?_
      refine And.intro (ob_call1 rfl Tryz.func62 (by kernel_rfl) (wt_none rfl) (ev_dep (j := 0) (by kernel_rfl) rfl rfl) (fun w2 u0 hb h0 => by obtain rfl := h0; exact (fsign0_any _ x t _ (ke0.below hb) HT.out).mono fun e w3 h => RetV.pd h)) ?_
      refine And.intro (ob_bin rfl (wt_none rfl) (ev_dep (j := 1) (by kernel_rfl) rfl rfl) (ev_const _) (fun _ _ _ hx hy => ⟨.bool false, by rw [hx, hy, bin_neq_int, HTB.out], rfl⟩)) ?_
      trivial
     case done16 =>
      refine fun w5 hb5 v0 h0 v1 h1 v2 h2 b hbf => ?_
      obtain rfl := h0; obtain rfl := h1; obtain rfl := h2
      simp only [Act.put, List.setIfInBounds_toArray, List.set_cons_zero, List.set_cons_succ] at hbf
      subst hbf
      replace Be0 := Be0.below hb5
      replace ke0s := ke0s.below hb5
      replace ke0d := ke0d.below hb5
      replace ke0z := ke0z.below hb5
      replace ke0 := ke0.below hb5
      replace bb := bb.trans (hb5.mono bb.size)
      have hsz5 := bb.size
      refine ops_done ?_
      have hsk : p.length - (k + 1) < p.length - k := by omega
      go_wp2
      go_roundw
      case rel => exact ⟨k + 1, by omega, HA2, bb, by go_num⟩
      case measure => simp [intOf]; omega
    ·have HTB : Hid ((t != 0) = true) := by
      show _ = _
      rw [bne_iff_ne, ht]
      intro e
      have hz : x.num ≠ 0 := fun h => hx (Rat.num_eq_zero.1 h)
      rcases Int.lt_or_gt_of_ne hz with h | h
      ·rw [ordz_lt h] at e; cases e
      ·rw [ordz_gt h] at e; cases e
     have HK : Hid (n = (k : Int)) := by show _ = _; rw [HN.out, leadq_is (by omega) HA.out (fun y hy => by rw [HQ0.out] at hy; exact Option.some.inj hy ▸ hx)]
     clear ht hx
     have sB := bb.size
     go_upto_region 4 with (fail)
     refine flowp 3 [Pd.eq (.agg #[.bool (ngB (x).num), .slice Ae0 (digs 4294967296 (x).num.natAbs).length ce0, .slice De0 (digs 4294967296 (x).den).length ee0]), Pd.eq (.int .i64 t), Pd.eq (.bool true)] (by kernel_rfl) ?ob17 ?done17
     case ob17 =>
      refine And.intro (ob_load rfl (wt_none rfl) (ev_far rfl rfl) (fun w2 hb => run_loadAll Tryz.underlying44 rfl (by kernel_rfl) (Be0.below hb)) (fun _ _ => rfl)) ?_
      refine And.intro (ob_call1 rfl Tryz.func62 (by kernel_rfl) (wt_none rfl) (ev_dep (j := 0) (by kernel_rfl) rfl rfl) (fun w2 u0 hb h0 => by obtain rfl := h0; exact (fsign0_any _ x t _ (ke0.below hb) HT.out).mono fun e w3 h => RetV.pd h)) ?_
      refine And.intro (ob_bin rfl (wt_none rfl) (ev_dep (j := 1) (by kernel_rfl) rfl rfl) (ev_const _) (fun _ _ _ hx hy => ⟨.bool true, by rw [hx, hy, bin_neq_int, HTB.out], rfl⟩)) ?_
      trivial
     case done17 =>
      refine fun w5 hb5 v0 h0 v1 h1 v2 h2 b hbf => ?_
      obtain rfl := h0; obtain rfl := h1; obtain rfl := h2
      simp only [Act.put, List.setIfInBounds_toArray, List.set_cons_zero, List.set_cons_succ] at hbf
      subst hbf
      replace Be0 := Be0.below hb5
      replace ke0s := ke0s.below hb5
      replace ke0d := ke0d.below hb5
      replace ke0z := ke0z.below hb5
      replace ke0 := ke0.below hb5
      replace bb := bb.trans (hb5.mono bb.size)
      have hsz5 := bb.size
      refine ops_done ?_
      go_wp2
      go_ret
      exact ⟨by rw [HK.out]; rfl, bb⟩
  ·have HK : Hid (n = ((p.length : Nat) : Int)) := by show _ = _; rw [HN.out, leadq_is (k := p.length) (Nat.le_refl _) (fun x hx => HA.out x (by rwa [List.take_of_length_le (by omega)] at hx ⊢)) (fun y hy => by have := (List.getElem?_eq_some_iff.1 hy).1; omega)]
   go_wp2
   go_ret
   exact ⟨by rw [HK.out]; rfl, bb⟩
end Go.Proofs.YtmpalajamfiiiaaGreat.rat
