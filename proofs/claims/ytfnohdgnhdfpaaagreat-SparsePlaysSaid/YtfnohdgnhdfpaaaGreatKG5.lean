/- Tables that a call makes at their full length: one block of slices, written place by place; rows of the call's own that grow within such a table. Condition: as each says.
Rows of tables, as a variadic call takes them: written out in a region; read. Condition: as each says.
Rows of one fraction written out in a region; a table's place; what the types of rows and tables are. Condition: as each says.
Package sparse: copied, Get. Condition: as each says.
Package sparse: Put, More. Condition: as each says.
Package sparse: Get of none, More. Condition: as each says.
Package sparse, of none: Apply, Row, Full; the example. Condition: as each says.
Rows of cells (a number, and a fraction: four cells each): a row of the call's own that grows by append. Condition: as each says.
Package vect: noughts, Zero, Unit. Condition: as each says.
Tables of fractions: what loops over rows and places keep; rows of tables multiplied, laid side by side; how long numbers grow. Mathematics alone.
Package sparse: fits, dot, Apply. Condition: as each says.
Is a row of fractions the document's? Condition: as it says.
Package matrix: what only reads: Size, fit, alike, Same; the document's Wide; the statements' even, Is. Condition: as each says.
Package matrix: copied, bare, dots, Column. Condition: as each says.
Rows of the call's own that grow within a table of its own: how what was there stays. Condition: as each says.
Package matrix: joined, turned: rows of the call's own that grow within a table. Condition: as each says.
Package matrix: product, Ident, Add, Apply, Turn. Condition: as each says.
Package sparse: Full: a table of rows that the call makes, filled in the order of a map. Condition: as each says.
Package sparse: From. Condition: as each says.
An argument as a slice of slices of fractions. Condition: it can be read as data.
An append to a row of slices of the call's own: how what was there stays. Condition: as it says.
Few: two rows of fractions of the call's own out of an argument; tables of such rows. Condition: as each says.
Few of a table: two tables of the call's own out of an argument. Condition: as it says.
The document's table (triviumref13): New, Is. Condition: as each says.
A region that draws its order, cut in two: what stands ahead, in whatever order; then what waits for all of it. No program stands here.
The document's table: Put, More. Condition: as each says. -/
import Derived.Test.YtfnohdgnhdfpaaaGreatKG4
import Derived.Laws.IdiomRangeMap
import Derived.BigRegion
import Derived.Deep.CutRange
import Derived.Deep.RegionHeld3
namespace Go.Proofs.YtfnohdgnhdfpaaaGreat.rat
open Go.RowKit Go.Proofs.YtfnohdgnhdfpaaaGreat.num Go.Proofs.YtfnohdgnhdfpaaaGreat.mem Go.Proofs.YtfnohdgnhdfpaaaGreat.nat Go.Proofs.YtfnohdgnhdfpaaaGreat.txt Go.Proofs.YtfnohdgnhdfpaaaGreat.str Go.Proofs.YtfnohdgnhdfpaaaGreat.flow Go.Proofs.YtfnohdgnhdfpaaaGreat.whl
set_option linter.unusedVariables false
theorem addr_zero (g i : Nat) : (⟨g, 0, none⟩ : Addr).add i = ⟨g, i, none⟩ := by
  unfold Addr.add
  by_cases h : i = 0
  · simp [h]
  · simp [h]
/-- Block g is a table of slices, at its full length. -/
def TabB (w : World) (g : Nat) (TS : TypeId) (us : List Value) : Prop := Blk w g TS us.toArray ∧ ∀ u ∈ us, ∃ A n c, u = .slice A n c
theorem TabB.below {w w' : World} {g : Nat} {TS : TypeId} {us : List Value} (h : TabB w g TS us) (hb : Below w.heap.size w w') : TabB w' g TS us := ⟨h.1.below hb, h.2⟩
theorem TabB.lt {w : World} {g : Nat} {TS : TypeId} {us : List Value} (h : TabB w g TS us) : g < w.heap.size := h.1.lt
theorem TabB.drew {w : World} {g : Nat} {TS : TypeId} {us : List Value} (h : TabB w g TS us) : TabB w.drew g TS us := h
theorem TabB.cell {w : World} {g : Nat} {TS : TypeId} {us : List Value} (h : TabB w g TS us) {i : Nat} {u : Value} (hu : us[i]? = some u) : w.cell? ((⟨g, 0, none⟩ : Addr).add i) = some u := by
  rw [addr_zero, h.1.cell, List.getElem?_toArray]; exact hu
theorem TabB.keep {w w' : World} {g : Nat} {TS : TypeId} {us : List Value} {k : IntKind} {v : Value} {l : List Nat} (h : TabB w g TS us) (hg : w.grownBy w' (some g)) (hs : IsS w k v l) : IsS w' k v l :=
  Go.Proofs.YtfnohdgnhdfpaaaGreat.flow.off hs h.1 (fun c hc n e => by
    obtain ⟨A, m, d, e1⟩ := h.2 c (List.mem_toArray.1 hc)
    rw [e1] at e
    cases e) hg
theorem TabB.keepF {w w' : World} {g : Nat} {TS : TypeId} {us : List Value} {k : IntKind} {B : Nat} {v : Value} {r : List Rat} (h : TabB w g TS us) (hg : w.grownBy w' (some g)) (hs : SlF k B w v r) : SlF k B w' v r := by
  obtain ⟨ps, h1, ⟨A, c, e, h2, h3, h4⟩, h5⟩ := hs
  refine ⟨ps, h1, ⟨A, c, e, h2, h3, fun i p hp => ?_⟩, fun p hp => ⟨h.keep hg (h5 p hp).1, h.keep hg (h5 p hp).2⟩⟩
  obtain ⟨g', o, e2, c0, c1, c2⟩ := h4 i p hp
  have hne : some g' ≠ some g := by
    intro e3
    injection e3 with e3
    subst e3
    rw [h.1.cell, List.getElem?_toArray] at c0
    obtain ⟨A', m, d, e4⟩ := h.2 _ (List.mem_of_getElem? c0)
    cases e4
  exact ⟨g', o, e2, hg.cell c0 hne, hg.cell c1 hne, hg.cell c2 hne⟩
theorem TabB.put {w w' : World} {g i : Nat} {TS : TypeId} {us : List Value} {u : Value} (h : TabB w g TS us) (hB : w'.heap[g]? = some (.cells (us.toArray.setIfInBounds i u) TS (0, 0))) (hu : ∃ A n c, u = .slice A n c) : TabB w' g TS (us.set i u) := by
  refine ⟨by unfold Blk; rw [hB]; simp, fun v hv => ?_⟩
  rcases List.mem_or_eq_of_mem_set hv with hv | rfl
  · exact h.2 v hv
  · exact hu
theorem TabB.grown {w w' : World} {g : Nat} {TS : TypeId} {us : List Value} {row : Option Nat} (h : TabB w g TS us) (hg : w.grownBy w' row) (hne : row ≠ some g) : TabB w' g TS us :=
  ⟨(hg.block g h.1.lt (fun e => hne e.symm)).trans h.1, h.2⟩
/-- A table whose rows read as these. -/
def TabS (k : IntKind) (B : Nat) (w : World) (g : Nat) (TS : TypeId) (us : List Value) (t : List (List Rat)) : Prop := TabB w g TS us ∧ us.length = t.length ∧ ∀ (i : Nat) (u : Value) (r : List Rat), us[i]? = some u → t[i]? = some r → SlF k B w u r
theorem TabS.below {k : IntKind} {B : Nat} {w w' : World} {g : Nat} {TS : TypeId} {us : List Value} {t : List (List Rat)} (h : TabS k B w g TS us t) (hb : Below w.heap.size w w') : TabS k B w' g TS us t := ⟨h.1.below hb, h.2.1, fun i u r hu hr => (h.2.2 i u r hu hr).below hb⟩
theorem TabS.drew {k : IntKind} {B : Nat} {w : World} {g : Nat} {TS : TypeId} {us : List Value} {t : List (List Rat)} (h : TabS k B w g TS us t) : TabS k B w.drew g TS us t := h.below (Below.refl _ w).drew
theorem TabS.lt {k : IntKind} {B : Nat} {w : World} {g : Nat} {TS : TypeId} {us : List Value} {t : List (List Rat)} (h : TabS k B w g TS us t) : g < w.heap.size := h.1.lt
theorem TabS.put {k : IntKind} {B : Nat} {w w' : World} {g i : Nat} {TS : TypeId} {us : List Value} {t : List (List Rat)} {u : Value} {r : List Rat} (h : TabS k B w g TS us t) (hg : w.grownBy w' (some g)) (hB : w'.heap[g]? = some (.cells (us.toArray.setIfInBounds i u) TS (0, 0))) (hu : SlF k B w u r) : TabS k B w' g TS (us.set i u) (t.set i r) := by
  obtain ⟨A, c, eu, _⟩ := hu.shape
  refine ⟨h.1.put hB ⟨_, _, _, eu⟩, by rw [List.length_set, List.length_set]; exact h.2.1, fun j x y hx hy => ?_⟩
  by_cases hj : i = j
  · subst hj
    have hi : i < us.length := by have := (List.getElem?_eq_some_iff.1 hx).1; rwa [List.length_set] at this
    rw [List.getElem?_set_self hi] at hx
    rw [List.getElem?_set_self (by rw [← h.2.1]; exact hi)] at hy
    injection hx with hx
    injection hy with hy
    subst hx; subst hy
    exact h.1.keepF hg hu
  · rw [List.getElem?_set_ne hj] at hx hy
    exact h.1.keepF hg (h.2.2 j x y hx hy)
theorem TabS.slT {k : IntKind} {B : Nat} {w : World} {g n : Nat} {TS : TypeId} {us : List Value} {t : List (List Rat)} (h : TabS k B w g TS us t) (hn : t.length = n) (hm : n ≤ 1000000000) : SlT k B w (.slice (some ⟨g, 0, none⟩) n n) t :=
  ⟨us, h.2.1, ⟨some ⟨g, 0, none⟩, n, by rw [h.2.1, hn], by rw [h.2.1, hn]; exact Nat.le_refl _, by unfold maxLen; omega, fun i u hu => ⟨_, rfl, h.1.cell hu⟩⟩, h.2.2⟩
section
variable {P : Program}
theorem run_make_v {w : World} {t TS : TypeId} (ht : P.underlying t = some (.slice TS)) (hI : ∃ i, P.info? TS = some i ∧ i.zero = some (.slice none 0 0) ∧ i.size = 1 ∧ i.bytes = 24) (n : Nat) (hn : n ≤ 1000000000) :
    ∃ w', (Instr.makeSlice t (.int .i64 (n : Int)) (.int .i64 (n : Int))).run P w = .ok (.slice (some ⟨w.heap.size, 0, none⟩) n n) w' ∧ TabB w' w.heap.size TS (List.replicate n (.slice none 0 0)) ∧ Below w.heap.size w w' := by
  obtain ⟨i, hi, hz, hs, hb⟩ := hI
  obtain ⟨w', h1, h2, h3⟩ := run_make_full (P := P) w w.heap.size t TS i _ 1 ht hi hz hs .i64 .i64 n (by rw [hb]; omega) (by unfold maxLen; omega) (Nat.le_refl _)
  refine ⟨w', h1, ⟨?_, fun u hu => ⟨_, _, _, (List.mem_replicate.1 hu).2⟩⟩, (Below.refl _ w).grown h3 (Nat.le_refl _) (fun g hg => by cases hg)⟩
  obtain ⟨hl, h2⟩ := h2
  rcases h2 with ⟨h4, _⟩ | ⟨g, cap, cur, h4, _, h5, _, _, h6, h7⟩
  · cases h4
  · injection h4 with h4 _ h8
    injection h4 with h4
    injection h4 with h4 _ _
    subst h4; subst h8
    rw [List.take_of_length_le (by simp [h6])] at h7
    have e : cur = (List.replicate n (Value.slice none 0 0)).toArray := by
      have e1 : (madeCells (Value.slice none 0 0).cells (n * 1)).toList = List.replicate n (.slice none 0 0) := by rw [Nat.mul_one]; exact toList_madeCells_one _ _
      rw [← e1, ← h7]
    rw [← e]
    exact h5
end
end Go.Proofs.YtfnohdgnhdfpaaaGreat.rat
namespace Go.Proofs.YtfnohdgnhdfpaaaGreat.flow
open Go.RowKit Go.Proofs.YtfnohdgnhdfpaaaGreat.num Go.Proofs.YtfnohdgnhdfpaaaGreat.mem Go.Proofs.YtfnohdgnhdfpaaaGreat.whl Go.Proofs.YtfnohdgnhdfpaaaGreat.rat
set_option linter.unusedVariables false
/-- A table of rows that have no places yet, made by the call. -/
def pbar (n : Nat) (TS : TypeId) (B : Nat) : Pd := ⟨fun w v => ∃ g, v = .slice (some ⟨g, 0, none⟩) n n ∧ TabB w g TS (List.replicate n (.slice none 0 0)) ∧ B ≤ g, fun h hb => by obtain ⟨g, e, h1, h2⟩ := h; exact ⟨g, e, h1.below hb, h2⟩⟩
section
variable {P : Program} {Q : Exit → Act → World → Prop} {ops : Array Oper} {L : List Oper} {Φ : List Pd} {w0 : World} {a0 : Act} {i : Nat} {o : Oper}
end
end Go.Proofs.YtfnohdgnhdfpaaaGreat.flow
namespace Go.Proofs.YtfnohdgnhdfpaaaGreat.rat
open Go.RowKit Go.Proofs.YtfnohdgnhdfpaaaGreat.num Go.Proofs.YtfnohdgnhdfpaaaGreat.mem Go.Proofs.YtfnohdgnhdfpaaaGreat.nat Go.Proofs.YtfnohdgnhdfpaaaGreat.txt Go.Proofs.YtfnohdgnhdfpaaaGreat.str Go.Proofs.YtfnohdgnhdfpaaaGreat.flow Go.Proofs.YtfnohdgnhdfpaaaGreat.whl
set_option linter.unusedVariables false
/-- A table whose rows the call owns, each in a block of its own; their elements' limbs lie elsewhere than all rows, and than the table. -/
structure TabO (k : IntKind) (B : Nat) (T : TypeId) (w : World) (base : Nat) (TS : TypeId) (V : Value) (us : List Value) (pss : List (List Elt)) : Prop where
  row : RowV w base TS V us
  len : us.length = pss.length
  own : ∀ (i : Nat) (u : Value) (ps : List Elt), us[i]? = some u → pss[i]? = some ps → RowF T w base u ps
  far : ∀ u ∈ us, ∀ ps ∈ pss, FarF k B w u ps
  farV : ∀ ps ∈ pss, FarF k B w V ps
  apart : ∀ (i j : Nat) (u v : Value), i ≠ j → us[i]? = some u → us[j]? = some v → ∀ h, u.ownBlock = some h → v.ownBlock ≠ some h
theorem TabO.below {k : IntKind} {B : Nat} {T : TypeId} {w w' : World} {base : Nat} {TS : TypeId} {V : Value} {us : List Value} {pss : List (List Elt)} (h : TabO k B T w base TS V us pss) (hb : Below w.heap.size w w') : TabO k B T w' base TS V us pss :=
  ⟨h.row.below hb, h.len, fun i u ps hu hp => (h.own i u ps hu hp).below hb, fun u hu ps hp => (h.far u hu ps hp).below hb, fun ps hp => (h.farV ps hp).below hb, h.apart⟩
theorem TabO.drew {k : IntKind} {B : Nat} {T : TypeId} {w : World} {base : Nat} {TS : TypeId} {V : Value} {us : List Value} {pss : List (List Elt)} (h : TabO k B T w base TS V us pss) : TabO k B T w.drew base TS V us pss := h.below (Below.refl _ w).drew
/-- The rows as fractions. -/
def valq (pss : List (List Elt)) : List (List Rat) := pss.map fun ps => ps.map (·.1)
theorem TabO.slT {k : IntKind} {B : Nat} {T : TypeId} {w : World} {base : Nat} {TS : TypeId} {V : Value} {us : List Value} {pss : List (List Elt)} (h : TabO k B T w base TS V us pss) : SlT k B w V (valq pss) := by
  refine ⟨us, by rw [valq, List.length_map]; exact h.len, ?_, fun i u r hu hr => ?_⟩
  · rcases h.row.2 with ⟨rfl, h0⟩ | ⟨g, cap, cur, rfl, _, hg, hn, hm, _, _⟩
    · obtain rfl : us = [] := List.length_eq_zero_iff.1 h0
      exact ⟨none, 0, rfl, by simp, by unfold maxLen; omega, fun i u hu => by simp at hu⟩
    · exact ⟨_, cap, rfl, hn, hm, fun i u hu => ⟨_, rfl, World.ownsRow.cells h.row (g := g) rfl i u hu⟩⟩
  rw [valq, List.getElem?_map] at hr
  cases hp : pss[i]? with
  | none => rw [hp] at hr; cases hr
  | some ps =>
    rw [hp] at hr
    obtain rfl : ps.map (·.1) = r := by simpa using hr
    exact (h.own i u ps hu hp).sl (h.far u (List.mem_of_getElem? hu) ps (List.mem_of_getElem? hp))
theorem TabB.rowV {w : World} {base g n : Nat} {TS : TypeId} {us : List Value} (h : TabB w g TS us) (hn : us.length = n) (hb : base ≤ g) (hm : n ≤ 1000000000) : RowV w base TS (.slice (some ⟨g, 0, none⟩) n n) us := by
  unfold RowV
  rw [hn]
  exact ⟨by simp [hn], .inr ⟨g, n, us.toArray, rfl, hb, h.1, Nat.le_refl _, by unfold maxLen; omega, by simp [hn], by simp [← hn]⟩⟩
theorem TabB.owned {k : IntKind} {B : Nat} {T : TypeId} {w : World} {base g n : Nat} {TS : TypeId} (h : TabB w g TS (List.replicate n (.slice none 0 0))) (hb : base ≤ g) (hm : n ≤ 1000000000) : TabO k B T w base TS (.slice (some ⟨g, 0, none⟩) n n) (List.replicate n (.slice none 0 0)) (List.replicate n []) := by
  have key : ∀ u ∈ List.replicate n (Value.slice none 0 0), u = .slice none 0 0 := fun u hu => (List.mem_replicate.1 hu).2
  refine ⟨h.rowV (by simp) hb hm, by simp, fun i u ps hu hp => ?_, fun u hu ps hp => ?_, fun ps hp => ?_, fun i j u v _ hu hv q hq => ?_⟩
  · have h1 := key u (List.mem_of_getElem? hu)
    have h2 := (List.mem_replicate.1 (List.mem_of_getElem? hp)).2
    subst h1; subst h2
    exact rowF_nil _ _ _
  · rw [(List.mem_replicate.1 hp).2]
    exact FarF.nil _ _ _ _
  · rw [(List.mem_replicate.1 hp).2]
    exact FarF.nil _ _ _ _
  · rw [key u (List.mem_of_getElem? hu)] at hq
    cases hq
theorem RowF.notRow {T TS : TypeId} {w : World} {base base' : Nat} {v V : Value} {ps : List Elt} {us : List Value} (h : RowF T w base v ps) (hV : RowV w base' TS V us) (hne : T ≠ TS) : ∀ g, v.ownBlock = some g → V.ownBlock ≠ some g := by
  intro g e e2
  rcases h.2 with ⟨rfl, _⟩ | ⟨g', cap, cur, rfl, _, hg, _⟩
  · cases e
  · rcases hV.2 with ⟨rfl, _⟩ | ⟨g2, cap2, cur2, rfl, _, hg2, _⟩
    · cases e2
    · have e1 : g' = g := by simpa [Value.ownBlock] using e
      have e3 : g2 = g := by simpa [Value.ownBlock] using e2
      subst e1; subst e3
      rw [hg] at hg2
      injection hg2 with hg2
      injection hg2 with _ hg2
      exact hne hg2
theorem mem_set_at {α : Type} {l : List α} {i j : Nat} {a x : α} (h : (l.set i a)[j]? = some x) : (i = j ∧ x = a) ∨ (i ≠ j ∧ l[j]? = some x) := by
  by_cases e : i = j
  · subst e
    have hi : i < l.length := by have := (List.getElem?_eq_some_iff.1 h).1; rwa [List.length_set] at this
    rw [List.getElem?_set_self hi] at h
    injection h with h
    exact .inl ⟨rfl, h.symm⟩
  · rw [List.getElem?_set_ne e] at h
    exact .inr ⟨e, h⟩
/-- A row grows: the table stands as it was, but for that row. -/
theorem TabO.put {k : IntKind} {B : Nat} {T : TypeId} {w w1 : World} {base g n c i : Nat} {TS : TypeId} {us : List Value} {pss : List (List Elt)} {u u' : Value} {ps new : List Elt} (hT : T ≠ TS) (h : TabO k B T w base TS (.slice (some ⟨g, 0, none⟩) n c) us pss) (hu : us[i]? = some u) (hps : pss[i]? = some ps) (hrow : RowF T w1 base u' (ps ++ new)) (hgr : Grew w w1 u u') (hnew : FarF k B w1 u' new) (hfar : ∀ v ∈ us, ∀ p ∈ new, Far v p.2.1 ∧ Far v p.2.2) (hfarV : ∀ p ∈ new, Far (.slice (some ⟨g, 0, none⟩) n c) p.2.1 ∧ Far (.slice (some ⟨g, 0, none⟩) n c) p.2.2) :
    TabO k B T (w1.setCell ⟨g, i, none⟩ u') base TS (.slice (some ⟨g, 0, none⟩) n c) (us.set i u') (pss.set i (ps ++ new)) := by
  obtain ⟨k1, k2, k3⟩ := hgr
  have hui := h.own i u ps hu hps
  have hs := grown_set w1 g i u'
  have hV : Value.ownBlock (.slice (some ⟨g, 0, none⟩) n c) = some g := rfl
  have hng : u.ownBlock ≠ some g := fun e => hui.notRow h.row hT g e hV
  have ht1 : RowV w1 base TS (.slice (some ⟨g, 0, none⟩) n c) us := World.ownsRow.kept (row := u.ownBlock) h.row k2 (.inr (by rw [hV]; exact fun e => hng e.symm))
  have hum := List.mem_of_getElem? hu
  have off2 : ∀ {l : List Nat} {x : Value}, IsS w1 k x l → Far (.slice (some ⟨g, 0, none⟩) n c) x → IsS (w1.setCell ⟨g, i, none⟩ u') k x l := fun a b => a.farKept b hs
  have lift : ∀ p, IsE k B w p → Far u p.2.1 → Far u p.2.2 → Far (.slice (some ⟨g, 0, none⟩) n c) p.2.1 → Far (.slice (some ⟨g, 0, none⟩) n c) p.2.2 → IsE k B (w1.setCell ⟨g, i, none⟩ u') p ∧ Far u' p.2.1 ∧ Far u' p.2.2 := fun p a b c d e => by
    have x1 := k1 _ _ _ a.1 b
    have x2 := k1 _ _ _ a.2 c
    exact ⟨⟨off2 x1.1 d, off2 x2.1 e⟩, x1.2, x2.2⟩
  have hall : ∀ qs ∈ pss.set i (ps ++ new), ∀ p ∈ qs, IsE k B (w1.setCell ⟨g, i, none⟩ u') p ∧ (Far u' p.2.1 ∧ Far u' p.2.2) ∧ (∀ v ∈ us, Far v p.2.1 ∧ Far v p.2.2) ∧ Far (.slice (some ⟨g, 0, none⟩) n c) p.2.1 ∧ Far (.slice (some ⟨g, 0, none⟩) n c) p.2.2 := by
    intro qs hqs p hp
    have hpq : (p ∈ new) ∨ ∃ qs' ∈ pss, p ∈ qs' := by
      rcases List.mem_or_eq_of_mem_set hqs with hqs | rfl
      · exact .inr ⟨qs, hqs, hp⟩
      · rcases List.mem_append.1 hp with hp | hp
        · exact .inr ⟨ps, List.mem_of_getElem? hps, hp⟩
        · exact .inl hp
    rcases hpq with hp | ⟨qs', hq', hp⟩
    · obtain ⟨e1, f1, f2⟩ := hnew p hp
      have fV := hfarV p hp
      exact ⟨⟨off2 e1.1 fV.1, off2 e1.2 fV.2⟩, ⟨f1, f2⟩, fun v hv => hfar v hv p hp, fV⟩
    · obtain ⟨e1, f1, f2⟩ := h.far u hum qs' hq' p hp
      have fV := (h.farV qs' hq' p hp).2
      obtain ⟨e2, f3, f4⟩ := lift p e1 f1 f2 fV.1 fV.2
      exact ⟨e2, ⟨f3, f4⟩, fun v hv => (h.far v hv qs' hq' p hp).2, fV⟩
  refine ⟨ht1.stored i u', by rw [List.length_set, List.length_set]; exact h.len, fun j x y hx hy => ?_, fun v hv qs hqs p hp => ?_, fun qs hqs p hp => ⟨(hall qs hqs p hp).1, (hall qs hqs p hp).2.2.2⟩, fun a b x y hab hx hy q hq hq2 => ?_⟩
  · rcases mem_set_at hx with ⟨rfl, rfl⟩ | ⟨hj, hx⟩
    · rcases mem_set_at hy with ⟨_, rfl⟩ | ⟨hj, _⟩
      · exact hrow.other hs fun q hq e => hrow.notRow ht1 hT q hq e
      · exact absurd rfl hj
    · rcases mem_set_at hy with ⟨e, _⟩ | ⟨_, hy⟩
      · exact absurd e hj
      · have r0 := h.own j x y hx hy
        have r1 := r0.other k2 fun q hq e => h.apart i j u x hj hu hx q e hq
        exact r1.other hs fun q hq e => r1.notRow ht1 hT q hq e
  · obtain ⟨e1, f1, f2, _⟩ := hall qs hqs p hp
    refine ⟨e1, ?_⟩
    rcases List.mem_or_eq_of_mem_set hv with hv | rfl
    · exact f2 v hv
    · exact f1
  · rcases mem_set_at hx with ⟨rfl, rfl⟩ | ⟨ha, hx1⟩
    · rcases mem_set_at hy with ⟨e, _⟩ | ⟨_, hy⟩
      · exact hab e
      · obtain ⟨pb, hpb⟩ : ∃ pb, pss[b]? = some pb := ⟨_, List.getElem?_eq_getElem (by rw [← h.len]; exact (List.getElem?_eq_some_iff.1 hy).1)⟩
        have hlt := (h.own b y pb hy hpb).under q hq2
        exact k3 q hlt (fun e => h.apart i b u y hab hu hy q e hq2) hq
    · rcases mem_set_at hy with ⟨rfl, rfl⟩ | ⟨hb, hy1⟩
      · obtain ⟨pa, hpa⟩ : ∃ pa, pss[a]? = some pa := ⟨_, List.getElem?_eq_getElem (by rw [← h.len]; exact (List.getElem?_eq_some_iff.1 hx1).1)⟩
        have hlt := (h.own a x pa hx1 hpa).under q hq
        exact k3 q hlt (fun e => h.apart i a u x ha hu hx1 q e hq) hq2
      · exact h.apart a b x y hab hx1 hy1 q hq hq2
theorem TabO.cell {k : IntKind} {B : Nat} {T : TypeId} {w : World} {base g n c : Nat} {TS : TypeId} {us : List Value} {pss : List (List Elt)} (h : TabO k B T w base TS (.slice (some ⟨g, 0, none⟩) n c) us pss) {i : Nat} {u : Value} (hu : us[i]? = some u) : w.cell? ⟨g, i, none⟩ = some u := h.row.cellAt hu
theorem TabO.frozen {k : IntKind} {B : Nat} {T : TypeId} {w : World} {base g n c : Nat} {TS : TypeId} {us : List Value} {pss : List (List Elt)} (h : TabO k B T w base TS (.slice (some ⟨g, 0, none⟩) n c) us pss) (i : Nat) : w.frozen? ⟨g, i, none⟩ = false := h.row.frozenAt i
/-- Limbs in new memory (or none) lie elsewhere than all rows and the table. -/
theorem TabO.farNew {k : IntKind} {B : Nat} {T : TypeId} {w : World} {base : Nat} {TS : TypeId} {V : Value} {us : List Value} {pss : List (List Elt)} (h : TabO k B T w base TS V us pss) {x : Value} (hx : Fresh w.heap.size x) : (∀ v ∈ us, Far v x) ∧ Far V x := by
  refine ⟨fun v hv => ?_, hx.far h.row.under⟩
  obtain ⟨i, hi⟩ := List.mem_iff_getElem?.1 hv
  obtain ⟨ps, hp⟩ : ∃ ps, pss[i]? = some ps := ⟨_, List.getElem?_eq_getElem (by rw [← h.len]; exact (List.getElem?_eq_some_iff.1 hi).1)⟩
  exact hx.far (h.own i v ps hi hp).under
theorem valq_set (pss : List (List Elt)) (i : Nat) (ps : List Elt) : valq (pss.set i ps) = (valq pss).set i (ps.map (·.1)) := by rw [valq, List.map_set]; rfl
theorem valq_at {pss : List (List Elt)} {i : Nat} {ps : List Elt} (h : pss[i]? = some ps) : (valq pss)[i]? = some (ps.map (·.1)) := by rw [valq, List.getElem?_map, h]; rfl
theorem valq_len (pss : List (List Elt)) : (valq pss).length = pss.length := List.length_map _
/-- A slice of tables. -/
def ListT (w : World) (v : Value) (ts : List (List (List Rat))) : Prop := ∃ us : List Value, us.length = ts.length ∧ IsV w v us ∧ us.length ≤ 1000000 ∧ ∀ (i : Nat) (u : Value) (t : List (List Rat)), us[i]? = some u → ts[i]? = some t → SlT .u64 4294967296 w u t
theorem ListT.below {w w' : World} {v : Value} {ts : List (List (List Rat))} (h : ListT w v ts) (hb : Below w.heap.size w w') : ListT w' v ts := by
  obtain ⟨us, h1, h2, h3, h4⟩ := h
  exact ⟨us, h1, h2.below hb, h3, fun i u t hu ht => (h4 i u t hu ht).below hb⟩
theorem ListT.shape {w : World} {v : Value} {ts : List (List (List Rat))} (h : ListT w v ts) : ∃ A c, v = .slice A ts.length c ∧ ts.length ≤ c := by
  obtain ⟨us, h1, ⟨A, c, e, h2, _⟩, _⟩ := h
  exact ⟨A, c, by rw [e, h1], by omega⟩
theorem ListT.at_ {w : World} {A : Option Addr} {n c i : Nat} {ts : List (List (List Rat))} {t : List (List Rat)} (h : ListT w (.slice A n c) ts) (hr : ts[i]? = some t) : ∃ ad Ar cr, A = some ad ∧ i < n ∧ w.cell? (ad.add i) = some (.slice Ar t.length cr) ∧ SlT .u64 4294967296 w (.slice Ar t.length cr) t := by
  obtain ⟨us, h1, ⟨A', c', e, h2, h3⟩, _, h5⟩ := h
  injection e with e1 e2 e3
  subst e1; subst e2; subst e3
  have hi : i < us.length := by have := (List.getElem?_eq_some_iff.1 hr).1; omega
  obtain ⟨ad, ha, hc⟩ := h3 i _ (List.getElem?_eq_getElem hi)
  have hs := h5 i _ t (List.getElem?_eq_getElem hi) hr
  obtain ⟨Ar, cr, e, _, _⟩ := hs.shape
  rw [e] at hc hs
  exact ⟨ad, Ar, cr, ha, hi, hc, hs⟩
theorem SlT.place {k : IntKind} {B : Nat} {w : World} {A : Option Addr} {n c : Nat} {t : List (List Rat)} (h : SlT k B w (.slice A n c) t) (hne : t ≠ []) : ∃ ad, A = some ad := by
  obtain ⟨r, hr⟩ : ∃ r, t[0]? = some r := ⟨_, List.getElem?_eq_getElem (List.length_pos_iff.2 hne)⟩
  obtain ⟨ad, _, _, e, _⟩ := h.at_ hr
  exact ⟨ad, e⟩
theorem SlT.at2 {k : IntKind} {B : Nat} {w : World} {ad : Addr} {n c i : Nat} {t : List (List Rat)} {r : List Rat} (h : SlT k B w (.slice (some ad) n c) t) (hr : t[i]? = some r) : ∃ Ar cr, i < n ∧ w.cell? (ad.add i) = some (.slice Ar r.length cr) ∧ SlF k B w (.slice Ar r.length cr) r := by
  obtain ⟨ad', Ar, cr, e, h1, h2, h3⟩ := h.at_ hr
  injection e with e
  subst e
  exact ⟨Ar, cr, h1, h2, h3⟩
theorem ListT.place {w : World} {A : Option Addr} {n c : Nat} {ts : List (List (List Rat))} (h : ListT w (.slice A n c) ts) (hne : ts ≠ []) : ∃ ad, A = some ad := by
  obtain ⟨r, hr⟩ : ∃ r, ts[0]? = some r := ⟨_, List.getElem?_eq_getElem (List.length_pos_iff.2 hne)⟩
  obtain ⟨ad, _, _, e, _⟩ := h.at_ hr
  exact ⟨ad, e⟩
theorem ListT.at2 {w : World} {ad : Addr} {n c i : Nat} {ts : List (List (List Rat))} {t : List (List Rat)} (h : ListT w (.slice (some ad) n c) ts) (hr : ts[i]? = some t) : ∃ Ar cr, i < n ∧ w.cell? (ad.add i) = some (.slice Ar t.length cr) ∧ SlT .u64 4294967296 w (.slice Ar t.length cr) t := by
  obtain ⟨ad', Ar, cr, e, h1, h2, h3⟩ := h.at_ hr
  injection e with e
  subst e
  exact ⟨Ar, cr, h1, h2, h3⟩
section
variable {P : Program} {Q : Exit → Act → World → Prop} {ops : Array Oper} {L : List Oper} {Φ : List Pd} {w0 : World} {a0 : Act} {i : Nat} {o : Oper}
end
theorem SlT.drew {k : IntKind} {B : Nat} {w : World} {v : Value} {t : List (List Rat)} (h : SlT k B w v t) : SlT k B w.drew v t := h.below (Below.refl _ w).drew
theorem ListT.drew {w : World} {v : Value} {ts : List (List (List Rat))} (h : ListT w v ts) : ListT w.drew v ts := h.below (Below.refl _ w).drew
section
variable {P : Program} {Q : Exit → Act → World → Prop} {ops : Array Oper} {L : List Oper} {Φ : List Pd} {w0 : World} {a0 : Act} {i : Nat} {o : Oper}
end
set_option linter.unusedSimpArgs false
set_option maxHeartbeats 1600000 in
set_option maxRecDepth 100000 in
theorem scopied_any (a0 : Value) (x : Rat) (w : World) (h0 : IsQ w a0 x) (hl : lenQ x 100000) :
    Calls Tryz.prog 91 #[a0] w (RetQ x w) := by
  obtain ⟨u0, t0, rfl, s0, r0⟩ := h0
  obtain ⟨A0, c0, rfl, _⟩ := id s0
  obtain ⟨D0, e0, rfl, _⟩ := id r0
  go_enter Tryz.func91, Tryz.ntmps91
  go_upto_region 1 with (fail)
  obtain ⟨wx, hwx, bb, B0, BR0, hsz⟩ := vars2 w 44 44 #[.bool (ngB (x).num), .slice A0 (digs 4294967296 (x).num.natAbs).length c0, .slice D0 (digs 4294967296 (x).den).length e0] #[.bool false, .slice none 0 0, .slice none 0 0]
  rw [hwx]
  clear hwx
  have k0s := s0.below bb
  have k0d := r0.below bb
  have k0z : IsZ wx (.agg #[.bool (ngB (x).num), .slice A0 (digs 4294967296 (x).num.natAbs).length c0]) (x).num := ⟨_, rfl, k0s⟩
  have k0 : IsQ wx (.agg #[.bool (ngB (x).num), .slice A0 (digs 4294967296 (x).num.natAbs).length c0, .slice D0 (digs 4294967296 (x).den).length e0]) (x) := ⟨_, _, rfl, k0s, k0d⟩
  have hsz0 := bb.size
  have sB := bb.size
  refine flow 12 [Pd.eq (.pointer (some ⟨w.heap.size, 0, none⟩)), Pd.eq (.pointer (some ⟨w.heap.size, 0, none⟩)), Pd.eq (.bool (ngB (x).num)), Pd.eq (.pointer (some ⟨w.heap.size, 0, none⟩)), Pd.eq (.pointer (some ⟨w.heap.size, 1, none⟩)), Pd.eq (.slice A0 (digs 4294967296 (x).num.natAbs).length c0), ps .u64 (digs 4294967296 (x).num.natAbs) wx.heap.size, pz ((x).num) wx.heap.size, Pd.eq (.pointer (some ⟨w.heap.size, 2, none⟩)), Pd.eq (.slice D0 (digs 4294967296 (x).den).length e0), ps .u64 (digs 4294967296 (x).den) wx.heap.size, pq (x) wx.heap.size] (by kernel_rfl) (by kernel_rfl) ?ob1 ?done1
  case ob1 =>
    refine And.intro (ob_fieldAddr rfl (wt_none rfl) (ev_far rfl rfl) (fun _ => by kernel_rfl) (fun _ => rfl)) ?_
    refine And.intro (ob_fieldAddr rfl (wt_none rfl) (ev_dep (j := 0) (by kernel_rfl) rfl rfl) (fun _ => by kernel_rfl) (fun _ => rfl)) ?_
    refine And.intro (ob_load rfl (wt_none rfl) (ev_dep (j := 1) (by kernel_rfl) rfl rfl) (fun w2 hb => run_load1 Tryz.underlying4 rfl ((B0.drew.below hb).cell 0)) (fun _ _ => rfl)) ?_
    refine And.intro (ob_fieldAddr rfl (wt_none rfl) (ev_far rfl rfl) (fun _ => by kernel_rfl) (fun _ => rfl)) ?_
    refine And.intro (ob_fieldAddr rfl (wt_none rfl) (ev_dep (j := 3) (by kernel_rfl) rfl rfl) (fun _ => by kernel_rfl) (fun _ => rfl)) ?_
    refine And.intro (ob_load rfl (wt_none rfl) (ev_dep (j := 4) (by kernel_rfl) rfl rfl) (fun w2 hb => run_load1 Tryz.underlying40 rfl ((B0.drew.below hb).cell 1)) (fun _ _ => rfl)) ?_
    refine And.intro (ob_call1 rfl Tryz.func122 (by kernel_rfl) (wt_none rfl) (ev_dep (j := 5) (by kernel_rfl) rfl rfl) (fun w2 u0 hb h0 => by obtain rfl := h0; exact (clone_any _ _ _ (k0s.drew.below hb) (Nat.le_trans hl.1 (by decide))).mono fun e w3 h => RetS.pd h hb.size)) ?_
    refine And.intro (ob_build2b rfl (wt_none rfl) (ev_dep (j := 2) (by kernel_rfl) rfl rfl) (ev_dep (j := 6) (by kernel_rfl) rfl rfl) (fun w2 u v hb hu hv => by obtain rfl := hu; obtain ⟨A7, c7, rfl, _⟩ := id hv.1; exact ⟨.agg #[.bool (ngB (x).num), .slice A7 (digs 4294967296 (x).num.natAbs).length c7], by kernel_rfl, ⟨_, rfl, hv.1⟩, freshZ_mk hv.2⟩)) ?_
    refine And.intro (ob_fieldAddr rfl (wt_none rfl) (ev_far rfl rfl) (fun _ => by kernel_rfl) (fun _ => rfl)) ?_
    refine And.intro (ob_load rfl (wt_none rfl) (ev_dep (j := 8) (by kernel_rfl) rfl rfl) (fun w2 hb => run_load1 Tryz.underlying40 rfl ((B0.drew.below hb).cell 2)) (fun _ _ => rfl)) ?_
    refine And.intro (ob_call1 rfl Tryz.func122 (by kernel_rfl) (wt_none rfl) (ev_dep (j := 9) (by kernel_rfl) rfl rfl) (fun w2 u0 hb h0 => by obtain rfl := h0; exact (clone_any _ _ _ (k0d.drew.below hb) (Nat.le_trans hl.2 (by decide))).mono fun e w3 h => RetS.pd h hb.size)) ?_
    refine And.intro (ob_build2b rfl (wt_none rfl) (ev_dep (j := 7) (by kernel_rfl) rfl rfl) (ev_dep (j := 10) (by kernel_rfl) rfl rfl) (fun w2 u v hb hu hv => by obtain ⟨u7, rfl, hu7⟩ := hu.1; obtain ⟨A7, c7, rfl, _⟩ := id hu7; obtain ⟨A8, c8, rfl, _⟩ := id hv.1; exact ⟨.agg #[.bool (ngB (x).num), .slice A7 (digs 4294967296 (x).num.natAbs).length c7, .slice A8 (digs 4294967296 (x).den).length c8], by kernel_rfl, ⟨⟨_, _, rfl, hu7, hv.1⟩, freshQ_mk (hu.2 _ _ rfl) hv.2⟩⟩)) ?_
    trivial
  case done1 =>
    refine fun w11 hb11 v0 h0 v1 h1 v2 h2 v3 h3 v4 h4 v5 h5 v6 h6 v7 h7 v8 h8 v9 h9 v10 h10 v11 h11 b hbf => ?_
    obtain rfl := h0; obtain rfl := h1; obtain rfl := h2; obtain rfl := h3; obtain rfl := h4; obtain rfl := h5; obtain rfl := h8; obtain rfl := h9
    obtain ⟨q6, f6⟩ := h6
    obtain ⟨q7, f7⟩ := h7
    obtain ⟨q10, f10⟩ := h10
    obtain ⟨q11, f11⟩ := h11
    simp only [Act.put, List.setIfInBounds_toArray, List.set_cons_zero, List.set_cons_succ] at hbf
    subst hbf
    replace B0 := B0.below hb11
    replace k0s := k0s.below hb11
    replace k0d := k0d.below hb11
    replace k0z := k0z.below hb11
    replace k0 := k0.below hb11
    replace BR0 := BR0.below hb11
    replace bb := bb.trans (hb11.mono bb.size)
    have hsz11 := bb.size
    have s_6 := sB
    have s_7 := sB
    have s_10 := sB
    have s_11 := sB
    obtain ⟨u11, t11, rfl, q11, d11⟩ := q11
    obtain ⟨A9, c9, rfl, _⟩ := id q11
    obtain ⟨D9, e9, rfl, _⟩ := id d11
    refine any_store (i := 12) (by kernel_rfl) rfl rfl rfl rfl rfl rfl (cells := [.bool (ngB (x).num), .slice A9 (digs 4294967296 (x).num.natAbs).length c9, .slice D9 (digs 4294967296 (x).den).length e9]) rfl BR0 rfl (by kernel_rfl) (one3 rfl rfl rfl) fun w9 hg9 B9 => ?_
    have k9 := off q11 BR0 no_ints3 hg9
    have d9 := off d11 BR0 no_ints3 hg9
    have f9 := f11.mono (show w.heap.size ≤ _ from s_11)
    have bb9 := bb.trans ((Below.refl _ _).grown hg9 bb.size (fun g hg => by injection hg with hg; omega))
    obtain ⟨C0, C1, C2, _, _, _⟩ := three B9
    refine any_done (by kernel_rfl) ?_
    go_wp2
    exact bodyPost_ret (v := .agg #[.bool (ngB (x).num), .slice A9 (digs 4294967296 (x).num.natAbs).length c9, .slice D9 (digs 4294967296 (x).den).length e9]) (by simp [results, Tryz.results91, go_sem, C0, C1, C2]) rfl ⟨_, rfl, ⟨_, _, rfl, k9, d9⟩, f9, bb9⟩
theorem blk_set1 {w : World} {g i : Nat} {t : TypeId} {cs : Array Value} (h : Blk w g t cs) (u : Value) : Blk (w.setCell ⟨g, i, none⟩ u) g t (cs.setIfInBounds i u) := by
  unfold Blk at h ⊢
  simp [World.setCell, Array.getElem?_modify, h]
theorem blk_set3 {w : World} {g : Nat} {t : TypeId} {a b c : Value} (h : Blk w g t #[a, b, c]) (x y z : Value) : Blk (((w.setCell ⟨g, 0, none⟩ x).setCell ⟨g, 1, none⟩ y).setCell ⟨g, 2, none⟩ z) g t #[x, y, z] := blk_set1 (blk_set1 (blk_set1 h x) y) z
/-- What stands in row x, at place y; 0 where there is no such place. -/
def valAt (T : List (List Rat)) (x y : Int) : Rat := if 0 ≤ x ∧ 0 ≤ y then (cellq T x.toNat y.toNat).getD 0 else 0
theorem valAt_nat (T : List (List Rat)) (i j : Nat) : valAt T i j = (cellq T i j).getD 0 := by
  unfold valAt; rw [if_pos ⟨by omega, by omega⟩]; simp
theorem valAt_of {T : List (List Rat)} {i j : Nat} {q : Rat} (h : cellq T i j = some q) : valAt T i j = q := by rw [valAt_nat, h]; rfl
theorem valAt_zero {T : List (List Rat)} {x y : Int} (h : ∀ (i j : Nat) (q : Rat), x = i → y = j → cellq T i j = some q → q = 0) : valAt T x y = 0 := by
  unfold valAt
  by_cases hc : 0 ≤ x ∧ 0 ≤ y
  · rw [if_pos hc]
    cases hq : cellq T x.toNat y.toNat with
    | none => rfl
    | some q => exact h x.toNat y.toNat q (by omega) (by omega) hq
  · rw [if_neg hc]
/-- All fractions are of so many limbs at most. -/
def lenS (T : List (List Rat)) (m : Nat) : Prop := ∀ (i j : Nat) (q : Rat), cellq T i j = some q → lenQ q m
theorem lenS.mono {T : List (List Rat)} {m n : Nat} (h : lenS T m) (hn : m ≤ n) : lenS T n := fun i j q hq => (h i j q hq).mono hn
theorem RatS_of0 (w : World) : Calls Tryz.prog 32 #[.int .i64 0] w (RetQ (0 : Rat) w) := of8_any 0 w (by omega) (by omega)
set_option maxHeartbeats 1600000 in
set_option maxRecDepth 100000 in
theorem sget_any (g b R C : Nat) (T : List (List Rat)) (x y : Int) (w : World) (h : Spt w g b R C T) (hx : I64 x) (hy : I64 y) (hl : lenS T 100000) : Calls Tryz.prog 94 #[.pointer (some ⟨g, 0, none⟩), .int .i64 x, .int .i64 y] w (RetQ (valAt T x y) w) := by
  have HL := Lib.hid hl
  clear hl
  have ba := below_alloc (w := w) (Nat.le_refl _) (.cells #[.bool false, .slice none 0 0, .slice none 0 0] 44)
  have B0 := Blk.new w 44 #[.bool false, .slice none 0 0, .slice none 0 0]
  go_enter Tryz.func94, Tryz.ntmps94
  go_wp2_with fail
  refine (mcells_any _ _ _ _ _ _ (h.below ba)).mono ?_
  rintro e w2 ⟨rfl, b2⟩
  have bb := ba.trans (b2.mono ba.size)
  have B0 := B0.below b2
  have h2 := (h.below ba).below b2
  clear ba b2 h
  have ba2 := below_alloc (w := w2) (Nat.le_refl _) (.cells #[.bool false, .slice none 0 0, .slice none 0 0] 44)
  have B7 := Blk.new w2 44 #[.bool false, .slice none 0 0, .slice none 0 0]
  have hsz := bb.size
  have hgl := B0.lt
  rcases h2.map.look hx hy with ⟨i, j, p, ex, ey, hc, h0, hp, hrun⟩ | ⟨hm, hrun⟩
  · have HV : Hid (valAt T x y = p.1) := by show _ = _; rw [ex, ey]; exact valAt_of hc
    have HP := Lib.hid (HL.out i j _ hc)
    obtain ⟨q, U, V⟩ := p
    obtain ⟨A1, c1, e1, _⟩ := id hp.1
    obtain ⟨A2, c2, e2, _⟩ := id hp.2
    dsimp only at e1 e2
    subst e1
    subst e2
    unfold qv at hrun
    clear ex ey hc h0
    go_wp2_with fail
    have ba3 := below_alloc (w := w2) (Nat.le_refl _) (.cells #[.bool (ngB q.num), .slice A1 (digs 4294967296 q.num.natAbs).length c1, .slice A2 (digs 4294967296 q.den).length c2] 44)
    refine (scopied_any _ q _ ⟨_, _, rfl, hp.1.below ba3, hp.2.below ba3⟩ HP.out).mono ?_
    rintro e w4 ⟨v4, rfl, k4, f4, b4⟩
    have b24 := ba3.trans (b4.mono ba3.size)
    have B0 := B0.below b24
    have bb4 := bb.trans (b24.mono bb.size)
    obtain ⟨u4, t4, rfl, s4, d4⟩ := k4
    obtain ⟨A4, c4, rfl, _⟩ := id s4
    obtain ⟨D4, e4, rfl, _⟩ := id d4
    have hW := ba3.size
    have f4 := f4.mono (show w2.heap.size ≤ _ from hW)
    clear hp hrun b4 ba3 ba2 B7
    obtain ⟨C0, C1, C2, F0, F1, F2⟩ := three B0
    have B9 := blk_set3 B0 (.bool (ngB q.num)) (.slice A4 (digs 4294967296 q.num.natAbs).length c4) (.slice D4 (digs 4294967296 q.den).length e4)
    obtain ⟨R0, R1, R2, _, _, _⟩ := three B9
    have HE := Lib.hid (endQ (x := .bool (ngB q.num)) (y := .slice A4 (digs 4294967296 q.num.natAbs).length c4) (z := .slice D4 (digs 4294967296 q.den).length e4) bb4 (Nat.le_refl _) hgl s4 d4 f4)
    clear B9
    go_wp2
    rw [HV.out]
    exact bodyPost_ret (v := .agg #[.bool (ngB q.num), .slice A4 (digs 4294967296 q.num.natAbs).length c4, .slice D4 (digs 4294967296 q.den).length e4]) (by simp [results, Tryz.results94, go_sem, R0, R1, R2]) rfl HE.out
  · obtain ⟨Z, hZ⟩ : ∃ Z : Rat, Z = 0 := ⟨_, rfl⟩
    have HV : Hid (valAt T x y = Z) := by show _ = _; rw [hZ]; exact valAt_zero hm
    have CO : ∀ w, Calls Tryz.prog 32 #[.int .i64 0] w (RetQ Z w) := fun w => by rw [hZ]; exact RatS_of0 w
    clear hZ
    unfold zq at hrun
    clear hm
    go_wp2_with fail
    have ba3 := below_alloc (w := w2) (Nat.le_refl _) (.cells #[.bool false, .slice none 0 0, .slice none 0 0] 44)
    refine (CO _).mono ?_
    rintro e w4 ⟨v4, rfl, k4, f4, b4⟩
    have b24 := ba3.trans (b4.mono ba3.size)
    have B0 := B0.below b24
    have bb4 := bb.trans (b24.mono bb.size)
    obtain ⟨u4, t4, rfl, s4, d4⟩ := k4
    obtain ⟨A4, c4, rfl, _⟩ := id s4
    obtain ⟨D4, e4, rfl, _⟩ := id d4
    have hW := ba3.size
    have f4 := f4.mono (show w2.heap.size ≤ _ from hW)
    clear hrun b4 ba3 ba2 B7
    obtain ⟨C0, C1, C2, F0, F1, F2⟩ := three B0
    have B9 := blk_set3 B0 (.bool (ngB Z.num)) (.slice A4 (digs 4294967296 Z.num.natAbs).length c4) (.slice D4 (digs 4294967296 Z.den).length e4)
    obtain ⟨R0, R1, R2, _, _, _⟩ := three B9
    have HE := Lib.hid (endQ (x := .bool (ngB Z.num)) (y := .slice A4 (digs 4294967296 Z.num.natAbs).length c4) (z := .slice D4 (digs 4294967296 Z.den).length e4) bb4 (Nat.le_refl _) hgl s4 d4 f4)
    clear B9
    go_wp2
    rw [HV.out]
    exact bodyPost_ret (v := .agg #[.bool (ngB Z.num), .slice A4 (digs 4294967296 Z.num.natAbs).length c4, .slice D4 (digs 4294967296 Z.den).length e4]) (by simp [results, Tryz.results94, go_sem, R0, R1, R2]) rfl HE.out
theorem grown_below {w w2 w3 : World} {row : Option Nat} (hb : Below w.heap.size w w2) (hg : w2.grownBy w3 row) : w.grownBy w3 row :=
  ⟨hg.os.trans hb.os, hg.tape.trans hb.tape, hg.output.trans hb.output, Nat.le_trans hb.size hg.size, fun k hk hne => (hg.block k (Nat.lt_of_lt_of_le hk hb.size) hne).trans (hb.block k hk)⟩
theorem below_none {w w2 : World} (hb : Below w.heap.size w w2) (row : Option Nat) : w.grownBy w2 row := ⟨hb.os, hb.tape, hb.output, hb.size, fun k hk _ => hb.block k hk⟩
theorem num_ordz0 {x : Rat} : (ordz x.num 0 == 0) = decide (x = 0) := by
  by_cases h : x = 0
  · rw [h, decide_eq_true rfl]; rfl
  · rw [decide_eq_false h, beq_eq_false_iff_ne]
    intro e
    have hz : x.num ≠ 0 := fun k => h (Rat.num_eq_zero.1 k)
    rcases Int.lt_or_gt_of_ne hz with k | k
    · rw [ordz_lt k] at e; cases e
    · rw [ordz_gt k] at e; cases e
section
variable {w : World} {ops : Array Oper} {o : Oper} {a : Act} {K : Act → World → Prop} {Q : Exit → Act → World → Prop} {E : Prop} {b R C i j : Nat} {T : List (List Rat)}
/-- 'delete(m, k)'. -/
theorem wpList_drop_q {rest : List Oper} (hgd : o.guard = none) (m x : Operand) (hop : o.op = Op.call { callee := Callee.builtin Builtin.delete, args := #[m, x], argTypes := #[122, 132] }) (hm : a.eval m = .map (some b)) (hx : a.eval x = .agg #[.int .i64 (i : Int), .int .i64 (j : Int)])
    (h : MapQ w b T) (hs : shp T R C) (hR : R ≤ 200) (hC : C ≤ 200) (hi : i < R) (hj : j < C)
    (hK : ∀ w', MapQ w' b (setq T i j 0) → w.grownBy w' (some b) → wpList Tryz.prog ops Q rest (a.put o.dst (.tuple #[])) w') : wpList Tryz.prog ops Q (o :: rest) a w := by
  refine wpList_plain hgd fun K' hK' => ?_
  obtain ⟨w', hrun, h1, h2⟩ := h.drop hs hR hC hi hj o.type
  unfold Oper.wp
  simp [execOp, hop, resolve, invoke, builtin, hm, hx, hrun, Result.andThen]
  exact hK' _ _ (hK w' h1 h2)
end
/-- The sparse table behind a store. -/
def RetPut (g b R C : Nat) (T : List (List Rat)) (w : World) (e : Ending) (w' : World) : Prop := e = .returned (.int .i64 0) ∧ Spt w' g b R C T ∧ w.grownBy w' (some b)
set_option maxHeartbeats 1600000 in
set_option maxRecDepth 100000 in
theorem sput_no (g b R C : Nat) (T : List (List Rat)) (x y : Int) (a3 : Value) (q : Rat) (w : World) (h : Spt w g b R C T) (h3 : IsQ w a3 q) (hn : ¬ (0 ≤ x ∧ x < (R : Int) ∧ 0 ≤ y ∧ y < (C : Int))) : Calls Tryz.prog 40 #[.pointer (some ⟨g, 0, none⟩), .int .i64 x, .int .i64 y, a3] w (RetV (.int .i64 2) w) := by
  obtain ⟨u, t, rfl, s3, d3⟩ := h3
  obtain ⟨A3, c3, rfl, _⟩ := id s3
  obtain ⟨D3, e3, rfl, _⟩ := id d3
  have HN := Lib.hid hn
  clear hn
  have ba := below_alloc (w := w) (Nat.le_refl _) (.cells #[.bool (ngB q.num), .slice A3 (digs 4294967296 q.num.natAbs).length c3, .slice D3 (digs 4294967296 q.den).length e3] 44)
  go_enter Tryz.func40, Tryz.ntmps40
  go_wp2_with fail
  refine (made_any _ _ _ _ _ _ (h.below ba)).mono ?_
  rintro e w2 ⟨rfl, b2⟩
  have bb := ba.trans (b2.mono ba.size)
  obtain ⟨c0, c1, -⟩ := (h.below bb).cells
  by_cases h1 : 0 ≤ x ∧ x < (R : Int)
  · have HX := Lib.hid h1
    clear h1
    go_wp2_with fail
    refine (samong_any x R true _ (decide_eq_true HX.out).symm).mono ?_
    rintro e w3 ⟨rfl, b3⟩
    have bb3 := bb.trans (b3.mono bb.size)
    clear c0 c1
    obtain ⟨c0, c1, -⟩ := (h.below bb3).cells
    go_wp2_with fail
    refine (samong_any y C false _ (decide_eq_false (fun k => HN.out ⟨HX.out.1, HX.out.2, k.1, k.2⟩)).symm).mono ?_
    rintro e w4 ⟨rfl, b4⟩
    have bb4 := bb3.trans (b4.mono bb3.size)
    go_wp2
    go_ret
    exact ⟨rfl, bb4⟩
  · have HX := Lib.hid h1
    clear h1
    go_wp2_with fail
    refine (samong_any x R false _ (decide_eq_false HX.out).symm).mono ?_
    rintro e w3 ⟨rfl, b3⟩
    have bb3 := bb.trans (b3.mono bb.size)
    go_wp2
    go_ret
    exact ⟨rfl, bb3⟩
set_option maxHeartbeats 3200000 in
set_option maxRecDepth 100000 in
theorem sput_ok (g b R C i j : Nat) (T : List (List Rat)) (a3 : Value) (q : Rat) (w : World) (h : Spt w g b R C T) (h3 : IsQ w a3 q) (hi : i < R) (hj : j < C) (hl : lenQ q 100000) : Calls Tryz.prog 40 #[.pointer (some ⟨g, 0, none⟩), .int .i64 (i : Int), .int .i64 (j : Int), a3] w (RetPut g b R C (setq T i j q) w) := by
  obtain ⟨u, t, rfl, s3, d3⟩ := h3
  obtain ⟨A3, c3, rfl, _⟩ := id s3
  obtain ⟨D3, e3, rfl, _⟩ := id d3
  have HI : Hid (i < R ∧ j < C) := ⟨hi, hj⟩
  clear hi hj
  have ba := below_alloc (w := w) (Nat.le_refl _) (.cells #[.bool (ngB q.num), .slice A3 (digs 4294967296 q.num.natAbs).length c3, .slice D3 (digs 4294967296 q.den).length e3] 44)
  have BV := Blk.new w 44 #[.bool (ngB q.num), .slice A3 (digs 4294967296 q.num.natAbs).length c3, .slice D3 (digs 4294967296 q.den).length e3]
  go_enter Tryz.func40, Tryz.ntmps40
  go_wp2_with fail
  refine (made_any _ _ _ _ _ _ (h.below ba)).mono ?_
  rintro e w2 ⟨rfl, b2⟩
  have bb := ba.trans (b2.mono ba.size)
  have BV := BV.below b2
  obtain ⟨c0, c1, -⟩ := (h.below bb).cells
  go_wp2_with fail
  refine (samong_any i R true _ (decide_eq_true ⟨by omega, by have := HI.out; omega⟩).symm).mono ?_
  rintro e w3 ⟨rfl, b3⟩
  have bb := bb.trans (b3.mono bb.size)
  have BV := BV.below b3
  clear c0 c1
  obtain ⟨c0, c1, -⟩ := (h.below bb).cells
  go_wp2_with fail
  refine (samong_any j C true _ (decide_eq_true ⟨by omega, by have := HI.out; omega⟩).symm).mono ?_
  rintro e w4 ⟨rfl, b4⟩
  have bb := bb.trans (b4.mono bb.size)
  have BV := BV.below b4
  clear c0 c1
  obtain ⟨V0, V1, V2, _, _, _⟩ := three BV
  obtain ⟨t, ht⟩ : ∃ t, t = ordz q.num 0 := ⟨_, rfl⟩
  have k4 : IsQ w4 (.agg #[.bool (ngB q.num), .slice A3 (digs 4294967296 q.num.natAbs).length c3, .slice D3 (digs 4294967296 q.den).length e3]) q := ⟨_, _, rfl, s3.below bb, d3.below bb⟩
  have hz : (t == 0) = decide (q = 0) := by rw [ht]; exact num_ordz0
  go_wp2_with fail
  refine (fsign0_any _ q t _ k4 ht).mono ?_
  rintro e w5 ⟨rfl, b5⟩
  have bb := bb.trans (b5.mono bb.size)
  have BV := BV.below b5
  clear V0 V1 V2 ht k4
  by_cases h0 : q = 0
  · have hz1 : (t == 0) = true := by rw [hz, decide_eq_true h0]
    have hz2 : t = 0 := by simpa using hz1
    have S5 := h.below bb
    obtain ⟨c0, c1, c2⟩ := S5.cells
    subst hz2
    have H0 := Lib.hid h0
    clear hz hz1 h0
    go_wp2_with (at_delete; refine wpList_drop_q rfl (.tmp 34) (.tmp 37) rfl rfl rfl S5.map S5.shp S5.hR S5.hC HI.out.1 HI.out.2 ?_; intro w6 M6 g6)
    rw [← H0.out] at M6
    have S6 : Spt w6 g b R C (setq T i j q) := ⟨S5.map.isM.offBlk S5.blk g6, M6, setq_shp S5.shp i j q, S5.hR, S5.hC⟩
    have HE := Lib.hid (And.intro S6 (grown_below bb g6))
    clear M6 S6 g6
    go_wp2
    go_ret
    exact ⟨rfl, HE.out⟩
  · have hz1 : (t == 0) = false := by rw [hz, decide_eq_false h0]
    have hz2 : ¬ t = 0 := by simpa using hz1
    have H0 := Lib.hid h0
    clear hz h0
    have S5 := (h.below bb).drew
    obtain ⟨-, -, c2⟩ := S5.cells
    have BV5 : Blk w5.drew _ _ _ := BV.drew
    obtain ⟨V0, V1, V2, _, _, _⟩ := three BV5
    have bd := bb.trans ((Below.refl w5.heap.size w5).drew.mono bb.size)
    have k5 : IsQ w5.drew (.agg #[.bool (ngB q.num), .slice A3 (digs 4294967296 q.num.natAbs).length c3, .slice D3 (digs 4294967296 q.den).length e3]) q := ⟨_, _, rfl, s3.below bd, d3.below bd⟩
    go_upto_region 7 with (fail)
    go_region_law (go_simp; go_at_call 91; refine (scopied_any _ q _ (by exact k5) hl).mono ?_; rintro e w6 ⟨v6, rfl, k6, f6, b6⟩; have S6 := S5.below b6; have c26 := S6.cells.2.2; obtain ⟨u6, t6, rfl, s6, d6⟩ := k6; obtain ⟨A6, c6, rfl, _⟩ := id s6; obtain ⟨D6, e6, rfl, _⟩ := id d6; have hst := S6.map.store S6.shp S6.hR S6.hC HI.out.1 HI.out.2 (p := (q, .slice A6 (digs 4294967296 q.num.natAbs).length c6, .slice D6 (digs 4294967296 q.den).length e6)) H0.out ⟨s6, d6⟩; unfold qv at hst; obtain ⟨w7, hr7, M7, g7⟩ := hst)
    all_goals
      have S7 : Spt w7 g b R C (setq T i j q) := ⟨S6.map.isM.offBlk S6.blk g7, M7, setq_shp S6.shp i j q, S6.hR, S6.hC⟩
      have HE := Lib.hid (And.intro S7 (grown_below (bd.trans (b6.mono bd.size)) g7))
      clear M7 S7 g7 S6 S5
      go_wp2
      go_ret
      exact ⟨rfl, HE.out⟩
theorem lenQ_nought (m : Nat) (h : 1 ≤ m) : lenQ (0 : Rat) m := lenQ.mono (m := 1) ⟨digs_len_le (k := 1) (by omega) (by decide +kernel), digs_len_le (k := 1) (by omega) (by decide +kernel)⟩ h
set_option maxHeartbeats 3200000 in
set_option maxRecDepth 100000 in
theorem smore_no (g b R C : Nat) (T : List (List Rat)) (x y : Int) (a3 : Value) (q : Rat) (w : World) (h : Spt w g b R C T) (hx : I64 x) (hy : I64 y) (h3 : IsQ w a3 q) (hl : lenQ q 1000) (hT : lenS T 1000) (hn : ¬ (0 ≤ x ∧ x < (R : Int) ∧ 0 ≤ y ∧ y < (C : Int))) : Calls Tryz.prog 43 #[.pointer (some ⟨g, 0, none⟩), .int .i64 x, .int .i64 y, a3] w (RetV (.int .i64 2) w) := by
  have k3 := h3
  have HN := Lib.hid hn
  have HT := Lib.hid hT
  clear hn hT
  have hv0 : valAt T x y = 0 := valAt_zero fun i j p e1 e2 hq => by
    obtain ⟨h1, h2⟩ := cellq_lt h.shp hq
    exact absurd ⟨by omega, by omega, by omega, by omega⟩ HN.out
  obtain ⟨u, t, rfl, s3, d3⟩ := h3
  obtain ⟨A3, c3, rfl, _⟩ := id s3
  obtain ⟨D3, e3, rfl, _⟩ := id d3
  have ba := below_alloc (w := w) (Nat.le_refl _) (.cells #[.bool (ngB q.num), .slice A3 (digs 4294967296 q.num.natAbs).length c3, .slice D3 (digs 4294967296 q.den).length e3] 44)
  have BV := Blk.new w 44 #[.bool (ngB q.num), .slice A3 (digs 4294967296 q.num.natAbs).length c3, .slice D3 (digs 4294967296 q.den).length e3]
  have bd := ba.trans ((Below.refl _ _).drew.mono ba.size)
  have S0 := h.below bd
  have BV5 : Blk (w.alloc (.cells #[.bool (ngB q.num), .slice A3 (digs 4294967296 q.num.natAbs).length c3, .slice D3 (digs 4294967296 q.den).length e3] 44)).drew _ _ _ := BV.drew
  obtain ⟨V0, V1, V2, _, _, _⟩ := three BV5
  obtain ⟨Z, hZ⟩ : ∃ Z : Rat, Z = 0 := ⟨_, rfl⟩
  have GN : ∀ w, Spt w g b R C T → Calls Tryz.prog 94 #[.pointer (some ⟨g, 0, none⟩), .int .i64 x, .int .i64 y] w (RetQ Z w) := fun w S => by rw [hZ, ← hv0]; exact sget_any g b R C T x y w S hx hy (HT.out.mono (by omega))
  have hlZ : lenQ Z 1000 := by rw [hZ]; exact lenQ_nought 1000 (by omega)
  clear hZ hv0
  go_enter Tryz.func43, Tryz.ntmps43
  go_upto_region 1 with (fail)
  go_region_law (first
    | (go_simp; go_at_call 94; refine (GN _ (by exact S0)).mono ?_; rintro e w2 ⟨v2, rfl, k2, f2, b2⟩; have BV2 := BV5.below b2; obtain ⟨V20, V21, V22, _, _, _⟩ := three BV2; have bb2 := bd.trans (b2.mono bd.size); have kk2 := k2; obtain ⟨u2, t2, rfl, s2, d2⟩ := k2; obtain ⟨A2, c2, rfl, _⟩ := id s2; obtain ⟨D2, e2, rfl, _⟩ := id d2)
    | (go_simp; go_at_call 93; refine (add8_any _ Z _ q _ (by exact kk2) (k3.below bb2) hlZ hl).mono ?_; rintro e w3 ⟨v3, rfl, k4, f3, b3⟩; have bb3 := bb2.trans (b3.mono bb2.size); have kk3 := k4; obtain ⟨u4, t4, rfl, s4, d4⟩ := k4; obtain ⟨A4, c4, rfl, _⟩ := id s4; obtain ⟨D4, e4, rfl, _⟩ := id d4)
    | (go_simp; go_at_call 40; refine (sput_no g b R C T x y _ _ _ (h.below bb3) (by exact kk3) HN.out).mono ?_; rintro e w4 ⟨rfl, b4⟩; have bb4 := bb3.trans (b4.mono bb3.size)))
  all_goals
    go_wp2
    go_ret
    exact ⟨rfl, bb4⟩
set_option maxHeartbeats 3200000 in
set_option maxRecDepth 100000 in
theorem smore_ok (g b R C i j : Nat) (T : List (List Rat)) (a3 : Value) (p q : Rat) (w : World) (h : Spt w g b R C T) (h3 : IsQ w a3 q) (hi : i < R) (hj : j < C) (hp : cellq T i j = some p) (hl : lenQ q 1000) (hT : lenS T 1000) : Calls Tryz.prog 43 #[.pointer (some ⟨g, 0, none⟩), .int .i64 (i : Int), .int .i64 (j : Int), a3] w (RetPut g b R C (setq T i j (p + q)) w) := by
  have k3 := h3
  have HT := Lib.hid hT
  have HIJ : Hid (i < R ∧ j < C) := ⟨hi, hj⟩
  have hIi := natI64 hi h.hR
  have hIj := natI64 hj h.hC
  have hlp : lenQ p 1000 := hT i j p hp
  have hv0 : valAt T i j = p := valAt_of hp
  clear hT hi hj hp
  have hlr : lenQ (p + q) 100000 := (lenQ_add2 hlp hl).mono (by omega)
  obtain ⟨u, t, rfl, s3, d3⟩ := h3
  obtain ⟨A3, c3, rfl, _⟩ := id s3
  obtain ⟨D3, e3, rfl, _⟩ := id d3
  have ba := below_alloc (w := w) (Nat.le_refl _) (.cells #[.bool (ngB q.num), .slice A3 (digs 4294967296 q.num.natAbs).length c3, .slice D3 (digs 4294967296 q.den).length e3] 44)
  have BV := Blk.new w 44 #[.bool (ngB q.num), .slice A3 (digs 4294967296 q.num.natAbs).length c3, .slice D3 (digs 4294967296 q.den).length e3]
  have bd := ba.trans ((Below.refl _ _).drew.mono ba.size)
  have S0 := h.below bd
  have BV5 : Blk (w.alloc (.cells #[.bool (ngB q.num), .slice A3 (digs 4294967296 q.num.natAbs).length c3, .slice D3 (digs 4294967296 q.den).length e3] 44)).drew _ _ _ := BV.drew
  obtain ⟨V0, V1, V2, _, _, _⟩ := three BV5
  go_enter Tryz.func43, Tryz.ntmps43
  go_upto_region 1 with (fail)
  go_region_law (first
    | (go_simp; go_at_call 94; refine (sget_any g b R C T i j _ (by exact S0) hIi hIj (HT.out.mono (by omega))).mono ?_; rw [hv0]; rintro e w2 ⟨v2, rfl, k2, f2, b2⟩; have BV2 := BV5.below b2; obtain ⟨V20, V21, V22, _, _, _⟩ := three BV2; have bb2 := bd.trans (b2.mono bd.size); have kk2 := k2; obtain ⟨u2, t2, rfl, s2, d2⟩ := k2; obtain ⟨A2, c2, rfl, _⟩ := id s2; obtain ⟨D2, e2, rfl, _⟩ := id d2)
    | (go_simp; go_at_call 93; refine (add8_any _ p _ q _ (by exact kk2) (k3.below bb2) hlp hl).mono ?_; rintro e w3 ⟨v3, rfl, k4, f3, b3⟩; have bb3 := bb2.trans (b3.mono bb2.size); have kk3 := k4; obtain ⟨u4, t4, rfl, s4, d4⟩ := k4; obtain ⟨A4, c4, rfl, _⟩ := id s4; obtain ⟨D4, e4, rfl, _⟩ := id d4)
    | (go_simp; go_at_call 40; refine (sput_ok g b R C i j T _ (p + q) _ (h.below bb3) (by exact kk3) HIJ.out.1 HIJ.out.2 hlr).mono ?_; rintro e w4 ⟨rfl, S4, g4⟩; have HE := Lib.hid (And.intro S4 (grown_below bb3 g4)); clear S4 g4))
  all_goals
    go_wp2
    go_ret
    exact ⟨rfl, HE.out⟩
theorem info_vec13 : ∃ i, Tryz.prog.info? 64 = some i ∧ i.zero = some (.slice none 0 0) ∧ i.size = 1 ∧ i.bytes = 24 := info_parts (P := Tryz.prog) (e := 64) (z := .slice none 0 0) (size := 1) (bytes := 24) (by kernel_rfl)
set_option maxHeartbeats 3200000 in
set_option maxRecDepth 100000 in
theorem works13_any (w : World) : Calls Tryz.prog 46 #[] w (RetV (.bool true) w) := by
  obtain ⟨F, hF⟩ : ∃ F : Rat, F = ((5 : Int) : Rat) := ⟨_, rfl⟩
  have C5 : ∀ w, Calls Tryz.prog 32 #[.int .i64 5] w (RetQ F w) := fun w => by rw [hF]; exact of8_any 5 w (by omega) (by omega)
  have hF0 : F ≠ 0 := by rw [hF]; decide +kernel
  have hFl : lenQ F 100000 := lenQ.mono (m := 1) (by rw [hF]; exact ⟨digs_len_le (k := 1) (by omega) (by decide +kernel), digs_len_le (k := 1) (by omega) (by decide +kernel)⟩) (by omega)
  obtain ⟨Z, hZ⟩ : ∃ Z : Rat, Z = 0 := ⟨_, rfl⟩
  have C0 : ∀ w, Calls Tryz.prog 32 #[.int .i64 0] w (RetQ Z w) := fun w => by rw [hZ]; exact RatS_of0 w
  have hZl : lenQ Z 100000 := by rw [hZ]; exact lenQ_nought _ (by omega)
  obtain ⟨T0, hT0⟩ : ∃ T, T = zerosT 2 2 := ⟨_, rfl⟩
  obtain ⟨T1, hT1⟩ : ∃ T, T = setq T0 0 1 F := ⟨_, rfl⟩
  obtain ⟨T2, hT2⟩ : ∃ T, T = setq T1 0 1 Z := ⟨_, rfl⟩
  have s0 := shp_zeros 2 2
  rw [← hT0] at s0
  have s1 := setq_shp s0 0 1 F
  rw [← hT1] at s1
  obtain ⟨q0, hq0⟩ := cellq_ex s0 (show 0 < 2 by omega) (show 1 < 2 by omega)
  have hz0 : q0 = 0 := cellq_zeros (by rw [← hT0]; exact hq0)
  have hc0 : cntT T0 = 0 := by rw [hT0]; exact cntT_zeros 2 2
  have hq1 : cellq T1 0 1 = some F := by rw [hT1, cellq_setq s0 (by omega) (by omega), if_pos ⟨rfl, rfl⟩]
  have hc1 : cntT T1 = 1 := by
    have h := cntT_setq hq0 F
    rw [← hT1, hz0, oneq_zero, oneq_pos hF0, hc0] at h
    omega
  have hc2 : cntT T2 = 0 := by
    have h := cntT_setq hq1 Z
    rw [← hT2, hZ, oneq_zero, oneq_pos hF0, hc1] at h
    omega
  clear hF hZ hq0 hz0 hc0 hq1 s0 s1
  go_enter Tryz.func46, Tryz.ntmps46
  go_wp2_with fail
  refine (snew_ok 2 2 _ (by omega) (by omega)).mono ?_
  rintro e w1 ⟨g, b, rfl, S1, hg, hb, b1⟩
  rw [← hT0] at S1
  go_wp2_with fail
  refine (C5 _).mono ?_
  rintro e w2 ⟨v2, rfl, k2, f2, b2⟩
  have bb2 := b1.trans (b2.mono b1.size)
  have S2 := S1.below b2
  have kk2 := k2
  obtain ⟨u2, t2, rfl, s2, d2⟩ := k2
  obtain ⟨A2, c2, rfl, _⟩ := id s2
  obtain ⟨D2, e2, rfl, _⟩ := id d2
  go_wp2_with fail
  refine (sput_ok g b 2 2 0 1 T0 _ F _ S2 kk2 (by omega) (by omega) hFl).mono ?_
  rintro e w3 ⟨rfl, S3, g3⟩
  rw [← hT1] at S3
  have bb3 := bb2.grown g3 bb2.size (fun k hk => by injection hk with hk; omega)
  have hcn := scount_any g b 2 2 T1 w3 S3
  rw [hc1] at hcn
  clear S1 S2 kk2 s2 d2 g3
  go_wp2_with fail
  refine hcn.mono ?_
  rintro e w4 ⟨rfl, b4⟩
  have bb4 := bb3.trans (b4.mono bb3.size)
  have S4 := S3.below b4
  clear hcn S3
  go_wp2_with fail
  refine (C0 _).mono ?_
  rintro e w5 ⟨v5, rfl, k5, f5, b5⟩
  have bb5 := bb4.trans (b5.mono bb4.size)
  have S5 := S4.below b5
  have kk5 := k5
  obtain ⟨u5, t5, rfl, s5, d5⟩ := k5
  obtain ⟨A5, c5, rfl, _⟩ := id s5
  obtain ⟨D5, e5, rfl, _⟩ := id d5
  go_wp2_with fail
  refine (sput_ok g b 2 2 0 1 T1 _ Z _ S5 kk5 (by omega) (by omega) hZl).mono ?_
  rintro e w6 ⟨rfl, S6, g6⟩
  rw [← hT2] at S6
  have bb6 := bb5.grown g6 bb5.size (fun k hk => by injection hk with hk; omega)
  have hcn := scount_any g b 2 2 T2 w6 S6
  rw [hc2] at hcn
  clear S4 S5 kk5 s5 d5 g6
  go_wp2_with fail
  refine hcn.mono ?_
  rintro e w7 ⟨rfl, b7⟩
  have bb7 := bb6.trans (b7.mono bb6.size)
  go_wp2
  go_ret
  exact ⟨rfl, bb7⟩
/-- A place, and what stands there. -/
abbrev Cel := Nat × Elt
def cells4 (x : Cel) : List Value := [.int .i64 (x.1 : Int), .bool (ngB x.2.1.num), x.2.2.1, x.2.2.2]
def flat4 (xs : List Cel) : List Value := xs.flatMap cells4
theorem flat4_snoc (xs : List Cel) (x : Cel) : flat4 (xs ++ [x]) = flat4 xs ++ cells4 x := by simp [flat4]
theorem flat4_at : ∀ (xs : List Cel) (i : Nat) (x : Cel), xs[i]? = some x → (flat4 xs)[i * 4]? = some (.int .i64 (x.1 : Int)) ∧ (flat4 xs)[i * 4 + 1]? = some (.bool (ngB x.2.1.num)) ∧ (flat4 xs)[i * 4 + 2]? = some x.2.2.1 ∧ (flat4 xs)[i * 4 + 3]? = some x.2.2.2
  | [], i, x, h => by simp at h
  | y :: xs, 0, x, h => by
    obtain rfl : y = x := by simpa using h
    exact ⟨rfl, rfl, rfl, rfl⟩
  | y :: xs, i + 1, x, h => by
    have ih := flat4_at xs i x (by simpa using h)
    have e : flat4 (y :: xs) = .int .i64 (y.1 : Int) :: .bool (ngB y.2.1.num) :: y.2.2.1 :: y.2.2.2 :: flat4 xs := rfl
    rw [e, show (i + 1) * 4 = i * 4 + 1 + 1 + 1 + 1 from by omega]
    simpa using ih
/-- The value is a slice of these cells. -/
def IsVC (w : World) (v : Value) (xs : List Cel) : Prop := ∃ A c, v = .slice A xs.length c ∧ xs.length ≤ c ∧ c ≤ maxLen ∧ ∀ i x, xs[i]? = some x → ∃ g o, A = some ⟨g, o, none⟩ ∧ w.cell? ⟨g, o + i * 4, none⟩ = some (.int .i64 (x.1 : Int)) ∧ w.cell? ⟨g, o + i * 4 + 1, none⟩ = some (.bool (ngB x.2.1.num)) ∧ w.cell? ⟨g, o + i * 4 + 2, none⟩ = some x.2.2.1 ∧ w.cell? ⟨g, o + i * 4 + 3, none⟩ = some x.2.2.2
theorem IsVC.below {w w' : World} {v : Value} {xs : List Cel} (h : IsVC w v xs) (hb : Below w.heap.size w w') : IsVC w' v xs := by
  obtain ⟨A, c, e, h1, h2, h3⟩ := h
  refine ⟨A, c, e, h1, h2, fun i x hx => ?_⟩
  obtain ⟨g, o, e2, c0, c1, c2, c3⟩ := h3 i x hx
  exact ⟨g, o, e2, (hb.cell (World.block_lt_of_cell? w _ c0)).trans c0, (hb.cell (World.block_lt_of_cell? w _ c1)).trans c1, (hb.cell (World.block_lt_of_cell? w _ c2)).trans c2, (hb.cell (World.block_lt_of_cell? w _ c3)).trans c3⟩
def celq (x : Cel) : Nat × Rat := (x.1, x.2.1)
/-- The value reads as these places and fractions. -/
def SlC (w : World) (v : Value) (l : List (Nat × Rat)) : Prop := ∃ xs : List Cel, xs.map celq = l ∧ IsVC w v xs ∧ ∀ x ∈ xs, IsE .u64 4294967296 w x.2
theorem SlC.below {w w' : World} {v : Value} {l : List (Nat × Rat)} (h : SlC w v l) (hb : Below w.heap.size w w') : SlC w' v l := by
  obtain ⟨xs, e, h1, h2⟩ := h
  exact ⟨xs, e, h1.below hb, fun x hx => (h2 x hx).below hb⟩
theorem SlC.shape {w : World} {v : Value} {l : List (Nat × Rat)} (h : SlC w v l) : ∃ A c, v = .slice A l.length c ∧ l.length ≤ c ∧ c ≤ maxLen := by
  obtain ⟨xs, rfl, ⟨A, c, e, h1, h2, _⟩, _⟩ := h
  rw [List.length_map]
  exact ⟨A, c, e, h1, h2⟩
/-- One of them. -/
theorem SlC.at_ {w : World} {A : Option Addr} {n c : Nat} {l : List (Nat × Rat)} {i : Nat} {y : Nat × Rat} (h : SlC w (.slice A n c) l) (hy : l[i]? = some y) : ∃ g o u t, A = some ⟨g, o, none⟩ ∧ i < n ∧ w.cell? ⟨g, o + i * 4, none⟩ = some (.int .i64 (y.1 : Int)) ∧ w.cell? ⟨g, o + i * 4 + 1, none⟩ = some (.bool (ngB y.2.num)) ∧ w.cell? ⟨g, o + i * 4 + 2, none⟩ = some u ∧ w.cell? ⟨g, o + i * 4 + 3, none⟩ = some t ∧ IsS w .u64 u (digs 4294967296 y.2.num.natAbs) ∧ IsS w .u64 t (digs 4294967296 y.2.den) := by
  obtain ⟨xs, rfl, ⟨A', c', e, h1, h2, h3⟩, h4⟩ := h
  injection e with e1 e2 e3
  subst e1; subst e2; subst e3
  rw [List.getElem?_map] at hy
  cases hx : xs[i]? with
  | none => rw [hx] at hy; cases hy
  | some x =>
    rw [hx] at hy
    obtain rfl : celq x = y := by simpa using hy
    obtain ⟨g, o, e4, c0, c1, c2, c3⟩ := h3 i x hx
    have h5 := h4 x (List.mem_of_getElem? hx)
    exact ⟨g, o, x.2.2.1, x.2.2.2, e4, (List.getElem?_eq_some_iff.1 hx).1, c0, c1, c2, c3, h5.1, h5.2⟩
/-- A row of the call's own. -/
def RowZ4 (w : World) (base : Nat) (v : Value) (xs : List Cel) : Prop := w.ownsRow base 138 4 v xs.length (flat4 xs)
theorem RowZ4.below {w w' : World} {base : Nat} {v : Value} {xs : List Cel} (h : RowZ4 w base v xs) (hb : Below w.heap.size w w') : RowZ4 w' base v xs :=
  World.ownsRow.kept (row := none) h ⟨hb.os, hb.tape, hb.output, hb.size, fun i hi _ => hb.block i hi⟩ (by cases hv : v.ownBlock <;> simp)
theorem RowZ4.under {w : World} {base : Nat} {v : Value} {xs : List Cel} (h : RowZ4 w base v xs) : ∀ g, v.ownBlock = some g → g < w.heap.size := fun g hg => (World.ownsRow.lt h g hg).2
theorem RowZ4.base_le {w : World} {base : Nat} {v : Value} {xs : List Cel} (h : RowZ4 w base v xs) : ∀ g, v.ownBlock = some g → base ≤ g := fun g hg => (World.ownsRow.lt h g hg).1
theorem rowZ4_nil (w : World) (base : Nat) : RowZ4 w base (.slice none 0 0) [] := World.ownsRow_nil w base 138 4
theorem RowZ4.isVC {w : World} {base : Nat} {v : Value} {xs : List Cel} (h : RowZ4 w base v xs) : IsVC w v xs := by
  rcases h.2 with ⟨rfl, h0⟩ | ⟨g, cap, cur, rfl, _, hg, hn, hm, _, _⟩
  · obtain rfl : xs = [] := List.length_eq_zero_iff.1 h0
    exact ⟨none, 0, rfl, by simp, by unfold maxLen; omega, fun i u hu => by simp at hu⟩
  · refine ⟨_, cap, rfl, hn, hm, fun i x hx => ⟨g, 0, rfl, ?_⟩⟩
    have e : ∀ j, (⟨g, 0, none⟩ : Addr).add j = ⟨g, 0 + j, none⟩ := by
      intro j
      unfold Addr.add
      by_cases h : j = 0
      · simp [h]
      · simp [h]
    obtain ⟨f0, f1, f2, f3⟩ := flat4_at xs i x hx
    have k0 := World.ownsRow.cells h (g := g) rfl _ _ f0
    have k1 := World.ownsRow.cells h (g := g) rfl _ _ f1
    have k2 := World.ownsRow.cells h (g := g) rfl _ _ f2
    have k3 := World.ownsRow.cells h (g := g) rfl _ _ f3
    rw [e] at k0 k1 k2 k3
    exact ⟨k0, by rw [Nat.add_assoc]; exact k1, by rw [Nat.add_assoc]; exact k2, by rw [Nat.add_assoc]; exact k3⟩
theorem info_cell : ∃ i, Tryz.prog.info? 138 = some i ∧ i.zero = some (.agg #[.int .i64 0, .bool false, .slice none 0 0, .slice none 0 0]) ∧ i.size = 4 ∧ i.bytes = 64 := info_parts (P := Tryz.prog) (e := 138) (z := .agg #[.int .i64 0, .bool false, .slice none 0 0, .slice none 0 0]) (size := 4) (bytes := 64) (by kernel_rfl)
theorem run_append_c {w : World} {base : Nat} {ty : TypeId} {v : Value} {x : Cel} {xs : List Cel} (hown : RowZ4 w base v xs) {ad : Addr} {c : Nat}
    (h0 : w.cell? (ad.add 0) = some (.int .i64 (x.1 : Int))) (h1 : w.cell? (ad.add 1) = some (.bool (ngB x.2.1.num))) (h2 : w.cell? (ad.add 2) = some x.2.2.1) (h3 : w.cell? (ad.add 3) = some x.2.2.2) (k1 : x.2.2.1.oneCell' = true) (k2 : x.2.2.2.oneCell' = true) (hlen : xs.length ≤ 1000000000) (hbase : base ≤ w.heap.size) :
    ∃ v' w', (Builtin.append_ #[135, 135] ty #[v, .slice (some ad) 1 c]).run Tryz.prog w = .ok v' w' ∧ RowZ4 w' base v' (xs ++ [x]) ∧ Grew w w' v v' := by
  obtain ⟨i, hi, hz, hs, hb⟩ := info_cell
  obtain ⟨v', w', g1, g2, g3, _, g5⟩ := run_append_own_at (P := Tryz.prog) w base 135 ty 138 i (.agg #[.int .i64 0, .bool false, .slice none 0 0, .slice none 0 0]) 4 64 Tryz.underlying135 hi hz hs hb rfl (by decide) v xs.length (flat4 xs) hown ad 1 c (cells4 x) rfl (fun j a ha => by
    match j, ha with
    | 0, ha => simp [cells4] at ha; subst ha; exact h0
    | 1, ha => simp [cells4] at ha; subst ha; exact h1
    | 2, ha => simp [cells4] at ha; subst ha; exact h2
    | 3, ha => simp [cells4] at ha; subst ha; exact h3
    | j + 4, ha => simp [cells4] at ha) (fun a ha => by
      simp only [cells4, List.mem_cons, List.not_mem_nil, or_false] at ha
      rcases ha with rfl | rfl | rfl | rfl
      · rfl
      · rfl
      · exact k1
      · exact k2) (by unfold maxLen; omega) (by omega) hbase
  refine ⟨v', w', g1, by unfold RowZ4; rw [List.length_append, flat4_snoc]; exact g2, keeps_of g3 g5, g3, fun g hg hne e1 => ?_⟩
  rcases g5 with h | h
  · exact hne (h ▸ e1)
  · rw [h] at e1; injection e1 with e1; omega
theorem wpList_append_c {w : World} {ops : Array Oper} {rest : List Oper} {o : Oper} {a : Act} {Q : Exit → Act → World → Prop} (hgd : o.guard = none) (s y : Operand) (ho : o.op = .call { callee := .builtin .append, args := #[s, y], argTypes := #[135, 135] })
    {base : Nat} {v : Value} {x : Cel} {xs : List Cel} (hs : a.eval s = v) (hown : RowZ4 w base v xs) {ad : Addr} {c : Nat} (hy : a.eval y = .slice (some ad) 1 c)
    (h0 : w.cell? (ad.add 0) = some (.int .i64 (x.1 : Int))) (h1 : w.cell? (ad.add 1) = some (.bool (ngB x.2.1.num))) (h2 : w.cell? (ad.add 2) = some x.2.2.1) (h3 : w.cell? (ad.add 3) = some x.2.2.2) (k1 : x.2.2.1.oneCell' = true) (k2 : x.2.2.2.oneCell' = true) (hlen : xs.length ≤ 1000000000) (hbase : base ≤ w.heap.size)
    (h : ∀ v' w', RowZ4 w' base v' (xs ++ [x]) → Below base w w' → Hid (Grew w w' v v') → wpList Tryz.prog ops Q rest (a.put o.dst v') w') : wpList Tryz.prog ops Q (o :: rest) a w := by
  obtain ⟨v', w', hrun, g2, g3⟩ := run_append_c (ty := o.type) hown (c := c) h0 h1 h2 h3 k1 k2 hlen hbase
  refine wpList_plain hgd fun K hK => ?_
  unfold Oper.wp execOp
  simp only [ho, resolve, invoke, builtin, Sem.run_bind, Sem.run_pure, Result.andThen_ok, List.map_toArray, List.map_cons, List.map_nil, hs, hy, hrun]
  exact hK _ _ (h v' w' g2 ((Below.refl base w).grown g3.2.1 hbase hown.base_le) g3)
/-- What of the first k places of a row is no nought. -/
def cel1 (r : List Rat) (j : Nat) : Option (Nat × Rat) := match r[j]? with
  | some q => if q = 0 then none else some (j, q)
  | none => none
def cellsR (r : List Rat) (k : Nat) : List (Nat × Rat) := (List.range k).filterMap (cel1 r)
theorem cellsR_hit {r : List Rat} {k : Nat} {q : Rat} (h : r[k]? = some q) (h0 : q ≠ 0) : cellsR r (k + 1) = cellsR r k ++ [(k, q)] := by
  unfold cellsR
  rw [List.range_succ, List.filterMap_append]
  congr 1
  have : cel1 r k = some (k, q) := by unfold cel1; rw [h]; exact if_neg h0
  simp [this]
theorem cellsR_miss {r : List Rat} {k : Nat} (h : ∀ q, r[k]? = some q → q = 0) : cellsR r (k + 1) = cellsR r k := by
  unfold cellsR
  rw [List.range_succ, List.filterMap_append]
  have : cel1 r k = none := by
    unfold cel1
    cases hr : r[k]? with
    | none => rfl
    | some q => exact if_pos (h q hr)
  simp [this]
theorem cellsR_len (r : List Rat) : ∀ k, (cellsR r k).length ≤ k
  | 0 => Nat.le_refl _
  | k + 1 => by
    have ih := cellsR_len r k
    by_cases h : ∃ q, r[k]? = some q ∧ q ≠ 0
    · obtain ⟨q, h1, h2⟩ := h
      rw [cellsR_hit h1 h2, List.length_append, List.length_singleton]; omega
    · rw [cellsR_miss fun q hq => Classical.byContradiction fun h0 => h ⟨q, hq, h0⟩]; omega
/-- Row x of a table; none where there is no such row. -/
def rowOf (T : List (List Rat)) (x : Int) : List Rat := if 0 ≤ x then (T[x.toNat]?).getD [] else []
theorem rowOf_nat {T : List (List Rat)} {i : Nat} {r : List Rat} (h : T[i]? = some r) : rowOf T i = r := by
  unfold rowOf; rw [if_pos (by omega)]; simp [h]
theorem rowOf_at {T : List (List Rat)} {x : Int} {j : Nat} {q : Rat} (h : (rowOf T x)[j]? = some q) : ∃ i : Nat, x = i ∧ cellq T i j = some q := by
  unfold rowOf at h
  by_cases hx : 0 ≤ x
  · rw [if_pos hx] at h
    cases hr : T[x.toNat]? with
    | none => rw [hr] at h; simp at h
    | some r =>
      rw [hr] at h
      exact ⟨x.toNat, by omega, cellq_of hr h⟩
  · rw [if_neg hx] at h; simp at h
/-- A row of cells, in new memory. -/
def RetCel (l : List (Nat × Rat)) (w : World) (e : Ending) (w' : World) : Prop := ∃ V, e = .returned V ∧ SlC w' V l ∧ Below w.heap.size w w'
set_option maxHeartbeats 3200000 in
set_option maxRecDepth 100000 in
theorem srow_any (g b R C : Nat) (T : List (List Rat)) (x : Int) (w : World) (h : Spt w g b R C T) (hx : I64 x) (hl : lenS T 100000) : Calls Tryz.prog 96 #[.pointer (some ⟨g, 0, none⟩), .int .i64 x] w (RetCel (cellsR (rowOf T x) C) w) := by
  have HL := Lib.hid hl
  have hC := h.hC
  clear hl
  go_enter Tryz.func96, Tryz.ntmps96
  go_wp2_with fail
  refine (ssize_any _ _ _ _ _ _ h).mono ?_
  rintro e w1 ⟨rfl, b1⟩
  go_wp2
  go_loopw [5, 17] (fun v5 v17 wr => ∃ (k : Nat) (xs : List Cel), k ≤ C ∧ RowZ4 wr w.heap.size v5 xs ∧ Hid (xs.map celq = cellsR (rowOf T x) k) ∧ FarF .u64 4294967296 wr v5 (xs.map (·.2)) ∧ Below w.heap.size w wr ∧ v17 = .int .i64 (k : Int)) (fun _ v17 _ => C - (intOf v17).toNat)
  case atStart => exact ⟨0, [], by omega, rowZ4_nil _ _, rfl, FarF.nil _ _ _ _, b1, rfl⟩
  case round =>
    clear b1
    obtain ⟨k, xs, hk, hR, HM, hF, bb, rfl⟩ := hrel
    by_cases hlt : k < C
    · obtain ⟨A5, c5, rfl, -, -, -⟩ := hR.isVC
      have hsz := bb.size
      go_wp2_with fail
      refine (mcells_any _ _ _ _ _ _ (h.below bb)).mono ?_
      rintro e w2 ⟨rfl, b2⟩
      have bb2 := bb.trans (b2.mono bb.size)
      have hR2 := hR.below b2
      have hF2 := hF.below b2
      have S2 := h.below bb2
      have hsz2 := bb2.size
      have hsk : C - (k + 1) < C - k := by omega
      clear hR hF b2
      rcases S2.map.look hx (natI64 hlt hC) with ⟨i, j, p, ex, ey, hc, h0, hp, hrun⟩ | ⟨hm, hrun⟩
      · obtain rfl : k = j := by omega
        have HQ := Lib.hid (HL.out i k _ hc)
        have hr : (rowOf T x)[k]? = some p.1 := by
          obtain ⟨r, h1, h2⟩ := cellq_inv hc
          rw [ex, rowOf_nat h1]; exact h2
        have HM2 : Hid (cellsR (rowOf T x) (k + 1) = xs.map celq ++ [(k, p.1)]) := by show _ = _; rw [cellsR_hit hr h0, HM.out]
        obtain ⟨q, U, V⟩ := p
        obtain ⟨A1, c1, e1, _⟩ := id hp.1
        obtain ⟨A2, c2, e2, _⟩ := id hp.2
        dsimp only at e1 e2
        subst e1
        subst e2
        unfold qv at hrun
        have HLN : Hid (xs.length ≤ 1000000000) := by
          have h1 := congrArg List.length HM.out
          rw [List.length_map] at h1
          have h2 := cellsR_len (rowOf T x) k
          show _ ≤ _
          omega
        clear ex ey hc h0 hr
        go_wp2_with fail
        have ba3 := below_alloc (w := w2) (Nat.le_refl _) (.cells #[.bool (ngB q.num), .slice A1 (digs 4294967296 q.num.natAbs).length c1, .slice A2 (digs 4294967296 q.den).length c2] 44)
        refine (scopied_any _ q _ ⟨_, _, rfl, hp.1.below ba3, hp.2.below ba3⟩ HQ.out).mono ?_
        rintro e w4 ⟨v4, rfl, k4, f4, b4⟩
        have b24 := ba3.trans (b4.mono ba3.size)
        have bb4 := bb2.trans (b24.mono bb2.size)
        have hR4 := hR2.below b24
        have hF4 := hF2.below b24
        obtain ⟨u4, t4, rfl, s4, d4⟩ := k4
        obtain ⟨A4, c4, rfl, _⟩ := id s4
        obtain ⟨D4, e4, rfl, _⟩ := id d4
        obtain ⟨fU, fV⟩ := f4 _ _ _ rfl
        have hlt2 : w2.heap.size ≤ (w2.alloc (.cells #[.bool (ngB q.num), .slice A1 (digs 4294967296 q.num.natAbs).length c1, .slice A2 (digs 4294967296 q.den).length c2] 44)).heap.size := ba3.size
        have fU := fU.mono hlt2
        have fV := fV.mono hlt2
        have ba5 := below_alloc (w := w4) (Nat.le_refl _) (.cells #[.int .i64 (k : Int), .bool (ngB q.num), .slice A4 (digs 4294967296 q.num.natAbs).length c4, .slice D4 (digs 4294967296 q.den).length e4] 138)
        have B5 := Blk.new w4 138 #[.int .i64 (k : Int), .bool (ngB q.num), .slice A4 (digs 4294967296 q.num.natAbs).length c4, .slice D4 (digs 4294967296 q.den).length e4]
        have hR5 := hR4.below ba5
        have hF5 := hF4.below ba5
        have bb5 := bb4.trans (ba5.mono bb4.size)
        have EU : IsE .u64 4294967296 (w4.alloc (.cells #[.int .i64 (k : Int), .bool (ngB q.num), .slice A4 (digs 4294967296 q.num.natAbs).length c4, .slice D4 (digs 4294967296 q.den).length e4] 138)) ((q, .slice A4 (digs 4294967296 q.num.natAbs).length c4, .slice D4 (digs 4294967296 q.den).length e4) : Elt) := ⟨s4.below ba5, d4.below ba5⟩
        have fr1 : Far (.slice A5 xs.length c5) (.slice A4 (digs 4294967296 q.num.natAbs).length c4) := fU.far hR2.under
        have fr2 : Far (.slice A5 xs.length c5) (.slice D4 (digs 4294967296 q.den).length e4) := fV.far hR2.under
        clear hR4 hF4 hR2 hF2 s4 d4 b4 ba3 hrun hp HM
        go_wp2_with (at_builtin; refine wpList_append_c rfl (.tmp 30) (.tmp 35) rfl (x := (k, q, .slice A4 (digs 4294967296 q.num.natAbs).length c4, .slice D4 (digs 4294967296 q.den).length e4)) rfl hR5 rfl (B5.cell 0) (B5.cell 1) (B5.cell 2) (B5.cell 3) rfl rfl HLN.out bb5.size ?_; intro v6 w6 row6 bb6 HK6)
        have F6 := hF5.snoc (p := (q, .slice A4 (digs 4294967296 q.num.natAbs).length c4, .slice D4 (digs 4294967296 q.den).length e4)) HK6.out.1 EU fr1 fr2
        have HM6 : Hid ((xs ++ [((k, q, .slice A4 (digs 4294967296 q.num.natAbs).length c4, .slice D4 (digs 4294967296 q.den).length e4) : Cel)]).map celq = cellsR (rowOf T x) (k + 1)) := by show _ = _; rw [HM2.out, List.map_append]; rfl
        have F7 : FarF .u64 4294967296 w6 v6 ((xs ++ [((k, q, .slice A4 (digs 4294967296 q.num.natAbs).length c4, .slice D4 (digs 4294967296 q.den).length e4) : Cel)]).map (·.2)) := by rw [List.map_append]; exact F6
        have bb7 := bb5.trans bb6
        clear F6 hR5 hF5 EU fr1 fr2 HM2 HK6
        go_wp2
        go_roundw
        case rel => exact ⟨k + 1, _, by omega, row6, HM6, F7, bb7, by go_num⟩
        case measure => simp [intOf]; omega
      · have HM2 : Hid (xs.map celq = cellsR (rowOf T x) (k + 1)) := by
          show _ = _
          rw [cellsR_miss fun q hq => ?_, HM.out]
          obtain ⟨i, h1, h2⟩ := rowOf_at hq
          exact hm i k q h1 rfl h2
        have ba3 := below_alloc (w := w2) (Nat.le_refl _) (.cells #[.bool false, .slice none 0 0, .slice none 0 0] 44)
        have hR3 := hR2.below ba3
        have hF3 := hF2.below ba3
        have bb3 := bb2.trans (ba3.mono bb2.size)
        unfold zq at hrun
        clear HM hm hR2 hF2
        go_wp2
        go_roundw
        case rel => exact ⟨k + 1, _, by omega, hR3, HM2, hF3, bb3, by go_num⟩
        case measure => simp [intOf]; omega
    · have hkC : k = C := by omega
      rw [hkC] at HM
      obtain ⟨A5, c5, rfl, -, -, -⟩ := hR.isVC
      have HE : Hid (SlC wr (.slice A5 xs.length c5) (cellsR (rowOf T x) C)) := ⟨xs, HM.out, hR.isVC, fun y hy => (hF y.2 (List.mem_map.2 ⟨y, hy, rfl⟩)).1⟩
      clear HM hR hF
      go_wp2
      go_ret
      exact ⟨_, rfl, HE.out, bb⟩
/-- The whole numbers 0 and 1 as fractions. -/
theorem RatV_of0 (w : World) : Calls Tryz.prog 32 #[.int .i64 0] w (RetQ (0 : Rat) w) := of8_any 0 w (by omega) (by omega)
/-- A row of these, made by the call. -/
def RetRo (qs : List Rat) (w : World) (e : Ending) (w' : World) : Prop := ∃ g, e = .returned (.slice (some ⟨g, 0, none⟩) qs.length qs.length) ∧ RowN w' g qs.length qs ∧ w.heap.size ≤ g ∧ Below w.heap.size w w'
theorem RetRo.pd {n : Nat} {qs : List Rat} {w : World} {e : Ending} {w' : World} {B : Nat} (h : RetRo qs w e w') (hn : qs.length = n) (hB : B ≤ w.heap.size) : RetPd (pro n qs B) w e w' := by
  obtain ⟨g, h1, h2, h3, h4⟩ := h
  rw [hn] at h1 h2
  exact ⟨_, h1, ⟨g, rfl, h2, Nat.le_trans hB h3⟩, h4⟩
set_option maxHeartbeats 3200000 in
set_option maxRecDepth 100000 in
theorem noughts_any (n : Int) (d : Nat) (w : World) (hn : n = (d : Int)) (hd : d ≤ 200) :
    Calls Tryz.prog 146 #[.int .i64 n] w (RetRo (zerosq d) w) := by
  have bb : Below w.heap.size w w := Below.refl _ _
  subst hn
  have HZL : Hid ((zerosq d).length = d) := zerosq_len d
  go_enter Tryz.func146, Tryz.ntmps146
  go_upto_region 1 with (fail)
  have hsz0 := bb.size
  go_wp2_with (at_make; refine wpList_make_q rfl _ _ rfl Tryz.underlying64 info_rat d rfl rfl (by omega) ?_; intro wm RN hbm)
  replace bb := bb.trans (hbm.mono bb.size)
  have hsz1 := bb.size
  obtain ⟨g, hg⟩ : ∃ g, g = w.heap.size := ⟨_, rfl⟩
  rw [← hg] at RN ⊢
  have hg_ : w.heap.size ≤ g := by omega
  clear hg
  have hg := hg_
  clear hg_
  go_wp2
  go_loopw [9] (fun v9 wr => ∃ k : Nat, k ≤ d ∧ RowN wr g d ((zerosq d).take k) ∧ Below w.heap.size w wr ∧ v9 = .int .i64 (k : Int)) (fun v9 _ => d - (intOf v9).toNat)
  case atStart => exact ⟨0, by omega, RN, bb, rfl⟩
  case round =>
    obtain ⟨k, hk, hR, hbw, rfl⟩ := hrel
    clear RN bb
    have RN := hR
    have bb := hbw
    clear hR hbw
    have hszr := bb.size
    have hgl := RN.lt
    by_cases hlt : k < d
    · have HTK : Hid ((zerosq d).take (k + 1) = (zerosq d).take k ++ [0]) := take_snoc (zerosq_at hlt)
      have HLK : Hid (k = ((zerosq d).take k).length) := by show _ = _; rw [List.length_take, HZL.out]; omega
      have sB := bb.size
      go_upto_region 5 with (fail)
      refine flowp 4 [Pd.eq (.slice (some ⟨g, 0, none⟩) d d), Pd.eq (.int .i64 (k : Int)), pq ((0 : Rat)) wr.heap.size, Pd.eq (.pointer (some ⟨g, 0 + k * 3, none⟩))] (by kernel_rfl) ?ob1 ?done1
      case ob1 =>
        refine And.intro (ob_move rfl (wt_none rfl) (ev_far rfl rfl) (fun _ _ h => h)) ?_
        refine And.intro (ob_move rfl (wt_none rfl) (ev_far rfl rfl) (fun _ _ h => h)) ?_
        refine And.intro (ob_call1 rfl Tryz.func32 (by kernel_rfl) (wt_none rfl) (ev_const _) (fun w2 u0 hb h0 => by obtain rfl := h0; exact (RatV_of0 _).mono fun e w3 h => RetQ.pd h hb.size)) ?_
        refine And.intro (ob_indexAddr rfl (wt_none rfl) (ev_dep (j := 0) (by kernel_rfl) rfl rfl) (ev_dep (j := 1) (by kernel_rfl) rfl rfl) (fun _ _ _ hx hy => ⟨_, by rw [hx, hy]; exact index3 (k := k) Tryz.underlying64 (by kernel_rfl) hlt _, rfl⟩)) ?_
        trivial
      case done1 =>
        refine fun w3 hb3 v0 h0 v1 h1 v2 h2 v3 h3 b hbf => ?_
        obtain rfl := h0; obtain rfl := h1; obtain rfl := h3
        obtain ⟨q2, f2⟩ := h2
        simp only [Act.put, List.setIfInBounds_toArray, List.set_cons_zero, List.set_cons_succ] at hbf
        subst hbf
        replace RN := RN.below hb3
        replace bb := bb.trans (hb3.mono bb.size)
        have hsz3 := bb.size
        have s_2 := sB
        obtain ⟨u2, t2, rfl, q2, d2⟩ := q2
        obtain ⟨A9, c9, rfl, _⟩ := id q2
        obtain ⟨D9, e9, rfl, _⟩ := id d2
        refine ops_store_q (j := 4) rfl rfl rfl rfl (g := g) (i := k) (q := (0 : Rat)) rfl rfl (by kernel_rfl) RN hlt q2 d2 fun w4 hg4 hP4 => ?_
        replace bb := bb.trans ((Below.refl _ _).grown hg4 bb.size (fun g hg => by injection hg with hg; omega))
        have hsz4 := bb.size
        replace RN := hP4.1 HLK.out
        clear hP4
        refine ops_done ?_
        rw [← HTK.out] at RN
        have hsk : d - (k + 1) < d - k := by omega
        go_wp2
        go_roundw
        case rel => exact ⟨k + 1, by omega, RN, bb, by go_num⟩
        case measure => simp [intOf]; omega
    · rw [List.take_of_length_le (by rw [HZL.out]; omega)] at RN
      go_wp2
      go_ret
      exact ⟨g, by rw [HZL.out]; rfl, by rw [HZL.out]; exact RN, hg, bb⟩
set_option maxHeartbeats 3200000 in
set_option maxRecDepth 100000 in
theorem zero_row (n : Int) (d : Nat) (w : World) (hn : n = (d : Int)) (hd : d ≤ 200) :
    Calls Tryz.prog 116 #[.int .i64 n] w (RetRN (zerosq d) w) := by
  have bb : Below w.heap.size w w := Below.refl _ _
  subst hn
  have HL : Hid (decide ((d : Int) < 0) = false) := decide_eq_false (by omega)
  have HG : Hid (decide (200 < (d : Int)) = false) := decide_eq_false (by omega)
  have HZL : Hid ((zerosq d).length = d) := zerosq_len d
  go_enter Tryz.func116, Tryz.ntmps116
  go_upto_region 1 with (fail)
  have hsz0 := bb.size
  have sB := bb.size
  refine flowp 6 [Pd.eq (.int .i64 (d : Int)), Pd.eq (.bool false), Pd.eq (.bool false), Pd.eq (.int .i64 (d : Int)), Pd.eq (.bool false), Pd.eq (.bool false)] (by kernel_rfl) ?ob4 ?done4
  case ob4 =>
    refine And.intro (ob_move rfl (wt_none rfl) (ev_far rfl rfl) (fun _ _ h => h)) ?_
    refine And.intro (ob_bin rfl (wt_none rfl) (ev_dep (j := 0) (by kernel_rfl) rfl rfl) (ev_const _) (fun _ _ _ hx hy => ⟨.bool false, by rw [hx, hy, bin_lss_int, HL.out], rfl⟩)) ?_
    refine And.intro (ob_move rfl (wt_none rfl) (ev_dep (j := 1) (by kernel_rfl) rfl rfl) (fun _ _ h => h)) ?_
    refine And.intro (ob_move rfl (wt_dep (c := false) (b := false) (g := 2) rfl (by kernel_rfl) rfl rfl rfl (by exact fun _ _ h => h)) (ev_far rfl rfl) (fun _ _ h => h)) ?_
    refine And.intro (ob_bin rfl (wt_dep (c := false) (b := false) (g := 2) rfl (by kernel_rfl) rfl rfl rfl (by exact fun _ _ h => h)) (ev_dep (j := 3) (by kernel_rfl) rfl rfl) (ev_const _) (fun _ _ _ hx hy => ⟨.bool false, by rw [hx, hy, bin_gtr_int, HG.out], rfl⟩)) ?_
    refine And.intro (ob_pick (b := false) rfl (wt_none rfl) (ev_dep (j := 2) (by kernel_rfl) rfl rfl) (ev_dep (j := 4) (by kernel_rfl) rfl rfl) (fun _ _ h => h)) ?_
    trivial
  case done4 =>
    refine fun w1 hb1 v0 h0 v1 h1 v2 h2 v3 h3 v4 h4 v5 h5 b hbf => ?_
    obtain rfl := h0; obtain rfl := h1; obtain rfl := h2; obtain rfl := h3; obtain rfl := h4; obtain rfl := h5
    simp only [Act.put, List.setIfInBounds_toArray, List.set_cons_zero, List.set_cons_succ] at hbf
    subst hbf
    replace bb := bb.trans (hb1.mono bb.size)
    have hsz1 := bb.size
    refine ops_done ?_
    have hw1 := bb.size
    have sB := bb.size
    go_upto_region 3 with (fail)
    refine flowp 4 [Pd.eq (.int .i64 (d : Int)), pro d (zerosq d) w1.heap.size, pro d (zerosq d) w1.heap.size, Pd.eq (.int .i64 0)] (by kernel_rfl) ?ob5 ?done5
    case ob5 =>
      refine And.intro (ob_move rfl (wt_none rfl) (ev_far rfl rfl) (fun _ _ h => h)) ?_
      refine And.intro (ob_call1 rfl Tryz.func146 (by kernel_rfl) (wt_none rfl) (ev_dep (j := 0) (by kernel_rfl) rfl rfl) (fun w2 u0 hb h0 => by obtain rfl := h0; exact (noughts_any _ (d) _ rfl hd).mono fun e w3 h => RetRo.pd h HZL.out hb.size)) ?_
      refine And.intro (ob_assign rfl (wt_none rfl) (ev_dep (j := 1) (by kernel_rfl) rfl rfl) (fun _ _ h => h)) ?_
      refine And.intro (ob_assign rfl (wt_none rfl) (ev_const _) (fun _ _ h => h)) ?_
      trivial
    case done5 =>
      refine fun w2 hb2 v0 h0 v1 h1 v2 h2 v3 h3 b hbf => ?_
      obtain rfl := h0; obtain rfl := h3
      obtain ⟨g, rfl, RN, hg⟩ := h1
      obtain ⟨g, rfl, RN, hg⟩ := h2
      simp only [Act.put, List.setIfInBounds_toArray, List.set_cons_zero, List.set_cons_succ] at hbf
      subst hbf
      replace bb := bb.trans (hb2.mono bb.size)
      have hsz2 := bb.size
      refine ops_done ?_
      go_wp2
      go_ret2
      exact ⟨_, by rw [HZL.out]; rfl, by rw [HZL.out]; exact RN, by omega, bb⟩
/-- May it be a table: not too many rows and places, all rows of one length. -/
def mayq (t : List (List Rat)) : Prop := t.length ≤ 200 ∧ wideq t ≤ 200 ∧ evenq t
instance (t : List (List Rat)) : Decidable (evenq t) := inferInstanceAs (Decidable (∀ r ∈ t, r.length = wideq t))
instance (t : List (List Rat)) : Decidable (mayq t) := inferInstanceAs (Decidable (_ ∧ _ ∧ _))
/-- How long the numbers of a table are. -/
def lenT (t : List (List Rat)) (m : Nat) : Prop := ∀ r ∈ t, ∀ x ∈ r, lenQ x m
theorem lenT.mono {t : List (List Rat)} {m n : Nat} (h : lenT t m) (hmn : m ≤ n) : lenT t n := fun r hr x hx => (h r hr x hx).mono hmn
theorem set3_list : ∀ (l : List Value) (k : Nat) (x y z : Value), k + 3 ≤ l.length → ((l.set k x).set (k + 1) y).set (k + 2) z = l.take k ++ [x, y, z] ++ l.drop (k + 3)
  | [], k, x, y, z, h => by simp at h
  | a :: l, k + 1, x, y, z, h => by
    have ih := set3_list l k x y z (by simpa using h)
    rw [List.set_cons_succ, List.set_cons_succ, List.set_cons_succ, ih]
    simp
  | a :: l, 0, x, y, z, h => by
    match l, h with
    | b :: c :: l, _ => simp
    | [b], h => simp at h
    | [], h => simp at h
/-- A row's fraction is set. -/
theorem rowN_set3 {w : World} {g n i : Nat} {qs : List Rat} {q : Rat} {u t : Value} (h : RowN w g n qs) (hi : i < n) (hu : IsS w .u64 u (digs 4294967296 q.num.natAbs)) (ht : IsS w .u64 t (digs 4294967296 q.den)) :
    w.grownBy (((w.setCell ⟨g, 0 + i * 3, none⟩ (.bool (ngB q.num))).setCell ⟨g, 0 + i * 3 + 1, none⟩ u).setCell ⟨g, 0 + i * 3 + 2, none⟩ t) (some g) ∧ (i = qs.length → RowN (((w.setCell ⟨g, 0 + i * 3, none⟩ (.bool (ngB q.num))).setCell ⟨g, 0 + i * 3 + 1, none⟩ u).setCell ⟨g, 0 + i * 3 + 2, none⟩ t) g n (qs ++ [q])) ∧ (i < qs.length → RowN (((w.setCell ⟨g, 0 + i * 3, none⟩ (.bool (ngB q.num))).setCell ⟨g, 0 + i * 3 + 1, none⟩ u).setCell ⟨g, 0 + i * 3 + 2, none⟩ t) g n (qs.set i q)) := by
  have hg : w.grownBy (((w.setCell ⟨g, 0 + i * 3, none⟩ (.bool (ngB q.num))).setCell ⟨g, 0 + i * 3 + 1, none⟩ u).setCell ⟨g, 0 + i * 3 + 2, none⟩ t) (some g) :=
    ((grown_set w g (0 + i * 3) _).andThen (grown_set _ g (0 + i * 3 + 1) _) (fun j e => .inr e)).andThen (grown_set _ g (0 + i * 3 + 2) _) (fun j e => .inr e)
  have hsz : ∀ cs, Blk w g 44 cs → cs.size = n * 3 := fun cs hcs => by
    obtain ⟨ps, h1, _, h3, _⟩ := h
    unfold Blk at h3 hcs
    rw [h3] at hcs
    injection hcs with hcs
    injection hcs with hcs
    rw [← hcs, List.size_toArray, flat3_len, h1]
  refine ⟨hg, h.put hi hu ht hg fun cs hcs => ?_⟩
  have h1 := blk_set1 (blk_set1 (blk_set1 hcs (i := 0 + i * 3) (.bool (ngB q.num))) (i := 0 + i * 3 + 1) u) (i := 0 + i * 3 + 2) t
  have h2 := hsz cs hcs
  obtain ⟨l⟩ := cs
  have e : (((⟨l⟩ : Array Value).setIfInBounds (0 + i * 3) (.bool (ngB q.num))).setIfInBounds (0 + i * 3 + 1) u).setIfInBounds (0 + i * 3 + 2) t = (l.take (0 + i * 3) ++ [.bool (ngB q.num), u, t] ++ l.drop (0 + i * 3 + 3)).toArray := by
    rw [← set3_list l (0 + i * 3) (.bool (ngB q.num)) u t (by simp at h2; omega)]
    simp
  rw [e] at h1
  exact h1
/-- The cells of one of a row's places, whatever stands there. -/
theorem RowN.places {w : World} {g n i : Nat} {qs : List Rat} (h : RowN w g n qs) (hi : i < n) : ∃ x y z, w.cell? ⟨g, 0 + i * 3, none⟩ = some x ∧ w.cell? ⟨g, 0 + i * 3 + 1, none⟩ = some y ∧ w.cell? ⟨g, 0 + i * 3 + 2, none⟩ = some z ∧ w.frozen? ⟨g, 0 + i * 3, none⟩ = false ∧ w.frozen? ⟨g, 0 + i * 3 + 1, none⟩ = false ∧ w.frozen? ⟨g, 0 + i * 3 + 2, none⟩ = false := by
  obtain ⟨ps, h1, h2, h3, h4, h5⟩ := h
  obtain ⟨f0, f1, f2⟩ := flat3_at ps i _ (List.getElem?_eq_getElem (by omega))
  rw [Nat.zero_add]
  exact ⟨_, _, _, by rw [h3.cell, List.getElem?_toArray]; exact f0, by rw [h3.cell, List.getElem?_toArray]; exact f1, by rw [h3.cell, List.getElem?_toArray]; exact f2, h3.frozen _, h3.frozen _, h3.frozen _⟩
theorem rowN_set {w : World} {g n i : Nat} {qs : List Rat} {q : Rat} {u t : Value} (h : RowN w g n qs) (hi : i < n) (hu : IsS w .u64 u (digs 4294967296 q.num.natAbs)) (ht : IsS w .u64 t (digs 4294967296 q.den)) :
    w.grownBy (((w.setCell ⟨g, i * 3, none⟩ (.bool (ngB q.num))).setCell ⟨g, i * 3 + 1, none⟩ u).setCell ⟨g, i * 3 + 2, none⟩ t) (some g) ∧ (i = qs.length → RowN (((w.setCell ⟨g, i * 3, none⟩ (.bool (ngB q.num))).setCell ⟨g, i * 3 + 1, none⟩ u).setCell ⟨g, i * 3 + 2, none⟩ t) g n (qs ++ [q])) ∧ (i < qs.length → RowN (((w.setCell ⟨g, i * 3, none⟩ (.bool (ngB q.num))).setCell ⟨g, i * 3 + 1, none⟩ u).setCell ⟨g, i * 3 + 2, none⟩ t) g n (qs.set i q)) := by
  have h1 := rowN_set3 h hi hu ht
  rw [Nat.zero_add] at h1
  exact h1
theorem RowN.place {w : World} {g n i : Nat} {qs : List Rat} (h : RowN w g n qs) (hi : i < n) : ∃ x y z, w.cell? ⟨g, i * 3, none⟩ = some x ∧ w.cell? ⟨g, i * 3 + 1, none⟩ = some y ∧ w.cell? ⟨g, i * 3 + 2, none⟩ = some z ∧ w.frozen? ⟨g, i * 3, none⟩ = false ∧ w.frozen? ⟨g, i * 3 + 1, none⟩ = false ∧ w.frozen? ⟨g, i * 3 + 2, none⟩ = false := by
  have h1 := h.places hi
  rw [Nat.zero_add] at h1
  exact h1
theorem indexN {P : Program} {t e : TypeId} (hu : P.underlying t = some (.slice e)) (hs : (P.info? e).map (·.size) = some 3) {g n c k : Nat} (hk : k < n) (w : World) : (Instr.indexAt t (.slice (some ⟨g, 0, none⟩) n c) (.int .i64 (k : Int))).run P w = .ok (.pointer (some ⟨g, k * 3, none⟩)) w := by
  have h := index3 (P := P) hu hs (g := g) (o := 0) (c := c) hk w
  rw [Nat.zero_add] at h
  exact h
/-- A row stays where another row is written. -/
theorem RowN.away {w w' : World} {g g2 n n2 : Nat} {qs qs2 : List Rat} (h : RowN w g n qs) (h2 : RowN w g2 n2 qs2) (hg : w.grownBy w' (some g2)) (hne : g ≠ g2) : RowN w' g n qs := by
  obtain ⟨ps, h1, _, h3, h4, _⟩ := h2
  exact h.offb h3 (no_ints_flat h4) hg hne
theorem index4 {P : Program} {t e : TypeId} (hu : P.underlying t = some (.slice e)) (hs : (P.info? e).map (·.size) = some 4) {g o n c k : Nat} (hk : k < n) (w : World) : (Instr.indexAt t (.slice (some ⟨g, o, none⟩) n c) (.int .i64 (k : Int))).run P w = .ok (.pointer (some ⟨g, o + k * 4, none⟩)) w := by
  cases hq : P.info? e with
  | none => simp [hq] at hs
  | some inf =>
    have hsz : inf.size = 4 := by simpa [hq] using hs
    simp [Instr.indexAt, asIntOf, go_sem, run_underlying hu, sizeOf, typeInfo, hq, hsz, hk]
set_option maxHeartbeats 3200000 in
set_option maxRecDepth 100000 in
theorem is_any (a0 a1 : Value) (p q : List Rat) (t : Int) (w : World) (h0 : SlF .u64 4294967296 w a0 p) (h1 : SlF .i64 10000 w a1 q) (hl : ∀ x ∈ q, lenQ x 30000) (ht : t = if p = q then 1 else 0) :
    Calls Tryz.prog 57 #[a0, a1] w (RetV (.int .i64 t) w) := by
  have bb : Below w.heap.size w w := Below.refl _ _
  have sl0 := h0
  obtain ⟨A0, c0, rfl, hc0, hm0⟩ := h0.shape
  unfold maxLen at hm0
  have sl1 := h1
  obtain ⟨A1, c1, rfl, hc1, hm1⟩ := h1.shape
  unfold maxLen at hm1
  have HL := Lib.hid hl
  have HT := Lib.hid ht
  clear hl ht
  go_enter Tryz.func57, Tryz.ntmps57
  go_upto_region 1 with (fail)
  have hsz0 := bb.size
  by_cases he : p.length = q.length
  case neg =>
    have HW : Hid (t = 0) := by show _ = _; rw [HT.out, if_neg fun e => he (by rw [e])]
    have heb : (((p.length : Nat) : Int) == ((q.length : Nat) : Int)) = false := by rw [beq_eq_false_iff_ne]; omega
    go_wp2
    go_ret
    exact ⟨by rw [HW.out]; rfl, bb⟩
  have heb : (((p.length : Nat) : Int) == ((q.length : Nat) : Int)) = true := by rw [beq_iff_eq]; omega
  have HE := Lib.hid he
  clear he
  go_wp2
  go_loopw [5] (fun v5 wr => ∃ k : Nat, k ≤ p.length ∧ Hid (p.take k = q.take k) ∧ Below w.heap.size w wr ∧ v5 = .int .i64 (k : Int)) (fun v5 _ => p.length - (intOf v5).toNat)
  case atStart => exact ⟨0, by omega, rfl, bb, rfl⟩
  case round =>
    obtain ⟨k, hk, HA, hbw, rfl⟩ := hrel
    clear bb heb
    have bb := hbw
    clear hbw
    have hszr := bb.size
    by_cases hlt : k < p.length
    · have hlt2 : k < q.length := by have := HE.out; omega
      obtain ⟨x, hq0_⟩ : ∃ x, p[k]? = some x := ⟨_, List.getElem?_eq_getElem hlt⟩
      obtain ⟨g0_, o0_, ue0, te0, hA0_, _, e00, e01, e02, es0, ed0⟩ := (sl0.below bb).at_ hq0_
      subst hA0_
      have HQ0 := Lib.hid hq0_
      clear hq0_
      obtain ⟨Ae0, ce0, rfl, _⟩ := id es0
      obtain ⟨De0, ee0, rfl, _⟩ := id ed0
      have ke0 : IsQ wr (.agg #[.bool (ngB x.num), .slice Ae0 (digs 4294967296 x.num.natAbs).length ce0, .slice De0 (digs 4294967296 x.den).length ee0]) x := ⟨_, _, rfl, es0, ed0⟩
      obtain ⟨y, hq1_⟩ : ∃ y, q[k]? = some y := ⟨_, List.getElem?_eq_getElem hlt2⟩
      obtain ⟨g1_, o1_, ue1, te1, hA1_, _, e10, e11, e12, es1, ed1⟩ := (sl1.below bb).at_ hq1_
      subst hA1_
      have HQ1 := Lib.hid hq1_
      clear hq1_
      obtain ⟨Ae1, ce1, rfl, _⟩ := id es1
      obtain ⟨De1, ee1, rfl, _⟩ := id ed1
      have ke1 : IsP wr (.agg #[.bool (ngB y.num), .slice Ae1 (digs 10000 y.num.natAbs).length ce1, .slice De1 (digs 10000 y.den).length ee1]) y := ⟨_, _, rfl, es1, ed1⟩
      have ly : lenQ y 30000 := HL.out y (List.mem_of_getElem? HQ1.out)
      obtain ⟨u, hu⟩ : ∃ u, u = decide (x = y) := ⟨_, rfl⟩
      have HU := Lib.hid hu
      by_cases hxy : x = y
      · have HA2 : Hid (p.take (k + 1) = q.take (k + 1)) := by show _ = _; rw [take_snoc HQ0.out, take_snoc HQ1.out, HA.out, hxy]
        rw [decide_eq_true hxy] at hu
        subst hu
        clear hxy
        have sB := bb.size
        go_upto_region 6 with (fail)
        refine flow 11 [Pd.eq (.slice (some ⟨g0_, o0_, none⟩) p.length c0), Pd.eq (.int .i64 (k : Int)), Pd.eq (.pointer (some ⟨g0_, o0_ + k * 3, none⟩)), Pd.eq (.agg #[.bool (ngB x.num), .slice Ae0 (digs 4294967296 x.num.natAbs).length ce0, .slice De0 (digs 4294967296 x.den).length ee0]), Pd.eq (.slice (some ⟨g1_, o1_, none⟩) q.length c1), Pd.eq (.int .i64 (k : Int)), Pd.eq (.pointer (some ⟨g1_, o1_ + k * 3, none⟩)), Pd.eq (.agg #[.bool (ngB y.num), .slice Ae1 (digs 10000 y.num.natAbs).length ce1, .slice De1 (digs 10000 y.den).length ee1]), pq (y) wr.heap.size, Pd.eq (.bool true), Pd.eq (.bool false)] (by kernel_rfl) (by kernel_rfl) ?ob1 ?done1
        case ob1 =>
          refine And.intro (ob_move rfl (wt_none rfl) (ev_far rfl rfl) (fun _ _ h => h)) ?_
          refine And.intro (ob_move rfl (wt_none rfl) (ev_far rfl rfl) (fun _ _ h => h)) ?_
          refine And.intro (ob_indexAddr rfl (wt_none rfl) (ev_dep (j := 0) (by kernel_rfl) rfl rfl) (ev_dep (j := 1) (by kernel_rfl) rfl rfl) (fun _ _ _ hx hy => ⟨_, by rw [hx, hy]; exact index3 Tryz.underlying64 (by kernel_rfl) hlt _, rfl⟩)) ?_
          refine And.intro (ob_load rfl (wt_none rfl) (ev_dep (j := 2) (by kernel_rfl) rfl rfl) (fun w2 hb => load3 Tryz.underlying44 rfl (by kernel_rfl) ((hb.cell (World.block_lt_of_cell? wr _ e00)).trans e00) ((hb.cell (World.block_lt_of_cell? wr _ e01)).trans e01) ((hb.cell (World.block_lt_of_cell? wr _ e02)).trans e02)) (fun _ _ => rfl)) ?_
          refine And.intro (ob_move rfl (wt_none rfl) (ev_far rfl rfl) (fun _ _ h => h)) ?_
          refine And.intro (ob_move rfl (wt_none rfl) (ev_far rfl rfl) (fun _ _ h => h)) ?_
          refine And.intro (ob_indexAddr rfl (wt_none rfl) (ev_dep (j := 4) (by kernel_rfl) rfl rfl) (ev_dep (j := 5) (by kernel_rfl) rfl rfl) (fun _ _ _ hx hy => ⟨_, by rw [hx, hy]; exact index3 Tryz.underlying87 (by kernel_rfl) hlt2 _, rfl⟩)) ?_
          refine And.intro (ob_load rfl (wt_none rfl) (ev_dep (j := 6) (by kernel_rfl) rfl rfl) (fun w2 hb => load3 Tryz.underlying55 rfl (by kernel_rfl) ((hb.cell (World.block_lt_of_cell? wr _ e10)).trans e10) ((hb.cell (World.block_lt_of_cell? wr _ e11)).trans e11) ((hb.cell (World.block_lt_of_cell? wr _ e12)).trans e12)) (fun _ _ => rfl)) ?_
          refine And.intro (ob_call1 rfl Tryz.func22 (by kernel_rfl) (wt_none rfl) (ev_dep (j := 7) (by kernel_rfl) rfl rfl) (fun w2 u0 hb h0 => by obtain rfl := h0; exact (qback_any _ y _ (ke1.drew.below hb) ly).mono fun e w3 h => RetQ.pd h hb.size)) ?_
          refine And.intro (ob_call2 rfl Tryz.func21 (by kernel_rfl) (wt_none rfl) (ev_dep (j := 3) (by kernel_rfl) rfl rfl) (ev_dep (j := 8) (by kernel_rfl) rfl rfl) (fun w2 u0 u1 hb h0 h1 => by obtain rfl := h0; exact (qsame_any _ _ x y true _ (ke0.drew.below hb) h1.1 HU.out).mono fun e w3 h => RetV.pd h)) ?_
          refine And.intro (ob_un rfl (wt_none rfl) (ev_dep (j := 9) (by kernel_rfl) rfl rfl) (fun _ => un_not _ _) (fun _ => rfl)) ?_
          trivial
        case done1 =>
          refine fun w2 hb2 v0 h0 v1 h1 v2 h2 v3 h3 v4 h4 v5 h5 v6 h6 v7 h7 v8 h8 v9 h9 v10 h10 b hbf => ?_
          obtain rfl := h0; obtain rfl := h1; obtain rfl := h2; obtain rfl := h3; obtain rfl := h4; obtain rfl := h5; obtain rfl := h6; obtain rfl := h7; obtain rfl := h9; obtain rfl := h10
          obtain ⟨q8, f8⟩ := h8
          simp only [Act.put, List.setIfInBounds_toArray, List.set_cons_zero, List.set_cons_succ] at hbf
          subst hbf
          replace bb := bb.trans (hb2.mono bb.size)
          have hsz2 := bb.size
          have s_8 := sB
          refine any_done (by kernel_rfl) ?_
          go_wp2
          go_roundw
          case rel => exact ⟨k + 1, by omega, HA2, bb, by go_num⟩
          case measure => simp [intOf]; omega
      · have HW : Hid (t = 0) := by
          show _ = _
          rw [HT.out, if_neg]
          intro e
          have h0 := HQ0.out
          rw [e, HQ1.out] at h0
          exact hxy (Option.some.inj h0).symm
        rw [decide_eq_false hxy] at hu
        subst hu
        clear hxy
        have sB := bb.size
        go_upto_region 6 with (fail)
        refine flow 11 [Pd.eq (.slice (some ⟨g0_, o0_, none⟩) p.length c0), Pd.eq (.int .i64 (k : Int)), Pd.eq (.pointer (some ⟨g0_, o0_ + k * 3, none⟩)), Pd.eq (.agg #[.bool (ngB x.num), .slice Ae0 (digs 4294967296 x.num.natAbs).length ce0, .slice De0 (digs 4294967296 x.den).length ee0]), Pd.eq (.slice (some ⟨g1_, o1_, none⟩) q.length c1), Pd.eq (.int .i64 (k : Int)), Pd.eq (.pointer (some ⟨g1_, o1_ + k * 3, none⟩)), Pd.eq (.agg #[.bool (ngB y.num), .slice Ae1 (digs 10000 y.num.natAbs).length ce1, .slice De1 (digs 10000 y.den).length ee1]), pq (y) wr.heap.size, Pd.eq (.bool false), Pd.eq (.bool true)] (by kernel_rfl) (by kernel_rfl) ?ob2 ?done2
        case ob2 =>
          refine And.intro (ob_move rfl (wt_none rfl) (ev_far rfl rfl) (fun _ _ h => h)) ?_
          refine And.intro (ob_move rfl (wt_none rfl) (ev_far rfl rfl) (fun _ _ h => h)) ?_
          refine And.intro (ob_indexAddr rfl (wt_none rfl) (ev_dep (j := 0) (by kernel_rfl) rfl rfl) (ev_dep (j := 1) (by kernel_rfl) rfl rfl) (fun _ _ _ hx hy => ⟨_, by rw [hx, hy]; exact index3 Tryz.underlying64 (by kernel_rfl) hlt _, rfl⟩)) ?_
          refine And.intro (ob_load rfl (wt_none rfl) (ev_dep (j := 2) (by kernel_rfl) rfl rfl) (fun w2 hb => load3 Tryz.underlying44 rfl (by kernel_rfl) ((hb.cell (World.block_lt_of_cell? wr _ e00)).trans e00) ((hb.cell (World.block_lt_of_cell? wr _ e01)).trans e01) ((hb.cell (World.block_lt_of_cell? wr _ e02)).trans e02)) (fun _ _ => rfl)) ?_
          refine And.intro (ob_move rfl (wt_none rfl) (ev_far rfl rfl) (fun _ _ h => h)) ?_
          refine And.intro (ob_move rfl (wt_none rfl) (ev_far rfl rfl) (fun _ _ h => h)) ?_
          refine And.intro (ob_indexAddr rfl (wt_none rfl) (ev_dep (j := 4) (by kernel_rfl) rfl rfl) (ev_dep (j := 5) (by kernel_rfl) rfl rfl) (fun _ _ _ hx hy => ⟨_, by rw [hx, hy]; exact index3 Tryz.underlying87 (by kernel_rfl) hlt2 _, rfl⟩)) ?_
          refine And.intro (ob_load rfl (wt_none rfl) (ev_dep (j := 6) (by kernel_rfl) rfl rfl) (fun w2 hb => load3 Tryz.underlying55 rfl (by kernel_rfl) ((hb.cell (World.block_lt_of_cell? wr _ e10)).trans e10) ((hb.cell (World.block_lt_of_cell? wr _ e11)).trans e11) ((hb.cell (World.block_lt_of_cell? wr _ e12)).trans e12)) (fun _ _ => rfl)) ?_
          refine And.intro (ob_call1 rfl Tryz.func22 (by kernel_rfl) (wt_none rfl) (ev_dep (j := 7) (by kernel_rfl) rfl rfl) (fun w2 u0 hb h0 => by obtain rfl := h0; exact (qback_any _ y _ (ke1.drew.below hb) ly).mono fun e w3 h => RetQ.pd h hb.size)) ?_
          refine And.intro (ob_call2 rfl Tryz.func21 (by kernel_rfl) (wt_none rfl) (ev_dep (j := 3) (by kernel_rfl) rfl rfl) (ev_dep (j := 8) (by kernel_rfl) rfl rfl) (fun w2 u0 u1 hb h0 h1 => by obtain rfl := h0; exact (qsame_any _ _ x y false _ (ke0.drew.below hb) h1.1 HU.out).mono fun e w3 h => RetV.pd h)) ?_
          refine And.intro (ob_un rfl (wt_none rfl) (ev_dep (j := 9) (by kernel_rfl) rfl rfl) (fun _ => un_not _ _) (fun _ => rfl)) ?_
          trivial
        case done2 =>
          refine fun w2 hb2 v0 h0 v1 h1 v2 h2 v3 h3 v4 h4 v5 h5 v6 h6 v7 h7 v8 h8 v9 h9 v10 h10 b hbf => ?_
          obtain rfl := h0; obtain rfl := h1; obtain rfl := h2; obtain rfl := h3; obtain rfl := h4; obtain rfl := h5; obtain rfl := h6; obtain rfl := h7; obtain rfl := h9; obtain rfl := h10
          obtain ⟨q8, f8⟩ := h8
          simp only [Act.put, List.setIfInBounds_toArray, List.set_cons_zero, List.set_cons_succ] at hbf
          subst hbf
          replace bb := bb.trans (hb2.mono bb.size)
          have hsz2 := bb.size
          have s_8 := sB
          refine any_done (by kernel_rfl) ?_
          go_wp2
          go_ret
          exact ⟨by rw [HW.out]; rfl, bb⟩
    · have HW : Hid (t = 1) := by
        show _ = _
        rw [HT.out, if_pos]
        have := HA.out
        rwa [List.take_of_length_le (by omega), List.take_of_length_le (by have := HE.out; omega)] at this
      go_wp2
      go_ret
      exact ⟨by rw [HW.out]; rfl, bb⟩
set_option maxHeartbeats 3200000 in
set_option maxRecDepth 100000 in
theorem ist_any (a0 a1 : Value) (p q : List (List Rat)) (b : Int) (w : World) (h0 : SlT .u64 4294967296 w a0 p) (h1 : SlT .i64 10000 w a1 q) (hl : lenT q 30000) (hb : b = if p = q then 1 else 0) :
    Calls Tryz.prog 15 #[a0, a1] w (RetV (.int .i64 b) w) := by
  have bb : Below w.heap.size w w := Below.refl _ _
  have st0 := h0
  obtain ⟨A0, c0, rfl, hc0, hm0⟩ := h0.shape
  unfold maxLen at hm0
  have st1 := h1
  obtain ⟨A1, c1, rfl, hc1, hm1⟩ := h1.shape
  unfold maxLen at hm1
  have HB := Lib.hid hb
  have HLQ := Lib.hid hl
  clear hb hl
  go_enter Tryz.func15, Tryz.ntmps15
  go_upto_region 1 with (fail)
  have hsz0 := bb.size
  by_cases he : p.length = q.length
  · have HNE : Hid ((((p.length : Nat) : Int) != ((q.length : Nat) : Int)) = false) := by show _ = _; rw [bne_eq_false_iff_eq]; omega
    have HE := Lib.hid he
    clear he
    have sB := bb.size
    refine flowp 5 [Pd.eq (.slice A0 p.length c0), Pd.eq (.int .i64 ((p.length : Nat) : Int)), Pd.eq (.slice A1 q.length c1), Pd.eq (.int .i64 ((q.length : Nat) : Int)), Pd.eq (.bool false)] (by kernel_rfl) ?ob22 ?done22
    case ob22 =>
      refine And.intro (ob_move rfl (wt_none rfl) (ev_far rfl rfl) (fun _ _ h => h)) ?_
      refine And.intro (ob_len rfl (wt_none rfl) (ev_dep (j := 0) (by kernel_rfl) rfl rfl) (fun _ _ hx => ⟨_, by rw [hx]; exact len_slice Tryz.underlying22 _ _ _ _, rfl⟩)) ?_
      refine And.intro (ob_move rfl (wt_none rfl) (ev_far rfl rfl) (fun _ _ h => h)) ?_
      refine And.intro (ob_len rfl (wt_none rfl) (ev_dep (j := 2) (by kernel_rfl) rfl rfl) (fun _ _ hx => ⟨_, by rw [hx]; exact len_slice Tryz.underlying23 _ _ _ _, rfl⟩)) ?_
      refine And.intro (ob_bin rfl (wt_none rfl) (ev_dep (j := 1) (by kernel_rfl) rfl rfl) (ev_dep (j := 3) (by kernel_rfl) rfl rfl) (fun _ _ _ hx hy => ⟨.bool false, by rw [hx, hy, bin_neq_int, HNE.out], rfl⟩)) ?_
      trivial
    case done22 =>
      refine fun w12 hb12 v0 h0 v1 h1 v2 h2 v3 h3 v4 h4 b hbf => ?_
      obtain rfl := h0; obtain rfl := h1; obtain rfl := h2; obtain rfl := h3; obtain rfl := h4
      simp only [Act.put, List.setIfInBounds_toArray, List.set_cons_zero, List.set_cons_succ] at hbf
      subst hbf
      replace bb := bb.trans (hb12.mono bb.size)
      have hsz12 := bb.size
      refine ops_done ?_
      go_wp2
      go_loopw [5] (fun v5 wr => ∃ k : Nat, k ≤ p.length ∧ Hid (p.take k = q.take k) ∧ Below w.heap.size w wr ∧ v5 = .int .i64 (k : Int)) (fun v5 _ => p.length - (intOf v5).toNat)
      case atStart => exact ⟨0, by omega, rfl, bb, rfl⟩
      case round =>
        obtain ⟨k, hk, HA, hbw, rfl⟩ := hrel
        clear bb
        have bb := hbw
        clear hbw
        have hszr := bb.size
        by_cases hlt : k < p.length
        · have hlt2 : k < q.length := by have := HE.out; omega
          have hnp : p ≠ [] := List.length_pos_iff.1 (by omega)
          have hnq : q ≠ [] := List.length_pos_iff.1 (by omega)
          obtain ⟨x, hx⟩ : ∃ x, p[k]? = some x := ⟨_, List.getElem?_eq_getElem hlt⟩
          obtain ⟨y, hy⟩ : ∃ y, q[k]? = some y := ⟨_, List.getElem?_eq_getElem hlt2⟩
          have HX := Lib.hid hx
          have HY := Lib.hid hy
          obtain ⟨ad0, rfl⟩ := st0.place hnp
          obtain ⟨ad1, rfl⟩ := st1.place hnq
          obtain ⟨Arx, crx, hix, ewx, srx⟩ := st0.at2 hx
          obtain ⟨Ary, cry, hiy, ewy, sry⟩ := st1.at2 hy
          clear hx hy
          have ecx := (bb.cell (World.block_lt_of_cell? w _ ewx)).trans ewx
          have ecy := (bb.cell (World.block_lt_of_cell? w _ ewy)).trans ewy
          have lq : ∀ z ∈ y, lenQ z 30000 := HLQ.out y (List.mem_of_getElem? HY.out)
          obtain ⟨u, hu⟩ : ∃ u : Int, u = if x = y then 1 else 0 := ⟨_, rfl⟩
          have HU := Lib.hid hu
          by_cases hxy : x = y
          · have HA2 : Hid (p.take (k + 1) = q.take (k + 1)) := by show _ = _; rw [List.take_add_one, List.take_add_one, HX.out, HY.out, HA.out, hxy]
            rw [if_pos hxy] at hu
            subst hu
            clear hxy
            have sB := bb.size
            go_upto_region 6 with (fail)
            refine flow 10 [Pd.eq (.slice (some ad0) p.length c0), Pd.eq (.int .i64 (k : Int)), Pd.eq (.pointer (some (ad0.add k))), Pd.eq (.slice Arx x.length crx), Pd.eq (.slice (some ad1) q.length c1), Pd.eq (.int .i64 (k : Int)), Pd.eq (.pointer (some (ad1.add k))), Pd.eq (.slice Ary y.length cry), Pd.eq (.int .i64 1), Pd.eq (.bool false)] (by kernel_rfl) (by kernel_rfl) ?ob23 ?done23
            case ob23 =>
              refine And.intro (ob_move rfl (wt_none rfl) (ev_far rfl rfl) (fun _ _ h => h)) ?_
              refine And.intro (ob_move rfl (wt_none rfl) (ev_far rfl rfl) (fun _ _ h => h)) ?_
              refine And.intro (ob_indexAddr rfl (wt_none rfl) (ev_dep (j := 0) (by kernel_rfl) rfl rfl) (ev_dep (j := 1) (by kernel_rfl) rfl rfl) (fun _ _ _ hx hy => ⟨_, by rw [hx, hy]; exact index1_any (k := k) Tryz.underlying22 (by kernel_rfl) ad0 hlt _, rfl⟩)) ?_
              refine And.intro (ob_load rfl (wt_none rfl) (ev_dep (j := 2) (by kernel_rfl) rfl rfl) (fun w2 hb => run_load1 Tryz.underlying64 rfl ((hb.cell (World.block_lt_of_cell? wr _ ecx)).trans ecx)) (fun _ _ => rfl)) ?_
              refine And.intro (ob_move rfl (wt_none rfl) (ev_far rfl rfl) (fun _ _ h => h)) ?_
              refine And.intro (ob_move rfl (wt_none rfl) (ev_far rfl rfl) (fun _ _ h => h)) ?_
              refine And.intro (ob_indexAddr rfl (wt_none rfl) (ev_dep (j := 4) (by kernel_rfl) rfl rfl) (ev_dep (j := 5) (by kernel_rfl) rfl rfl) (fun _ _ _ hx hy => ⟨_, by rw [hx, hy]; exact index1_any (k := k) Tryz.underlying23 (by kernel_rfl) ad1 hlt2 _, rfl⟩)) ?_
              refine And.intro (ob_load rfl (wt_none rfl) (ev_dep (j := 6) (by kernel_rfl) rfl rfl) (fun w2 hb => run_load1 Tryz.underlying87 rfl ((hb.cell (World.block_lt_of_cell? wr _ ecy)).trans ecy)) (fun _ _ => rfl)) ?_
              refine And.intro (ob_call2 rfl Tryz.func57 (by kernel_rfl) (wt_none rfl) (ev_dep (j := 3) (by kernel_rfl) rfl rfl) (ev_dep (j := 7) (by kernel_rfl) rfl rfl) (fun w2 u0 u1 hb h0 h1 => by obtain rfl := h0; obtain rfl := h1; exact (is_any _ _ x y 1 _ ((srx.below bb).drew.below hb) ((sry.below bb).drew.below hb) lq HU.out).mono fun e w3 h => RetV.pd h)) ?_
              refine And.intro (ob_bin rfl (wt_none rfl) (ev_dep (j := 8) (by kernel_rfl) rfl rfl) (ev_const _) (fun _ _ _ hx hy => ⟨.bool ((1 : Int) == 0), by rw [hx, hy]; exact bin_eql_int _ _ _ _ _, congrArg Value.bool (by decide)⟩)) ?_
              trivial
            case done23 =>
              refine fun w15 hb15 v0 h0 v1 h1 v2 h2 v3 h3 v4 h4 v5 h5 v6 h6 v7 h7 v8 h8 v9 h9 b hbf => ?_
              obtain rfl := h0; obtain rfl := h1; obtain rfl := h2; obtain rfl := h3; obtain rfl := h4; obtain rfl := h5; obtain rfl := h6; obtain rfl := h7; obtain rfl := h8; obtain rfl := h9
              simp only [Act.put, List.setIfInBounds_toArray, List.set_cons_zero, List.set_cons_succ] at hbf
              subst hbf
              replace bb := bb.trans (hb15.mono bb.size)
              have hsz15 := bb.size
              refine any_done (by kernel_rfl) ?_
              have hsk : p.length - (k + 1) < p.length - k := by omega
              go_wp2
              go_roundw
              case rel => exact ⟨k + 1, by omega, HA2, bb, by go_num⟩
              case measure => simp [intOf]; omega
          · have HW : Hid (b = 0) := by
              show _ = _
              rw [HB.out]
              refine if_neg fun e => ?_
              have h0 := HX.out
              rw [e, HY.out] at h0
              exact hxy (Option.some.inj h0).symm
            rw [if_neg hxy] at hu
            subst hu
            clear hxy
            have sB := bb.size
            go_upto_region 6 with (fail)
            refine flow 10 [Pd.eq (.slice (some ad0) p.length c0), Pd.eq (.int .i64 (k : Int)), Pd.eq (.pointer (some (ad0.add k))), Pd.eq (.slice Arx x.length crx), Pd.eq (.slice (some ad1) q.length c1), Pd.eq (.int .i64 (k : Int)), Pd.eq (.pointer (some (ad1.add k))), Pd.eq (.slice Ary y.length cry), Pd.eq (.int .i64 0), Pd.eq (.bool true)] (by kernel_rfl) (by kernel_rfl) ?ob24 ?done24
            case ob24 =>
              refine And.intro (ob_move rfl (wt_none rfl) (ev_far rfl rfl) (fun _ _ h => h)) ?_
              refine And.intro (ob_move rfl (wt_none rfl) (ev_far rfl rfl) (fun _ _ h => h)) ?_
              refine And.intro (ob_indexAddr rfl (wt_none rfl) (ev_dep (j := 0) (by kernel_rfl) rfl rfl) (ev_dep (j := 1) (by kernel_rfl) rfl rfl) (fun _ _ _ hx hy => ⟨_, by rw [hx, hy]; exact index1_any (k := k) Tryz.underlying22 (by kernel_rfl) ad0 hlt _, rfl⟩)) ?_
              refine And.intro (ob_load rfl (wt_none rfl) (ev_dep (j := 2) (by kernel_rfl) rfl rfl) (fun w2 hb => run_load1 Tryz.underlying64 rfl ((hb.cell (World.block_lt_of_cell? wr _ ecx)).trans ecx)) (fun _ _ => rfl)) ?_
              refine And.intro (ob_move rfl (wt_none rfl) (ev_far rfl rfl) (fun _ _ h => h)) ?_
              refine And.intro (ob_move rfl (wt_none rfl) (ev_far rfl rfl) (fun _ _ h => h)) ?_
              refine And.intro (ob_indexAddr rfl (wt_none rfl) (ev_dep (j := 4) (by kernel_rfl) rfl rfl) (ev_dep (j := 5) (by kernel_rfl) rfl rfl) (fun _ _ _ hx hy => ⟨_, by rw [hx, hy]; exact index1_any (k := k) Tryz.underlying23 (by kernel_rfl) ad1 hlt2 _, rfl⟩)) ?_
              refine And.intro (ob_load rfl (wt_none rfl) (ev_dep (j := 6) (by kernel_rfl) rfl rfl) (fun w2 hb => run_load1 Tryz.underlying87 rfl ((hb.cell (World.block_lt_of_cell? wr _ ecy)).trans ecy)) (fun _ _ => rfl)) ?_
              refine And.intro (ob_call2 rfl Tryz.func57 (by kernel_rfl) (wt_none rfl) (ev_dep (j := 3) (by kernel_rfl) rfl rfl) (ev_dep (j := 7) (by kernel_rfl) rfl rfl) (fun w2 u0 u1 hb h0 h1 => by obtain rfl := h0; obtain rfl := h1; exact (is_any _ _ x y 0 _ ((srx.below bb).drew.below hb) ((sry.below bb).drew.below hb) lq HU.out).mono fun e w3 h => RetV.pd h)) ?_
              refine And.intro (ob_bin rfl (wt_none rfl) (ev_dep (j := 8) (by kernel_rfl) rfl rfl) (ev_const _) (fun _ _ _ hx hy => ⟨.bool ((0 : Int) == 0), by rw [hx, hy]; exact bin_eql_int _ _ _ _ _, congrArg Value.bool (by decide)⟩)) ?_
              trivial
            case done24 =>
              refine fun w15 hb15 v0 h0 v1 h1 v2 h2 v3 h3 v4 h4 v5 h5 v6 h6 v7 h7 v8 h8 v9 h9 b hbf => ?_
              obtain rfl := h0; obtain rfl := h1; obtain rfl := h2; obtain rfl := h3; obtain rfl := h4; obtain rfl := h5; obtain rfl := h6; obtain rfl := h7; obtain rfl := h8; obtain rfl := h9
              simp only [Act.put, List.setIfInBounds_toArray, List.set_cons_zero, List.set_cons_succ] at hbf
              subst hbf
              replace bb := bb.trans (hb15.mono bb.size)
              have hsz15 := bb.size
              refine any_done (by kernel_rfl) ?_
              go_wp2
              go_ret
              exact ⟨by rw [HW.out]; rfl, bb⟩
        · have HW : Hid (b = 1) := by
            show _ = _
            rw [HB.out]
            have := HA.out
            rw [List.take_of_length_le (by omega), List.take_of_length_le (by have := HE.out; omega)] at this
            exact if_pos this
          go_wp2
          go_ret
          exact ⟨by rw [HW.out]; rfl, bb⟩
  · have HNE : Hid ((((p.length : Nat) : Int) != ((q.length : Nat) : Int)) = true) := by show _ = _; rw [bne_iff_ne]; omega
    have HW : Hid (b = 0) := by show _ = _; rw [HB.out]; exact if_neg fun e => he (by rw [e])
    clear he
    have sB := bb.size
    refine flowp 5 [Pd.eq (.slice A0 p.length c0), Pd.eq (.int .i64 ((p.length : Nat) : Int)), Pd.eq (.slice A1 q.length c1), Pd.eq (.int .i64 ((q.length : Nat) : Int)), Pd.eq (.bool true)] (by kernel_rfl) ?ob21 ?done21
    case ob21 =>
      refine And.intro (ob_move rfl (wt_none rfl) (ev_far rfl rfl) (fun _ _ h => h)) ?_
      refine And.intro (ob_len rfl (wt_none rfl) (ev_dep (j := 0) (by kernel_rfl) rfl rfl) (fun _ _ hx => ⟨_, by rw [hx]; exact len_slice Tryz.underlying22 _ _ _ _, rfl⟩)) ?_
      refine And.intro (ob_move rfl (wt_none rfl) (ev_far rfl rfl) (fun _ _ h => h)) ?_
      refine And.intro (ob_len rfl (wt_none rfl) (ev_dep (j := 2) (by kernel_rfl) rfl rfl) (fun _ _ hx => ⟨_, by rw [hx]; exact len_slice Tryz.underlying23 _ _ _ _, rfl⟩)) ?_
      refine And.intro (ob_bin rfl (wt_none rfl) (ev_dep (j := 1) (by kernel_rfl) rfl rfl) (ev_dep (j := 3) (by kernel_rfl) rfl rfl) (fun _ _ _ hx hy => ⟨.bool true, by rw [hx, hy, bin_neq_int, HNE.out], rfl⟩)) ?_
      trivial
    case done21 =>
      refine fun w12 hb12 v0 h0 v1 h1 v2 h2 v3 h3 v4 h4 b hbf => ?_
      obtain rfl := h0; obtain rfl := h1; obtain rfl := h2; obtain rfl := h3; obtain rfl := h4
      simp only [Act.put, List.setIfInBounds_toArray, List.set_cons_zero, List.set_cons_succ] at hbf
      subst hbf
      replace bb := bb.trans (hb12.mono bb.size)
      have hsz12 := bb.size
      refine ops_done ?_
      go_wp2
      go_ret
      exact ⟨by rw [HW.out]; rfl, bb⟩
/-- A table of rows that have no places yet, made by the call. -/
def RetBar (n : Nat) (w : World) (e : Ending) (w' : World) : Prop := ∃ g, e = .returned (.slice (some ⟨g, 0, none⟩) n n) ∧ TabB w' g 64 (List.replicate n (.slice none 0 0)) ∧ w.heap.size ≤ g ∧ Below w.heap.size w w'
theorem RetBar.pd {n : Nat} {w : World} {e : Ending} {w' : World} {B : Nat} (h : RetBar n w e w') (hB : B ≤ w.heap.size) : RetPd (pbar n 64 B) w e w' := by
  obtain ⟨g, h1, h2, h3, h4⟩ := h
  exact ⟨_, h1, ⟨g, rfl, h2, Nat.le_trans hB h3⟩, h4⟩
end Go.Proofs.YtfnohdgnhdfpaaaGreat.rat
namespace Go.Proofs.YtfnohdgnhdfpaaaGreat.flow
open Go.RowKit Go.Proofs.YtfnohdgnhdfpaaaGreat.num Go.Proofs.YtfnohdgnhdfpaaaGreat.mem Go.Proofs.YtfnohdgnhdfpaaaGreat.whl Go.Proofs.YtfnohdgnhdfpaaaGreat.rat
set_option linter.unusedVariables false
section
variable {P : Program} {Q : Exit → Act → World → Prop} {ops : Array Oper} {o : Oper} {i : Nat}
end
end Go.Proofs.YtfnohdgnhdfpaaaGreat.flow
namespace Go.Proofs.YtfnohdgnhdfpaaaGreat.rat
open Go.RowKit Go.Proofs.YtfnohdgnhdfpaaaGreat.num Go.Proofs.YtfnohdgnhdfpaaaGreat.mem Go.Proofs.YtfnohdgnhdfpaaaGreat.nat Go.Proofs.YtfnohdgnhdfpaaaGreat.txt Go.Proofs.YtfnohdgnhdfpaaaGreat.str Go.Proofs.YtfnohdgnhdfpaaaGreat.flow Go.Proofs.YtfnohdgnhdfpaaaGreat.whl
set_option linter.unusedVariables false
theorem Grew.trans {w w1 w2 : World} {v v1 v2 : Value} (h : Grew w w1 v v1) (k : Grew w1 w2 v1 v2) : Grew w w2 v v2 := by
  obtain ⟨a1, a2, a3⟩ := h
  obtain ⟨b1, b2, b3⟩ := k
  refine ⟨fun q u l hu hf => ?_, ⟨b2.os.trans a2.os, b2.tape.trans a2.tape, b2.output.trans a2.output, Nat.le_trans a2.size b2.size, fun i hi hne => ?_⟩, fun g hg hne => b3 g (Nat.lt_of_lt_of_le hg a2.size) (a3 g hg hne)⟩
  · have x := a1 q u l hu hf
    exact b1 q u l x.1 x.2
  · rw [b2.block i (Nat.lt_of_lt_of_le hi a2.size) (fun e => a3 i hi (fun e2 => hne e2.symm) e.symm), a2.block i hi hne]
theorem NewL.below {B B' : Nat} {ps : List Elt} (h : NewL B ps) (hb : B' ≤ B) : NewL B' ps := fun p hp => ⟨(h p hp).1.mono hb, (h p hp).2.mono hb⟩
theorem NewL.far {B : Nat} {ps : List Elt} (h : NewL B ps) {v : Value} (hv : ∀ g, v.ownBlock = some g → g < B) : ∀ p ∈ ps, Far v p.2.1 ∧ Far v p.2.2 := fun p hp => ⟨(h p hp).1.far hv, (h p hp).2.far hv⟩
/-- The table itself stays where one of its rows grows. -/
theorem TabO.mid {k : IntKind} {B : Nat} {T : TypeId} {w w1 : World} {base g n c i : Nat} {TS : TypeId} {us : List Value} {pss : List (List Elt)} {u u' : Value} {ps : List Elt} (hT : T ≠ TS) (h : TabO k B T w base TS (.slice (some ⟨g, 0, none⟩) n c) us pss) (hu : us[i]? = some u) (hps : pss[i]? = some ps) (hgr : Grew w w1 u u') : RowV w1 base TS (.slice (some ⟨g, 0, none⟩) n c) us :=
  World.ownsRow.kept (row := u.ownBlock) h.row hgr.2.1 (.inr fun e => (h.own i u ps hu hps).notRow h.row hT g e.symm rfl)
set_option linter.unusedSimpArgs false
/-- The program's tables whose rows the call owns. -/
abbrev TabR (w : World) (base : Nat) (V : Value) (us : List Value) (pss : List (List Elt)) : Prop := TabO .u64 4294967296 44 w base 64 V us pss
theorem heap_setCell {w : World} {g i : Nat} {u : Value} {cs : Array Value} {e : TypeId} (h : w.heap[g]? = some (.cells cs e (0, 0))) : (w.setCell ⟨g, i, none⟩ u).heap[g]? = some (.cells (cs.setIfInBounds i u) e (0, 0)) := by
  simp [World.setCell, Array.getElem?_modify, h]
theorem TabS.stored {k : IntKind} {B : Nat} {w : World} {g : Nat} {TS : TypeId} {us : List Value} {t : List (List Rat)} (h : TabS k B w g TS us t) (i : Nat) {u : Value} {r : List Rat} (hu : SlF k B w u r) : TabS k B (w.setCell ⟨g, i, none⟩ u) g TS (us.set i u) (t.set i r) := h.put (grown_set w g i u) (heap_setCell h.1.1) hu
theorem TabS.cellAt {k : IntKind} {B : Nat} {w : World} {g : Nat} {TS : TypeId} {us : List Value} {t : List (List Rat)} (h : TabS k B w g TS us t) {i : Nat} (hi : i < t.length) : ∃ u, w.cell? ⟨g, i, none⟩ = some u := by
  have hu : us[i]? = some (us[i]'(by rw [h.2.1]; exact hi)) := List.getElem?_eq_getElem _
  have := h.1.cell hu
  rw [addr_zero] at this
  exact ⟨_, this⟩
theorem TabS.frozenAt {k : IntKind} {B : Nat} {w : World} {g : Nat} {TS : TypeId} {us : List Value} {t : List (List Rat)} (h : TabS k B w g TS us t) (i : Nat) : w.frozen? ⟨g, i, none⟩ = false := h.1.1.frozen i
def rowv (C g : Nat) : Value := .slice (some ⟨g, 0, none⟩) C C
def rowvs (C n : Nat) (gs : List Nat) : List Value := gs.map (rowv C) ++ List.replicate n (.slice none 0 0)
theorem rowvs_len (C n : Nat) (gs : List Nat) : (rowvs C n gs).length = gs.length + n := by simp [rowvs]
theorem rowvs_at {C n i g : Nat} {gs : List Nat} (h : gs[i]? = some g) : (rowvs C n gs)[i]? = some (rowv C g) := by
  unfold rowvs
  rw [List.getElem?_append_left (by rw [List.length_map]; exact (List.getElem?_eq_some_iff.1 h).1), List.getElem?_map, h]; rfl
theorem rowvs_snoc (C n : Nat) (gs : List Nat) (g : Nat) : (rowvs C (n + 1) gs).set gs.length (rowv C g) = rowvs C n (gs ++ [g]) := by
  unfold rowvs
  rw [List.set_append_right _ _ (by rw [List.length_map]; exact Nat.le_refl _), List.length_map, Nat.sub_self, List.replicate_succ, List.set_cons_zero, List.map_append]
  simp
/-- A table of rows that the call made, each in a block of its own; n rows are still to be laid. -/
structure TabZ (w : World) (gT C base n : Nat) (gs : List Nat) (T : List (List Rat)) : Prop where
  blk : TabB w gT 64 (rowvs C n gs)
  len : gs.length = T.length
  row : ∀ (i g : Nat) (r : List Rat), gs[i]? = some g → T[i]? = some r → r.length = C ∧ RowN w g C r ∧ base ≤ g
  apart : ∀ (i j g : Nat), gs[i]? = some g → gs[j]? = some g → i = j
theorem TabZ.below {w w' : World} {gT C base n : Nat} {gs : List Nat} {T : List (List Rat)} (h : TabZ w gT C base n gs T) (hb : Below w.heap.size w w') : TabZ w' gT C base n gs T :=
  ⟨h.blk.below hb, h.len, fun i g r h1 h2 => ⟨(h.row i g r h1 h2).1, (h.row i g r h1 h2).2.1.below hb, (h.row i g r h1 h2).2.2⟩, h.apart⟩
theorem RowN.notTab {w : World} {g n gT : Nat} {qs : List Rat} {us : List Value} (h : RowN w g n qs) (ht : TabB w gT 64 us) : g ≠ gT := fun e => by
  obtain ⟨ps, _, _, h3, _⟩ := h
  have h4 := ht.1
  unfold Blk at h3 h4
  rw [e, h4] at h3
  injection h3 with h3
  injection h3 with _ h3
  exact absurd h3 (by decide)
theorem RowN.offT {w w' : World} {g n gT : Nat} {qs : List Rat} {us : List Value} (h : RowN w g n qs) (ht : TabB w gT 64 us) (hg : w.grownBy w' (some gT)) : RowN w' g n qs :=
  h.offb ht.1 (fun c hc n e => by
    obtain ⟨A, m, d, e1⟩ := ht.2 c (List.mem_toArray.1 hc)
    rw [e1] at e
    cases e) hg (h.notTab ht)
theorem TabZ.rowAt {w : World} {gT C base n i : Nat} {gs : List Nat} {T : List (List Rat)} {r : List Rat} (h : TabZ w gT C base n gs T) (hr : T[i]? = some r) : ∃ g, gs[i]? = some g ∧ r.length = C ∧ RowN w g C r ∧ base ≤ g := by
  have h1 : gs[i]? = some (gs[i]'(by rw [h.len]; exact (List.getElem?_eq_some_iff.1 hr).1)) := List.getElem?_eq_getElem _
  exact ⟨_, h1, h.row i _ r h1 hr⟩
/-- A row more. -/
theorem TabZ.add {w : World} {gT C base n g : Nat} {gs : List Nat} {T : List (List Rat)} {r : List Rat} (h : TabZ w gT C base (n + 1) gs T) (hr : RowN w g C r) (hl : r.length = C) (hb : base ≤ g) (hn : ∀ i : Nat, gs[i]? ≠ some g) : TabZ (w.setCell ⟨gT, gs.length, none⟩ (rowv C g)) gT C base n (gs ++ [g]) (T ++ [r]) := by
  have hg := grown_set w gT gs.length (rowv C g)
  refine ⟨?_, by rw [List.length_append, List.length_append, h.len]; rfl, fun i g' r' h1 h2 => ?_, fun i j g' h1 h2 => ?_⟩
  · rw [← rowvs_snoc]
    exact h.blk.put (heap_setCell h.blk.1) ⟨_, _, _, rfl⟩
  · by_cases hi : i < gs.length
    · rw [List.getElem?_append_left hi] at h1
      rw [List.getElem?_append_left (by rw [← h.len]; exact hi)] at h2
      obtain ⟨k1, k2, k3⟩ := h.row i g' r' h1 h2
      exact ⟨k1, k2.offT h.blk hg, k3⟩
    · have hi2 := (List.getElem?_eq_some_iff.1 h1).1
      rw [List.length_append, List.length_singleton] at hi2
      obtain rfl : i = gs.length := by omega
      rw [List.getElem?_concat_length] at h1
      rw [h.len, List.getElem?_concat_length] at h2
      injection h1 with h1
      injection h2 with h2
      subst h1; subst h2
      exact ⟨hl, hr.offT h.blk hg, hb⟩
  · have key : ∀ i, (gs ++ [g])[i]? = some g' → (i < gs.length ∧ gs[i]? = some g') ∨ (i = gs.length ∧ g = g') := fun i h1 => by
      by_cases hi : i < gs.length
      · rw [List.getElem?_append_left hi] at h1
        exact .inl ⟨hi, h1⟩
      · have hi2 := (List.getElem?_eq_some_iff.1 h1).1
        rw [List.length_append, List.length_singleton] at hi2
        obtain rfl : i = gs.length := by omega
        rw [List.getElem?_concat_length] at h1
        injection h1 with h1
        exact .inr ⟨rfl, h1⟩
    rcases key i h1 with ⟨_, k1⟩ | ⟨e1, k1⟩ <;> rcases key j h2 with ⟨_, k2⟩ | ⟨e2, k2⟩
    · exact h.apart i j g' k1 k2
    · subst k2; exact absurd k1 (hn i)
    · subst k1; exact absurd k2 (hn j)
    · omega
/-- One place is set. -/
theorem TabZ.put {w w' : World} {gT C base i j g : Nat} {gs : List Nat} {T : List (List Rat)} {r : List Rat} {q : Rat} (h : TabZ w gT C base 0 gs T) (hg : gs[i]? = some g) (hr : T[i]? = some r) (hgr : w.grownBy w' (some g)) (hrow : RowN w' g C (r.set j q)) : TabZ w' gT C base 0 gs (setq T i j q) := by
  obtain ⟨k1, k2, k3⟩ := h.row i g r hg hr
  have hne := k2.notTab h.blk
  rw [setq_at q hr]
  refine ⟨h.blk.grown hgr (fun e => hne (by injection e)), by rw [List.length_set]; exact h.len, fun i' g' r' h1 h2 => ?_, h.apart⟩
  rcases mem_set_at h2 with ⟨rfl, rfl⟩ | ⟨hne', h2⟩
  · rw [hg] at h1
    injection h1 with h1
    subst h1
    exact ⟨by rw [List.length_set]; exact k1, hrow, k3⟩
  · obtain ⟨m1, m2, m3⟩ := h.row i' g' r' h1 h2
    exact ⟨m1, m2.away k2 hgr (fun e => hne' (h.apart i i' g hg (by rw [h1, e]))), m3⟩
theorem TabZ.slT {w : World} {gT C base R : Nat} {gs : List Nat} {T : List (List Rat)} (h : TabZ w gT C base 0 gs T) (hR : T.length = R) (hm : R ≤ 1000000000) (hc : C ≤ 1000000000) : SlT .u64 4294967296 w (.slice (some ⟨gT, 0, none⟩) R R) T := by
  have hT : TabS .u64 4294967296 w gT 64 (rowvs C 0 gs) T := ⟨h.blk, by rw [rowvs_len, h.len]; rfl, fun i u r hu hr => by
    obtain ⟨g, h1, h2, h3, _⟩ := h.rowAt hr
    rw [rowvs_at h1] at hu
    injection hu with hu
    subst hu
    exact h3.sl h2 hc⟩
  exact hT.slT hR hm
/-- What is no longer to come has been laid. -/
def PartT (T T' : List (List Rat)) (left : Lit → Bool) : Prop := ∀ (i j : Nat) (q : Rat), cellq T i j = some q → cellq T' i j = some (if left (klit i j) = true then 0 else q)
theorem partT_start {D : DataW Value} {w : World} {T : List (List Rat)} {R C : Nat} (h : MapD D w T) (hs : shp T R C) : PartT T (zerosT R C) (Maps.has D) := fun i j q hq => by
  obtain ⟨hi, hj⟩ := cellq_lt hs hq
  obtain ⟨z, hz⟩ := cellq_ex (shp_zeros R C) hi hj
  rw [hz, cellq_zeros hz]
  by_cases h0 : q = 0
  · rw [h0]; simp
  · rw [(h.hit i j q hq h0).1]; simp
theorem partT_step {T T' : List (List Rat)} {left : Lit → Bool} {R C i j : Nat} {p : Rat} (h : PartT T T' left) (hs : shp T R C) (hs' : shp T' R C) (hR : R ≤ 200) (hC : C ≤ 200) (hp : cellq T i j = some p) : PartT T (setq T' i j p) (fun z => left z && !z.sameKey (klit i j)) := fun i' j' q hq => by
  obtain ⟨hi, hj⟩ := cellq_lt hs hp
  obtain ⟨hi', hj'⟩ := cellq_lt hs hq
  rw [cellq_setq hs' hi hj]
  by_cases e : i = i' ∧ j = j'
  · obtain ⟨rfl, rfl⟩ := e
    rw [if_pos ⟨rfl, rfl⟩]
    rw [hp] at hq
    injection hq with hq
    have hsk := WideAt.sameKey_self (keyK.key (keyOf_k (natI64 hi hR) (natI64 hj hC)))
    simp [hsk, hq]
  · rw [if_neg e, h i' j' q hq]
    have hk := klit_ne hR hC hi hj (natI64 hi' hR) (natI64 hj' hC) (fun e' => e ⟨by omega, by omega⟩)
    simp [Maps.sameKey_ne hk]
theorem partT_end {T T' : List (List Rat)} {left : Lit → Bool} {R C : Nat} (h : PartT T T' left) (hs : shp T R C) (hs' : shp T' R C) (hl : ∀ k, left k = false) : T' = T :=
  shp_ext hs' hs fun i j hi hj => by
    obtain ⟨q, hq⟩ := cellq_ex hs hi hj
    rw [h i j q hq, hl, hq]; simp
set_option maxRecDepth 100000 in
/-- The step of a range over such a map. -/
theorem wpList_next_q {w w0 : World} {ops : Array Oper} {rest : List Oper} {o : Oper} {a : Act} {Q : Exit → Act → World → Prop} (hg : o.guard = none) (it : Operand) (hop : o.op = Op.next it false) {b r n : Nat} {D : DataW Value} {T : List (List Rat)} {left : Lit → Bool} {cnt : Nat}
    (hit : a.eval it = .pointer (some ⟨r, 0, none⟩)) (h : w.ranges Tryz.prog 132 selfR b r n D left cnt) (hD : MapD D w0 T)
    (hDone : (∀ kl, left kl = false) → wpList Tryz.prog ops Q rest (a.put o.dst (.tuple #[.bool false])) w)
    (hMore : ∀ (i j : Nat) (p : Elt) (w' : World) (cnt' : Nat), cellq T i j = some p.1 → IsE .u64 4294967296 w0 p → w'.ranges Tryz.prog 132 selfR b r n D (fun z => left z && !z.sameKey (klit i j)) cnt' → cnt' < cnt → w.grownBy w' (some r) → w'.heap.size = w.heap.size →
      (Instr.entry (.pointer (some ⟨r, 0, none⟩))).run Tryz.prog w' = .ok (.tuple #[.agg #[.int .i64 (i : Int), .int .i64 (j : Int)], .agg #[.bool (ngB p.1.num), p.2.1, p.2.2]]) w' → wpList Tryz.prog ops Q rest (a.put o.dst (.tuple #[.bool true, .agg #[.int .i64 (i : Int), .int .i64 (j : Int)], .agg #[.bool (ngB p.1.num), p.2.1, p.2.2]])) w') :
    wpList Tryz.prog ops Q (o :: rest) a w := by
  refine wpList_next_ranges (α := Int × Int) (β := Value) w hg it hop 132 keyK selfR (fun x => .agg #[.int .i64 x.1, .int .i64 x.2]) id (fun key kl hk => ?_) (fun v y _ => ⟨v, rfl⟩) b r n D left cnt hit h (fun _ hl => hDone hl) (fun x c kl y w' cnt' hkey hlk hv hat hrg hlt hgr hsz hen => ?_)
  · obtain ⟨a', b', e, _, _, _⟩ := key_inv hk
    exact ⟨(a', b'), e⟩
  · obtain ⟨a', b', e, ha, hb, rfl⟩ := key_inv hkey
    injection e with e
    have e := congrArg Array.toList e
    simp only [List.cons.injEq, Value.int.injEq, true_and, and_true] at e
    obtain ⟨x1, x2⟩ := x
    obtain ⟨rfl, rfl⟩ := e
    have hhas := Maps.has_true_of_atKey hat
    have hc : ∃ (i j : Nat) (q : Rat), x1 = i ∧ x2 = j ∧ cellq T i j = some q ∧ q ≠ 0 := Classical.byContradiction fun hn => by
      have := hD.miss x1 x2 ha hb fun i j q e1 e2 hq => Classical.byContradiction fun h0 => hn ⟨i, j, q, e1, e2, hq, h0⟩
      rw [hhas] at this
      cases this
    obtain ⟨i, j, q, rfl, rfl, hq, h0⟩ := hc
    obtain ⟨_, p, h2, rfl, h4⟩ := hD.hit i j q hq h0
    have h5 := (hat .nil).symm.trans (h2 .nil)
    have hcv : c = qv p := by
      unfold selfR at hv
      injection hv with hv
      subst hv
      injection h5
    subst hcv
    exact hMore i j p w' cnt' hq h4 hrg hlt hgr hsz hen
theorem rowvs_next {C n : Nat} {gs : List Nat} (hn : 0 < n) : (rowvs C n gs)[gs.length]? = some (.slice none 0 0) := by
  unfold rowvs
  rw [List.getElem?_append_right (by rw [List.length_map]; exact Nat.le_refl _), List.length_map, Nat.sub_self, List.getElem?_replicate, if_pos hn]
/-- No cells lie in this block. -/
def NotC (w : World) (r : Nat) : Prop := ∀ cs e f, w.heap[r]? ≠ some (.cells cs e f)
theorem NotC.cell {w : World} {r : Nat} (h : NotC w r) {p : Addr} {v : Value} (hp : w.cell? p = some v) : some p.block ≠ some r := by
  intro e
  injection e with e
  unfold World.cell? at hp
  rw [e] at hp
  cases hh : w.heap[r]? with
  | none => rw [hh] at hp; cases hp
  | some o =>
    rw [hh] at hp
    cases o with
    | cells cs t f => exact h cs t f hh
    | _ => cases hp
theorem NotC.off {w w' : World} {r : Nat} (h : NotC w r) (hg : w.grownBy w' (some r)) {k : IntKind} {v : Value} {l : List Nat} (hs : IsS w k v l) : IsS w' k v l := by
  obtain ⟨A, c, rfl, h1, h2, h3⟩ := hs
  refine ⟨A, c, rfl, h1, h2, fun i d hd => ?_⟩
  obtain ⟨ad, rfl, hc⟩ := h3 i d hd
  exact ⟨ad, rfl, hg.cell hc (h.cell hc)⟩
theorem NotC.blk {w w' : World} {r : Nat} (h : NotC w r) (hg : w.grownBy w' (some r)) {g : Nat} {t : TypeId} {cs : Array Value} (hb : Blk w g t cs) : Blk w' g t cs := hb.grown hg fun e => by
  unfold Blk at hb
  rw [e] at hb
  exact h _ _ _ hb
theorem NotC.row {w w' : World} {r : Nat} (h : NotC w r) (hg : w.grownBy w' (some r)) {g n : Nat} {qs : List Rat} (hr : RowN w g n qs) : RowN w' g n qs := by
  obtain ⟨ps, h1, h2, h3, h4, h5⟩ := hr
  refine ⟨ps, h1, h2, h.blk hg h3, h4, fun i q hq => ?_⟩
  obtain ⟨p, k1, k2, k3⟩ := h5 i q hq
  exact ⟨p, k1, k2, h.off hg k3.1, h.off hg k3.2⟩
theorem NotC.tab {w w' : World} {r : Nat} (h : NotC w r) (hg : w.grownBy w' (some r)) {gT C base n : Nat} {gs : List Nat} {T : List (List Rat)} (ht : TabZ w gT C base n gs T) : TabZ w' gT C base n gs T :=
  ⟨⟨h.blk hg ht.blk.1, ht.blk.2⟩, ht.len, fun i g r' h1 h2 => ⟨(ht.row i g r' h1 h2).1, h.row hg (ht.row i g r' h1 h2).2.1, (ht.row i g r' h1 h2).2.2⟩, ht.apart⟩
theorem ranges_notC {w : World} {b r n : Nat} {D : DataW Value} {left : Lit → Bool} {cnt : Nat} (h : w.ranges Tryz.prog 132 selfR b r n D left cnt) : NotC w r := by
  obtain ⟨es, clock, since, seen, c0, _, _, _, _, hr, _⟩ := h
  intro cs e f hh
  rw [hr] at hh
  cases hh
set_option maxHeartbeats 6400000 in
set_option maxRecDepth 100000 in
theorem sfull_any (g b R C : Nat) (T : List (List Rat)) (w : World) (h : Spt w g b R C T) (hl : lenS T 100000) : Calls Tryz.prog 98 #[.pointer (some ⟨g, 0, none⟩)] w (RetSlT .u64 4294967296 T w) := by
  have HL := Lib.hid hl
  have hR := h.hR
  have hC := h.hC
  have HS := Lib.hid h.shp
  obtain ⟨D, hown, hD⟩ := h.map
  have HO := Lib.hid hown
  have HD := Lib.hid hD
  have hbw := h.map.lt
  clear hl hown hD
  go_enter Tryz.func98, Tryz.ntmps98
  go_wp2_with fail
  refine (ssize_any _ _ _ _ _ _ h).mono ?_
  rintro e w2 ⟨rfl, b2⟩
  obtain ⟨w3, hmk, r3, b3⟩ := run_make_v (P := Tryz.prog) (w := w2) Tryz.underlying22 info_vec13 R (by omega)
  have hg3 := b2.size
  have bb := b2.trans (b3.mono b2.size)
  clear b2 b3
  obtain ⟨gT, hgT⟩ : ∃ gT, gT = w2.heap.size := ⟨_, rfl⟩
  rw [← hgT] at hmk r3 hg3
  clear hgT
  have T0 : TabZ w3 gT C w.heap.size R [] (zerosT 0 C) := ⟨r3, rfl, fun i g r hi => by simp at hi, fun i j g hi => by simp at hi⟩
  have HG := Lib.hid hg3
  clear hg3 r3
  go_wp2
  go_loopw [18] (fun v18 wr => ∃ (k : Nat) (gs : List Nat), k ≤ R ∧ gs.length = k ∧ TabZ wr gT C w.heap.size (R - k) gs (zerosT k C) ∧ Below w.heap.size w wr ∧ v18 = .int .i64 (k : Int)) (fun v18 _ => R - (intOf v18).toNat)
  case atStart => exact ⟨0, [], by omega, rfl, T0, bb, rfl⟩
  case round =>
    clear T0 hmk bb
    obtain ⟨k, gs, hk, hgl, TZ, bb, rfl⟩ := hrel
    by_cases hlt : k < R
    · go_wp2_with fail
      refine (zero_row _ C _ rfl hC).mono ?_
      rintro e w4 ⟨g4, rfl, r4, hg4, b4⟩
      rw [zerosq_len] at r4 ⊢
      have TZ4 := TZ.below b4
      have bb4 := bb.trans (b4.mono bb.size)
      have hCL : w4.cell? ⟨gT, k, none⟩ = some (.slice none 0 0) := by
        have h1 := TZ4.blk.cell (rowvs_next (C := C) (gs := gs) (show 0 < R - k by omega))
        rw [addr_zero, hgl] at h1
        exact h1
      have hFR : w4.frozen? ⟨gT, k, none⟩ = false := TZ4.blk.1.frozen k
      have hNN : ∀ i : Nat, gs[i]? ≠ some g4 := fun i hi => by
        have hil := (List.getElem?_eq_some_iff.1 hi).1
        have hr : (zerosT k C)[i]? = some (zerosq C) := by unfold zerosT zerosq; rw [List.getElem?_replicate, if_pos (by omega)]
        have h3 := ((TZ.row i g4 _ hi hr).2.1).lt
        omega
      have hRk : R - k = (R - (k + 1)) + 1 := by omega
      rw [hRk] at TZ4
      have TZ5 := TZ4.add r4 (zerosq_len C) (Nat.le_trans bb.size hg4) hNN
      have hZS : zerosT k C ++ [zerosq C] = zerosT (k + 1) C := by unfold zerosT zerosq; rw [List.replicate_succ']
      rw [hZS, hgl] at TZ5
      unfold rowv at TZ5
      have bb5 := bb4.setCell (p := ⟨gT, k, none⟩) HG.out (.slice (some ⟨g4, 0, none⟩) C C)
      have HE := Lib.hid (And.intro TZ5 bb5)
      have hgl2 : (gs ++ [g4]).length = k + 1 := by rw [List.length_append, hgl]; rfl
      have HGL2 := Lib.hid hgl2
      clear TZ TZ4 TZ5 bb4 bb5 r4 hNN hRk hZS hgl hgl2 b4
      go_wp2
      go_roundw
      case rel => exact ⟨k + 1, _, by omega, HGL2.out, HE.out.1, HE.out.2, by go_num⟩
      case measure => simp [intOf]; omega
    · obtain rfl : k = R := by omega
      rw [Nat.sub_self] at TZ
      have hTS := shp_zeros k C
      go_wp2_with fail
      refine (mcells_any _ _ _ _ _ _ (h.below bb)).mono ?_
      rintro e w5 ⟨rfl, b5⟩
      have TZ5 := TZ.below b5
      have bb5 := bb.trans (b5.mono bb.size)
      have own5 := HO.out.kept (below_none bb5 none) (by simp)
      have HP5 := Lib.hid (partT_start HD.out HS.out)
      clear TZ b5 bb
      go_wp2_with (at_range; refine wpList_range_own _ rfl _ 122 rfl 132 44 keyK Tryz.underlying122 selfR b _ D rfl own5 ?_; intro w6 rg6 g6 s6)
      go_frame
      have b56 : Below w5.heap.size w5 w6 := (Below.refl _ w5).grown g6 (Nat.le_refl _) (fun q e => by cases e)
      have TZ6 := TZ5.below b56
      have bb6 := bb5.trans (b56.mono bb5.size)
      have hri := bb5.size
      obtain ⟨ri, hrie⟩ : ∃ ri, ri = w5.heap.size := ⟨_, rfl⟩
      have HRG : Hid (∀ (i g : Nat), gs[i]? = some g → g < ri) := fun i g hi => by
        have hil := (List.getElem?_eq_some_iff.1 hi).1
        obtain ⟨r, hr⟩ : ∃ r, (zerosT k C)[i]? = some r := ⟨_, List.getElem?_eq_getElem (by rw [← TZ5.len]; exact hil)⟩
        rw [hrie]
        exact ((TZ5.row i g r hi hr).2.1).lt
      rw [← hrie] at rg6 hri ⊢
      have HRI := Lib.hid hri
      clear hrie own5 TZ5 bb5 g6 s6 b56 hri
      go_loopw [] (fun wr => ∃ (left : Lit → Bool) (cnt : Nat) (T' : List (List Rat)), wr.ranges Tryz.prog 132 selfR b ri (Maps.size D) D left cnt ∧ Hid (PartT T T' left) ∧ Hid (shp T' k C) ∧ TabZ wr gT C w.heap.size 0 gs T' ∧ Below w.heap.size w wr) (fun wr => wr.rangeLeft b ri)
      case atStart => exact ⟨_, _, _, rg6, HP5, hTS, TZ6, bb6⟩
      case round =>
        clear rg6 HP5 TZ6 bb6 hTS
        obtain ⟨left, cnt, T', rg, HP, HT, TZ, bb⟩ := hrel
        go_wp2_with (at_next; refine wpList_next_q rfl _ rfl rfl rg HD.out ?_ ?_)
        · intro hl
          have hTT := partT_end HP.out HS.out HT.out hl
          rw [hTT] at TZ
          have hSL := TZ.slT HS.out.1 (by omega) (by omega)
          clear TZ rg
          go_wp2
          go_ret
          exact ⟨_, rfl, hSL, bb⟩
        · intro i j q U V w7 cnt7 hq hp rg7 hlt7 g7 s7 hen
          obtain ⟨A1, c1, e1, _⟩ := id hp.1
          obtain ⟨A2, c2, e2, _⟩ := id hp.2
          dsimp only at e1 e2
          subst e1
          subst e2
          have NC := ranges_notC rg
          have HLO := Lib.hid rg.left_eq
          have TZ7 := NC.tab g7 TZ
          have bb7 := bb.grown g7 bb.size (fun x e => by injection e with e; have := HRI.out; omega)
          obtain ⟨hik, hjC⟩ := cellq_lt HS.out hq
          obtain ⟨r', hr', hrl⟩ := row_ex HT.out hik
          obtain ⟨gi, hgi, -, hrow, hgb⟩ := TZ7.rowAt hr'
          have HLQ := Lib.hid (HL.out i j q hq)
          clear NC TZ g7 bb rg
          go_upto_region 11 with (fail)
          obtain ⟨wx, hwx, bx, BX7, BX8, hsx⟩ := vars2 w7 132 44 #[.int .i64 (i : Int), .int .i64 (j : Int)] #[.bool (ngB q.num), .slice A1 (digs 4294967296 q.num.natAbs).length c1, .slice A2 (digs 4294967296 q.den).length c2]
          rw [hwx]
          clear hwx
          rw [s7] at BX7 BX8
          have bxd : Below w7.heap.size w7 wx.drew := bx.trans ((Below.refl _ _).drew.mono bx.size)
          have TZx := TZ7.below bxd
          have hrowx := hrow.below bxd
          have rgx := rg7.kept (below_none bxd none) (by simp) (by simp)
          have bbx := bb7.trans (bxd.mono bb7.size)
          have hgl' := hrow.lt
          have hTl := TZ7.blk.lt
          have hgT := hrow.notTab TZ7.blk
          obtain ⟨x0, x1, -, -⟩ := Blk.two BX7
          obtain ⟨y0, y1, y2, -, -, -⟩ := three BX8
          have X0 : wx.drew.cell? ⟨wr.heap.size, 0, none⟩ = some (.int .i64 (i : Int)) := x0
          have X1 : wx.drew.cell? ⟨wr.heap.size, 1, none⟩ = some (.int .i64 (j : Int)) := x1
          have Y0 : wx.drew.cell? ⟨wr.heap.size + 1, 0, none⟩ = some (.bool (ngB q.num)) := y0
          have Y1 : wx.drew.cell? ⟨wr.heap.size + 1, 1, none⟩ = some (.slice A1 (digs 4294967296 q.num.natAbs).length c1) := y1
          have Y2 : wx.drew.cell? ⟨wr.heap.size + 1, 2, none⟩ = some (.slice A2 (digs 4294967296 q.den).length c2) := y2
          have hZ : wx.drew.cell? ⟨gT, i, none⟩ = some (.slice (some ⟨gi, 0, none⟩) C C) := by
            have h1 := TZx.blk.cell (rowvs_at (C := C) (n := 0) hgi)
            rw [addr_zero] at h1
            exact h1
          have hne1 : ¬ gi = gT := hgT
          have hne2 : ¬ gi = wr.heap.size := by omega
          have hne3 : ¬ gi = wr.heap.size + 1 := by omega
          have hij := fun w => indexN (P := Tryz.prog) Tryz.underlying64 (by kernel_rfl) (g := gi) (c := C) hjC w
          have kq : IsQ wx.drew (.agg #[.bool (ngB q.num), .slice A1 (digs 4294967296 q.num.natAbs).length c1, .slice A2 (digs 4294967296 q.den).length c2]) q := ⟨_, _, rfl, hp.1.below bbx, hp.2.below bbx⟩
          have hPS := partT_step HP.out HS.out HT.out hR hC hq
          have HPS := Lib.hid hPS
          have HTS : Hid (shp (setq T' i j q) k C) := setq_shp HT.out i j q
          have hbi : Hid (b ≠ gi ∧ ri ≠ gi ∧ w.heap.size ≤ gi ∧ gi < wx.drew.heap.size) := ⟨by omega, by have := HRG.out i gi hgi; omega, hgb, by have := bxd.size; omega⟩
          have HRJ : Hid (j < r'.length) := by show j < _; omega
          have Hgi := Lib.hid hgi
          have Hr' := Lib.hid hr'
          have hzx := bxd.size
          have hz7 := bb7.size
          clear hPS x0 x1 y0 y1 y2 BX7 BX8 TZ7 hrow rg7 hp hsx bx hgi hr' hrl hq
          go_region_held3 (fun w' => w'.cell? ⟨wr.heap.size, 0, none⟩ = some (.int .i64 (i : Int)) ∧ w'.cell? ⟨wr.heap.size, 1, none⟩ = some (.int .i64 (j : Int)) ∧ w'.cell? ⟨wr.heap.size + 1, 0, none⟩ = some (.bool (ngB q.num)) ∧ w'.cell? ⟨wr.heap.size + 1, 1, none⟩ = some (.slice A1 (digs 4294967296 q.num.natAbs).length c1) ∧ w'.cell? ⟨wr.heap.size + 1, 2, none⟩ = some (.slice A2 (digs 4294967296 q.den).length c2) ∧ w'.cell? ⟨gT, i, none⟩ = some (.slice (some ⟨gi, 0, none⟩) C C)) (go_keep) ((go_at_call 91; refine (scopied_any _ q _ (by exact kq) HLQ.out).mono ?_; rintro e w9 ⟨v9, rfl, k9, f9, b9⟩; have z0 := (b9.cell (World.block_lt_of_cell? _ _ X0)).trans X0; have z1 := (b9.cell (World.block_lt_of_cell? _ _ X1)).trans X1; have z2 := (b9.cell (World.block_lt_of_cell? _ _ Y0)).trans Y0; have z3 := (b9.cell (World.block_lt_of_cell? _ _ Y1)).trans Y1; have z4 := (b9.cell (World.block_lt_of_cell? _ _ Y2)).trans Y2; have z5 := (b9.cell (World.block_lt_of_cell? _ _ hZ)).trans hZ; have row9 := hrowx.below b9; obtain ⟨m0, m1, m2, P0, P1, P2, F0, F1, F2⟩ := row9.place hjC; obtain ⟨u9, t9, rfl, s9, d9⟩ := k9; obtain ⟨A9, c9, rfl, _⟩ := id s9; obtain ⟨D9, e9, rfl, _⟩ := id d9))
          all_goals
            have TZ9 := TZx.below b9
            obtain ⟨G10, -, R10⟩ := rowN_set row9 hjC s9 d9
            have TZ10 := TZ9.put Hgi.out Hr'.out G10 (R10 HRJ.out)
            have rg10 := (rgx.kept (below_none b9 none) (by simp) (by simp)).kept G10 (fun e => hbi.out.1 (by injection e)) (fun e => hbi.out.2.1 (by injection e))
            have bb10 := (bbx.trans (b9.mono bbx.size)).grown G10 (by have := b9.size; omega) (fun x e => by injection e with e; have := hbi.out.2.2.1; omega)
            have HLF := Lib.hid rg10.left_eq
            have HE := Lib.hid (And.intro rg10 (And.intro TZ10 bb10))
            clear TZ9 G10 R10 TZ10 rg10 bb10 rgx TZx row9 hrowx s9 d9 kq
            go_wp2
            go_roundw
            case rel => exact ⟨_, _, _, HE.out.1, HPS, HTS, HE.out.2.1, HE.out.2.2⟩
            case measure => rw [HLF.out, HLO.out]; exact hlt7
/-- So far as row i, place j the table has been laid. -/
structure Fil (t T : List (List Rat)) (R C i j : Nat) : Prop where
  shp : shp T R C
  at_ : ∀ a c, a < R → c < C → cellq T a c = if a < i ∨ (a = i ∧ c < j) then cellq t a c else some 0
theorem Fil.step {t T : List (List Rat)} {R C i j : Nat} {q : Rat} (h : Fil t T R C i j) (hi : i < R) (hj : j < C) (hq : cellq t i j = some q) : Fil t (setq T i j q) R C i (j + 1) := ⟨setq_shp h.shp i j q, fun a c ha hc => by
  rw [cellq_setq h.shp hi hj]
  by_cases e : i = a ∧ j = c
  · obtain ⟨rfl, rfl⟩ := e
    rw [if_pos ⟨rfl, rfl⟩, if_pos (.inr ⟨rfl, by omega⟩), hq]
  · rw [if_neg e, h.at_ a c ha hc]
    by_cases e2 : a < i ∨ (a = i ∧ c < j)
    · rw [if_pos e2, if_pos (by omega)]
    · rw [if_neg e2, if_neg (by omega)]⟩
theorem Fil.next {t T : List (List Rat)} {R C i : Nat} (h : Fil t T R C i C) : Fil t T R C (i + 1) 0 := ⟨h.shp, fun a c ha hc => by
  rw [h.at_ a c ha hc]
  by_cases e : a < i ∨ (a = i ∧ c < C)
  · rw [if_pos e, if_pos (by omega)]
  · rw [if_neg e, if_neg (by omega)]⟩
theorem Fil.done {t T : List (List Rat)} {R C : Nat} (h : Fil t T R C R 0) (hs : Go.Proofs.YtfnohdgnhdfpaaaGreat.rat.shp t R C) : T = t := shp_ext h.shp hs fun a c ha hc => by rw [h.at_ a c ha hc, if_pos (.inl ha)]
end Go.Proofs.YtfnohdgnhdfpaaaGreat.rat
namespace Go.Proofs.YtfnohdgnhdfpaaaGreat.rat
open Go.RowKit Go.ChangeShapes Go.WideShapes Go.ChangeAt Go.Joins Go.Deep Go.Proofs.YtfnohdgnhdfpaaaGreat.num Go.Proofs.YtfnohdgnhdfpaaaGreat.mem Go.Proofs.YtfnohdgnhdfpaaaGreat.nat Go.Proofs.YtfnohdgnhdfpaaaGreat.txt Go.Proofs.YtfnohdgnhdfpaaaGreat.str Go.Proofs.YtfnohdgnhdfpaaaGreat.flow Go.Proofs.YtfnohdgnhdfpaaaGreat.whl
set_option linter.unusedVariables false
/-- A slice of slices of structs of a sign, limbs, and limbs, as it came in. -/
def ArgT (w : World) (v : Value) : Prop := ∃ A n c, v = .slice A n c ∧ n ≤ c ∧ c ≤ maxLen ∧ ∀ i, i < n → ∃ ad u, A = some ad ∧ w.cell? (ad.add i) = some u ∧ ArgQs w u
theorem ArgT.below {w w' : World} {v : Value} (h : ArgT w v) (hb : Below w.heap.size w w') : ArgT w' v := by
  obtain ⟨A, n, c, e, h1, h2, h3⟩ := h
  refine ⟨A, n, c, e, h1, h2, fun i hi => ?_⟩
  obtain ⟨ad, u, a1, e0, k⟩ := h3 i hi
  exact ⟨ad, u, a1, (hb.cell (World.block_lt_of_cell? w _ e0)).trans e0, ArgQs.below k hb⟩
end Go.Proofs.YtfnohdgnhdfpaaaGreat.rat
namespace Go.Proofs.YtfnohdgnhdfpaaaGreat.rat
open Go.RowKit Go.Proofs.YtfnohdgnhdfpaaaGreat.num Go.Proofs.YtfnohdgnhdfpaaaGreat.mem Go.Proofs.YtfnohdgnhdfpaaaGreat.nat Go.Proofs.YtfnohdgnhdfpaaaGreat.txt Go.Proofs.YtfnohdgnhdfpaaaGreat.str Go.Proofs.YtfnohdgnhdfpaaaGreat.flow Go.Proofs.YtfnohdgnhdfpaaaGreat.whl
set_option linter.unusedVariables false
section
variable {P : Program}
/-- 'all = append(all, x)', all a row of slices of the call's own. -/
theorem wpList_append_w {w : World} {ops : Array Oper} {rest : List Oper} {o : Oper} {a : Act} {Q : Exit → Act → World → Prop} (hgd : o.guard = none) (s x : Operand) {t : TypeId}
    (ho : o.op = .call { callee := .builtin .append, args := #[s, x], argTypes := #[t, t] })
    {base : Nat} {T : TypeId} (hT : P.underlying t = some (.slice T)) (hI : ∃ i, P.info? T = some i ∧ i.zero = some (.slice none 0 0) ∧ i.size = 1 ∧ i.bytes = 24) {v u : Value} {vs : List Value} (hs : a.eval s = v) (hown : RowV w base T v vs) (hx : a.eval x = .slice (some ⟨w.heap.size, 0, none⟩) 1 1) (hu : u.oneCell' = true)
    (hlen : vs.length ≤ 1000000000) (hbase : base ≤ w.heap.size)
    (h : ∀ v' w', RowV w' base T v' (vs ++ [u]) → Below base w w' → Hid (Grew w w' v v') → wpList P ops Q rest (a.put o.dst v') w') : wpList P ops Q (o :: rest) a (w.alloc (.cells #[u] T)) := by
  obtain ⟨i, hi, hz, hsz, hby⟩ := hI
  refine wpList_append_lies (w.alloc (.cells #[u] T)) hgd s x t ho base T i (.slice none 0 0) 1 24 hT hi hz hsz hby rfl (by omega) v vs.length vs hs (World.ownsRow.alloc hown _) ⟨w.heap.size, 0, none⟩ 1 1 [u] hx rfl ?_ ?_ (by omega) (by unfold maxLen; omega) (by omega) (by simp; omega) _ rfl ?_
  · exact World.news_of_block (heap_alloc_new w _)
  · intro u' hu'
    obtain rfl := List.mem_singleton.1 hu'
    exact hu
  · intro g cap w' g1 g2 g3 g4
    have h5 : w.grownBy w' v.ownBlock := grown_trans (World.grownBy_alloc w _ _) g2
    refine h _ w' (by unfold RowV; rw [List.length_append]; exact g1) ((Below.refl base w).grown h5 hbase hown.base_le) ?_
    refine ⟨?_, h5, fun k hk hne e1 => ?_⟩
    · intro k q l hq hf
      refine ⟨hq.farKept hf h5, ?_⟩
      rintro ad n c rfl hn
      rcases g3 with h3 | h3
      · have := hf ad n c rfl hn
        rw [h3] at this
        exact this
      · subst h3
        intro e1
        have e2 : ad.block = (w.alloc (.cells #[u] T)).heap.size := by simpa [Value.ownBlock] using e1
        obtain ⟨A, c', e3, k1, k2, k3⟩ := hq
        injection e3 with e3 e4 e5
        subst e3; subst e4
        obtain ⟨ad', he, hc⟩ := k3 0 _ (List.getElem?_eq_getElem hn)
        injection he with he; subst he
        have h6 := World.block_lt_of_cell? w _ hc
        rw [Go.ChangeShapes.block_add] at h6
        simp at e2
        omega
    · have e2 : g = k := by simpa [Value.ownBlock] using e1
      subst e2
      rcases g3 with h3 | h3
      · exact hne h3
      · simp at h3; omega
end
theorem RowF.weak {T : TypeId} {w : World} {base base' : Nat} {v : Value} {ps : List Elt} (h : RowF T w base v ps) (hb : base' ≤ base) : RowF T w base' v ps := by
  refine ⟨h.1, ?_⟩
  rcases h.2 with h2 | ⟨g, cap, cur, e, h1, h2⟩
  · exact .inl h2
  · exact .inr ⟨g, cap, cur, e, Nat.le_trans hb h1, h2⟩
theorem flat3_take : ∀ (ps : List Elt) (m : Nat), flat3 (ps.take m) = (flat3 ps).take (m * 3)
  | [], m => by simp [flat3]
  | p :: ps, 0 => by simp [flat3]
  | p :: ps, m + 1 => by
    rw [List.take_succ_cons, flat3_cons, flat3_cons, flat3_take ps m, show (m + 1) * 3 = m * 3 + 3 from by omega, List.take_append, cells3_len, List.take_of_length_le (l := cells3 p) (by rw [cells3_len]; omega), Nat.add_sub_cancel]
/-- A row's front is a row of the call's own. -/
theorem RowF.take {T : TypeId} {w : World} {base n c m : Nat} {A : Option Addr} {ps : List Elt} (h : RowF T w base (.slice A n c) ps) (hm : m ≤ ps.length) : RowF T w base (.slice A m c) (ps.take m) := by
  have hl : (ps.take m).length = m := by rw [List.length_take]; omega
  unfold RowF
  rw [hl]
  refine ⟨by rw [flat3_len, hl], ?_⟩
  rcases h.2 with ⟨e, h0⟩ | ⟨g, cap, cur, e, h1, h2, h3, h4, h5, h6⟩
  · injection e with e1 e2 e3
    subst e1; subst e3
    have : m = 0 := by omega
    subst this
    exact .inl ⟨rfl, rfl⟩
  · injection e with e1 e2 e3
    subst e1; subst e3
    refine .inr ⟨g, c, cur, rfl, h1, h2, by omega, h4, h5, ?_⟩
    rw [flat3_take, ← h6, List.take_take, Nat.min_eq_left (by omega)]
/-- A table whose rows the call owns, each in a block of its own, whatever its elements' limbs are. -/
structure TabK (T : TypeId) (w : World) (base : Nat) (TS : TypeId) (V : Value) (us : List Value) (pss : List (List Elt)) : Prop where
  row : RowV w base TS V us
  len : us.length = pss.length
  own : ∀ (i : Nat) (u : Value) (ps : List Elt), us[i]? = some u → pss[i]? = some ps → RowF T w base u ps
  apart : ∀ (i j : Nat) (u v : Value), i ≠ j → us[i]? = some u → us[j]? = some v → ∀ h, u.ownBlock = some h → v.ownBlock ≠ some h
theorem TabO.k {k : IntKind} {B : Nat} {T : TypeId} {w : World} {base : Nat} {TS : TypeId} {V : Value} {us : List Value} {pss : List (List Elt)} (h : TabO k B T w base TS V us pss) : TabK T w base TS V us pss := ⟨h.row, h.len, h.own, h.apart⟩
theorem TabK.mem {T : TypeId} {w : World} {base : Nat} {TS : TypeId} {V : Value} {us : List Value} {pss : List (List Elt)} (h : TabK T w base TS V us pss) {u : Value} (hu : u ∈ us) : ∃ ps, RowF T w base u ps := by
  obtain ⟨i, hi⟩ := List.mem_iff_getElem?.1 hu
  have hp : pss[i]? = some (pss[i]'(by rw [← h.len]; exact (List.getElem?_eq_some_iff.1 hi).1)) := List.getElem?_eq_getElem _
  exact ⟨_, h.own i u _ hi hp⟩
theorem RowV.kept {w w' : World} {base : Nat} {TS : TypeId} {V : Value} {us : List Value} {row : Option Nat} (h : RowV w base TS V us) (hg : w.grownBy w' row) (hV : ∀ g, V.ownBlock = some g → row ≠ some g) : RowV w' base TS V us :=
  World.ownsRow.kept (row := row) h hg (by
    cases hv : V.ownBlock with
    | none => exact .inl rfl
    | some g => exact .inr fun e => hV g hv e.symm)
theorem TabK.kept {T : TypeId} {w w' : World} {base : Nat} {TS : TypeId} {V : Value} {us : List Value} {pss : List (List Elt)} {row : Option Nat} (h : TabK T w base TS V us pss) (hg : w.grownBy w' row) (hV : ∀ g, V.ownBlock = some g → row ≠ some g) (hu : ∀ u ∈ us, ∀ g, u.ownBlock = some g → row ≠ some g) : TabK T w' base TS V us pss :=
  ⟨RowV.kept h.row hg hV, h.len, fun i u ps hi hp => (h.own i u ps hi hp).other hg (fun g e => hu u (List.mem_of_getElem? hi) g e), h.apart⟩
theorem TabK.below {T : TypeId} {w w' : World} {base : Nat} {TS : TypeId} {V : Value} {us : List Value} {pss : List (List Elt)} (h : TabK T w base TS V us pss) (hb : Below w.heap.size w w') : TabK T w' base TS V us pss :=
  ⟨h.row.below hb, h.len, fun i u ps hi hp => (h.own i u ps hi hp).below hb, h.apart⟩
theorem TabO.kept {k : IntKind} {B : Nat} {T : TypeId} {w w' : World} {base : Nat} {TS : TypeId} {V : Value} {us : List Value} {pss : List (List Elt)} {row : Option Nat} (h : TabO k B T w base TS V us pss) (hg : w.grownBy w' row) (hV : ∀ g, V.ownBlock = some g → row ≠ some g) (hu : ∀ u ∈ us, ∀ g, u.ownBlock = some g → row ≠ some g)
    (hf : ∀ ps ∈ pss, ∀ p ∈ ps, (∀ ad n c, p.2.1 = .slice (some ad) n c → 0 < n → some ad.block ≠ row) ∧ (∀ ad n c, p.2.2 = .slice (some ad) n c → 0 < n → some ad.block ≠ row)) : TabO k B T w' base TS V us pss := by
  have hk := h.k.kept hg hV hu
  refine ⟨hk.row, hk.len, hk.own, fun u hu' ps hp p hpp => ?_, fun ps hp p hpp => ?_, hk.apart⟩
  · obtain ⟨e1, f1⟩ := h.far u hu' ps hp p hpp
    exact ⟨⟨e1.1.farKept (hf ps hp p hpp).1 hg, e1.2.farKept (hf ps hp p hpp).2 hg⟩, f1⟩
  · obtain ⟨e1, f1⟩ := h.farV ps hp p hpp
    exact ⟨⟨e1.1.farKept (hf ps hp p hpp).1 hg, e1.2.farKept (hf ps hp p hpp).2 hg⟩, f1⟩
/-- A row of the call's own is put behind the others. -/
theorem TabO.snoc {k : IntKind} {B : Nat} {T : TypeId} {w w' : World} {base : Nat} {TS : TypeId} {V V' u : Value} {us : List Value} {pss : List (List Elt)} {ps : List Elt} (hT : T ≠ TS) (h : TabO k B T w base TS V us pss) (hrow : RowV w' base TS V' (us ++ [u])) (hg : Grew w w' V V') (hu : RowF T w base u ps)
    (hap : ∀ v ∈ us, ∀ g, v.ownBlock = some g → u.ownBlock ≠ some g) (hf1 : FarF k B w u ps) (hf2 : ∀ v ∈ us, ∀ p ∈ ps, Far v p.2.1 ∧ Far v p.2.2) (hf3 : ∀ p ∈ ps, Far V p.2.1 ∧ Far V p.2.2) (hf4 : ∀ qs ∈ pss, ∀ p ∈ qs, Far u p.2.1 ∧ Far u p.2.2) : TabO k B T w' base TS V' (us ++ [u]) (pss ++ [ps]) := by
  obtain ⟨k1, k2, k3⟩ := hg
  have hlen := h.len
  have own' : ∀ {v : Value} {qs : List Elt}, RowF T w base v qs → RowF T w' base v qs := fun r => r.other k2 fun g e e2 => r.notRow h.row hT g e e2
  have at_ : ∀ {i : Nat} {v : Value}, (us ++ [u])[i]? = some v → (us[i]? = some v ∧ i < us.length) ∨ (i = us.length ∧ v = u) := by
    intro i v hi
    by_cases hl : i < us.length
    · rw [List.getElem?_append_left hl] at hi
      exact .inl ⟨hi, hl⟩
    · rw [List.getElem?_append_right (by omega)] at hi
      rcases hj : i - us.length with _ | j
      · rw [hj] at hi
        refine .inr ⟨by omega, ?_⟩
        simpa using hi.symm
      · rw [hj] at hi; simp at hi
  have all : ∀ qs ∈ pss ++ [ps], ∀ p ∈ qs, (IsE k B w' p ∧ Far V' p.2.1 ∧ Far V' p.2.2) ∧ (∀ v ∈ us, Far v p.2.1 ∧ Far v p.2.2) ∧ Far u p.2.1 ∧ Far u p.2.2 := by
    intro qs hqs p hp
    have main : IsE k B w p → Far V p.2.1 → Far V p.2.2 → IsE k B w' p ∧ Far V' p.2.1 ∧ Far V' p.2.2 := fun a b c => by
      have x1 := k1 _ _ _ a.1 b
      have x2 := k1 _ _ _ a.2 c
      exact ⟨⟨x1.1, x2.1⟩, x1.2, x2.2⟩
    rcases List.mem_append.1 hqs with hqs | hqs
    · obtain ⟨e1, f1, f2⟩ := h.farV qs hqs p hp
      exact ⟨main e1 f1 f2, fun v hv => (h.far v hv qs hqs p hp).2, hf4 qs hqs p hp⟩
    · rw [List.mem_singleton.1 hqs] at hp
      obtain ⟨e1, f1, f2⟩ := hf1 p hp
      exact ⟨main e1 (hf3 p hp).1 (hf3 p hp).2, fun v hv => hf2 v hv p hp, f1, f2⟩
  refine ⟨hrow, by rw [List.length_append, List.length_append, hlen]; rfl, fun i v qs hv hq => ?_, fun v hv qs hqs p hp => ?_, fun qs hqs p hp => (all qs hqs p hp).1, fun i j a b hij ha hb g hga hgb => ?_⟩
  · rcases at_ hv with ⟨hv, hl⟩ | ⟨rfl, rfl⟩
    · rw [List.getElem?_append_left (by omega)] at hq
      exact own' (h.own i v qs hv hq)
    · rw [List.getElem?_append_right (by omega), hlen, Nat.sub_self] at hq
      obtain rfl : ps = qs := by simpa using hq
      exact own' hu
  · refine ⟨(all qs hqs p hp).1.1, ?_⟩
    rcases List.mem_append.1 hv with hv | hv
    · exact (all qs hqs p hp).2.1 v hv
    · rw [List.mem_singleton.1 hv]; exact (all qs hqs p hp).2.2
  · rcases at_ ha with ⟨ha1, hl⟩ | ⟨hi, rfl⟩
    · rcases at_ hb with ⟨hb1, hl2⟩ | ⟨hj, rfl⟩
      · exact h.apart i j a b hij ha1 hb1 g hga hgb
      · exact hap a (List.mem_of_getElem? ha1) g hga hgb
    · rcases at_ hb with ⟨hb1, hl2⟩ | ⟨hj, rfl⟩
      · exact hap b (List.mem_of_getElem? hb1) g hgb hga
      · exact hij (by omega)
set_option linter.unusedSimpArgs false
theorem ArgT.shape {w : World} {v : Value} (h : ArgT w v) : ∃ A n c, v = .slice A n c ∧ n ≤ c ∧ c ≤ maxLen := by
  obtain ⟨A, n, c, e, h1, h2, _⟩ := h
  exact ⟨A, n, c, e, h1, h2⟩
theorem RowV.notV {w : World} {base base' : Nat} {TS TS' : TypeId} {V U : Value} {us vs : List Value} (h : RowV w base TS V us) (h' : RowV w base' TS' U vs) (hne : TS ≠ TS') : ∀ g, V.ownBlock = some g → U.ownBlock ≠ some g := by
  intro g e e2
  rcases h.2 with ⟨rfl, _⟩ | ⟨g', cap, cur, rfl, _, hg, _⟩
  · cases e
  · rcases h'.2 with ⟨rfl, _⟩ | ⟨g2, cap2, cur2, rfl, _, hg2, _⟩
    · cases e2
    · have e1 : g' = g := by simpa [Value.ownBlock] using e
      have e3 : g2 = g := by simpa [Value.ownBlock] using e2
      subst e1; subst e3
      rw [hg] at hg2
      injection hg2 with hg2
      injection hg2 with _ hg2
      exact hne hg2
theorem RowV.slice {w : World} {base : Nat} {TS : TypeId} {V : Value} {us : List Value} (h : RowV w base TS V us) : ∃ A c, V = .slice A us.length c := by
  rcases h.2 with ⟨e, h0⟩ | ⟨g, cap, cur, e, _⟩
  · exact ⟨none, 0, by rw [e, h0]⟩
  · exact ⟨_, _, e⟩
/-- Two tables that grow side by side: each one's limbs lie elsewhere than both tables and all rows. -/
structure TwoTabO (w wr : World) (V U : Value) (us vs : List Value) (pss qss : List (List Elt)) : Prop where
  p : TabO .u64 4294967296 44 wr w.heap.size 64 V us pss
  q : TabO .i64 10000 55 wr w.heap.size 87 U vs qss
  c1 : ∀ ps ∈ pss, ∀ p ∈ ps, (∀ v ∈ vs, Far v p.2.1 ∧ Far v p.2.2) ∧ Far U p.2.1 ∧ Far U p.2.2
  c2 : ∀ qs ∈ qss, ∀ p ∈ qs, (∀ v ∈ us, Far v p.2.1 ∧ Far v p.2.2) ∧ Far V p.2.1 ∧ Far V p.2.2
  below : Below w.heap.size w wr
theorem TwoTabO.step {w wr w2 w3 w4 : World} {V U a b V3 U4 : Value} {us vs : List Value} {pss qss : List (List Elt)} {ps rs : List Elt} (h : TwoTabO w wr V U us vs pss qss) (hT : TwoRows wr w2 a b ps rs) (n1 : NewL wr.heap.size ps) (n2 : NewL wr.heap.size rs) (r3 : RowV w3 w.heap.size 64 V3 (us ++ [a])) (g3 : Grew w2 w3 V V3) (b3 : Below w.heap.size w2 w3) (r4 : RowV w4 w.heap.size 87 U4 (vs ++ [b])) (g4 : Grew w3 w4 U U4) (b4 : Below w.heap.size w3 w4) :
    TwoTabO w w4 V3 U4 (us ++ [a]) (vs ++ [b]) (pss ++ [ps]) (qss ++ [rs]) := by
  obtain ⟨t1, t2, ⟨t3, t4⟩, ⟨t5, t6⟩, t7, b2⟩ := hT
  have hw : w.heap.size ≤ wr.heap.size := h.below.size
  have pu : ∀ v ∈ us, ∀ g, v.ownBlock = some g → g < wr.heap.size := fun v hv g e => by
    obtain ⟨qs, hq⟩ := h.p.k.mem hv
    exact hq.under g e
  have qu : ∀ v ∈ vs, ∀ g, v.ownBlock = some g → g < wr.heap.size := fun v hv g e => by
    obtain ⟨qs, hq⟩ := h.q.k.mem hv
    exact hq.under g e
  have pV := h.p.row.under
  have qU := h.q.row.under
  have a0 := t1.base_le
  have b0 := t2.base_le
  have p2 := h.p.below b2
  have q2 := h.q.below b2
  have oldp : ∀ qs ∈ pss, ∀ p ∈ qs, IsE .u64 4294967296 wr p := fun qs hq p hp => (h.p.farV qs hq p hp).1
  have oldq : ∀ qs ∈ qss, ∀ p ∈ qs, IsE .i64 10000 wr p := fun qs hq p hp => (h.q.farV qs hq p hp).1
  have P3 := p2.snoc (by decide) r3 g3 (t1.weak hw) (fun v hv g e e2 => by have := pu v hv g e; have := a0 g e2; omega) t3 (fun v hv => n1.far (pu v hv)) (n1.far pV) (fun qs hq p hp => ⟨(oldp qs hq p hp).1.farOld a0, (oldp qs hq p hp).2.farOld a0⟩)
  have Q3 := q2.kept g3.2.1 (fun g e e2 => RowV.notV p2.row q2.row (by decide) g e2 e) (fun v hv g e e2 => by
    obtain ⟨qs, hq⟩ := q2.k.mem hv
    exact hq.notRow p2.row (by decide) g e e2) (fun qs hq p hp => ⟨(h.c2 qs hq p hp).2.1, (h.c2 qs hq p hp).2.2⟩)
  have hb3 : RowF 55 w3 wr.heap.size b rs := t2.other g3.2.1 fun g e e2 => t2.notRow p2.row (by decide) g e e2
  have n2V := n2.far pV
  have e3 : ∀ p ∈ rs, IsE .i64 10000 w3 p ∧ Far V3 p.2.1 ∧ Far V3 p.2.2 := fun p hp => by
    have x1 := g3.1 _ _ _ (t6 p hp).1.1 (n2V p hp).1
    have x2 := g3.1 _ _ _ (t6 p hp).1.2 (n2V p hp).2
    exact ⟨⟨x1.1, x2.1⟩, x1.2, x2.2⟩
  have Q4 := Q3.snoc (by decide) r4 g4 (hb3.weak hw) (fun v hv g e e2 => by have := qu v hv g e; have := b0 g e2; omega) (fun p hp => ⟨(e3 p hp).1, (t6 p hp).2⟩) (fun v hv => n2.far (qu v hv)) (n2.far qU) (fun qs hq p hp => ⟨(oldq qs hq p hp).1.farOld b0, (oldq qs hq p hp).2.farOld b0⟩)
  have n1U := n1.far qU
  have c1U : ∀ qs ∈ pss ++ [ps], ∀ p ∈ qs, Far U p.2.1 ∧ Far U p.2.2 := fun qs hq p hp => by
    rcases List.mem_append.1 hq with hq | hq
    · exact (h.c1 qs hq p hp).2
    · rw [List.mem_singleton.1 hq] at hp; exact n1U p hp
  have P4 := P3.kept g4.2.1 (fun g e e2 => RowV.notV P3.row Q3.row (by decide) g e e2) (fun v hv g e e2 => by
    obtain ⟨qs, hq⟩ := P3.k.mem hv
    exact hq.notRow Q3.row (by decide) g e e2) c1U
  refine ⟨P4, Q4, fun qs hq p hp => ?_, fun qs hq p hp => ?_, h.below.trans ((b2.mono hw).trans (b3.trans b4))⟩
  · have eU : Far U4 p.2.1 ∧ Far U4 p.2.2 := by
      have e1 := (P3.farV qs hq p hp).1
      exact ⟨(g4.1 _ _ _ e1.1 (c1U qs hq p hp).1).2, (g4.1 _ _ _ e1.2 (c1U qs hq p hp).2).2⟩
    refine ⟨fun v hv => ?_, eU⟩
    rcases List.mem_append.1 hq with hq | hq
    · rcases List.mem_append.1 hv with hv | hv
      · exact (h.c1 qs hq p hp).1 v hv
      · rw [List.mem_singleton.1 hv]; exact ⟨(oldp qs hq p hp).1.farOld b0, (oldp qs hq p hp).2.farOld b0⟩
    · rw [List.mem_singleton.1 hq] at hp
      rcases List.mem_append.1 hv with hv | hv
      · exact n1.far (qu v hv) p hp
      · rw [List.mem_singleton.1 hv]; exact (t4 p hp).2
  · rcases List.mem_append.1 hq with hq | hq
    · have eV : Far V3 p.2.1 ∧ Far V3 p.2.2 := by
        have e1 := (q2.farV qs hq p hp).1
        have f := (h.c2 qs hq p hp).2
        exact ⟨(g3.1 _ _ _ e1.1 f.1).2, (g3.1 _ _ _ e1.2 f.2).2⟩
      refine ⟨fun v hv => ?_, eV⟩
      rcases List.mem_append.1 hv with hv | hv
      · exact (h.c2 qs hq p hp).1 v hv
      · rw [List.mem_singleton.1 hv]; exact ⟨(oldq qs hq p hp).1.farOld a0, (oldq qs hq p hp).2.farOld a0⟩
    · rw [List.mem_singleton.1 hq] at hp
      refine ⟨fun v hv => ?_, (e3 p hp).2⟩
      rcases List.mem_append.1 hv with hv | hv
      · exact n2.far (pu v hv) p hp
      · rw [List.mem_singleton.1 hv]; exact (t5 p hp).2
theorem RowF.lower {T : TypeId} {w : World} {base base' : Nat} {v : Value} {ps : List Elt} (h : RowF T w base v ps) (hb : base' ≤ base) : RowF T w base' v ps := by
  refine ⟨h.1, ?_⟩
  rcases h.2 with hn | ⟨g, cap, cur, hv, hg, rest⟩
  · exact .inl hn
  · exact .inr ⟨g, cap, cur, hv, Nat.le_trans hb hg, rest⟩
theorem info_vecq13 : ∃ i, Tryz.prog.info? 87 = some i ∧ i.zero = some (.slice none 0 0) ∧ i.size = 1 ∧ i.bytes = 24 := info_parts (P := Tryz.prog) (e := 87) (z := .slice none 0 0) (size := 1) (bytes := 24) (by kernel_rfl)
/-- The document's table: its struct in block gq. -/
structure Qst (w : World) (base gq R C : Nat) (V : Value) (us : List Value) (pss : List (List Elt)) (T : List (List Rat)) : Prop where
  blk : Blk w gq 126 #[.int .i64 (R : Int), .int .i64 (C : Int), V]
  tab : TabO .i64 10000 55 w base 87 V us pss
  val : valq pss = T
  shp : shp T R C
  hb : base ≤ gq
theorem Qst.below {w w' : World} {base gq R C : Nat} {V : Value} {us : List Value} {pss : List (List Elt)} {T : List (List Rat)} (h : Qst w base gq R C V us pss T) (hb : Below w.heap.size w w') : Qst w' base gq R C V us pss T := ⟨h.blk.below hb, h.tab.below hb, h.val, h.shp, h.hb⟩
theorem Qst.cells {w : World} {base gq R C : Nat} {V : Value} {us : List Value} {pss : List (List Elt)} {T : List (List Rat)} (h : Qst w base gq R C V us pss T) : w.cell? ⟨gq, 0, none⟩ = some (.int .i64 (R : Int)) ∧ w.cell? ⟨gq, 1, none⟩ = some (.int .i64 (C : Int)) ∧ w.cell? ⟨gq, 2, none⟩ = some V := ⟨h.blk.cell 0, h.blk.cell 1, h.blk.cell 2⟩
/-- Under a write into a map, nothing of it turns. -/
theorem NotC.far {w w' : World} {r : Nat} (h : NotC w r) (hg : w.grownBy w' (some r)) {k : IntKind} {B : Nat} {v : Value} {ps : List Elt} (hf : FarF k B w v ps) : FarF k B w' v ps := fun p hp => ⟨⟨h.off hg (hf p hp).1.1, h.off hg (hf p hp).1.2⟩, (hf p hp).2⟩
theorem NotC.rowF {w w' : World} {r base : Nat} {T : TypeId} (h : NotC w r) (hg : w.grownBy w' (some r)) {v : Value} {ps : List Elt} (hr : RowF T w base v ps) : RowF T w' base v ps := hr.other hg fun g e e2 => by
  injection e2 with e2
  subst e2
  rcases hr.2 with ⟨rfl, _⟩ | ⟨g', cap, cur, rfl, _, hh, _⟩
  · cases e
  · have : g' = r := by simpa [Value.ownBlock] using e
    rw [this] at hh
    exact h _ _ _ hh
theorem NotC.rowV {w w' : World} {r base : Nat} {T : TypeId} (h : NotC w r) (hg : w.grownBy w' (some r)) {v : Value} {us : List Value} (hr : RowV w base T v us) : RowV w' base T v us := RowV.kept hr hg fun g e e2 => by
  injection e2 with e2
  subst e2
  rcases hr.2 with ⟨rfl, _⟩ | ⟨g', cap, cur, rfl, _, hh, _⟩
  · cases e
  · have : g' = r := by simpa [Value.ownBlock] using e
    rw [this] at hh
    exact h _ _ _ hh
theorem NotC.tabO {w w' : World} {r base : Nat} {k : IntKind} {B : Nat} {T TS : TypeId} (h : NotC w r) (hg : w.grownBy w' (some r)) {V : Value} {us : List Value} {pss : List (List Elt)} (ht : TabO k B T w base TS V us pss) : TabO k B T w' base TS V us pss :=
  ⟨h.rowV hg ht.row, ht.len, fun i u ps hu hp => h.rowF hg (ht.own i u ps hu hp), fun u hu ps hp => h.far hg (ht.far u hu ps hp), fun ps hp => h.far hg (ht.farV ps hp), ht.apart⟩
theorem NotC.qst {w w' : World} {r base gq R C : Nat} (h : NotC w r) (hg : w.grownBy w' (some r)) {V : Value} {us : List Value} {pss : List (List Elt)} {T : List (List Rat)} (ht : Qst w base gq R C V us pss T) : Qst w' base gq R C V us pss T := ⟨h.blk hg ht.blk, h.tabO hg ht.tab, ht.val, ht.shp, ht.hb⟩
theorem IsM.notC {w : World} {b : Nat} (h : IsM w b) : NotC w b := by
  obtain ⟨es, ck, h1⟩ := h
  intro cs e f hh
  rw [h1] at hh
  cases hh
set_option maxHeartbeats 1600000 in
set_option maxRecDepth 100000 in
theorem ris_any (base gq R C : Nat) (V : Value) (us : List Value) (pss : List (List Elt)) (T : List (List Rat)) (x y : Int) (b : Bool) (w : World) (h : Qst w base gq R C V us pss T) (hb : b = decide (0 ≤ x ∧ x < (R : Int) ∧ 0 ≤ y ∧ y < (C : Int))) : Calls Tryz.prog 92 #[.pointer (some ⟨gq, 0, none⟩), .int .i64 x, .int .i64 y] w (RetV (.bool b) w) := by
  obtain ⟨c0, c1, -⟩ := h.cells
  have HB := Lib.hid hb
  clear hb
  by_cases h1 : 0 ≤ x
  · by_cases h2 : x < (R : Int)
    · by_cases h3 : 0 ≤ y
      · by_cases h4 : y < (C : Int)
        · have HW : Hid (b = true) := by show _ = _; rw [HB.out]; exact decide_eq_true ⟨h1, h2, h3, h4⟩
          go_enter Tryz.func92, Tryz.ntmps92
          go_wp2
          go_ret
          exact ⟨by rw [HW.out]; simp [h1, h2, h3, h4], Below.refl _ _⟩
        · have HW : Hid (b = false) := by show _ = _; rw [HB.out]; exact decide_eq_false (fun h => h4 h.2.2.2)
          go_enter Tryz.func92, Tryz.ntmps92
          go_wp2
          go_ret
          exact ⟨by rw [HW.out]; simp [h1, h2, h3, h4], Below.refl _ _⟩
      · have HW : Hid (b = false) := by show _ = _; rw [HB.out]; exact decide_eq_false (fun h => h3 h.2.2.1)
        go_enter Tryz.func92, Tryz.ntmps92
        go_wp2
        go_ret
        exact ⟨by rw [HW.out]; simp [h1, h2, h3], Below.refl _ _⟩
    · have HW : Hid (b = false) := by show _ = _; rw [HB.out]; exact decide_eq_false (fun h => h2 h.2.1)
      go_enter Tryz.func92, Tryz.ntmps92
      go_wp2
      go_ret
      exact ⟨by rw [HW.out]; simp [h1, h2], Below.refl _ _⟩
  · have HW : Hid (b = false) := by show _ = _; rw [HB.out]; exact decide_eq_false (fun h => h1 h.1)
    go_enter Tryz.func92, Tryz.ntmps92
    go_wp2
    go_ret
    exact ⟨by rw [HW.out]; simp [h1], Below.refl _ _⟩
set_option maxHeartbeats 1600000 in
set_option maxRecDepth 100000 in
theorem rnew_no (x y : Int) (w : World) (h : ¬ (0 ≤ x ∧ 0 ≤ y ∧ x ≤ 200 ∧ y ≤ 200)) : Calls Tryz.prog 38 #[.int .i64 x, .int .i64 y] w (RetV (.tuple #[.pointer none, .int .i64 2]) w) := by
  have HN := Lib.hid h
  clear h
  by_cases h1 : x < 0
  · go_enter Tryz.func38, Tryz.ntmps38
    go_wp2
    go_ret2
    exact ⟨rfl, Below.refl _ _⟩
  · by_cases h2 : y < 0
    · go_enter Tryz.func38, Tryz.ntmps38
      go_wp2
      go_ret2
      exact ⟨rfl, Below.refl _ _⟩
    · by_cases h3 : 200 < x
      · go_enter Tryz.func38, Tryz.ntmps38
        go_wp2
        go_ret2
        exact ⟨rfl, Below.refl _ _⟩
      · have h4 : 200 < y := by
          have := HN.out
          omega
        go_enter Tryz.func38, Tryz.ntmps38
        go_wp2
        go_ret2
        exact ⟨rfl, Below.refl _ _⟩
/-- A new table, and no error. -/
def RetQst (R C : Nat) (T : List (List Rat)) (w : World) (e : Ending) (w' : World) : Prop := ∃ gq V us pss, e = .returned (.tuple #[.pointer (some ⟨gq, 0, none⟩), .int .i64 0]) ∧ Qst w' w.heap.size gq R C V us pss T ∧ Below w.heap.size w w'
theorem RowV.notBlk {w : World} {base g : Nat} {T t : TypeId} {V : Value} {us : List Value} {cs : Array Value} (h : RowV w base T V us) (hb : Blk w g t cs) (hne : T ≠ t) : V.ownBlock ≠ some g := fun e => by
  rcases h.2 with ⟨rfl, _⟩ | ⟨g', cap, cur, rfl, _, hh, _⟩
  · cases e
  · have e1 : g' = g := by simpa [Value.ownBlock] using e
    unfold Blk at hb
    rw [e1, hb] at hh
    injection hh with hh
    injection hh with _ hh
    exact hne hh.symm
theorem RowF.notBlk {w : World} {base g : Nat} {T t : TypeId} {v : Value} {ps : List Elt} {cs : Array Value} (h : RowF T w base v ps) (hb : Blk w g t cs) (hne : T ≠ t) : v.ownBlock ≠ some g := fun e => by
  rcases h.2 with ⟨rfl, _⟩ | ⟨g', cap, cur, rfl, _, hh, _⟩
  · cases e
  · have e1 : g' = g := by simpa [Value.ownBlock] using e
    unfold Blk at hb
    rw [e1, hb] at hh
    injection hh with hh
    injection hh with _ hh
    exact hne hh.symm
set_option maxHeartbeats 6400000 in
set_option maxRecDepth 100000 in
theorem rnew_ok (R C : Nat) (w : World) (hR : R ≤ 200) (hC : C ≤ 200) : Calls Tryz.prog 38 #[.int .i64 (R : Int), .int .i64 (C : Int)] w (RetQst R C (zerosT R C) w) := by
  obtain ⟨Z, hZ⟩ : ∃ Z : Rat, Z = 0 := ⟨_, rfl⟩
  have CN : ∀ w, Calls Tryz.prog 59 #[.int .i64 0, .int .i64 1] w (RetPF Z w) := fun w => by
    rw [hZ]
    exact (qnum_any 0 1 _ 1 rfl (by omega) (by omega) (by omega) (by omega)).mono fun e w3 h => ((show mkRat 0 1 = (0 : Rat) by decide +kernel) ▸ h)
  have HZ := Lib.hid hZ
  clear hZ
  have k1 : ¬ (R : Int) < 0 := by omega
  have k2 : ¬ (C : Int) < 0 := by omega
  have k3 : ¬ (200 : Int) < (R : Int) := by omega
  have k4 : ¬ (200 : Int) < (C : Int) := by omega
  have ba := below_alloc (w := w) (Nat.le_refl _) (.cells #[.int .i64 (R : Int), .int .i64 (C : Int), .slice none 0 0] 126)
  have B0 := Blk.new w 126 #[.int .i64 (R : Int), .int .i64 (C : Int), .slice none 0 0]
  go_enter Tryz.func38, Tryz.ntmps38
  go_wp2
  go_loopw [7] (fun v7 wr => ∃ (i : Nat) (A : Option Addr) (n c : Nat) (us : List Value) (pss : List (List Elt)), i ≤ R ∧ Hid (n = i) ∧ Blk wr w.heap.size 126 #[.int .i64 (R : Int), .int .i64 (C : Int), .slice A n c] ∧ TabO .i64 10000 55 wr w.heap.size 87 (.slice A n c) us pss ∧ Hid (∀ ps ∈ pss, ∀ p ∈ ps, Far (.slice (some ⟨w.heap.size, 0, none⟩) 3 3) p.2.1 ∧ Far (.slice (some ⟨w.heap.size, 0, none⟩) 3 3) p.2.2) ∧ Hid (valq pss = zerosT i C) ∧ Below w.heap.size w wr ∧ v7 = .int .i64 (i : Int)) (fun v7 _ => R - (intOf v7).toNat)
  case atStart => exact ⟨0, none, 0, 0, [], [], by omega, rfl, B0, ⟨World.ownsRow_nil _ _ _ 1, rfl, fun i u ps hu => by simp at hu, fun u hu => by simp at hu, fun ps hp => by simp at hp, fun i j u v _ hu => by simp at hu⟩, (by show ∀ ps ∈ _, _; intro ps hp; simp at hp), rfl, ba, rfl⟩
  case round =>
    clear ba B0
    obtain ⟨i, A, n, c, us, pss, hi, HN, B0, TO, HF, HV, bb, rfl⟩ := hrel
    by_cases hlt : i < R
    · obtain ⟨wo, hwo⟩ : ∃ wo, wo = wr := ⟨_, rfl⟩
      subst hwo
      have hrow0 := rowF_lit0 55 wo wo.heap.size (Nat.le_refl _)
      have ba := below_alloc (w := wo) (Nat.le_refl _) (.cells #[] 55)
      go_wp2
      go_loopw [8, 9] (fun v8 v9 wy => ∃ (j : Nat) (ps : List Elt), j ≤ C ∧ RowF 55 wy wo.heap.size v8 ps ∧ Hid (ps.map (·.1) = List.replicate j 0) ∧ FarF .i64 10000 wy v8 ps ∧ NewL wo.heap.size ps ∧ Below wo.heap.size wo wy ∧ v9 = .int .i64 (j : Int)) (fun _ v9 _ => C - (intOf v9).toNat)
      case atStart => exact ⟨0, [], by omega, hrow0, rfl, FarF.nil _ _ _ _, NewL.nil _, ba, rfl⟩
      case round =>
        clear ba hrow0
        obtain ⟨j, ps, hj, hr, HP, hf, hn, bw, rfl⟩ := hrel
        obtain ⟨A8, c8, rfl, -, -, -⟩ := hr.isVF
        have hpl : ps.length = j := by
          have h1 := congrArg List.length HP.out
          rwa [List.length_map, List.length_replicate] at h1
        by_cases hjl : j < C
        · have HL8 : Hid (ps.length ≤ 1000000000) := by show _ ≤ _; omega
          clear hpl
          go_wp2_with fail
          refine (CN _).mono ?_
          rintro e w3 ⟨v3, rfl, k3, f3, b3⟩
          obtain ⟨u3, t3, rfl, s3, d3⟩ := k3
          obtain ⟨A3, c3, rfl, _⟩ := id s3
          obtain ⟨D3, e3, rfl, _⟩ := id d3
          obtain ⟨fU, fT⟩ := f3 _ _ _ rfl
          have hr3 := hr.below b3
          have hsz3 : wo.heap.size ≤ w3.heap.size := Nat.le_trans bw.size b3.size
          have bw3 := bw.trans (b3.mono bw.size)
          have fr1 : Far (.slice A8 ps.length c8) (.slice A3 (digs 10000 Z.num.natAbs).length c3) := fU.far hr.under
          have fr2 : Far (.slice A8 ps.length c8) (.slice D3 (digs 10000 Z.den).length e3) := fT.far hr.under
          have hf3 := hf.below b3
          have EC : IsE .i64 10000 w3 ((Z, .slice A3 (digs 10000 Z.num.natAbs).length c3, .slice D3 (digs 10000 Z.den).length e3) : Elt) := ⟨s3, d3⟩
          have NN := hn.snoc (p := (Z, .slice A3 (digs 10000 Z.num.natAbs).length c3, .slice D3 (digs 10000 Z.den).length e3)) (fU.mono bw.size) (fT.mono bw.size)
          have HP2 : Hid ((ps ++ [((Z, .slice A3 (digs 10000 Z.num.natAbs).length c3, .slice D3 (digs 10000 Z.den).length e3) : Elt)]).map (·.1) = List.replicate (j + 1) 0) := by
            show _ = _
            rw [List.map_append, HP.out, List.replicate_succ']
            show _ ++ [Z] = _
            rw [HZ.out]
          have hsk : C - (j + 1) < C - j := by omega
          clear hr hf hn bw s3 d3 b3 HP
          go_wp2_with (at_builtin; refine wpList_append_q rfl (.tmp 39) (.tmp 41) rfl Tryz.underlying87 info_q (p := (Z, .slice A3 (digs 10000 Z.num.natAbs).length c3, .slice D3 (digs 10000 Z.den).length e3)) rfl hr3 rfl rfl rfl HL8.out hsz3 ?_; intro v4 w4 row4 bb4 HK4)
          have F4 := hf3.snoc (p := (Z, .slice A3 (digs 10000 Z.num.natAbs).length c3, .slice D3 (digs 10000 Z.den).length e3)) HK4.out.1 EC fr1 fr2
          have bw4 := bw3.trans bb4
          clear HK4 hf3 EC fr1 fr2 hr3 bw3 bb4
          go_wp2
          go_roundw
          case rel => exact ⟨j + 1, _, by omega, row4, HP2, F4, NN, bw4, by go_num⟩
          case measure => simp [intOf]; omega
        · obtain rfl : j = C := by omega
          have HPL := Lib.hid hpl
          clear hpl
          have TOy := TO.below bw
          have B0y := B0.below bw
          have bby := bb.trans (bw.mono bb.size)
          have hus : us.length = i := by
            have h1 := congrArg List.length HV.out
            rw [valq_len, ← TO.len] at h1
            simpa [zerosT] using h1
          have HLU : Hid (us.length ≤ 1000000000) := by show _ ≤ _; omega
          have hgl : w.heap.size < wo.heap.size := B0.lt
          have hVu : ∀ g, (Value.slice A n c).ownBlock = some g → g < wo.heap.size := TO.row.under
          have hup : ∀ v ∈ us, ∀ g, v.ownBlock = some g → g < wo.heap.size := fun v hv g e => by
            obtain ⟨qs, hq⟩ := TO.k.mem hv
            exact hq.under g e
          have hub := hr.base_le
          have hap : ∀ v ∈ us, ∀ g, v.ownBlock = some g → (Value.slice A8 ps.length c8).ownBlock ≠ some g := fun v hv g e e2 => by
            have h1 := hup v hv g e
            have h2 := hub g e2
            omega
          have hf4 : ∀ qs ∈ pss, ∀ p ∈ qs, Far (.slice A8 ps.length c8) p.2.1 ∧ Far (.slice A8 ps.length c8) p.2.2 := fun qs hq p hp => ⟨((TO.farV qs hq p hp).1.1).farOld hub, ((TO.farV qs hq p hp).1.2).farOld hub⟩
          have hnG := hn.far (v := .slice (some ⟨w.heap.size, 0, none⟩) 3 3) (fun g e => by
            have : w.heap.size = g := by simpa [Value.ownBlock] using e
            omega)
          have hsz := bby.size
          obtain ⟨c0', c1', c2', -, -, f2'⟩ := three B0y
          clear c0' c1'
          go_wp2_with (at_builtin; refine wpList_append_w rfl (.tmp 47) (.tmp 49) rfl Tryz.underlying23 info_vecq13 rfl TOy.row rfl rfl HLU.out hsz ?_; intro V5 w5 row5 bb5 HK5; obtain ⟨A5, c5, eV5⟩ := RowV.slice row5; subst eV5; have B5 := Blk.other B0y HK5.out.2.1 (RowV.notBlk TOy.row B0y (by decide)); obtain ⟨c05, c15, c25, f05, f15, f25⟩ := three B5; clear c05 c15 f05 f15)
          have TO5 := TOy.snoc (by decide) row5 HK5.out (hr.lower bb.size) hap hf (fun v hv => hn.far (hup v hv)) (hn.far hVu) hf4
          have bb6 := bby.trans bb5
          have hg6 := grown_set w5 w.heap.size 2 (.slice A5 (us ++ [Value.slice A8 ps.length c8]).length c5)
          have TO6 := TO5.kept hg6 (fun g e e2 => RowV.notBlk row5 B5 (by decide) (by rw [e]; exact e2.symm)) (fun u hu g e e2 => by
            obtain ⟨qs, hq⟩ := TO5.k.mem hu
            exact hq.notBlk B5 (by decide) (by rw [e]; exact e2.symm)) (fun qs hq p hp => by
            have hG : Far (.slice (some ⟨w.heap.size, 0, none⟩) 3 3) p.2.1 ∧ Far (.slice (some ⟨w.heap.size, 0, none⟩) 3 3) p.2.2 := by
              rcases List.mem_append.1 hq with hq | hq
              · exact HF.out qs hq p hp
              · obtain rfl := List.mem_singleton.1 hq
                exact hnG p hp
            exact ⟨fun ad n c e hn' => hG.1 ad n c e hn', fun ad n c e hn' => hG.2 ad n c e hn'⟩)
          have B6 := blk_set1 B5 (i := 2) (.slice A5 (us ++ [Value.slice A8 ps.length c8]).length c5)
          have bb7 := bb6.setCell (p := ⟨w.heap.size, 2, none⟩) (Nat.le_refl _) (.slice A5 (us ++ [Value.slice A8 ps.length c8]).length c5)
          have HF6 : Hid (∀ qs ∈ pss ++ [ps], ∀ p ∈ qs, Far (.slice (some ⟨w.heap.size, 0, none⟩) 3 3) p.2.1 ∧ Far (.slice (some ⟨w.heap.size, 0, none⟩) 3 3) p.2.2) := by
            show ∀ qs ∈ _, _
            intro qs hq p hp
            rcases List.mem_append.1 hq with hq | hq
            · exact HF.out qs hq p hp
            · obtain rfl := List.mem_singleton.1 hq
              exact hnG p hp
          have HV6 : Hid (valq (pss ++ [ps]) = zerosT (i + 1) j) := by
            show _ = _
            unfold valq at *
            rw [List.map_append, HV.out]
            unfold zerosT
            rw [List.replicate_succ']
            simp [HP.out]
          have hlen6 : (us ++ [Value.slice A8 ps.length c8]).length = i + 1 := by rw [List.length_append, hus]; rfl
          rw [hlen6] at B6 TO6 bb7
          have HE := Lib.hid (And.intro B6 (And.intro TO6 bb7))
          have hsk : R - (i + 1) < R - i := by omega
          clear B6 TO6 bb7 hg6 TO5 B5 row5 HK5 bb6 bb5 TOy B0y bby hap hf4 hnG hup hVu hub hr hf hn c2' f2' TO B0 bw bb c25 f25
          try go_wp2
          refine ⟨⟨i + 1, _, _, _, _, _, by omega, rfl, HE.out.1, HE.out.2.1, HF6, HV6, HE.out.2.2, by go_num⟩, ?_⟩
          simp [intOf]; omega
    · obtain rfl : i = R := by omega
      have HS : Hid (shp (zerosT i C) i C) := shp_zeros i C
      have HE := Lib.hid (⟨B0, TO, HV.out, HS.out, Nat.le_refl _⟩ : Qst wr w.heap.size w.heap.size i C (.slice A n c) us pss (zerosT i C))
      clear B0 TO HV
      go_wp2
      go_ret2
      exact ⟨_, _, _, _, rfl, HE.out, bb⟩
end Go.Proofs.YtfnohdgnhdfpaaaGreat.rat
namespace Go.Proofs.YtfnohdgnhdfpaaaGreat.flow
open Go
set_option linter.unusedVariables false
set_option linter.unusedSimpArgs false
/-- Q, but at the end N. -/
def Behind (N : Act → World → Prop) (Q : Exit → Act → World → Prop) : Exit → Act → World → Prop
  | .normal, a, w => N a w
  | e, a, w => Q e a w
theorem wp_behind {P : Program} {Q : Exit → Act → World → Prop} {N K K' : Act → World → Prop} {o : Oper} {a : Act} {w : World} (h : ∀ a w, K a w → K' a w) (hh : o.wp P a w K (Behind N Q)) : o.wp P a w K' Q := by
  unfold Oper.wp at *
  generalize (execOp a.eval o).run P w = r at *
  cases r with
  | ok n w' =>
    cases n <;> simp only [Oper.upon] at hh ⊢ <;>
      first
        | exact h _ _ hh
        | exact Calls.mono hh (fun e w'' he => by cases e <;> first | exact h _ _ he | exact he)
        | exact Rows.mono hh (fun _ _ he => h _ _ he)
  | halt x w' => cases x <;> simp only [Oper.upon] at hh ⊢ <;> exact hh
theorem mem_ready {md : Region.Mode} {ops : Array Oper} {listed : Array Bool} {i : Nat} : i ∈ Region.ready md ops listed ↔ i < ops.size ∧ listed.getD i true = false ∧ ∃ o, ops[i]? = some o ∧ ∀ e ∈ o.after, Region.binds md e = true → listed.getD e.on false = true := by
  unfold Region.ready
  rw [List.mem_filter, List.mem_range]
  cases h : ops[i]? with
  | none => simp
  | some o =>
    simp only [Bool.and_eq_true, Bool.not_eq_true', Option.map_some, Option.getD_some, Array.all_eq_true_iff_forall_mem, Bool.or_eq_true]
    constructor
    · rintro ⟨h1, h2, h3⟩
      refine ⟨h1, h2, o, rfl, fun e he hb => ?_⟩
      rcases h3 e he with h4 | h4
      · rw [hb] at h4; cases h4
      · exact h4
    · rintro ⟨h1, h2, o', h3, h4⟩
      injection h3 with h3
      subst h3
      refine ⟨h1, h2, fun e he => ?_⟩
      cases hb : Region.binds md e with
      | false => exact .inl rfl
      | true => exact .inr (h4 e he hb)
theorem gd (l : List Bool) (i : Nat) (d : Bool) : l.toArray.getD i d = (l[i]?).getD d := by simp [Array.getD_eq_getD_getElem?]
theorem least_false : ∀ (l : List Bool), 0 < l.countP (!·) → ∃ j : Nat, l[j]? = some false ∧ ∀ i : Nat, i < j → l[i]? = some true
  | [], h => by simp at h
  | false :: l, _ => ⟨0, rfl, fun i hi => absurd hi (Nat.not_lt_zero _)⟩
  | true :: l, h => by
    obtain ⟨j, h1, h2⟩ := least_false l (by simpa using h)
    refine ⟨j + 1, by simpa using h1, fun i hi => ?_⟩
    cases i with
    | zero => rfl
    | succ i => simpa using h2 i (by omega)
theorem all_true : ∀ (l : List Bool), l.countP (!·) = 0 → l = List.replicate l.length true
  | [], _ => rfl
  | false :: l, h => by simp at h
  | true :: l, h => by
    have ih := all_true l (by simpa using h)
    rw [List.length_cons, List.replicate_succ, ← ih]
theorem count_set : ∀ (l : List Bool) (i k : Nat), l[i]? = some false → l.countP (!·) = k + 1 → (l.set i true).countP (!·) = k
  | [], i, k, h, _ => by simp at h
  | b :: l, 0, k, h, hc => by
    obtain rfl : b = false := by simpa using h
    simp at hc ⊢
    omega
  | b :: l, i + 1, k, h, hc => by
    have h' : l[i]? = some false := by simpa using h
    rw [List.set_cons_succ, List.countP_cons]
    rw [List.countP_cons] at hc
    cases b with
    | true => simp at hc ⊢; exact count_set l i k h' hc
    | false =>
      simp at hc ⊢
      have h0 : 0 < l.countP (!·) := List.countP_pos_iff.2 ⟨false, List.mem_of_getElem? h', rfl⟩
      obtain ⟨k', rfl⟩ : ∃ k', k = k' + 1 := ⟨k - 1, by omega⟩
      rw [count_set l i k' h' hc]
/-- Whatever is listed, what it waits for is listed. -/
def Closed (A : List Oper) (l : List Bool) : Prop := ∀ (i : Nat) (o : Oper), A[i]? = some o → l[i]? = some true → ∀ e ∈ o.after, Region.binds .any e = true → l[e.on]? = some true
/-- An operation, and what it waits for, so many steps down. -/
def anc (A : List Oper) : Nat → Nat → List Nat
  | 0, k => [k]
  | f + 1, k => k :: (match A[k]? with
    | some o => o.after.toList.flatMap fun e => if Region.binds .any e = true then anc A f e.on else []
    | none => [])
theorem anc_true {A : List Oper} {l : List Bool} (hc : Closed A l) : ∀ (f k : Nat), l[k]? = some true → ∀ x ∈ anc A f k, l[x]? = some true
  | 0, k, hk, x, hx => by
    obtain rfl := List.mem_singleton.1 hx
    exact hk
  | f + 1, k, hk, x, hx => by
    rcases List.mem_cons.1 hx with rfl | hx
    · exact hk
    · cases ho : A[k]? with
      | none => rw [ho] at hx; cases hx
      | some o =>
        rw [ho] at hx
        obtain ⟨e, he, hx⟩ := List.mem_flatMap.1 hx
        by_cases hb : Region.binds .any e = true
        · rw [if_pos hb] at hx
          exact anc_true hc f e.on (hc k o ho hk e (Array.mem_toList_iff.1 he) hb) x hx
        · rw [if_neg hb] at hx; cases hx
theorem split_main {P : Program} {Q : Exit → Act → World → Prop} {A B : List Oper} {l0 lB : List Bool} {m : Nat} (hlB : lB.length = B.length) (hG : ∀ o ∈ A, o.guard = none) (hback : ∀ (i : Nat) (o : Oper), A[i]? = some o → ∀ e ∈ o.after, Region.binds .any e = true → e.on < i) (hcov : ∀ (i : Nat) (o : Oper), B[i]? = some o → lB[i]? = some false → ∀ k : Nat, l0[k]? = some false → ∃ e ∈ o.after, Region.binds .any e = true ∧ e.on < A.length ∧ k ∈ anc A 20 e.on) :
    ∀ (k : Nat) (l : List Bool) (a : Act) (w : World), Closed A l → (∀ j : Nat, l[j]? = some false → l0[j]? = some false) → l.length = A.length → l.countP (!·) = k →
      wpAny P .any A.toArray (Behind (fun a w => wpAny P .any (A ++ B).toArray Q m (List.replicate A.length true ++ lB).toArray a w) Q) k l.toArray a w →
      wpAny P .any (A ++ B).toArray Q (k + m) (l ++ lB).toArray a w
  | 0, l, a, w, hcl, hmo, hl, hc, h => by
    have e := all_true l hc
    rw [hl] at e
    rw [Nat.zero_add, e]
    exact h.2
  | k + 1, l, a, w, hcl, hmo, hl, hc, h => by
    rw [Nat.add_right_comm]
    obtain ⟨j, hj, hlow⟩ := least_false l (by omega)
    have hjl := (List.getElem?_eq_some_iff.1 hj).1
    have hA : ∀ i, i < A.length → (A ++ B)[i]? = A[i]? := fun i hi => List.getElem?_append_left hi
    have hL : ∀ i, i < A.length → (l ++ lB)[i]? = l[i]? := fun i hi => List.getElem?_append_left (by omega)
    refine ⟨fun hr => ?_, fun i hi => ?_⟩
    · exfalso
      have hjA : j < A.length := by omega
      have hm : j ∈ Region.ready .any (A ++ B).toArray (l ++ lB).toArray := by
        refine mem_ready.2 ⟨by simp; omega, by rw [gd, hL j hjA, hj]; rfl, A[j], by rw [List.getElem?_toArray, hA j hjA]; exact List.getElem?_eq_getElem hjA, fun e he hb => ?_⟩
        have h1 := hback j _ (List.getElem?_eq_getElem hjA) e he hb
        rw [gd, hL e.on (by omega), hlow e.on h1]; rfl
      rw [hr] at hm
      cases hm
    · obtain ⟨h1, h2, o, h3, h4⟩ := mem_ready.1 hi
      rw [List.getElem?_toArray] at h3
      have hiA : i < A.length := by
        rcases Nat.lt_or_ge i A.length with h5 | h5
        · exact h5
        · exfalso
          rw [List.getElem?_append_right h5] at h3
          have h8 : lB[i - A.length]? = some false := by
            rw [gd, List.getElem?_append_right (by omega), hl] at h2
            cases hh : lB[i - A.length]? with
            | none => rw [hh] at h2; cases h2
            | some b => rw [hh] at h2; simp at h2; rw [h2]
          obtain ⟨e, he, hb, hon, hanc⟩ := hcov _ o h3 h8 j (hmo j hj)
          have h6 := h4 e he hb
          rw [gd, hL e.on hon] at h6
          have h9 : l[e.on]? = some true := by
            cases hh : l[e.on]? with
            | none => rw [hh] at h6; cases h6
            | some b => rw [hh] at h6; simp at h6; rw [h6]
          have h10 := anc_true hcl 20 e.on h9 j hanc
          rw [hj] at h10
          cases h10
      rw [hA i hiA] at h3
      have hli : l[i]? = some false := by
        rw [gd, hL i hiA] at h2
        cases hh : l[i]? with
        | none => rw [hh] at h2; cases h2
        | some b => rw [hh] at h2; simp at h2; rw [h2]
      have hiR : i ∈ Region.ready .any A.toArray l.toArray := by
        refine mem_ready.2 ⟨by simpa using hiA, by rw [gd, hli]; rfl, o, by rw [List.getElem?_toArray]; exact h3, fun e he hb => ?_⟩
        have h5 := h4 e he hb
        have h6 := hback i o h3 e he hb
        rw [gd, hL e.on (by omega)] at h5
        rw [gd]; exact h5
      have h7 := h.2 i hiR
      have hg := hG o (List.mem_of_getElem? h3)
      have hw : ∀ (ops : Array Oper), Region.wanted o (yielded ops a.tmps) = true := fun ops => by simp [Region.wanted, hg]
      have hA3 : A.toArray[i]? = some o := by rw [List.getElem?_toArray]; exact h3
      have hB3 : (A ++ B).toArray[i]? = some o := by rw [List.getElem?_toArray, hA i hiA]; exact h3
      unfold wpOp at h7 ⊢
      simp only [hA3, hB3, hw, if_true] at h7 ⊢
      refine h7.imp (wp_behind fun a' w' hk => ?_) id
      have hset : (l ++ lB).toArray.setIfInBounds i true = (l.set i true ++ lB).toArray := by
        rw [List.setIfInBounds_toArray, List.set_append_left _ _ (by omega)]
      rw [hset]
      have hcl' : Closed A (l.set i true) := fun x ox hx hlx e he hb => by
        rw [List.getElem?_set]
        by_cases e1 : i = e.on
        · rw [if_pos e1, if_pos (by omega)]
        · rw [if_neg e1]
          rw [List.getElem?_set] at hlx
          by_cases e2 : i = x
          · subst e2
            rw [h3] at hx
            injection hx with hx
            subst hx
            have h5 := h4 e he hb
            have h6 := hback i o h3 e he hb
            rw [gd, hL e.on (by omega)] at h5
            cases hh : l[e.on]? with
            | none => rw [hh] at h5; cases h5
            | some b => rw [hh] at h5; simp at h5; rw [h5]
          · rw [if_neg e2] at hlx
            exact hcl x ox hx hlx e he hb
      refine split_main hlB hG hback hcov k (l.set i true) a' w' hcl' (fun j' hj' => by
        rw [List.getElem?_set] at hj'
        by_cases e : i = j'
        · rw [if_pos e] at hj'
          split at hj' <;> cases hj'
        · rw [if_neg e] at hj'
          exact hmo j' hj') (by rw [List.length_set]; exact hl) (count_set l i k hli hc) ?_
      rw [← List.setIfInBounds_toArray]
      exact hk
/-- May the region be cut there? -/
def cutB (A B : List Oper) (l lB : List Bool) : Bool :=
  (A.all fun o => o.guard.isNone) && ((List.range A.length).all fun i => ((A[i]?).map fun o => o.after.all fun e => !Region.binds .any e || decide (e.on < i)).getD true) && ((List.range B.length).all fun i => lB[i]? == some true || ((B[i]?).map fun o => (List.range l.length).all fun k => l[k]? == some true || o.after.any fun e => Region.binds .any e && (decide (e.on < A.length) && (anc A 20 e.on).contains k)).getD true) && (decide (l.length = A.length) && decide (lB.length = B.length)) && ((List.range A.length).all fun i => !(l[i]? == some true) || ((A[i]?).map fun o => o.after.all fun e => !Region.binds .any e || l[e.on]? == some true).getD true)
theorem any_cut {P : Program} {Q : Exit → Act → World → Prop} {ops : Array Oper} (n : Nat) (l lB : List Bool) (m : Nat) {a : Act} {w : World} (hB : cutB (ops.toList.take n) (ops.toList.drop n) l lB = true)
    (h : wpAny P .any (ops.toList.take n).toArray (Behind (fun a w => wpAny P .any ops Q m (List.replicate (ops.toList.take n).length true ++ lB).toArray a w) Q) (l.countP (!·)) l.toArray a w) : wpAny P .any ops Q (l.countP (!·) + m) (l ++ lB).toArray a w := by
  have hop : (ops.toList.take n ++ ops.toList.drop n).toArray = ops := by rw [List.take_append_drop]
  generalize ops.toList.take n = A at *
  generalize ops.toList.drop n = B at *
  subst hop
  unfold cutB at hB
  simp only [Bool.and_eq_true, List.all_eq_true, Option.isNone_iff_eq_none, List.mem_range, decide_eq_true_eq] at hB
  obtain ⟨⟨⟨⟨h1, h2⟩, h3⟩, h4, h5⟩, h0⟩ := hB
  refine split_main (P := P) (Q := Q) (A := A) (B := B) (l0 := l) (m := m) h5 h1 (fun i o hi e he hb => by
    have h4 := h2 i (List.getElem?_eq_some_iff.1 hi).1
    rw [hi] at h4
    simp only [Option.map_some, Option.getD_some, Array.all_eq_true_iff_forall_mem, Bool.or_eq_true, Bool.not_eq_true', decide_eq_true_eq] at h4
    rcases h4 e he with h5 | h5
    · rw [hb] at h5; cases h5
    · exact h5) (fun i o ho hb0 k hk => by
    have h6 := h3 i (List.getElem?_eq_some_iff.1 ho).1
    rw [ho, hb0] at h6
    simp only [Option.map_some, Option.getD_some, Bool.or_eq_true, List.all_eq_true, List.mem_range, Array.any_eq_true', Bool.and_eq_true, beq_iff_eq, decide_eq_true_eq, List.contains_iff_mem] at h6
    rcases h6 with h6 | h6
    · cases h6
    · rcases h6 k (List.getElem?_eq_some_iff.1 hk).1 with h7 | ⟨e, he, hb, hon⟩
      · rw [hk] at h7; cases h7
      · exact ⟨e, he, hb, hon⟩) _ l a w (fun i o hi hli e he hb => by
    have h7 := h0 i (List.getElem?_eq_some_iff.1 hi).1
    rw [hi, hli] at h7
    simp only [Option.map_some, Option.getD_some, Bool.or_eq_true, Bool.not_eq_true', Array.all_eq_true_iff_forall_mem, beq_self_eq_true, Bool.true_eq_false, false_or, beq_iff_eq, reduceCtorEq] at h7
    rcases h7 e he with h8 | h8
    · rw [hb] at h8; cases h8
    · exact h8) (fun j hj => hj) h4 rfl h
theorem any_cut_at {P : Program} {Q : Exit → Act → World → Prop} {ops : Array Oper} {fuel : Nat} {listed : Array Bool} (n : Nat) (l lB : List Bool) (k m : Nat) {a : Act} {w : World} (hB : cutB (ops.toList.take n) (ops.toList.drop n) l lB = true) (hk : l.countP (!·) = k) (hf : fuel = k + m) (hl : listed = (l ++ lB).toArray)
    (h : wpAny P .any (ops.toList.take n).toArray (Behind (fun a w => wpAny P .any ops Q m (List.replicate l.length true ++ lB).toArray a w) Q) k l.toArray a w) : wpAny P .any ops Q fuel listed a w := by
  subst hf; subst hl; subst hk
  have e : l.length = (ops.toList.take n).length := by
    unfold cutB at hB
    simp only [Bool.and_eq_true, decide_eq_true_eq] at hB
    exact hB.1.2.1
  rw [e] at h
  exact any_cut n l lB m hB h
end Go.Proofs.YtfnohdgnhdfpaaaGreat.flow
namespace Go.Proofs.YtfnohdgnhdfpaaaGreat.rat
open Go.RowKit Go.Proofs.YtfnohdgnhdfpaaaGreat.num Go.Proofs.YtfnohdgnhdfpaaaGreat.mem Go.Proofs.YtfnohdgnhdfpaaaGreat.nat Go.Proofs.YtfnohdgnhdfpaaaGreat.txt Go.Proofs.YtfnohdgnhdfpaaaGreat.str Go.Proofs.YtfnohdgnhdfpaaaGreat.flow Go.Proofs.YtfnohdgnhdfpaaaGreat.whl
set_option linter.unusedVariables false
set_option linter.unusedSimpArgs false
/-- No cell that holds a number turns. -/
def KeepsI (w w' : World) : Prop := ∀ (p : Addr) (k : IntKind) (x : Int), w.cell? p = some (.int k x) → w'.cell? p = some (.int k x)
theorem KeepsI.set {w : World} {a : Addr} {u : Value} (hu : w.cell? a = some u) (hn : ∀ k n, u ≠ .int k n) (v : Value) : KeepsI w (w.setCell a v) := fun p k x h => by
  have hne : a ≠ p := fun e => by
    rw [e, h] at hu
    injection hu with hu
    exact hn _ _ hu.symm
  rw [World.cell?_setCell_other _ _ _ _ hne]
  exact h
theorem KeepsI.trans {w w1 w2 : World} (h : KeepsI w w1) (h' : KeepsI w1 w2) : KeepsI w w2 := fun p k x e => h' p k x (h p k x e)
theorem KeepsI.below {w w' : World} (h : Below w.heap.size w w') : KeepsI w w' := fun p k x e => (h.cell (World.block_lt_of_cell? _ _ e)).trans e
theorem KeepsI.isS {w w' : World} (h : KeepsI w w') {k : IntKind} {v : Value} {l : List Nat} (hs : IsS w k v l) : IsS w' k v l := by
  obtain ⟨A, c, rfl, h1, h2, h3⟩ := hs
  refine ⟨A, c, rfl, h1, h2, fun i d hd => ?_⟩
  obtain ⟨ad, rfl, hc⟩ := h3 i d hd
  exact ⟨ad, rfl, h _ _ _ hc⟩
theorem KeepsI.isE {w w' : World} (h : KeepsI w w') {k : IntKind} {B : Nat} {p : Elt} (hs : IsE k B w p) : IsE k B w' p := ⟨h.isS hs.1, h.isS hs.2⟩
theorem RowF.at_ {T : TypeId} {w : World} {base j : Nat} {u : Value} {ps : List Elt} {p : Elt} (h : RowF T w base u ps) (hp : ps[j]? = some p) : ∃ a c cs, u = .slice (some ⟨a, 0, none⟩) ps.length c ∧ base ≤ a ∧ Blk w a T cs ∧ w.cell? ⟨a, j * 3, none⟩ = some (.bool (ngB p.1.num)) ∧ w.cell? ⟨a, j * 3 + 1, none⟩ = some p.2.1 ∧ w.cell? ⟨a, j * 3 + 2, none⟩ = some p.2.2 := by
  have hl : j < ps.length := (List.getElem?_eq_some_iff.1 hp).1
  have h' := h
  rcases h with ⟨_, ⟨rfl, h0⟩ | ⟨g, cap, cur, rfl, hb, hg, hn, hm, hc, ht⟩⟩
  · omega
  · obtain ⟨f0, f1, f2⟩ := flat3_at ps j p hp
    have k0 := World.ownsRow.cells h' (g := g) rfl _ _ f0
    have k1 := World.ownsRow.cells h' (g := g) rfl _ _ f1
    have k2 := World.ownsRow.cells h' (g := g) rfl _ _ f2
    rw [addr_zero] at k0 k1 k2
    exact ⟨g, cap, cur, rfl, hb, hg, k0, k1, k2⟩
theorem RowV.at_ {w : World} {base i : Nat} {TS : TypeId} {V u : Value} {us : List Value} (h : RowV w base TS V us) (hu : us[i]? = some u) : ∃ g c, V = .slice (some ⟨g, 0, none⟩) us.length c ∧ w.cell? ⟨g, i, none⟩ = some u := by
  have hl : i < us.length := (List.getElem?_eq_some_iff.1 hu).1
  have h' := h
  rcases h with ⟨_, ⟨rfl, h0⟩ | ⟨g, cap, cur, rfl, hb, hg, _⟩⟩
  · omega
  · exact ⟨g, cap, rfl, RowV.cellAt h' hu⟩
theorem Blk.ne {w : World} {g g' : Nat} {t t' : TypeId} {cs cs' : Array Value} (h : Blk w g t cs) (h' : Blk w g' t' cs') (hne : t ≠ t') : g ≠ g' := fun e => by
  unfold Blk at h h'
  rw [e, h'] at h
  injection h with h
  injection h with _ h
  exact hne h.symm
theorem sl_block {a a' n n' c c' : Nat} (h : (Value.slice (some ⟨a, 0, none⟩) n c) = .slice (some ⟨a', 0, none⟩) n' c') : a = a' := by
  injection h with h
  injection h with h
  injection h with h
/-- One place of a table is set. -/
theorem TabO.set {k : IntKind} {B : Nat} {T TS : TypeId} {w W : World} {base i j a n c : Nat} {V : Value} {us : List Value} {pss : List (List Elt)} {ps : List Elt} {p q : Elt} (hT : T ≠ TS) (h : TabO k B T w base TS V us pss) (hu : us[i]? = some (.slice (some ⟨a, 0, none⟩) n c)) (hps : pss[i]? = some ps) (hq : ps[j]? = some q) (hp : IsE k B w p) (hfar : ∀ v ∈ us, Far v p.2.1 ∧ Far v p.2.2) (hfarV : Far V p.2.1 ∧ Far V p.2.2)
    (hW : W = ((w.setCell ⟨a, j * 3, none⟩ (.bool (ngB p.1.num))).setCell ⟨a, j * 3 + 1, none⟩ p.2.1).setCell ⟨a, j * 3 + 2, none⟩ p.2.2) : TabO k B T W base TS V us (pss.set i (ps.set j p)) ∧ w.grownBy W (some a) ∧ KeepsI w W := by
  have hu0 := h.own i _ ps hu hps
  have hjl : j < ps.length := (List.getElem?_eq_some_iff.1 hq).1
  have hil : i < pss.length := (List.getElem?_eq_some_iff.1 hps).1
  have hum := List.mem_of_getElem? hu
  have hpm := List.mem_of_getElem? hps
  obtain ⟨eq1, _, _⟩ := h.far _ hum ps hpm q (List.mem_of_getElem? hq)
  obtain ⟨⟨Au, cu, eu, _⟩, At, ct, et, _⟩ := eq1
  have hnl : n = ps.length := by
    obtain ⟨a', c', cs, e, _⟩ := RowF.at_ hu0 hq
    injection e
  subst hnl
  obtain ⟨a', c', cs, e, hba, hB, k0, k1, k2⟩ := RowF.at_ hu0 hq
  have ea : a = a' := by
    injection e with e
    injection e with e
    injection e
  subst ea
  have hg : w.grownBy W (some a) := by
    rw [hW]
    exact ((grown_set w a (j * 3) _).andThen (grown_set _ a (j * 3 + 1) _) (fun j e => .inr e)).andThen (grown_set _ a (j * 3 + 2) _) (fun j e => .inr e)
  have hne1 : (⟨a, j * 3, none⟩ : Addr) ≠ ⟨a, j * 3 + 1, none⟩ := fun e => by
    injection e with _ e
    omega
  have hne2 : (⟨a, j * 3, none⟩ : Addr) ≠ ⟨a, j * 3 + 2, none⟩ := fun e => by
    injection e with _ e
    omega
  have hne3 : (⟨a, j * 3 + 1, none⟩ : Addr) ≠ ⟨a, j * 3 + 2, none⟩ := fun e => by
    injection e with _ e
    omega
  have hK : KeepsI w W := by
    rw [hW]
    refine ((KeepsI.set k0 (fun k n => by simp) _).trans (KeepsI.set (u := q.2.1) ?_ (fun k n => by rw [eu]; simp) _)).trans (KeepsI.set (u := q.2.2) ?_ (fun k n => by rw [et]; simp) _)
    · rw [World.cell?_setCell_other _ _ _ _ hne1]
      exact k1
    · rw [World.cell?_setCell_other _ _ _ _ hne3, World.cell?_setCell_other _ _ _ _ hne2]
      exact k2
  have hrow : RowF T W base (.slice (some ⟨a, 0, none⟩) ps.length c) (ps.set j p) := by
    have h1 := (((World.ownsRow.stored hu0 (j * 3) (.bool (ngB p.1.num))).1.stored (j * 3 + 1) p.2.1).1.stored (j * 3 + 2) p.2.2).1
    rw [← hW, set3_list (flat3 ps) (j * 3) _ _ _ (by rw [flat3_len]; omega)] at h1
    have h2 := flat3_set ps j p hjl
    unfold cells3 at h2
    rw [h2] at h1
    unfold RowF
    rw [List.length_set]
    exact h1
  have hng : ∀ g, V.ownBlock = some g → some a ≠ some g := fun g hV e => by
    injection e with e
    subst e
    exact hu0.notRow h.row hT a rfl hV
  have hpq : ∀ qs ∈ pss.set i (ps.set j p), ∀ r ∈ qs, r = p ∨ ∃ qs' ∈ pss, r ∈ qs' := by
    intro qs hqs r hr
    rcases List.mem_or_eq_of_mem_set hqs with hqs | rfl
    · exact .inr ⟨qs, hqs, hr⟩
    · rcases List.mem_or_eq_of_mem_set hr with hr | rfl
      · exact .inr ⟨ps, hpm, hr⟩
      · exact .inl rfl
  refine ⟨⟨RowV.kept h.row hg hng, by rw [List.length_set]; exact h.len, fun x u qs hx hy => ?_, fun v hv qs hqs r hr => ?_, fun qs hqs r hr => ?_, h.apart⟩, hg, hK⟩
  · rcases mem_set_at hy with ⟨rfl, rfl⟩ | ⟨hj, hy⟩
    · rw [hu] at hx
      injection hx with hx
      subst hx
      exact hrow
    · exact (h.own x u qs hx hy).other hg fun g e e2 => h.apart x i u _ (fun e => hj e.symm) hx hu g e (by injection e2 with e2; rw [← e2]; rfl)
  · rcases hpq qs hqs r hr with rfl | ⟨qs', hq', hr⟩
    · exact ⟨hK.isE hp, hfar v hv⟩
    · obtain ⟨e1, f⟩ := h.far v hv qs' hq' r hr
      exact ⟨hK.isE e1, f⟩
  · rcases hpq qs hqs r hr with rfl | ⟨qs', hq', hr⟩
    · exact ⟨hK.isE hp, hfarV⟩
    · obtain ⟨e1, f⟩ := h.farV qs' hq' r hr
      exact ⟨hK.isE e1, f⟩
theorem valq_setq {pss : List (List Elt)} {i j : Nat} {ps : List Elt} {p : Elt} (h : pss[i]? = some ps) : valq (pss.set i (ps.set j p)) = setq (valq pss) i j p.1 := by
  rw [valq_set, setq_at p.1 (valq_at h), List.map_set]
/-- A place of the document's table. -/
theorem Qst.place {w : World} {base gq R C : Nat} {V : Value} {us : List Value} {pss : List (List Elt)} {T : List (List Rat)} (h : Qst w base gq R C V us pss T) {i j : Nat} (hi : i < R) (hj : j < C) : ∃ g cV a c ps q, V = .slice (some ⟨g, 0, none⟩) R cV ∧ us[i]? = some (.slice (some ⟨a, 0, none⟩) C c) ∧ pss[i]? = some ps ∧ ps.length = C ∧ ps[j]? = some q ∧ cellq T i j = some q.1 ∧ IsE .i64 10000 w q ∧ base ≤ a := by
  have hTl : pss.length = R := by
    have h1 := h.shp.1
    rw [← h.val, valq_len] at h1
    exact h1
  have hul : us.length = R := h.tab.len.trans hTl
  obtain ⟨ps, hps⟩ : ∃ ps, pss[i]? = some ps := ⟨_, List.getElem?_eq_getElem (by omega)⟩
  have hpl : ps.length = C := by
    have h1 := h.shp.2 (ps.map (·.1)) (by rw [← h.val]; exact List.mem_of_getElem? (valq_at hps))
    rwa [List.length_map] at h1
  obtain ⟨q, hq⟩ : ∃ q, ps[j]? = some q := ⟨_, List.getElem?_eq_getElem (by omega)⟩
  obtain ⟨u, hu⟩ : ∃ u, us[i]? = some u := ⟨_, List.getElem?_eq_getElem (by omega)⟩
  obtain ⟨g, cV, rfl, _⟩ := RowV.at_ h.tab.row hu
  obtain ⟨a, c, cs, rfl, hba, _⟩ := RowF.at_ (h.tab.own i u ps hu hps) hq
  rw [hul]
  rw [hpl] at hu
  refine ⟨g, cV, a, c, ps, q, rfl, hu, hps, hpl, hq, ?_, (h.tab.far _ (List.mem_of_getElem? hu) ps (List.mem_of_getElem? hps) q (List.mem_of_getElem? hq)).1, hba⟩
  rw [← h.val]
  exact cellq_of (valq_at hps) (by rw [List.getElem?_map, hq]; rfl)
/-- The document's table behind a store: one of its rows has turned, and no number. -/
def RetQput (base gq R C : Nat) (V : Value) (us : List Value) (T : List (List Rat)) (w : World) (e : Ending) (w' : World) : Prop := e = .returned (.int .i64 0) ∧ (∃ pss, Qst w' base gq R C V us pss T) ∧ ∃ a cs, base ≤ a ∧ Blk w a 55 cs ∧ w.grownBy w' (some a) ∧ KeepsI w w'
set_option maxHeartbeats 1600000 in
set_option maxRecDepth 100000 in
theorem rput13_no (base gq R C : Nat) (V : Value) (us : List Value) (pss : List (List Elt)) (T : List (List Rat)) (x y : Int) (a3 : Value) (q : Rat) (w : World) (h : Qst w base gq R C V us pss T) (h3 : IsP w a3 q) (hn : ¬ (0 ≤ x ∧ x < (R : Int) ∧ 0 ≤ y ∧ y < (C : Int))) : Calls Tryz.prog 41 #[.pointer (some ⟨gq, 0, none⟩), .int .i64 x, .int .i64 y, a3] w (RetV (.int .i64 2) w) := by
  obtain ⟨u, t, rfl, s3, d3⟩ := h3
  obtain ⟨A3, c3, rfl, _⟩ := id s3
  obtain ⟨D3, e3, rfl, _⟩ := id d3
  have HN := Lib.hid hn
  clear hn
  have ba := below_alloc (w := w) (Nat.le_refl _) (.cells #[.bool (ngB q.num), .slice A3 (digs 10000 q.num.natAbs).length c3, .slice D3 (digs 10000 q.den).length e3] 55)
  go_enter Tryz.func41, Tryz.ntmps41
  go_wp2_with fail
  refine (ris_any base gq R C V us pss T x y false _ (h.below ba) (decide_eq_false HN.out).symm).mono ?_
  rintro e w2 ⟨rfl, b2⟩
  have bb := ba.trans (b2.mono ba.size)
  go_wp2
  go_ret
  exact ⟨rfl, bb⟩
set_option maxHeartbeats 1600000 in
set_option maxRecDepth 100000 in
theorem rmore13_no (base gq R C : Nat) (V : Value) (us : List Value) (pss : List (List Elt)) (T : List (List Rat)) (x y : Int) (a3 : Value) (q : Rat) (w : World) (h : Qst w base gq R C V us pss T) (h3 : IsP w a3 q) (hn : ¬ (0 ≤ x ∧ x < (R : Int) ∧ 0 ≤ y ∧ y < (C : Int))) : Calls Tryz.prog 44 #[.pointer (some ⟨gq, 0, none⟩), .int .i64 x, .int .i64 y, a3] w (RetV (.int .i64 2) w) := by
  obtain ⟨u, t, rfl, s3, d3⟩ := h3
  obtain ⟨A3, c3, rfl, _⟩ := id s3
  obtain ⟨D3, e3, rfl, _⟩ := id d3
  have HN := Lib.hid hn
  clear hn
  have ba := below_alloc (w := w) (Nat.le_refl _) (.cells #[.bool (ngB q.num), .slice A3 (digs 10000 q.num.natAbs).length c3, .slice D3 (digs 10000 q.den).length e3] 55)
  go_enter Tryz.func44, Tryz.ntmps44
  go_wp2_with fail
  refine (ris_any base gq R C V us pss T x y false _ (h.below ba) (decide_eq_false HN.out).symm).mono ?_
  rintro e w2 ⟨rfl, b2⟩
  have bb := ba.trans (b2.mono ba.size)
  go_wp2
  go_ret
  exact ⟨rfl, bb⟩
set_option maxHeartbeats 3200000 in
set_option maxRecDepth 100000 in
theorem rput13_ok (base gq R C i j : Nat) (V : Value) (us : List Value) (pss : List (List Elt)) (T : List (List Rat)) (a3 : Value) (q : Rat) (w : World) (h : Qst w base gq R C V us pss T) (h3 : IsP w a3 q) (hf : ∀ n u t, a3 = .agg #[.bool n, u, t] → (∀ v ∈ us, Far v u ∧ Far v t) ∧ Far V u ∧ Far V t) (hi : i < R) (hj : j < C) : Calls Tryz.prog 41 #[.pointer (some ⟨gq, 0, none⟩), .int .i64 (i : Int), .int .i64 (j : Int), a3] w (RetQput base gq R C V us (setq T i j q) w) := by
  obtain ⟨u, t, rfl, s3, d3⟩ := h3
  obtain ⟨A3, c3, rfl, _⟩ := id s3
  obtain ⟨D3, e3, rfl, _⟩ := id d3
  obtain ⟨f1, f2⟩ := hf _ _ _ rfl
  clear hf
  obtain ⟨gV, cV, a, ca, ps, q0, rfl, hu, hps, hpl, hq0, hcq, -, hba⟩ := h.place hi hj
  have HU := Lib.hid (And.intro hu (And.intro hps (And.intro hpl hq0)))
  have HF := Lib.hid (And.intro f1 f2)
  have HBA := Lib.hid hba
  clear hu hps hpl hq0 hcq f1 f2 hba
  have ba := below_alloc (w := w) (Nat.le_refl _) (.cells #[.bool (ngB q.num), .slice A3 (digs 10000 q.num.natAbs).length c3, .slice D3 (digs 10000 q.den).length e3] 55)
  have BV := Blk.new w 55 #[.bool (ngB q.num), .slice A3 (digs 10000 q.num.natAbs).length c3, .slice D3 (digs 10000 q.den).length e3]
  go_enter Tryz.func41, Tryz.ntmps41
  go_wp2_with fail
  refine (ris_any base gq R C _ us pss T i j true _ (h.below ba) (decide_eq_true ⟨by omega, by omega, by omega, by omega⟩).symm).mono ?_
  rintro e w2 ⟨rfl, b2⟩
  have bb := ba.trans (b2.mono ba.size)
  have BV := BV.below b2
  have BVd : Blk w2.drew _ _ _ := BV.drew
  have bd := bb.trans ((Below.refl w2.heap.size w2).drew.mono bb.size)
  have Q2 := h.below bd
  obtain ⟨V0, V1, V2, _, _, _⟩ := three BVd
  obtain ⟨-, -, c2⟩ := Q2.cells
  have hcV : w2.drew.cell? ⟨gV, i, none⟩ = some (.slice (some ⟨a, 0, none⟩) C ca) := RowV.cellAt Q2.tab.row HU.out.1
  obtain ⟨a', c', cs', ea, _, hB, k0, k1, k2⟩ := RowF.at_ (Q2.tab.own i _ ps HU.out.1 HU.out.2.1) HU.out.2.2.2
  have ea' : a = a' := by
    injection ea with ea
    injection ea with ea
    injection ea
  subst ea'
  have fz0 := hB.frozen (j * 3)
  have fz1 := hB.frozen (j * 3 + 1)
  have fz2 := hB.frozen (j * 3 + 2)
  have hij := fun w => indexN (P := Tryz.prog) Tryz.underlying87 (by kernel_rfl) (g := a) (c := ca) hj w
  have hE : IsE .i64 10000 w2.drew ((q, .slice A3 (digs 10000 q.num.natAbs).length c3, .slice D3 (digs 10000 q.den).length e3) : Elt) := ⟨s3.below bd, d3.below bd⟩
  clear BV ba b2 bb ea
  have k1' : w2.cell? ⟨a, j * 3 + 1, none⟩ = some q0.2.1 := k1
  have k2' : w2.cell? ⟨a, j * 3 + 2, none⟩ = some q0.2.2 := k2
  have fz1' : w2.frozen? ⟨a, j * 3 + 1, none⟩ = false := fz1
  have fz2' : w2.frozen? ⟨a, j * 3 + 2, none⟩ = false := fz2
  obtain ⟨aw, cw, csw, eaw, hbw, hBw, -⟩ := RowF.at_ (h.tab.own i _ ps HU.out.1 HU.out.2.1) HU.out.2.2.2
  have eaw' : a = aw := by
    injection eaw with eaw
    injection eaw with eaw
    injection eaw
  subst eaw'
  have HB := Lib.hid (And.intro hBw (And.intro (Blk.ne Q2.blk hB (by decide)) bd))
  clear hBw eaw bd hbw
  go_upto_region 3 with (fail)
  go_region_law (fail)
  all_goals
    obtain ⟨TS, gS, KS⟩ := Q2.tab.set (by decide) HU.out.1 HU.out.2.1 HU.out.2.2.2 hE HF.out.1 HF.out.2 rfl
    have HV : Hid (valq (pss.set i (ps.set j ((q, .slice A3 (digs 10000 q.num.natAbs).length c3, .slice D3 (digs 10000 q.den).length e3) : Elt))) = setq T i j q) := by
      show _ = _
      rw [valq_setq HU.out.2.1, Q2.val]
    have HE : Hid (RetQput base gq R C (.slice (some ⟨gV, 0, none⟩) R cV) us (setq T i j q) w (.returned (.int .i64 0)) _) := Lib.hid ⟨rfl, ⟨_, Blk.grown Q2.blk gS HB.out.2.1, TS, HV.out, setq_shp Q2.shp i j q, Q2.hb⟩, a, _, HBA.out, HB.out.1, grown_below HB.out.2.2 gS, (KeepsI.below HB.out.2.2).trans KS⟩
    clear TS gS KS
    go_wp2
    go_ret
    exact HE.out
set_option maxHeartbeats 6400000 in
set_option maxRecDepth 100000 in
theorem rmore13_ok (base gq R C i j : Nat) (V : Value) (us : List Value) (pss : List (List Elt)) (T : List (List Rat)) (a3 : Value) (q x : Rat) (w : World) (h : Qst w base gq R C V us pss T) (h3 : IsP w a3 q) (hx : cellq T i j = some x) (hl : lenQ x 5000 ∧ lenQ q 5000) (hi : i < R) (hj : j < C) : Calls Tryz.prog 44 #[.pointer (some ⟨gq, 0, none⟩), .int .i64 (i : Int), .int .i64 (j : Int), a3] w (RetQput base gq R C V us (setq T i j (x + q)) w) := by
  obtain ⟨u, t, rfl, s3, d3⟩ := h3
  obtain ⟨A3, c3, rfl, _⟩ := id s3
  obtain ⟨D3, e3, rfl, _⟩ := id d3
  obtain ⟨gV, cV, a, ca, ps, q0, rfl, hu, hps, hpl, hq0, hcq, hE0, hba⟩ := h.place hi hj
  obtain ⟨r0, u0, t0⟩ := q0
  obtain ⟨⟨Au, cu, eu, _⟩, At, ct, et, _⟩ := id hE0
  change u0 = .slice Au (digs 10000 r0.num.natAbs).length cu at eu
  change t0 = .slice At (digs 10000 r0.den).length ct at et
  subst eu et
  have ex : x = r0 := by
    rw [hx] at hcq
    injection hcq
  subst ex
  have HU := Lib.hid (And.intro hu (And.intro hps (And.intro hpl hq0)))
  have HBA := Lib.hid hba
  have HL := Lib.hid hl
  clear hu hps hpl hq0 hcq hba hl hx
  have ba := below_alloc (w := w) (Nat.le_refl _) (.cells #[.bool (ngB q.num), .slice A3 (digs 10000 q.num.natAbs).length c3, .slice D3 (digs 10000 q.den).length e3] 55)
  have BV := Blk.new w 55 #[.bool (ngB q.num), .slice A3 (digs 10000 q.num.natAbs).length c3, .slice D3 (digs 10000 q.den).length e3]
  go_enter Tryz.func44, Tryz.ntmps44
  go_wp2_with fail
  refine (ris_any base gq R C _ us pss T i j true _ (h.below ba) (decide_eq_true ⟨by omega, by omega, by omega, by omega⟩).symm).mono ?_
  rintro e w2 ⟨rfl, b2⟩
  have bb := ba.trans (b2.mono ba.size)
  have BV := BV.below b2
  have BVd : Blk w2.drew _ _ _ := BV.drew
  have bd := bb.trans ((Below.refl w2.heap.size w2).drew.mono bb.size)
  have Q2 := h.below bd
  obtain ⟨V0, V1, V2, _, _, _⟩ := three BVd
  obtain ⟨-, -, c2⟩ := Q2.cells
  have hcV : w2.drew.cell? ⟨gV, i, none⟩ = some (.slice (some ⟨a, 0, none⟩) C ca) := RowV.cellAt Q2.tab.row HU.out.1
  obtain ⟨a', c', cs', ea, _, hB, k0, k1, k2⟩ := RowF.at_ (Q2.tab.own i _ ps HU.out.1 HU.out.2.1) HU.out.2.2.2
  obtain ⟨aw, cw, csw, eaw, hbw, hBw, -⟩ := RowF.at_ (h.tab.own i _ ps HU.out.1 HU.out.2.1) HU.out.2.2.2
  have ea' : a = a' := by
    injection ea with ea
    injection ea with ea
    injection ea
  subst ea'
  have eaw' : a = aw := by
    injection eaw with eaw
    injection eaw with eaw
    injection eaw
  subst eaw'
  have m0 : w2.drew.cell? ⟨a, j * 3, none⟩ = some (.bool (ngB x.num)) := k0
  have m1 : w2.drew.cell? ⟨a, j * 3 + 1, none⟩ = some (.slice Au (digs 10000 x.num.natAbs).length cu) := k1
  have m2 : w2.drew.cell? ⟨a, j * 3 + 2, none⟩ = some (.slice At (digs 10000 x.den).length ct) := k2
  have hij := fun w => indexN (P := Tryz.prog) Tryz.underlying87 (by kernel_rfl) (g := a) (c := ca) hj w
  have kx : IsP w2.drew (.agg #[.bool (ngB x.num), .slice Au (digs 10000 x.num.natAbs).length cu, .slice At (digs 10000 x.den).length ct]) x := ⟨_, _, rfl, hE0.1.below bd, hE0.2.below bd⟩
  have kq : IsP w2.drew (.agg #[.bool (ngB q.num), .slice A3 (digs 10000 q.num.natAbs).length c3, .slice D3 (digs 10000 q.den).length e3]) q := ⟨_, _, rfl, s3.below bd, d3.below bd⟩
  have HB := Lib.hid (And.intro hBw (And.intro (Blk.ne Q2.blk hB (by decide)) bd))
  clear BV ba b2 bb ea eaw hBw k0 k1 k2 bd hB hbw
  go_upto_region 3 with (fail)
  refine wp_region_any (by kernel_rfl) (show wpAny _ _ _ _ _ _ _ w2.drew from ?_)
  refine any_cut_at 21 [false, false, false, false, false, false, false, false, false, false, false, false, false, false, false, false, false, false, false, false, false] [false] 21 1 (by kernel_rfl) (by kernel_rfl) (by kernel_rfl) (by kernel_rfl) ?_
  simp only [List.take_succ_cons, List.take_zero]
  have hHeld : (fun w' : World => w'.cell? ⟨gq, 2, none⟩ = some (.slice (some ⟨gV, 0, none⟩) R cV) ∧ w'.cell? ⟨gV, i, none⟩ = some (.slice (some ⟨a, 0, none⟩) C ca) ∧ w'.cell? ⟨w.heap.size, 0, none⟩ = some (.bool (ngB q.num)) ∧ w'.cell? ⟨w.heap.size, 1, none⟩ = some (.slice A3 (digs 10000 q.num.natAbs).length c3) ∧ w'.cell? ⟨w.heap.size, 2, none⟩ = some (.slice D3 (digs 10000 q.den).length e3) ∧ w'.cell? ⟨a, j * 3, none⟩ = some (.bool (ngB x.num)) ∧ w'.cell? ⟨a, j * 3 + 1, none⟩ = some (.slice Au (digs 10000 x.num.natAbs).length cu) ∧ w'.cell? ⟨a, j * 3 + 2, none⟩ = some (.slice At (digs 10000 x.den).length ct)) w2.drew := ⟨c2, hcV, V0, V1, V2, m0, m1, m2⟩
  refine wpAny_of_held (S := fun w' : World => w'.cell? ⟨gq, 2, none⟩ = some (.slice (some ⟨gV, 0, none⟩) R cV) ∧ w'.cell? ⟨gV, i, none⟩ = some (.slice (some ⟨a, 0, none⟩) C ca) ∧ w'.cell? ⟨w.heap.size, 0, none⟩ = some (.bool (ngB q.num)) ∧ w'.cell? ⟨w.heap.size, 1, none⟩ = some (.slice A3 (digs 10000 q.num.natAbs).length c3) ∧ w'.cell? ⟨w.heap.size, 2, none⟩ = some (.slice D3 (digs 10000 q.den).length e3) ∧ w'.cell? ⟨a, j * 3, none⟩ = some (.bool (ngB x.num)) ∧ w'.cell? ⟨a, j * 3 + 1, none⟩ = some (.slice Au (digs 10000 x.num.natAbs).length cu) ∧ w'.cell? ⟨a, j * 3 + 2, none⟩ = some (.slice At (digs 10000 x.den).length ct)) _ _ _ _ ?_
  refine wpAnyH_take (i := 0) (v := .pointer (some ⟨gq, 0, none⟩)) rfl (by kernel_rfl) (by kernel_rfl) (by kernel_rfl) (fun _ _ _ h => h) (Or.inl ⟨by rfl, fun w hSw => by (obtain ⟨hS1, hS2, hS3, hS4, hS5, hS6, hS7, hS8⟩ := hSw; go_simp; first | done | with_reducible rfl)⟩) hHeld ?_
  simp only [Act.put, List.setIfInBounds_toArray, List.set_cons_zero, List.set_cons_succ]
  refine wpAnyH_take (i := 1) (v := .pointer (some ⟨gq, 0, none⟩)) rfl (by kernel_rfl) (by kernel_rfl) (by kernel_rfl) (fun _ _ _ h => h) (Or.inl ⟨by rfl, fun w hSw => by (obtain ⟨hS1, hS2, hS3, hS4, hS5, hS6, hS7, hS8⟩ := hSw; go_simp; first | done | with_reducible rfl)⟩) hHeld ?_
  simp only [Act.put, List.setIfInBounds_toArray, List.set_cons_zero, List.set_cons_succ]
  refine wpAnyH_take (i := 2) (v := .pointer (some ⟨gq, 2, none⟩)) rfl (by kernel_rfl) (by kernel_rfl) (by kernel_rfl) (fun _ _ _ h => h) (Or.inl ⟨by rfl, fun w hSw => by (obtain ⟨hS1, hS2, hS3, hS4, hS5, hS6, hS7, hS8⟩ := hSw; go_simp; first | done | with_reducible rfl)⟩) hHeld ?_
  simp only [Act.put, List.setIfInBounds_toArray, List.set_cons_zero, List.set_cons_succ]
  refine wpAnyH_take (i := 3) (v := .slice (some ⟨gV, 0, none⟩) R cV) rfl (by kernel_rfl) (by kernel_rfl) (by kernel_rfl) (fun _ _ _ h => h) (Or.inl ⟨by rfl, fun w hSw => by (obtain ⟨hS1, hS2, hS3, hS4, hS5, hS6, hS7, hS8⟩ := hSw; go_simp; first | done | with_reducible rfl)⟩) hHeld ?_
  simp only [Act.put, List.setIfInBounds_toArray, List.set_cons_zero, List.set_cons_succ]
  refine wpAnyH_take (i := 4) (v := .int .i64 (i : Int)) rfl (by kernel_rfl) (by kernel_rfl) (by kernel_rfl) (fun _ _ _ h => h) (Or.inl ⟨by rfl, fun w hSw => by (obtain ⟨hS1, hS2, hS3, hS4, hS5, hS6, hS7, hS8⟩ := hSw; go_simp; first | done | with_reducible rfl)⟩) hHeld ?_
  simp only [Act.put, List.setIfInBounds_toArray, List.set_cons_zero, List.set_cons_succ]
  refine wpAnyH_take (i := 5) (v := .pointer (some ⟨gV, i, none⟩)) rfl (by kernel_rfl) (by kernel_rfl) (by kernel_rfl) (fun _ _ _ h => h) (Or.inl ⟨by rfl, fun w hSw => by (obtain ⟨hS1, hS2, hS3, hS4, hS5, hS6, hS7, hS8⟩ := hSw; go_simp; first | done | with_reducible rfl)⟩) hHeld ?_
  simp only [Act.put, List.setIfInBounds_toArray, List.set_cons_zero, List.set_cons_succ]
  refine wpAnyH_take (i := 6) (v := .slice (some ⟨a, 0, none⟩) C ca) rfl (by kernel_rfl) (by kernel_rfl) (by kernel_rfl) (fun _ _ _ h => h) (Or.inl ⟨by rfl, fun w hSw => by (obtain ⟨hS1, hS2, hS3, hS4, hS5, hS6, hS7, hS8⟩ := hSw; go_simp; first | done | with_reducible rfl)⟩) hHeld ?_
  simp only [Act.put, List.setIfInBounds_toArray, List.set_cons_zero, List.set_cons_succ]
  refine wpAnyH_take (i := 7) (v := .int .i64 (j : Int)) rfl (by kernel_rfl) (by kernel_rfl) (by kernel_rfl) (fun _ _ _ h => h) (Or.inl ⟨by rfl, fun w hSw => by (obtain ⟨hS1, hS2, hS3, hS4, hS5, hS6, hS7, hS8⟩ := hSw; go_simp; first | done | with_reducible rfl)⟩) hHeld ?_
  simp only [Act.put, List.setIfInBounds_toArray, List.set_cons_zero, List.set_cons_succ]
  refine wpAnyH_take (i := 8) (v := .pointer (some ⟨gq, 0, none⟩)) rfl (by kernel_rfl) (by kernel_rfl) (by kernel_rfl) (fun _ _ _ h => h) (Or.inl ⟨by rfl, fun w hSw => by (obtain ⟨hS1, hS2, hS3, hS4, hS5, hS6, hS7, hS8⟩ := hSw; go_simp; first | done | with_reducible rfl)⟩) hHeld ?_
  simp only [Act.put, List.setIfInBounds_toArray, List.set_cons_zero, List.set_cons_succ]
  refine wpAnyH_take (i := 9) (v := .pointer (some ⟨gq, 0, none⟩)) rfl (by kernel_rfl) (by kernel_rfl) (by kernel_rfl) (fun _ _ _ h => h) (Or.inl ⟨by rfl, fun w hSw => by (obtain ⟨hS1, hS2, hS3, hS4, hS5, hS6, hS7, hS8⟩ := hSw; go_simp; first | done | with_reducible rfl)⟩) hHeld ?_
  simp only [Act.put, List.setIfInBounds_toArray, List.set_cons_zero, List.set_cons_succ]
  refine wpAnyH_take (i := 10) (v := .pointer (some ⟨gq, 2, none⟩)) rfl (by kernel_rfl) (by kernel_rfl) (by kernel_rfl) (fun _ _ _ h => h) (Or.inl ⟨by rfl, fun w hSw => by (obtain ⟨hS1, hS2, hS3, hS4, hS5, hS6, hS7, hS8⟩ := hSw; go_simp; first | done | with_reducible rfl)⟩) hHeld ?_
  simp only [Act.put, List.setIfInBounds_toArray, List.set_cons_zero, List.set_cons_succ]
  refine wpAnyH_take (i := 11) (v := .slice (some ⟨gV, 0, none⟩) R cV) rfl (by kernel_rfl) (by kernel_rfl) (by kernel_rfl) (fun _ _ _ h => h) (Or.inl ⟨by rfl, fun w hSw => by (obtain ⟨hS1, hS2, hS3, hS4, hS5, hS6, hS7, hS8⟩ := hSw; go_simp; first | done | with_reducible rfl)⟩) hHeld ?_
  simp only [Act.put, List.setIfInBounds_toArray, List.set_cons_zero, List.set_cons_succ]
  refine wpAnyH_take (i := 12) (v := .int .i64 (i : Int)) rfl (by kernel_rfl) (by kernel_rfl) (by kernel_rfl) (fun _ _ _ h => h) (Or.inl ⟨by rfl, fun w hSw => by (obtain ⟨hS1, hS2, hS3, hS4, hS5, hS6, hS7, hS8⟩ := hSw; go_simp; first | done | with_reducible rfl)⟩) hHeld ?_
  simp only [Act.put, List.setIfInBounds_toArray, List.set_cons_zero, List.set_cons_succ]
  refine wpAnyH_take (i := 13) (v := .pointer (some ⟨gV, i, none⟩)) rfl (by kernel_rfl) (by kernel_rfl) (by kernel_rfl) (fun _ _ _ h => h) (Or.inl ⟨by rfl, fun w hSw => by (obtain ⟨hS1, hS2, hS3, hS4, hS5, hS6, hS7, hS8⟩ := hSw; go_simp; first | done | with_reducible rfl)⟩) hHeld ?_
  simp only [Act.put, List.setIfInBounds_toArray, List.set_cons_zero, List.set_cons_succ]
  refine wpAnyH_take (i := 14) (v := .slice (some ⟨a, 0, none⟩) C ca) rfl (by kernel_rfl) (by kernel_rfl) (by kernel_rfl) (fun _ _ _ h => h) (Or.inl ⟨by rfl, fun w hSw => by (obtain ⟨hS1, hS2, hS3, hS4, hS5, hS6, hS7, hS8⟩ := hSw; go_simp; first | done | with_reducible rfl)⟩) hHeld ?_
  simp only [Act.put, List.setIfInBounds_toArray, List.set_cons_zero, List.set_cons_succ]
  refine wpAnyH_take (i := 15) (v := .int .i64 (j : Int)) rfl (by kernel_rfl) (by kernel_rfl) (by kernel_rfl) (fun _ _ _ h => h) (Or.inl ⟨by rfl, fun w hSw => by (obtain ⟨hS1, hS2, hS3, hS4, hS5, hS6, hS7, hS8⟩ := hSw; go_simp; first | done | with_reducible rfl)⟩) hHeld ?_
  simp only [Act.put, List.setIfInBounds_toArray, List.set_cons_zero, List.set_cons_succ]
  refine wpAnyH_take (i := 16) (v := .pointer (some ⟨a, j * 3, none⟩)) rfl (by kernel_rfl) (by kernel_rfl) (by kernel_rfl) (fun _ _ _ h => h) (Or.inl ⟨by rfl, fun w hSw => by (obtain ⟨hS1, hS2, hS3, hS4, hS5, hS6, hS7, hS8⟩ := hSw; go_simp; first | done | with_reducible rfl)⟩) hHeld ?_
  simp only [Act.put, List.setIfInBounds_toArray, List.set_cons_zero, List.set_cons_succ]
  refine wpAnyH_take (i := 17) (v := .agg #[.bool (ngB x.num), .slice Au (digs 10000 x.num.natAbs).length cu, .slice At (digs 10000 x.den).length ct]) rfl (by kernel_rfl) (by kernel_rfl) (by kernel_rfl) (fun _ _ _ h => h) (Or.inl ⟨by rfl, fun w hSw => by (obtain ⟨hS1, hS2, hS3, hS4, hS5, hS6, hS7, hS8⟩ := hSw; go_simp; first | done | with_reducible rfl)⟩) hHeld ?_
  simp only [Act.put, List.setIfInBounds_toArray, List.set_cons_zero, List.set_cons_succ]
  refine wpAnyH_take (i := 18) (v := .agg #[.bool (ngB q.num), .slice A3 (digs 10000 q.num.natAbs).length c3, .slice D3 (digs 10000 q.den).length e3]) rfl (by kernel_rfl) (by kernel_rfl) (by kernel_rfl) (fun _ _ _ h => h) (Or.inl ⟨by rfl, fun w hSw => by (obtain ⟨hS1, hS2, hS3, hS4, hS5, hS6, hS7, hS8⟩ := hSw; go_simp; first | done | with_reducible rfl)⟩) hHeld ?_
  simp only [Act.put, List.setIfInBounds_toArray, List.set_cons_zero, List.set_cons_succ]
  refine wpAnyH_ready (rs := [19]) (by kernel_rfl) (by simp) ?_
  refine AllReadyH.cons rfl (fun K hK => ?_) AllReadyH.nil
  go_simp
  go_at_call 62
  refine (qadd_any _ x _ q _ (by exact kx) (by exact kq) HL.out.1 HL.out.2).mono ?_
  rintro e w9 ⟨v9, rfl, k9, f9, b9⟩
  have z0 := (b9.cell (World.block_lt_of_cell? _ _ c2)).trans c2
  have z1 := (b9.cell (World.block_lt_of_cell? _ _ hcV)).trans hcV
  have z2 := (b9.cell (World.block_lt_of_cell? _ _ V0)).trans V0
  have z3 := (b9.cell (World.block_lt_of_cell? _ _ V1)).trans V1
  have z4 := (b9.cell (World.block_lt_of_cell? _ _ V2)).trans V2
  have z5 := (b9.cell (World.block_lt_of_cell? _ _ m0)).trans m0
  have z6 := (b9.cell (World.block_lt_of_cell? _ _ m1)).trans m1
  have z7 := (b9.cell (World.block_lt_of_cell? _ _ m2)).trans m2
  have Q9 := Q2.below b9
  obtain ⟨a9, c9', cs9, ea9, _, hB9, -⟩ := RowF.at_ (Q9.tab.own i _ ps HU.out.1 HU.out.2.1) HU.out.2.2.2
  have ea9' := sl_block ea9
  clear ea9
  subst ea9'
  have F0 := hB9.frozen (j * 3)
  have F1 := hB9.frozen (j * 3 + 1)
  have F2 := hB9.frozen (j * 3 + 2)
  obtain ⟨u9, t9, rfl, s9, d9⟩ := k9
  obtain ⟨A9, c9, rfl, _⟩ := id s9
  obtain ⟨D9, e9, rfl, _⟩ := id d9
  refine hK.out _ _ ⟨z0, z1, z2, z3, z4, z5, z6, z7⟩ (fun hHeld => ?_)
  clear hK K
  simp only [Act.put, List.setIfInBounds_toArray, List.set_cons_zero, List.set_cons_succ]
  refine wpAnyH_take (i := 20) (v := .pointer (some ⟨a, j * 3, none⟩)) rfl (by kernel_rfl) (by kernel_rfl) (by kernel_rfl) (fun _ _ _ h => h) (Or.inl ⟨by rfl, fun w hSw => by (obtain ⟨hS1, hS2, hS3, hS4, hS5, hS6, hS7, hS8⟩ := hSw; go_simp; first | done | with_reducible rfl)⟩) hHeld ?_
  simp only [Act.put, List.setIfInBounds_toArray, List.set_cons_zero, List.set_cons_succ]
  refine wpAnyH_done (by kernel_rfl) ?_ _
  dsimp only [Behind]
  refine wpAny_ready (rs := [21]) (by kernel_rfl) (by simp) ?_
  refine AllReady.cons rfl (fun K hK => ?_) AllReady.nil
  go_simp
  refine hK _ _ ?_
  clear hK K
  simp only [Act.put, List.setIfInBounds_toArray, List.set_cons_zero, List.set_cons_succ]
  refine wpAny_done (by kernel_rfl) ?_ _
  all_goals
    have E9 : IsE .i64 10000 w9 ((x + q, .slice A9 (digs 10000 (x + q).num.natAbs).length c9, .slice D9 (digs 10000 (x + q).den).length e9) : Elt) := ⟨s9, d9⟩
    obtain ⟨fU, fT⟩ := f9 _ _ _ rfl
    have FU := Q2.tab.farNew fU
    have FT := Q2.tab.farNew fT
    obtain ⟨TS, gS, KS⟩ := Q9.tab.set (by decide) HU.out.1 HU.out.2.1 HU.out.2.2.2 E9 (fun v hv => ⟨FU.1 v hv, FT.1 v hv⟩) ⟨FU.2, FT.2⟩ rfl
    have HV : Hid (valq (pss.set i (ps.set j ((x + q, .slice A9 (digs 10000 (x + q).num.natAbs).length c9, .slice D9 (digs 10000 (x + q).den).length e9) : Elt))) = setq T i j (x + q)) := by
      show _ = _
      rw [valq_setq HU.out.2.1, Q2.val]
    have b0 := HB.out.2.2.trans (b9.mono HB.out.2.2.size)
    have HE : Hid (RetQput base gq R C (.slice (some ⟨gV, 0, none⟩) R cV) us (setq T i j (x + q)) w (.returned (.int .i64 0)) _) := Lib.hid ⟨rfl, ⟨_, Blk.grown Q9.blk gS HB.out.2.1, TS, HV.out, setq_shp Q2.shp i j (x + q), Q2.hb⟩, a, _, HBA.out, HB.out.1, grown_below b0 gS, (KeepsI.below b0).trans KS⟩
    clear TS gS KS b0 FU FT
    go_wp2
    go_ret
    exact HE.out
end Go.Proofs.YtfnohdgnhdfpaaaGreat.rat
