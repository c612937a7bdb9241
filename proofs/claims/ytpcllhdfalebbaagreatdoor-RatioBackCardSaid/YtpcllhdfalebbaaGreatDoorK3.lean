/- A statement whose order is open, walked once: each operation's value is told by a word that later calls keep ('Below'), so no order is chosen. No program stands here.
The state: a frame with the values of the operations that have come up ('putM'); what each operation owes ('Ob'); all orders at once ('flow').
Whole numbers: a sign and a size; how they lie in memory; what a call's end says of one. Condition: as each says.
Fractions: mathematics (Lean's own Rat: its parts, what putting into lowest terms does to them, order), and what a value is that reads as a fraction. No program stands here.
Package whole: signed, Of, Made, Neg, Sign. Condition: as each says.
Package whole: difference, Mul. Condition: as each says.
Package whole and the document's whole numbers: the calls. Condition: as each says.
Package whole and the document's whole numbers: the calls. Condition: as each says.
Package whole and the document's whole numbers: the calls. Condition: as each says.
Package whole: Of, Print; the chapter's example. Condition: as each says.
Fractions as texts: mathematics (what a text is read as; with how few digits a fraction is told; what was printed is read). No program stands here.
What the laws of layer 7 share: an argument as a whole number, sizes, the document's Same on two that are one. Condition: as each says.
Texts with a sign ahead: strings.CutPrefix of "-", whole.Parse; the document's texts. Condition: as each says.
Texts with a sign ahead: the document's texts. Condition: as each says.
Package whole: Sum, over rows of values of two cells; the document's Num of a great number. Condition: as each says.
Structs within structs: a part of a variable loaded, a struct of a struct and a slice built. No program stands here.
Mathematics of the greatest common divisor, by what is left and by halving. No program stands here.
The document's greatest common divisor; the program's by what is left of divisions. Condition: slices read as numbers.
The program's greatest common divisor by halving and taking off. Condition: slices read as numbers.
The program's greatest common divisor by halving and taking off: the loop. Condition: slices read as numbers.
The program's greatest common divisor of many numbers, and whether two are coprime; the chapter's example. Condition: slices read as numbers.
The chapter's example of the greatest common divisor.
A region that draws its order, one of whose operations may come behind the first store ('lateStores': the second extract of 'x, y := f(a, b)'): it is taken first all the same, for it yields in whatever world. No program stands here.
What WholeTexts' regions want beside: the obligations of min, of a string's length and cut; one answer of a text; texts of whole numbers, read. Condition: as each says.
What WholeMakes wants: an argument as a slice of whole numbers; a row of whole numbers that the call makes by append. Condition: as each says. -/
import Derived.Test.YtpcllhdfalebbaaGreatDoorK2
import Derived.Orders
import Derived.Deep.MidRow
import Derived.Deep.RegionHeld3
import Derived.Deep.DrawnRows
import Derived.Deep.Cut
import Derived.Lib.SmallJoins
import Derived.ProofKit
import Derived.OpenShut
import Derived.Deep.SlicePairs
import Derived.Deep.LoopGhost
namespace Go.Proofs.YtpcllhdfalebbaaGreatDoor.flow
open Go.RowKit Go.Proofs.YtpcllhdfalebbaaGreatDoor.num Go.Proofs.YtpcllhdfalebbaaGreatDoor.mem
set_option linter.unusedVariables false
/-- The frame with the values of those operations that have come up. -/
def putM (a : Act) : List Oper → List (Option Value) → Act
  | o :: os, some v :: ms => putM (a.put o.dst v) os ms
  | _ :: os, none :: ms => putM a os ms
  | _, _ => a
/-- No two write one slot. -/
def distinctB : List Oper → Bool
  | [] => true
  | o :: os => (match o.dst with | none => true | some d => os.all fun x => x.dst != some d) && distinctB os
theorem distinct_head {o : Oper} {os : List Oper} (h : distinctB (o :: os) = true) : ∀ x ∈ os, ∀ d, o.dst = some d → x.dst ≠ some d := by
  intro x hx d hd
  simp only [distinctB, hd, Bool.and_eq_true] at h
  have := List.all_eq_true.1 h.1 x hx
  simpa using this
theorem distinct_tail {o : Oper} {os : List Oper} (h : distinctB (o :: os) = true) : distinctB os = true := by
  simp only [distinctB, Bool.and_eq_true] at h; exact h.2
theorem putM_put (d : Option Tmp) (v : Value) : ∀ (L : List Oper) (ms : List (Option Value)) (a : Act), (∀ x ∈ L, ∀ t, d = some t → x.dst ≠ some t) → (putM a L ms).put d v = putM (a.put d v) L ms
  | [], ms, a, _ => by cases ms <;> rfl
  | o :: os, [], a, _ => rfl
  | o :: os, none :: ms, a, h => putM_put d v os ms a fun x hx => h x (by simp [hx])
  | o :: os, some u :: ms, a, h => by
    show (putM (a.put o.dst u) os ms).put d v = putM ((a.put d v).put o.dst u) os ms
    rw [putM_put d v os ms _ fun x hx => h x (by simp [hx])]
    rw [Act.put_comm a v u (x := d) (y := o.dst) (fun t ht => h o (by simp) t ht)]
theorem putM_set (v : Value) : ∀ (L : List Oper) (ms : List (Option Value)) (a : Act) (i : Nat) (o : Oper), distinctB L = true → L[i]? = some o → ms[i]? = some none → (putM a L ms).put o.dst v = putM a L (ms.set i (some v))
  | [], ms, a, i, o, _, h, _ => by simp at h
  | x :: os, [], a, i, o, _, _, h => by simp at h
  | x :: os, m :: ms, a, 0, o, hd, hi, hm => by
    obtain rfl : x = o := by simpa using hi
    obtain rfl : m = none := by simpa using hm
    show (putM a os ms).put x.dst v = putM (a.put x.dst v) os ms
    exact putM_put _ _ _ _ _ fun y hy t ht => distinct_head hd y hy t ht
  | x :: os, none :: ms, a, i + 1, o, hd, hi, hm => by
    show (putM a os ms).put o.dst v = putM a os (ms.set i (some v))
    exact putM_set v os ms a i o (distinct_tail hd) (by simpa using hi) (by simpa using hm)
  | x :: os, some u :: ms, a, i + 1, o, hd, hi, hm => by
    show (putM (a.put x.dst u) os ms).put o.dst v = putM (a.put x.dst u) os (ms.set i (some v))
    exact putM_set v os ms _ i o (distinct_tail hd) (by simpa using hi) (by simpa using hm)
theorem put_size (a : Act) (d : Option Tmp) (v : Value) : (a.put d v).tmps.size = a.tmps.size := by cases d <;> simp [Act.put]
theorem putM_far {t : Nat} : ∀ (L : List Oper) (ms : List (Option Value)) (a : Act), (∀ o ∈ L, o.dst ≠ some t) → (putM a L ms).tmps[t]? = a.tmps[t]?
  | [], ms, a, _ => by cases ms <;> rfl
  | o :: os, [], a, _ => rfl
  | o :: os, none :: ms, a, h => putM_far os ms a fun x hx => h x (by simp [hx])
  | o :: os, some u :: ms, a, h => by
    show (putM (a.put o.dst u) os ms).tmps[t]? = _
    rw [putM_far os ms _ fun x hx => h x (by simp [hx])]
    have h1 := h o (by simp)
    cases hd : o.dst with
    | none => rfl
    | some d =>
      have : d ≠ t := fun e => h1 (by rw [hd, e])
      simp [Act.put, Array.getElem?_setIfInBounds_ne this]
theorem putM_at {d : Nat} {v : Value} : ∀ (L : List Oper) (ms : List (Option Value)) (a : Act) (i : Nat) (o : Oper), distinctB L = true → L[i]? = some o → o.dst = some d → ms[i]? = some (some v) → d < a.tmps.size → (putM a L ms).tmps[d]? = some v
  | [], ms, a, i, o, _, h, _, _, _ => by simp at h
  | x :: os, [], a, i, o, _, _, _, h, _ => by simp at h
  | x :: os, m :: ms, a, 0, o, hd, hi, ho, hm, hs => by
    obtain rfl : x = o := by simpa using hi
    obtain rfl : m = some v := by simpa using hm
    show (putM (a.put x.dst v) os ms).tmps[d]? = some v
    rw [putM_far os ms _ fun y hy => distinct_head hd y hy d ho, ho]
    simp [Act.put, hs]
  | x :: os, none :: ms, a, i + 1, o, hd, hi, ho, hm, hs => putM_at os ms a i o (distinct_tail hd) (by simpa using hi) ho (by simpa using hm) hs
  | x :: os, some u :: ms, a, i + 1, o, hd, hi, ho, hm, hs => putM_at os ms _ i o (distinct_tail hd) (by simpa using hi) ho (by simpa using hm) (by rw [put_size]; exact hs)
/-- A word about a value in memory, which whatever makes new memory alone keeps. -/
structure Pd where
  p : World → Value → Prop
  up : ∀ {w w' : World} {v : Value}, p w v → Below w.heap.size w w' → p w' v
/-- It is this value. -/
def Pd.eq (v : Value) : Pd := ⟨fun _ u => u = v, fun h _ => h⟩
def Pd.any : Pd := ⟨fun _ _ => True, fun h _ => h⟩
/-- The word for operation i. -/
def ph (Φ : List Pd) (i : Nat) : Pd := Φ.getD i Pd.any
/-- Does it make a variable? -/
def isA (o : Oper) : Bool := match o.op with | .alloc _ => true | _ => false
/-- The state at which an operation comes up: the values of those before it are as told. -/
structure St (L : List Oper) (Φ : List Pd) (w0 : World) (o : Oper) (ms : List (Option Value)) (w : World) : Prop where
  len : ms.length = L.length
  below : Below w0.heap.size w0 w
  ty : ∀ (i : Nat) (v : Value), ms[i]? = some (some v) → (ph Φ i).p w v
  deps : ∀ e ∈ o.after, Region.binds .any e = true → ∃ v, ms[e.on]? = some (some v)
/-- What operation i owes: in each such state it yields a value as told, and makes new memory alone. -/
def Ob (P : Program) (Q : Exit → Act → World → Prop) (ops : Array Oper) (L : List Oper) (Φ : List Pd) (w0 : World) (a0 : Act) (i : Nat) (o : Oper) : Prop :=
  ∀ ms w, St L Φ w0 o ms w →
    if Region.wanted o (yielded ops (putM a0 L ms).tmps) = true then
      o.wp P (putM a0 L ms) w (fun a' w' => ∃ v, a' = (putM a0 L ms).put o.dst v ∧ Below w.heap.size w w' ∧ (ph Φ i).p w' v ∧ (isA o = true → ∃ g, v = .pointer (some ⟨g, 0, none⟩) ∧ w.heap.size ≤ g ∧ g < w'.heap.size)) Q
    else (ph Φ i).p w undef ∧ isA o = false
/-- All of them. -/
def Obs (P : Program) (Q : Exit → Act → World → Prop) (ops : Array Oper) (L : List Oper) (Φ : List Pd) (w0 : World) (a0 : Act) : Nat → List Oper → Prop
  | _, [] => True
  | i, o :: os => Ob P Q ops L Φ w0 a0 i o ∧ Obs P Q ops L Φ w0 a0 (i + 1) os
theorem Obs.at_ {P : Program} {Q : Exit → Act → World → Prop} {ops : Array Oper} {L : List Oper} {Φ : List Pd} {w0 : World} {a0 : Act} : ∀ (M : List Oper) (k i : Nat) (o : Oper), Obs P Q ops L Φ w0 a0 k M → M[i]? = some o → Ob P Q ops L Φ w0 a0 (k + i) o
  | [], k, i, o, _, h => by simp at h
  | x :: M, k, 0, o, h, hi => by
    obtain rfl : x = o := by simpa using hi
    exact h.1
  | x :: M, k, i + 1, o, h, hi => by
    have := Obs.at_ M (k + 1) i o h.2 (by simpa using hi)
    rwa [show k + 1 + i = k + (i + 1) from by omega] at this
/-- Whom an operation waits for. -/
def onsOf (o : Oper) : List Nat := (o.after.toList.filter fun e => Region.binds .any e).map (·.on)
theorem mem_onsOf {o : Oper} {j : Nat} : j ∈ onsOf o ↔ ∃ e ∈ o.after, Region.binds .any e = true ∧ e.on = j := by
  simp [onsOf, and_assoc]
/-- Each waits for earlier ones alone. -/
def backB : Nat → List Oper → Bool
  | _, [] => true
  | i, o :: os => ((onsOf o).all fun j => decide (j < i)) && backB (i + 1) os
theorem backB_at : ∀ (L : List Oper) (k i : Nat) (o : Oper), backB k L = true → L[i]? = some o → ∀ e ∈ o.after, Region.binds .any e = true → e.on < k + i
  | [], k, i, o, _, h => by simp at h
  | x :: L, k, 0, o, h, hi => by
    obtain rfl : x = o := by simpa using hi
    simp only [backB, Bool.and_eq_true] at h
    intro e he hb
    have := List.all_eq_true.1 h.1 e.on (mem_onsOf.2 ⟨e, he, hb, rfl⟩)
    simpa using this
  | x :: L, k, i + 1, o, h, hi => by
    simp only [backB, Bool.and_eq_true] at h
    intro e he hb
    have := backB_at L (k + 1) i o h.2 (by simpa using hi) e he hb
    omega
/-- Each of the first n is waited for: by this operation, or by a later one of them. -/
def covB (L : List Oper) (n : Nat) (o : Oper) : Bool :=
  (onsOf o).any (fun j => decide (n ≤ j)) || (List.range n).all fun i => (onsOf o).contains i || (List.range n).any fun k => decide (i < k) && ((L[k]?).map fun x => (onsOf x).contains i).getD false
theorem covB_all {L : List Oper} {o : Oper} {ms : List (Option Value)} (hlen : ms.length = L.length) (h : covB L L.length o = true) (hdone : ∀ e ∈ o.after, Region.binds .any e = true → ∃ v, ms[e.on]? = some (some v))
    (hdc : ∀ (j : Nat) (x : Oper) (v : Value), L[j]? = some x → ms[j]? = some (some v) → ∀ e ∈ x.after, Region.binds .any e = true → ∃ v, ms[e.on]? = some (some v)) : ∀ i, i < L.length → ∃ v, ms[i]? = some (some v) := by
  unfold covB at h
  rw [Bool.or_eq_true] at h
  rcases h with h | h
  · obtain ⟨j, hj, hn⟩ := List.any_eq_true.1 h
    obtain ⟨e, he, hb, rfl⟩ := mem_onsOf.1 hj
    obtain ⟨v, hv⟩ := hdone e he hb
    have := (List.getElem?_eq_some_iff.1 hv).1
    simp at hn
    omega
  · have key : ∀ k i, i + k = L.length → i < L.length → ∃ v, ms[i]? = some (some v) := by
      intro k
      induction k using Nat.strongRecOn with
      | ind k ih =>
        intro i hik hi
        have h1 := List.all_eq_true.1 h i (by simp [hi])
        rw [Bool.or_eq_true] at h1
        rcases h1 with h1 | h1
        · obtain ⟨e, he, hb, rfl⟩ := mem_onsOf.1 (by simpa using h1)
          exact hdone e he hb
        · obtain ⟨m, hm, h2⟩ := List.any_eq_true.1 h1
          rw [Bool.and_eq_true] at h2
          have hm2 : m < L.length := by simpa using hm
          have him : i < m := by simpa using h2.1
          obtain ⟨v, hv⟩ := ih (L.length - m) (by omega) m (by omega) hm2
          have h3 := h2.2
          rw [List.getElem?_eq_getElem hm2] at h3
          obtain ⟨e, he, hb, rfl⟩ := mem_onsOf.1 (by simpa using h3)
          exact hdc m _ v (List.getElem?_eq_getElem hm2) hv e he hb
    intro i hi
    exact key (L.length - i) i (by omega) hi
/-- Who has come up. -/
def lst (ms : List (Option Value)) (m : Nat) : Array Bool := (ms.map Option.isSome ++ List.replicate m false).toArray
theorem lst_lt {ms : List (Option Value)} {m i : Nat} (h : i < ms.length) (d : Bool) : (lst ms m).getD i d = (ms[i]).isSome := by
  unfold lst
  rw [Array.getD_eq_getD_getElem?, List.getElem?_toArray, List.getElem?_append_left (by simpa using h)]
  simp [h]
theorem lst_ge {ms : List (Option Value)} {m i : Nat} (h : ms.length ≤ i) : (lst ms m).getD i false = false := by
  unfold lst
  rw [Array.getD_eq_getD_getElem?, List.getElem?_toArray, List.getElem?_append_right (by simpa using h)]
  rw [List.getElem?_replicate]
  split <;> rfl
theorem lst_set {ms : List (Option Value)} {m i : Nat} (v : Value) (h : i < ms.length) : (lst ms m).setIfInBounds i true = lst (ms.set i (some v)) m := by
  unfold lst
  rw [List.setIfInBounds_toArray, List.set_append_left _ _ (by simpa using h), List.map_set]
  rfl
/-- No two variables are one. -/
def Sep (L : List Oper) (ms : List (Option Value)) : Prop := ∀ (i j : Nat) (oi oj : Oper) (u v : Value), i ≠ j → L[i]? = some oi → L[j]? = some oj → isA oi = true → isA oj = true → ms[i]? = some (some u) → ms[j]? = some (some v) → u ≠ v
/-- Variables that have been made lie in memory. -/
def Ptr (L : List Oper) (ms : List (Option Value)) (w : World) : Prop := ∀ (i : Nat) (oi : Oper) (u : Value), L[i]? = some oi → isA oi = true → ms[i]? = some (some u) → ∃ g, u = .pointer (some ⟨g, 0, none⟩) ∧ g < w.heap.size
/-- The whole state. -/
structure Inv (L : List Oper) (Φ : List Pd) (w0 : World) (ms : List (Option Value)) (w : World) : Prop where
  len : ms.length = L.length
  below : Below w0.heap.size w0 w
  ty : ∀ (i : Nat) (v : Value), ms[i]? = some (some v) → (ph Φ i).p w v
  dc : ∀ (j : Nat) (x : Oper) (v : Value), L[j]? = some x → ms[j]? = some (some v) → ∀ e ∈ x.after, Region.binds .any e = true → ∃ v, ms[e.on]? = some (some v)
  sep : Sep L ms
  ptr : Ptr L ms w
theorem set_cases {ms : List (Option Value)} {i j : Nat} {v u : Value} (h : (ms.set i (some v))[j]? = some (some u)) : (j = i ∧ u = v) ∨ (j ≠ i ∧ ms[j]? = some (some u)) := by
  rw [List.getElem?_set] at h
  by_cases hij : i = j
  · subst hij
    rw [if_pos rfl] at h
    split at h
    · left; simp at h; exact ⟨rfl, h.symm⟩
    · cases h
  · rw [if_neg hij] at h
    exact .inr ⟨fun e => hij e.symm, h⟩
theorem set_more {ms : List (Option Value)} {i j : Nat} {v : Value} (h : ∃ u, ms[j]? = some (some u)) : ∃ u, (ms.set i (some v))[j]? = some (some u) := by
  obtain ⟨u, hu⟩ := h
  by_cases hij : i = j
  · subst hij
    exact ⟨v, by rw [List.getElem?_set_self (List.getElem?_eq_some_iff.1 hu).1]⟩
  · exact ⟨u, by rw [List.getElem?_set_ne hij]; exact hu⟩
theorem Inv.step {L : List Oper} {Φ : List Pd} {w0 : World} {ms : List (Option Value)} {w w' : World} {i : Nat} {o : Oper} {v : Value} (h : Inv L Φ w0 ms w) (hi : L[i]? = some o) (hm : ms[i]? = some none)
    (hdeps : ∀ e ∈ o.after, Region.binds .any e = true → ∃ v, ms[e.on]? = some (some v)) (hb : Below w.heap.size w w') (hv : (ph Φ i).p w' v) (ha : isA o = true → ∃ g, v = .pointer (some ⟨g, 0, none⟩) ∧ w.heap.size ≤ g ∧ g < w'.heap.size) : Inv L Φ w0 (ms.set i (some v)) w' where
  len := by rw [List.length_set]; exact h.len
  below := h.below.trans (hb.mono h.below.size)
  ty := fun j u hu => by
    rcases set_cases hu with ⟨rfl, rfl⟩ | ⟨_, h1⟩
    · exact hv
    · exact (ph Φ j).up (h.ty j u h1) hb
  dc := fun j x u hx hu e he hbi => by
    rcases set_cases hu with ⟨rfl, rfl⟩ | ⟨_, h1⟩
    · obtain rfl : o = x := by rw [hi] at hx; exact Option.some.inj hx
      exact set_more (hdeps e he hbi)
    · exact set_more (h.dc j x u hx h1 e he hbi)
  sep := by
    intro a b oa ob u x hab ha1 hb1 hA hB hu hx
    rcases set_cases hu with ⟨rfl, rfl⟩ | ⟨_, h1⟩
    · rcases set_cases hx with ⟨rfl, rfl⟩ | ⟨_, h2⟩
      · exact absurd rfl hab
      · obtain rfl : o = oa := by rw [hi] at ha1; exact Option.some.inj ha1
        obtain ⟨g, rfl, hg, _⟩ := ha hA
        obtain ⟨g', rfl, hg'⟩ := h.ptr _ _ _ hb1 hB h2
        intro e
        injection e with e; injection e with e; injection e with e _ _
        omega
    · rcases set_cases hx with ⟨rfl, rfl⟩ | ⟨_, h2⟩
      · obtain rfl : o = ob := by rw [hi] at hb1; exact Option.some.inj hb1
        obtain ⟨g, rfl, hg, _⟩ := ha hB
        obtain ⟨g', rfl, hg'⟩ := h.ptr _ _ _ ha1 hA h1
        intro e
        injection e with e; injection e with e; injection e with e _ _
        omega
      · exact h.sep a b oa ob u x hab ha1 hb1 hA hB h1 h2
  ptr := by
    intro j oj u hj hA hu
    rcases set_cases hu with ⟨rfl, rfl⟩ | ⟨_, h1⟩
    · obtain rfl : o = oj := by rw [hi] at hj; exact Option.some.inj hj
      obtain ⟨g, e, _, hg⟩ := ha hA
      exact ⟨g, e, hg⟩
    · obtain ⟨g, e, hg⟩ := h.ptr j oj u hj hA h1
      exact ⟨g, e, Nat.lt_of_lt_of_le hg hb.size⟩
/-- ALL ORDERS AT ONCE: the first operations L, whose values are told; what is left is behind all of them. -/
theorem flow_main {P : Program} {Q : Exit → Act → World → Prop} {ops : Array Oper} {L L2 : List Oper} {Φ : List Pd} {w0 : World} {a0 : Act} (hop : ops.toList = L ++ L2) (hd : distinctB L = true) (hback : backB 0 L = true) (hcov : (L2.all fun o => covB L L.length o) = true)
    (ob : Obs P Q ops L Φ w0 a0 0 L)
    (done : ∀ ms w, (∀ i, i < L.length → ∃ v, ms[i]? = some (some v)) → Inv L Φ w0 ms w → wpAny P .any ops Q L2.length (lst ms L2.length) (putM a0 L ms) w) :
    ∀ (k : Nat) (ms : List (Option Value)) (w : World), (ms.filter Option.isNone).length = k → Inv L Φ w0 ms w → wpAny P .any ops Q (k + L2.length) (lst ms L2.length) (putM a0 L ms) w := by
  have hsz : ops.size = L.length + L2.length := by
    have := congrArg List.length hop
    simpa using this
  have hat : ∀ i, ops[i]? = (L ++ L2)[i]? := fun i => by rw [← hop, Array.getElem?_toList]
  intro k
  induction k with
  | zero =>
    intro ms w hk hI
    rw [Nat.zero_add]
    refine done ms w (fun i hi => ?_) hI
    have hi2 : i < ms.length := by rw [hI.len]; exact hi
    rcases hm : ms[i] with _ | v
    · exfalso
      have h1 : ms[i] ∈ ms.filter Option.isNone := List.mem_filter.2 ⟨List.getElem_mem hi2, by rw [hm]; rfl⟩
      rw [List.length_eq_zero_iff.1 hk] at h1
      simp at h1
    · exact ⟨v, by rw [List.getElem?_eq_getElem hi2, hm]⟩
  | succ k ih =>
    intro ms w hk hI
    -- some operation of L has not come up
    have hnot : ¬ ∀ i, i < L.length → ∃ v, ms[i]? = some (some v) := by
      intro hall
      have h0 : ms.filter Option.isNone = [] := by
        rw [List.filter_eq_nil_iff]
        intro m hm
        obtain ⟨i, hi, rfl⟩ := List.mem_iff_getElem.1 hm
        obtain ⟨v, hv⟩ := hall i (by rw [← hI.len]; exact hi)
        rw [List.getElem?_eq_getElem hi] at hv
        rw [Option.some.inj hv]; simp
      rw [h0] at hk; simp at hk
    -- the least one that has not may come up
    have least : ∀ n i, i ≤ n → i < L.length → Region.ready .any ops (lst ms L2.length) = [] → ∃ v, ms[i]? = some (some v) := by
      intro n
      induction n with
      | zero =>
        intro i hin hi hr
        obtain rfl : i = 0 := by omega
        have hi2 : 0 < ms.length := by rw [hI.len]; exact hi
        rcases hm : ms[0] with _ | v
        · exfalso
          have : 0 ∈ Region.ready .any ops (lst ms L2.length) := by
            rw [mem_ready]
            refine ⟨by rw [lst_lt hi2, hm]; rfl, L[0], by rw [hat, List.getElem?_append_left hi, List.getElem?_eq_getElem hi], ?_⟩
            intro e he hb
            have := backB_at L 0 0 _ hback (List.getElem?_eq_getElem hi) e he hb
            omega
          rw [hr] at this; simp at this
        · exact ⟨v, by rw [List.getElem?_eq_getElem hi2, hm]⟩
      | succ n ihn =>
        intro i hin hi hr
        have hi2 : i < ms.length := by rw [hI.len]; exact hi
        rcases hm : ms[i] with _ | v
        · exfalso
          have : i ∈ Region.ready .any ops (lst ms L2.length) := by
            rw [mem_ready]
            refine ⟨by rw [lst_lt hi2, hm]; rfl, L[i], by rw [hat, List.getElem?_append_left hi, List.getElem?_eq_getElem hi], ?_⟩
            intro e he hb
            have h1 := backB_at L 0 i _ hback (List.getElem?_eq_getElem hi) e he hb
            have h3 : e.on < ms.length := by rw [hI.len]; omega
            obtain ⟨v, hv⟩ := ihn e.on (by omega) (by omega) hr
            rw [lst_lt h3]
            rw [List.getElem?_eq_getElem h3] at hv
            rw [Option.some.inj hv]; rfl
          rw [hr] at this; simp at this
        · exact ⟨v, by rw [List.getElem?_eq_getElem hi2, hm]⟩
    rw [show k + 1 + L2.length = (k + L2.length) + 1 from by omega]
    refine ⟨fun hr => absurd (fun i hi => least i i (Nat.le_refl _) hi hr) hnot, fun i hi => ?_⟩
    obtain ⟨h1, o, ho, haft⟩ := mem_ready.1 hi
    have hdeps : ∀ e ∈ o.after, Region.binds .any e = true → ∃ v, ms[e.on]? = some (some v) := by
      intro e he hb
      have h2 := haft e he hb
      by_cases h3 : e.on < ms.length
      · rw [lst_lt h3] at h2
        obtain ⟨v, hv⟩ := Option.isSome_iff_exists.1 h2
        exact ⟨v, by rw [List.getElem?_eq_getElem h3, hv]⟩
      · rw [lst_ge (by omega)] at h2; cases h2
    by_cases hiL : i < L.length
    · have hi2 : i < ms.length := by rw [hI.len]; exact hiL
      rw [lst_lt hi2] at h1
      have hmi : ms[i]? = some none := by
        rw [List.getElem?_eq_getElem hi2]
        rcases hm : ms[i] with _ | v
        · rfl
        · rw [hm] at h1; cases h1
      have hoL : L[i]? = some o := by rw [hat, List.getElem?_append_left hiL] at ho; exact ho
      have hob := ob.at_ L 0 i o hoL
      rw [Nat.zero_add] at hob
      have hst := hob ms w ⟨hI.len, hI.below, hI.ty, hdeps⟩
      have hcount : ∀ v : Value, ((ms.set i (some v)).filter Option.isNone).length = k := by
        intro v
        have key : ∀ (l : List (Option Value)) (i : Nat), l[i]? = some none → ((l.set i (some v)).filter Option.isNone).length + 1 = (l.filter Option.isNone).length := by
          intro l
          induction l with
          | nil => intro i h; simp at h
          | cons m l ihl =>
            intro i h
            cases i with
            | zero =>
              obtain rfl : m = none := by simpa using h
              simp
            | succ i =>
              have := ihl i (by simpa using h)
              rw [List.set_cons_succ, List.filter_cons, List.filter_cons]
              split
              · simp only [List.length_cons]; omega
              · exact this
        have := key ms i hmi
        omega
      unfold wpOp
      rw [ho]
      simp only []
      by_cases hw : Region.wanted o (yielded ops (putM a0 L ms).tmps) = true
      · rw [if_pos hw] at hst ⊢
        refine .inl (Oper.wp_mono ?_ hst)
        rintro a' w' ⟨v, rfl, hb, hv, ha⟩
        rw [lst_set v hi2, putM_set v L ms a0 i o hd hoL hmi]
        exact ih _ w' (hcount v) (hI.step hoL hmi hdeps hb hv ha)
      · rw [if_neg hw] at hst ⊢
        rw [lst_set undef hi2, putM_set undef L ms a0 i o hd hoL hmi]
        exact ih _ w (hcount undef) (hI.step hoL hmi hdeps (Below.refl _ _) hst.1 (fun h => by rw [hst.2] at h; cases h))
    · exfalso
      have ho2 : o ∈ L2 := by
        rw [hat, List.getElem?_append_right (by omega)] at ho
        exact List.mem_of_getElem? ho
      have hc := List.all_eq_true.1 hcov o ho2
      exact hnot (covB_all hI.len hc hdeps hI.dc)
/-- What stands behind the operations, for whatever values they may have yielded. -/
def Done (K : Act → World → Prop) (Φ : List Pd) (w : World) : Nat → List Oper → List Value → Act → Prop
  | _, [], _, a => ∀ b, a = b → K b w
  | i, o :: os, ps, a => ∀ v, (ph Φ i).p w v → match isA o with
    | true => (∀ u ∈ ps, u ≠ v) → Done K Φ w (i + 1) os (v :: ps) (a.put o.dst v)
    | false => Done K Φ w (i + 1) os ps (a.put o.dst v)
theorem done_all {K : Act → World → Prop} {L : List Oper} {Φ : List Pd} {w0 w : World} {ms : List (Option Value)} (hI : Inv L Φ w0 ms w) (hall : ∀ i, i < L.length → ∃ v, ms[i]? = some (some v)) :
    ∀ (M : List Oper) (k : Nat) (a : Act) (ps : List Value), L.drop k = M → k ≤ L.length → (∀ u ∈ ps, ∃ j oj, j < k ∧ L[j]? = some oj ∧ isA oj = true ∧ ms[j]? = some (some u)) → Done K Φ w k M ps a → K (putM a M (ms.drop k)) w
  | [], k, a, ps, hM, hk, hps, h => by
    have e : putM a [] (ms.drop k) = a := by cases ms.drop k <;> rfl
    rw [e]; exact h a rfl
  | o :: M, k, a, ps, hM, hk, hps, h => by
    have hk2 : k < L.length := by
      rcases Nat.lt_or_ge k L.length with h1 | h1
      · exact h1
      · rw [List.drop_of_length_le h1] at hM; cases hM
    have e1 : L.drop k = L[k] :: L.drop (k + 1) := (List.getElem_cons_drop hk2).symm
    rw [hM] at e1
    injection e1 with e2 e3
    obtain ⟨v, hv⟩ := hall k hk2
    have hk3 : k < ms.length := (List.getElem?_eq_some_iff.1 hv).1
    have e4 : ms.drop k = some v :: ms.drop (k + 1) := by
      rw [← List.getElem_cons_drop hk3, (List.getElem?_eq_some_iff.1 hv).2]
    rw [e4]
    have hL : L[k]? = some o := by rw [List.getElem?_eq_getElem hk2, e2]
    show K (putM (a.put o.dst v) M (ms.drop (k + 1))) w
    have hd := h v (hI.ty k v hv)
    cases ha : isA o with
    | true =>
      rw [ha] at hd
      refine done_all hI hall M (k + 1) _ (v :: ps) e3.symm (by omega) ?_ (hd fun u hu => ?_)
      · intro u hu
        rcases List.mem_cons.1 hu with rfl | hu
        · exact ⟨k, o, by omega, hL, ha, hv⟩
        · obtain ⟨j, oj, hj, h1⟩ := hps u hu
          exact ⟨j, oj, by omega, h1⟩
      · obtain ⟨j, oj, hj, h1, h2, h3⟩ := hps u hu
        exact hI.sep j k oj o u v (by omega) h1 hL h2 ha h3 hv
    | false =>
      rw [ha] at hd
      refine done_all hI hall M (k + 1) _ ps e3.symm (by omega) (fun u hu => ?_) hd
      obtain ⟨j, oj, hj, h1⟩ := hps u hu
      exact ⟨j, oj, by omega, h1⟩
theorem putM_none (a : Act) : ∀ (L : List Oper), putM a L (List.replicate L.length none) = a
  | [] => rfl
  | o :: os => putM_none a os
theorem lst_start (n m : Nat) : lst (List.replicate n none) m = Array.replicate (n + m) false := by
  unfold lst
  rw [List.map_replicate]
  show (List.replicate n false ++ List.replicate m false).toArray = _
  rw [List.replicate_append_replicate, List.toArray_replicate]
theorem lst_end {ms : List (Option Value)} {n : Nat} (m : Nat) (hn : ms.length = n) (hall : ∀ i, i < n → ∃ v, ms[i]? = some (some v)) : lst ms m = (List.replicate n true ++ List.replicate m false).toArray := by
  unfold lst
  congr 2
  refine List.ext_getElem (by simp [hn]) fun i h1 h2 => ?_
  obtain ⟨v, hv⟩ := hall i (by simpa using h2)
  have h3 : i < ms.length := by simpa using h1
  rw [List.getElem?_eq_getElem h3] at hv
  simp [Option.some.inj hv]
/-- Each operation's word once; then what stands behind, for whatever values. -/
theorem flow_core {P : Program} {Q : Exit → Act → World → Prop} {ops : Array Oper} (n : Nat) (Φ : List Pd) {w : World} {a0 : Act}
    (h1 : distinctB (ops.toList.take n) = true) (h2 : backB 0 (ops.toList.take n) = true) (h3 : ((ops.toList.drop n).all fun o => covB (ops.toList.take n) (ops.toList.take n).length o) = true)
    (ob : Obs P Q ops (ops.toList.take n) Φ w a0 0 (ops.toList.take n))
    (done : ∀ w', Below w.heap.size w w' → Done (fun a w' => wpAny P .any ops Q (ops.toList.drop n).length (List.replicate (ops.toList.take n).length true ++ List.replicate (ops.toList.drop n).length false).toArray a w') Φ w' 0 (ops.toList.take n) [] a0) : wpAny P .any ops Q ops.size (Array.replicate ops.size false) a0 w := by
  have hop : ops.toList = ops.toList.take n ++ ops.toList.drop n := (List.take_append_drop n _).symm
  generalize ops.toList.take n = L at *
  generalize ops.toList.drop n = L2 at *
  have hsz : ops.size = L.length + L2.length := by
    have := congrArg List.length hop
    simpa using this
  have none_ : ∀ (i : Nat) (v : Value), ¬ (List.replicate L.length (none : Option Value))[i]? = some (some v) := by
    intro i v h
    rw [List.getElem?_replicate] at h
    split at h <;> cases h
  have hI0 : Inv L Φ w (List.replicate L.length none) w := ⟨by simp, Below.refl _ _, fun i v h => absurd h (none_ i v), fun j x v _ h => absurd h (none_ j v), fun i j oi oj u v _ _ _ _ _ h _ => absurd h (none_ i u), fun i oi u _ _ h => absurd h (none_ i u)⟩
  have hmain := flow_main (P := P) (Q := Q) (ops := ops) (L := L) (L2 := L2) (Φ := Φ) (w0 := w) (a0 := a0) hop h1 h2 h3 ob (fun ms w' hall hI => by
    rw [lst_end L2.length hI.len hall]
    have := done_all (K := fun a w' => wpAny P .any ops Q L2.length (List.replicate L.length true ++ List.replicate L2.length false).toArray a w') hI hall L 0 a0 [] (by simp) (by omega) (by simp) (done w' hI.below)
    simpa using this) L.length (List.replicate L.length none) w (by simp) hI0
  rw [putM_none, lst_start, ← hsz] at hmain
  exact hmain
/-- A region that draws its order: each operation's word once; then what stands behind, for whatever values. -/
theorem flow {P : Program} {Q : Exit → Act → World → Prop} {id : Nat} {ops : Array Oper} (n : Nat) (Φ : List Pd) {w : World} {a0 : Act} (hm : P.follows .mixedOrders = true)
    (hB : (distinctB (ops.toList.take n) && backB 0 (ops.toList.take n) && (ops.toList.drop n).all (fun o => covB (ops.toList.take n) (ops.toList.take n).length o)) = true)
    (ob : Obs P Q ops (ops.toList.take n) Φ w.drew a0 0 (ops.toList.take n))
    (done : ∀ w', Below w.heap.size w w' → Done (fun a w' => wpAny P .any ops Q (ops.toList.drop n).length (List.replicate (ops.toList.take n).length true ++ List.replicate (ops.toList.drop n).length false).toArray a w') Φ w' 0 (ops.toList.take n) [] a0) : (Code.region id ops true).wp P Q a0 w := by
  simp only [Bool.and_eq_true] at hB
  obtain ⟨⟨h1, h2⟩, h3⟩ := hB
  exact wp_region_any hm (flow_core n Φ (w := w.drew) h1 h2 h3 ob fun w' hb => done w' ((Below.refl _ w).drew.trans hb))
theorem plain_main {P : Program} {Q : Exit → Act → World → Prop} {ops : Array Oper} {L L2 : List Oper} {Φ : List Pd} {w0 : World} {a0 : Act} {rest : List Nat} (hop : ops.toList = L ++ L2) (hd : distinctB L = true) (hback : backB 0 L = true)
    (ob : Obs P Q ops L Φ w0 a0 0 L) (done : ∀ ms w, (∀ i, i < L.length → ∃ v, ms[i]? = some (some v)) → Inv L Φ w0 ms w → wpOps P ops Q rest (putM a0 L ms) w) :
    ∀ (k i : Nat) (ms : List (Option Value)) (w : World), i + k = L.length → (∀ j, j < i → ∃ v, ms[j]? = some (some v)) → (∀ j, i ≤ j → j < L.length → ms[j]? = some none) → Inv L Φ w0 ms w → wpOps P ops Q (List.range' i k ++ rest) (putM a0 L ms) w
  | 0, i, ms, w, hk, h1, _, hI => done ms w (fun j hj => h1 j (by omega)) hI
  | k + 1, i, ms, w, hk, h1, h2, hI => by
    have hiL : i < L.length := by omega
    have hat : ops[i]? = some L[i] := by
      rw [← Array.getElem?_toList, hop, List.getElem?_append_left hiL, List.getElem?_eq_getElem hiL]
    have hoL : L[i]? = some L[i] := List.getElem?_eq_getElem hiL
    have hdeps : ∀ e ∈ L[i].after, Region.binds .any e = true → ∃ v, ms[e.on]? = some (some v) := fun e he hb => by
      have := backB_at L 0 i _ hback hoL e he hb
      exact h1 e.on (by omega)
    have hob := ob.at_ L 0 i _ hoL
    rw [Nat.zero_add] at hob
    have hst := hob ms w ⟨hI.len, hI.below, hI.ty, hdeps⟩
    have hmi := h2 i (Nat.le_refl _) hiL
    have next : ∀ v w', Inv L Φ w0 (ms.set i (some v)) w' → wpOps P ops Q (List.range' (i + 1) k ++ rest) (putM a0 L (ms.set i (some v))) w' := fun v w' hI' =>
      plain_main hop hd hback ob done k (i + 1) _ w' (by omega) (fun j hj => by
        by_cases hji : j = i
        · subst hji; exact ⟨v, by rw [List.getElem?_set_self (by rw [hI.len]; exact hiL)]⟩
        · exact set_more (h1 j (by omega))) (fun j hj hj2 => by rw [List.getElem?_set_ne (by omega)]; exact h2 j (by omega) hj2) hI'
    show wpOps P ops Q (i :: (List.range' (i + 1) k ++ rest)) (putM a0 L ms) w
    rw [wpOps_cons]
    unfold wpOp
    rw [hat]
    simp only []
    by_cases hw : Region.wanted L[i] (yielded ops (putM a0 L ms).tmps) = true
    · rw [if_pos hw] at hst ⊢
      refine .inl (Oper.wp_mono ?_ hst)
      rintro a' w' ⟨v, rfl, hb, hv, ha⟩
      rw [putM_set v L ms a0 i _ hd hoL hmi]
      exact next v w' (hI.step hoL hmi hdeps hb hv ha)
    · rw [if_neg hw] at hst ⊢
      rw [putM_set undef L ms a0 i _ hd hoL hmi]
      exact next undef w (hI.step hoL hmi hdeps (Below.refl _ _) hst.1 (fun h => by rw [hst.2] at h; cases h))
/-- The same of a region in the order of its text. -/
theorem flowp {P : Program} {Q : Exit → Act → World → Prop} {id : Nat} {ops : Array Oper} (n : Nat) (Φ : List Pd) {w : World} {a0 : Act}
    (hB : (distinctB (ops.toList.take n) && backB 0 (ops.toList.take n)) = true)
    (ob : Obs P Q ops (ops.toList.take n) Φ w a0 0 (ops.toList.take n))
    (done : ∀ w', Below w.heap.size w w' → Done (fun a w' => wpOps P ops Q (List.range' (ops.toList.take n).length (ops.toList.drop n).length) a w') Φ w' 0 (ops.toList.take n) [] a0) : (Code.region id ops false).wp P Q a0 w := by
  simp only [Bool.and_eq_true] at hB
  obtain ⟨h1, h2⟩ := hB
  refine wp_region ?_
  have hop : ops.toList = ops.toList.take n ++ ops.toList.drop n := (List.take_append_drop n _).symm
  generalize ops.toList.take n = L at *
  generalize ops.toList.drop n = L2 at *
  have hsz : ops.size = L.length + L2.length := by
    have := congrArg List.length hop
    simpa using this
  have none_ : ∀ (i : Nat) (v : Value), ¬ (List.replicate L.length (none : Option Value))[i]? = some (some v) := by
    intro i v h
    rw [List.getElem?_replicate] at h
    split at h <;> cases h
  have hI0 : Inv L Φ w (List.replicate L.length none) w := ⟨by simp, Below.refl _ _, fun i v h => absurd h (none_ i v), fun j x v _ h => absurd h (none_ j v), fun i j oi oj u v _ _ _ _ _ h _ => absurd h (none_ i u), fun i oi u _ _ h => absurd h (none_ i u)⟩
  have hmain := plain_main (P := P) (Q := Q) (ops := ops) (L := L) (L2 := L2) (Φ := Φ) (w0 := w) (a0 := a0) (rest := List.range' L.length L2.length) hop h1 h2 ob (fun ms w' hall hI => by
    have := done_all (K := fun a w' => wpOps P ops Q (List.range' L.length L2.length) a w') hI hall L 0 a0 [] (by simp) (by omega) (by simp) (done w' hI.below)
    simpa using this) L.length 0 (List.replicate L.length none) w (by simp) (fun j hj => absurd hj (by omega)) (fun j _ hj => by rw [List.getElem?_replicate, if_pos hj]) hI0
  rw [putM_none] at hmain
  rw [hsz, List.range_eq_range', ← List.range'_append_1]
  simpa using hmain
/-! What the operations owe, kind by kind. -/
section
variable {P : Program} {Q : Exit → Act → World → Prop} {ops : Array Oper} {L : List Oper} {Φ : List Pd} {w0 : World} {a0 : Act} {i : Nat} {o : Oper}
/-- What an operand is, when the operation comes up. -/
def Ev (L : List Oper) (Φ : List Pd) (w0 : World) (a0 : Act) (o : Oper) (x : Operand) (F : World → Value → Prop) : Prop := ∀ ms w, St L Φ w0 o ms w → F w ((putM a0 L ms).eval x)
theorem ev_const (v : Value) : Ev L Φ w0 a0 o (.const v) (fun _ u => u = v) := fun _ _ _ => rfl
theorem ev_far {t : Nat} {v : Value} (h : (L.all fun x => x.dst != some t) = true) (ha : a0.tmps[t]? = some v) : Ev L Φ w0 a0 o (.tmp t) (fun _ u => u = v) := by
  intro ms w _
  show (putM a0 L ms).tmps.getD t undef = v
  rw [Array.getD_eq_getD_getElem?, putM_far L ms a0 (fun x hx => by have := List.all_eq_true.1 h x hx; simpa using this), ha]; rfl
theorem st_dep {ms : List (Option Value)} {w : World} (h : St L Φ w0 o ms w) {j t : Nat} {oj : Oper} (hB : ((onsOf o).contains j && decide (t < a0.tmps.size) && distinctB L) = true) (hj : L[j]? = some oj) (hd : oj.dst = some t) : ∃ v, (putM a0 L ms).tmps[t]? = some v ∧ (ph Φ j).p w v := by
  simp only [Bool.and_eq_true] at hB
  obtain ⟨⟨h1, h2⟩, h3⟩ := hB
  obtain ⟨e, he, hb, rfl⟩ := mem_onsOf.1 (by simpa using h1)
  obtain ⟨v, hv⟩ := h.deps e he hb
  exact ⟨v, putM_at L ms a0 _ _ h3 hj hd hv (by simpa using h2), h.ty _ v hv⟩
theorem ev_dep {j t : Nat} {oj : Oper} (hB : ((onsOf o).contains j && decide (t < a0.tmps.size) && distinctB L) = true) (hj : L[j]? = some oj) (hd : oj.dst = some t) : Ev L Φ w0 a0 o (.tmp t) (ph Φ j).p := by
  intro ms w h
  obtain ⟨v, h1, h2⟩ := st_dep h hB hj hd
  have e : (putM a0 L ms).eval (.tmp t) = v := by
    show (putM a0 L ms).tmps.getD t undef = v
    rw [Array.getD_eq_getD_getElem?, h1]; rfl
  rw [e]; exact h2
/-- The guard says yes. -/
def Wt (ops : Array Oper) (L : List Oper) (Φ : List Pd) (w0 : World) (a0 : Act) (o : Oper) (b : Bool) : Prop := ∀ ms w, St L Φ w0 o ms w → Region.wanted o (yielded ops (putM a0 L ms).tmps) = b
theorem wt_none (h : o.guard = none) : Wt ops L Φ w0 a0 o true := fun ms w _ => by unfold Region.wanted; rw [h]
theorem wt_dep {g t : Nat} {b c : Bool} {og : Oper} (h : o.guard = some (g, b)) (hB : ((onsOf o).contains g && decide (t < a0.tmps.size) && distinctB L) = true) (hg : L[g]? = some og) (hg2 : ops[g]? = some og) (hd : og.dst = some t) (hF : ∀ w v, (ph Φ g).p w v → v = .bool c) : Wt ops L Φ w0 a0 o (c == b) := by
  intro ms w hS
  obtain ⟨v, h1, h2⟩ := st_dep hS hB hg hd
  obtain rfl := hF w v h2
  unfold Region.wanted
  rw [h]
  simp only [yielded, hg2, Option.bind_some, hd, h1]
  cases b <;> cases c <;> rfl
theorem ob_not (hw : Wt ops L Φ w0 a0 o false) (hu : ∀ w, (ph Φ i).p w undef) (ha : isA o = false) : Ob P Q ops L Φ w0 a0 i o := by
  intro ms w hS
  rw [if_neg (by rw [hw ms w hS]; simp)]
  exact ⟨hu w, ha⟩
theorem ob_val (hw : Wt ops L Φ w0 a0 o true) (ha : isA o = false) (h : ∀ ms w, St L Φ w0 o ms w → ∃ v, (execOp (putM a0 L ms).eval o).run P w = .ok (.value v) w ∧ (ph Φ i).p w v) : Ob P Q ops L Φ w0 a0 i o := by
  intro ms w hS
  rw [if_pos (hw ms w hS)]
  obtain ⟨v, h1, h2⟩ := h ms w hS
  unfold Oper.wp
  rw [h1]
  exact ⟨v, rfl, Below.refl _ _, h2, fun h => by rw [ha] at h; cases h⟩
theorem ob_move {x : Operand} {F : World → Value → Prop} (hop : o.op = .move x) (hw : Wt ops L Φ w0 a0 o true) (hx : Ev L Φ w0 a0 o x F) (hF : ∀ w v, F w v → (ph Φ i).p w v) : Ob P Q ops L Φ w0 a0 i o :=
  ob_val hw (by unfold isA; rw [hop]) fun ms w hS => ⟨_, by unfold execOp; simp only [hop]; rfl, hF w _ (hx ms w hS)⟩
theorem ob_assign {x : Operand} {F : World → Value → Prop} (hop : o.op = .assign x) (hw : Wt ops L Φ w0 a0 o true) (hx : Ev L Φ w0 a0 o x F) (hF : ∀ w v, F w v → (ph Φ i).p w v) : Ob P Q ops L Φ w0 a0 i o :=
  ob_val hw (by unfold isA; rw [hop]) fun ms w hS => ⟨_, by unfold execOp; simp only [hop]; rfl, hF w _ (hx ms w hS)⟩
theorem ob_pick {c x y : Operand} {b : Bool} {F : World → Value → Prop} (hop : o.op = .pick c x y) (hw : Wt ops L Φ w0 a0 o true) (hc : Ev L Φ w0 a0 o c (fun _ u => u = .bool b)) (hx : Ev L Φ w0 a0 o (if b = true then x else y) F) (hF : ∀ w v, F w v → (ph Φ i).p w v) : Ob P Q ops L Φ w0 a0 i o :=
  ob_val hw (by unfold isA; rw [hop]) fun ms w hS => ⟨(putM a0 L ms).eval (if b = true then x else y), by
    unfold execOp; simp only [hop]; rw [hc ms w hS]; cases b <;> rfl, hF w _ (hx ms w hS)⟩
theorem ob_fieldAddr {s : TypeId} {x : Operand} {k : Nat} {u v : Value} (hop : o.op = .fieldAddr s x k) (hw : Wt ops L Φ w0 a0 o true) (hx : Ev L Φ w0 a0 o x (fun _ y => y = u)) (hr : ∀ w, (Instr.fieldAt s u k).run P w = .ok v w) (hF : ∀ w, (ph Φ i).p w v) : Ob P Q ops L Φ w0 a0 i o :=
  ob_val hw (by unfold isA; rw [hop]) fun ms w hS => ⟨v, by unfold execOp; simp only [hop]; rw [hx ms w hS, Sem.run_bind, hr]; rfl, hF w⟩
theorem ob_load {t : TypeId} {x : Operand} {u v : Value} (hop : o.op = .load t x) (hw : Wt ops L Φ w0 a0 o true) (hx : Ev L Φ w0 a0 o x (fun _ y => y = u)) (hr : ∀ w, Below w0.heap.size w0 w → (Instr.loadAt t u).run P w = .ok v w) (hF : ∀ w, Below w0.heap.size w0 w → (ph Φ i).p w v) : Ob P Q ops L Φ w0 a0 i o :=
  ob_val hw (by unfold isA; rw [hop]) fun ms w hS => ⟨v, by unfold execOp; simp only [hop]; rw [hx ms w hS, Sem.run_bind, hr w hS.below]; rfl, hF w hS.below⟩
theorem ob_bin {op : BinOp} {t t' : TypeId} {x y : Operand} {F G : World → Value → Prop} (hop : o.op = .binOp op t x y t') (hw : Wt ops L Φ w0 a0 o true) (hx : Ev L Φ w0 a0 o x F) (hy : Ev L Φ w0 a0 o y G)
    (hr : ∀ w u u', F w u → G w u' → ∃ v, (do eqGuard op t x y u u'; binOp op t u u').run P w = .ok v w ∧ (ph Φ i).p w v) : Ob P Q ops L Φ w0 a0 i o :=
  ob_val hw (by unfold isA; rw [hop]) fun ms w hS => by
    obtain ⟨v, h1, h2⟩ := hr w _ _ (hx ms w hS) (hy ms w hS)
    exact ⟨v, by unfold execOp; simp only [hop]; rw [Sem.run_bind, h1]; rfl, h2⟩
theorem ob_un {op : UnOp} {t : TypeId} {x : Operand} {u v : Value} (hop : o.op = .unOp op t x) (hw : Wt ops L Φ w0 a0 o true) (hx : Ev L Φ w0 a0 o x (fun _ y => y = u)) (hr : ∀ w, (Op.unary op u).run P w = .ok v w) (hF : ∀ w, (ph Φ i).p w v) : Ob P Q ops L Φ w0 a0 i o :=
  ob_val hw (by unfold isA; rw [hop]) fun ms w hS => ⟨v, by unfold execOp; simp only [hop]; rw [hx ms w hS, Sem.run_bind, hr]; rfl, hF w⟩
theorem ob_extract {x : Operand} {k : Nat} {F : World → Value → Prop} (hop : o.op = .extract x k) (hw : Wt ops L Φ w0 a0 o true) (hx : Ev L Φ w0 a0 o x F) (hr : ∀ w u, F w u → ∃ v, (Instr.extract u k).run P w = .ok v w ∧ (ph Φ i).p w v) : Ob P Q ops L Φ w0 a0 i o :=
  ob_val hw (by unfold isA; rw [hop]) fun ms w hS => by
    obtain ⟨v, h1, h2⟩ := hr w _ (hx ms w hS)
    exact ⟨v, by unfold execOp; simp only [hop]; rw [Sem.run_bind, h1]; rfl, h2⟩
theorem ob_len {x : Operand} {at_ : Array TypeId} {F : World → Value → Prop} (hop : o.op = .call { callee := .builtin .len, args := #[x], argTypes := at_ }) (hw : Wt ops L Φ w0 a0 o true) (hx : Ev L Φ w0 a0 o x F) (hr : ∀ w u, F w u → ∃ v, (Builtin.len_ at_ o.type #[u]).run P w = .ok v w ∧ (ph Φ i).p w v) : Ob P Q ops L Φ w0 a0 i o :=
  ob_val hw (by unfold isA; rw [hop]) fun ms w hS => by
    obtain ⟨v, h1, h2⟩ := hr w _ (hx ms w hS)
    exact ⟨v, by unfold execOp; simp only [hop, resolve, invoke, builtin, Sem.run_bind, Sem.run_pure, Result.andThen_ok, List.map_toArray, List.map_cons, List.map_nil, h1], h2⟩
theorem ob_build2 {t : TypeId} {k l : Nat} {x y : Operand} {F G : World → Value → Prop} (hop : o.op = .build t #[(k, x), (l, y)]) (hw : Wt ops L Φ w0 a0 o true) (hx : Ev L Φ w0 a0 o x F) (hy : Ev L Φ w0 a0 o y G)
    (hr : ∀ w u u', F w u → G w u' → ∃ v, (Instr.build t #[(k, u), (l, u')]).run P w = .ok v w ∧ (ph Φ i).p w v) : Ob P Q ops L Φ w0 a0 i o :=
  ob_val hw (by unfold isA; rw [hop]) fun ms w hS => by
    obtain ⟨v, h1, h2⟩ := hr w _ _ (hx ms w hS) (hy ms w hS)
    exact ⟨v, by unfold execOp; simp only [hop, Sem.run_bind, List.map_toArray, List.map_cons, List.map_nil, h1]; rfl, h2⟩
theorem ob_build0 {t : TypeId} {v : Value} (hop : o.op = .build t #[]) (hw : Wt ops L Φ w0 a0 o true) (hr : ∀ w, (Instr.build t #[]).run P w = .ok v w) (hF : ∀ w, (ph Φ i).p w v) : Ob P Q ops L Φ w0 a0 i o :=
  ob_val hw (by unfold isA; rw [hop]) fun ms w hS => ⟨v, by unfold execOp; simp only [hop, Sem.run_bind, List.map_toArray, List.map_nil, hr]; rfl, hF w⟩
/-- The call ends with a value as told; what was there is as it was. -/
def RetPd (F : Pd) (w : World) (e : Ending) (w' : World) : Prop := ∃ v, e = .returned v ∧ F.p w' v ∧ Below w.heap.size w w'
theorem callee_enter {f : FuncId} {fn : Func} (hf : P.funcs[f]? = some fn) (hB : (!(fn.name == "runtime.NumGoroutine") && fn.body.isSome) = true) (args : Array Value) (w : World) : (callFunc f args).run P w = .ok (.enter f args) w := by
  simp only [Bool.and_eq_true, Bool.not_eq_true'] at hB
  have h1 : fn.name ≠ "runtime.NumGoroutine" := by simpa using hB.1
  obtain ⟨c, hc⟩ := Option.isSome_iff_exists.1 hB.2
  simp [callFunc, hf, h1, hc]
theorem ob_enter {f : FuncId} {fn : Func} (hf : P.funcs[f]? = some fn) (hB : (!(fn.name == "runtime.NumGoroutine") && fn.body.isSome) = true) (hw : Wt ops L Φ w0 a0 o true) (ha : isA o = false)
    (h : ∀ ms w, St L Φ w0 o ms w → ∃ args, (execOp (putM a0 L ms).eval o).run P w = (callFunc f args).run P w ∧ Calls P f args w (RetPd (ph Φ i) w)) : Ob P Q ops L Φ w0 a0 i o := by
  intro ms w hS
  rw [if_pos (hw ms w hS)]
  obtain ⟨args, h1, h2⟩ := h ms w hS
  unfold Oper.wp
  rw [h1, callee_enter hf hB, Oper.upon_enter]
  refine h2.mono fun e w' ⟨v, he, hv, hb⟩ => ?_
  subst he
  exact ⟨v, rfl, hb, hv, fun h => by rw [ha] at h; cases h⟩
theorem exec_call {ρ : Operand → Value} {f : FuncId} {xs : Array Operand} {at_ : Array TypeId} {w : World} (hop : o.op = .call { callee := .value (.func f), args := xs, argTypes := at_ }) (hρ : ρ (.func f) = .func (.func f) #[] #[]) {args : Array Value} (ha : xs.map ρ = args) : (execOp ρ o).run P w = (callFunc f args).run P w := by
  subst ha
  unfold execOp
  simp [hop, resolve, hρ, Deferred.ofValue, invoke]
theorem ob_call0 {f : FuncId} {fn : Func} {at_ : Array TypeId} (hop : o.op = .call { callee := .value (.func f), args := #[], argTypes := at_ }) (hf : P.funcs[f]? = some fn) (hB : (!(fn.name == "runtime.NumGoroutine") && fn.body.isSome) = true) (hw : Wt ops L Φ w0 a0 o true)
    (hc : ∀ w, Below w0.heap.size w0 w → Calls P f #[] w (RetPd (ph Φ i) w)) : Ob P Q ops L Φ w0 a0 i o :=
  ob_enter hf hB hw (by unfold isA; rw [hop]) fun ms w hS => ⟨#[], exec_call hop rfl (by simp), hc w hS.below⟩
theorem ob_call1 {f : FuncId} {fn : Func} {x : Operand} {at_ : Array TypeId} {F : World → Value → Prop} (hop : o.op = .call { callee := .value (.func f), args := #[x], argTypes := at_ }) (hf : P.funcs[f]? = some fn) (hB : (!(fn.name == "runtime.NumGoroutine") && fn.body.isSome) = true) (hw : Wt ops L Φ w0 a0 o true)
    (hx : Ev L Φ w0 a0 o x F) (hc : ∀ w u, Below w0.heap.size w0 w → F w u → Calls P f #[u] w (RetPd (ph Φ i) w)) : Ob P Q ops L Φ w0 a0 i o :=
  ob_enter hf hB hw (by unfold isA; rw [hop]) fun ms w hS => ⟨#[(putM a0 L ms).eval x], exec_call hop rfl (by simp), hc w _ hS.below (hx ms w hS)⟩
theorem ob_call2 {f : FuncId} {fn : Func} {x y : Operand} {at_ : Array TypeId} {F G : World → Value → Prop} (hop : o.op = .call { callee := .value (.func f), args := #[x, y], argTypes := at_ }) (hf : P.funcs[f]? = some fn) (hB : (!(fn.name == "runtime.NumGoroutine") && fn.body.isSome) = true) (hw : Wt ops L Φ w0 a0 o true)
    (hx : Ev L Φ w0 a0 o x F) (hy : Ev L Φ w0 a0 o y G) (hc : ∀ w u v, Below w0.heap.size w0 w → F w u → G w v → Calls P f #[u, v] w (RetPd (ph Φ i) w)) : Ob P Q ops L Φ w0 a0 i o :=
  ob_enter hf hB hw (by unfold isA; rw [hop]) fun ms w hS => ⟨#[(putM a0 L ms).eval x, (putM a0 L ms).eval y], exec_call hop rfl (by simp), hc w _ _ hS.below (hx ms w hS) (hy ms w hS)⟩
/-- A variable is made. -/
theorem ob_alloc {t : TypeId} {z : Value} (hop : o.op = .alloc t) (hg : o.guard = none) (hz : ∀ w, (zeroValue t).run P w = .ok z w) (hF : ∀ w g, w0.heap.size ≤ g → w.heap[g]? = some (.cells z.cells t (0, 0)) → (ph Φ i).p w (.pointer (some ⟨g, 0, none⟩))) : Ob P Q ops L Φ w0 a0 i o := by
  intro ms w hS
  rw [if_pos (wt_none (ops := ops) (L := L) (Φ := Φ) (w0 := w0) (a0 := a0) hg ms w hS)]
  have hr : (execOp (putM a0 L ms).eval o).run P w = .ok (.value (.pointer (some ⟨w.heap.size, 0, none⟩))) (w.alloc (.cells z.cells t)) := by
    unfold execOp
    simp [hop, Instr.alloc, Sem.run_bind, hz, newVar, newRow, go_sem]
  unfold Oper.wp
  rw [hr]
  exact ⟨_, rfl, below_alloc (Nat.le_refl _) _, hF _ _ hS.below.size (heap_alloc_new w _), fun _ => ⟨_, rfl, Nat.le_refl _, by simp⟩⟩
/-! What the operations themselves do. -/
theorem run_load1 {t : TypeId} {A : Addr} {v : Value} {d : TypeDesc} (hu : P.underlying t = some d) (hd : d.isRow = false) {w : World} (hc : w.cell? A = some v) : (Instr.loadAt t (.pointer (some A))).run P w = .ok v w := by
  have hagg : (isAgg t).run P w = .ok false w := by
    unfold isAgg
    rw [Sem.run_bind, run_underlying hu w]
    cases d <;> simp_all
  simp [Instr.loadAt, Instr.sureAddr, loadVar, Sem.run_bind, hagg, go_sem, hc]
theorem run_loadAll {t : TypeId} {g : Nat} {cs : List Value} {e : TypeId} {d : TypeDesc} {w : World} (hu : P.underlying t = some d) (hd : d.isRow = true) (hi : (P.info? t).map (·.size) = some cs.length) (hB : w.heap[g]? = some (.cells cs.toArray e (0, 0))) : (Instr.loadAt t (.pointer (some ⟨g, 0, none⟩))).run P w = .ok (.agg cs.toArray) w :=
  run_loadAt_mid w g 0 t cs d (fun j v hj => by rw [Nat.zero_add, cell_of_row w g j cs.toArray e (0, 0) hB]; simpa using hj) hu hd hi
theorem bin_neq_bool {t : TypeId} (x y : Operand) (a b : Bool) (hu : P.underlying t = some .bool) (w : World) : (do eqGuard .neq t x y (.bool a) (.bool b); binOp .neq t (.bool a) (.bool b)).run P w = .ok (.bool (!(a == b))) w := by
  have h : (eqGuard .neq t x y (.bool a) (.bool b)).run P w = .ok () w := by simp [eqGuard]
  rw [Sem.run_bind, h, Result.andThen_ok, run_neq_bool _ t a b hu]
theorem bin_eql_bool {t : TypeId} (x y : Operand) (a b : Bool) (hu : P.underlying t = some .bool) (w : World) : (do eqGuard .eql t x y (.bool a) (.bool b); binOp .eql t (.bool a) (.bool b)).run P w = .ok (.bool (a == b)) w := by
  have h : (eqGuard .eql t x y (.bool a) (.bool b)).run P w = .ok () w := by simp [eqGuard]
  rw [Sem.run_bind, h, Result.andThen_ok, run_eql_bool _ t a b hu]
theorem bin_eql_int {t : TypeId} {k : IntKind} (x y : Operand) (a b : Int) (w : World) : (do eqGuard .eql t x y (.int k a) (.int k b); binOp .eql t (.int k a) (.int k b)).run P w = .ok (.bool (a == b)) w := by
  have h : (eqGuard .eql t x y (.int k a) (.int k b)).run P w = .ok () w := by simp [eqGuard]
  rw [Sem.run_bind, h, Result.andThen_ok]
  simp [binOp, Op.intCmp, go_sem]
theorem bin_neq_int {t : TypeId} {k : IntKind} (x y : Operand) (a b : Int) (w : World) : (do eqGuard .neq t x y (.int k a) (.int k b); binOp .neq t (.int k a) (.int k b)).run P w = .ok (.bool (a != b)) w := by
  have h : (eqGuard .neq t x y (.int k a) (.int k b)).run P w = .ok () w := by simp [eqGuard]
  rw [Sem.run_bind, h, Result.andThen_ok]
  simp [binOp, Op.intCmp, go_sem]
theorem bin_lss_int {t : TypeId} {k : IntKind} (x y : Operand) (a b : Int) (w : World) : (do eqGuard .lss t x y (.int k a) (.int k b); binOp .lss t (.int k a) (.int k b)).run P w = .ok (.bool (decide (a < b))) w := by
  have h : (eqGuard .lss t x y (.int k a) (.int k b)).run P w = .ok () w := by simp [eqGuard]
  rw [Sem.run_bind, h, Result.andThen_ok]
  simp [binOp, Op.intCmp, go_sem]
theorem bin_gtr_int {t : TypeId} {k : IntKind} (x y : Operand) (a b : Int) (w : World) : (do eqGuard .gtr t x y (.int k a) (.int k b); binOp .gtr t (.int k a) (.int k b)).run P w = .ok (.bool (decide (b < a))) w := by
  have h : (eqGuard .gtr t x y (.int k a) (.int k b)).run P w = .ok () w := by simp [eqGuard]
  rw [Sem.run_bind, h, Result.andThen_ok]
  simp [binOp, Op.intCmp, go_sem]
theorem bin_eql_str {t : TypeId} (x y : Operand) (a b : ByteArray) (w : World) : (do eqGuard .eql t x y (.string a) (.string b); binOp .eql t (.string a) (.string b)).run P w = .ok (.bool (a.toList == b.toList)) w := by
  have h : (eqGuard .eql t x y (.string a) (.string b)).run P w = .ok () w := by simp [eqGuard]
  rw [Sem.run_bind, h, Result.andThen_ok]
  simp [binOp, Op.stringOp, go_sem]
theorem un_not (b : Bool) (w : World) : (Op.unary .not (.bool b)).run P w = .ok (.bool (!b)) w := by simp [Op.unary]
theorem un_neg (a : Int) (w : World) (h : -9223372036854775807 ≤ a ∧ a ≤ 9223372036854775807) : (Op.unary .neg (.int .i64 a)).run P w = .ok (.int .i64 (-a)) w := by
  have e : IntKind.i64.wrap (0 - a) = -a := by rw [IntKind.wrap_i64]; omega
  simp [Op.unary, Op.intArith, go_sem]
  simpa using e
theorem len_slice {t ty : TypeId} {e : TypeId} (hu : P.underlying t = some (.slice e)) (A : Option Addr) (n c : Nat) (w : World) : (Builtin.len_ #[t] ty #[.slice A n c]).run P w = .ok (.int .i64 (n : Int)) w := by
  simp [Builtin.len_, go_sem, run_underlying hu]
/-! Behind the flow: what stands in one row, one by one. -/
theorem any_done {fuel : Nat} {listed : Array Bool} {a : Act} {w : World} (hr : Region.ready .any ops listed = []) (h : Q .normal a w) : wpAny P .any ops Q fuel listed a w := wpAny_done hr h fuel
theorem any_one {fuel i : Nat} {listed : Array Bool} {a : Act} {w : World} (hr : Region.ready .any ops listed = [i]) (ho : ops[i]? = some o) (hg : o.guard = none) (h : o.wp P a w (wpAny P .any ops Q fuel (listed.setIfInBounds i true)) Q) : wpAny P .any ops Q (fuel + 1) listed a w := by
  refine wpAny_all (rs := [i]) hr (by simp) ?_
  intro j hj
  obtain rfl := List.mem_singleton.1 hj
  unfold wpOp
  rw [ho]
  simp only []
  rw [if_pos (by unfold Region.wanted; rw [hg])]
  exact .inl h
theorem wp_assign_ {a : Act} {w : World} {x : Operand} {K : Act → World → Prop} (v : Value) (hop : o.op = .assign x) (hv : a.eval x = v) {d : Tmp} (hd : o.dst = some d) (h : ∀ b, a.put (some d) v = b → K b w) : o.wp P a w K Q := by
  unfold Oper.wp execOp
  simp only [hop]
  rw [hv]
  have h2 := h _ rfl
  rw [← hd] at h2
  exact h2
/-- A variable of the call's own, written as a whole: it holds this now; all else is as it was. -/
theorem wp_store_ {a : Act} {w : World} {K : Act → World → Prop} {ty : TypeId} {x y : Operand} {g : Nat} {v : Value} {cells : List Value} {cs : Array Value} {e : TypeId} (hd : o.dst = none) (hop : o.op = .store ty x y)
    (hx : a.eval x = .pointer (some ⟨g, 0, none⟩)) (hy : a.eval y = v) (hv : v.cells = cells.toArray) (hB : w.heap[g]? = some (.cells cs e (0, 0))) (hs : cs.size = cells.length) (hi : (P.info? ty).map (·.size) = some cells.length) (h1 : ∀ c ∈ cells, c.oneCell' = true)
    (h : ∀ w', w.grownBy w' (some g) → w'.heap[g]? = some (.cells cells.toArray e (0, 0)) → K a w') : o.wp P a w K Q := by
  have hc : ∀ j, j < cells.length → (w.cell? ⟨g, 0 + j, none⟩).isSome = true := by
    intro j hj
    rw [Nat.zero_add, cell_of_row w g j cs e (0, 0) hB, Array.getElem?_eq_getElem (by omega)]; rfl
  have hf : ∀ j, j < cells.length → w.frozen? ⟨g, 0 + j, none⟩ = false := by
    intro j hj
    simp [World.frozen?, hB]
  have hrun := run_storeCells_cells (P := P) g 0 cells 0 w (fun j hj => by simpa using hc j hj) (fun j hj => by simpa using hf j hj) h1
  simp only [Nat.add_zero] at hrun
  have hst : (storeVar ty ⟨g, 0, none⟩ v).run P w = .ok () (w.setCells g 0 cells) := by
    cases hq : P.info? ty with
    | none => simp [hq] at hi
    | some inf =>
      have hsz : cells.length = inf.size := by simp [hq] at hi; omega
      simp [storeVar, sizeOf, typeInfo, hq, hv, hsz, hrun]
  unfold Oper.wp execOp
  simp only [hop, hx, hy, Instr.storeAt, Instr.sureAddr, Sem.run_bind, Sem.run_pure, Result.andThen_ok, hst, Oper.upon_skip, hd]
  refine h _ ?_ ?_
  · have key : ∀ (vs : List Value) (o : Nat) (w : World), w.grownBy (w.setCells g o vs) (some g) := by
      intro vs
      induction vs with
      | nil => intro o w; exact World.grownBy.refl _ _
      | cons v vs ih =>
        intro o w
        rw [World.setCells]
        have h0 : w.grownBy (w.setCell ⟨g, o, none⟩ v) (some g) := ⟨rfl, rfl, rfl, by simp [World.setCell], fun k _ hk => Below.heap_setCell w ⟨g, o, none⟩ v k (fun e => hk (by rw [e]))⟩
        exact grown_trans h0 (ih (o + 1) _)
    exact key cells 0 w
  · have key : ∀ (vs : List Value) (o : Nat) (w : World) (A : Array Value), w.heap[g]? = some (.cells A e (0, 0)) → o + vs.length ≤ A.size → (w.setCells g o vs).heap[g]? = some (.cells (A.toList.take o ++ vs ++ A.toList.drop (o + vs.length)).toArray e (0, 0)) := by
      intro vs
      induction vs with
      | nil => intro o w A hA _; rw [World.setCells]; simpa using hA
      | cons v vs ih =>
        intro o w A hA hl
        rw [World.setCells]
        simp only [List.length_cons] at hl
        have h2 : (w.setCell ⟨g, o, none⟩ v).heap[g]? = some (.cells (A.setIfInBounds o v) e (0, 0)) := by
          simp [World.setCell, Array.getElem?_modify, hA]
        rw [ih (o + 1) _ (A.setIfInBounds o v) h2 (by simp; omega)]
        have ho : o < A.toList.length := by simp; omega
        congr 2
        simp only [Array.toList_setIfInBounds]
        rw [List.take_add_one, List.getElem?_set_self ho, List.take_set_of_le (Nat.le_refl _), List.drop_set_of_lt (by omega)]
        simp [Nat.add_assoc, Nat.add_comm 1]
    have := key cells 0 w cs hB (by omega)
    rw [this]
    simp [List.drop_of_length_le, ← hs]
theorem any_assign {fuel i : Nat} {listed : Array Bool} {a : Act} {w : World} {x : Operand} (v : Value) (hr : Region.ready .any ops listed = [i]) (ho : ops[i]? = some o) (hg : o.guard = none) (hop : o.op = .assign x) (hv : a.eval x = v) {d : Tmp} (hd : o.dst = some d) (h : ∀ b, a.put (some d) v = b → wpAny P .any ops Q fuel (listed.setIfInBounds i true) b w) : wpAny P .any ops Q (fuel + 1) listed a w :=
  any_one hr ho hg (wp_assign_ v hop hv hd h)
theorem any_store {fuel i : Nat} {listed : Array Bool} {a : Act} {w : World} {ty : TypeId} {x y : Operand} {g : Nat} {v : Value} {cells : List Value} {cs : Array Value} {e : TypeId} (hr : Region.ready .any ops listed = [i]) (ho : ops[i]? = some o) (hg : o.guard = none) (hd : o.dst = none) (hop : o.op = .store ty x y)
    (hx : a.eval x = .pointer (some ⟨g, 0, none⟩)) (hy : a.eval y = v) (hv : v.cells = cells.toArray) (hB : w.heap[g]? = some (.cells cs e (0, 0))) (hs : cs.size = cells.length) (hi : (P.info? ty).map (·.size) = some cells.length) (h1 : ∀ c ∈ cells, c.oneCell' = true)
    (h : ∀ w', w.grownBy w' (some g) → w'.heap[g]? = some (.cells cells.toArray e (0, 0)) → wpAny P .any ops Q fuel (listed.setIfInBounds i true) a w') : wpAny P .any ops Q (fuel + 1) listed a w :=
  any_one hr ho hg (wp_store_ hd hop hx hy hv hB hs hi h1 h)
/-! The same in the order of the text. -/
theorem ops_one {i : Nat} {rest : List Nat} {a : Act} {w : World} (ho : ops[i]? = some o) (hg : o.guard = none) (h : o.wp P a w (wpOps P ops Q rest) Q) : wpOps P ops Q (i :: rest) a w := by
  rw [wpOps_cons]
  unfold wpOp
  rw [ho]
  simp only []
  rw [if_pos (by unfold Region.wanted; rw [hg])]
  exact .inl h
theorem ops_done {a : Act} {w : World} (h : Q .normal a w) : wpOps P ops Q [] a w := h
theorem ops_assign {i : Nat} {rest : List Nat} {a : Act} {w : World} {x : Operand} (v : Value) (ho : ops[i]? = some o) (hg : o.guard = none) (hop : o.op = .assign x) (hv : a.eval x = v) {d : Tmp} (hd : o.dst = some d) (h : ∀ b, a.put (some d) v = b → wpOps P ops Q rest b w) : wpOps P ops Q (i :: rest) a w :=
  ops_one ho hg (wp_assign_ v hop hv hd h)
theorem ops_store {i : Nat} {rest : List Nat} {a : Act} {w : World} {ty : TypeId} {x y : Operand} {g : Nat} {v : Value} {cells : List Value} {cs : Array Value} {e : TypeId} (ho : ops[i]? = some o) (hg : o.guard = none) (hd : o.dst = none) (hop : o.op = .store ty x y)
    (hx : a.eval x = .pointer (some ⟨g, 0, none⟩)) (hy : a.eval y = v) (hv : v.cells = cells.toArray) (hB : w.heap[g]? = some (.cells cs e (0, 0))) (hs : cs.size = cells.length) (hi : (P.info? ty).map (·.size) = some cells.length) (h1 : ∀ c ∈ cells, c.oneCell' = true)
    (h : ∀ w', w.grownBy w' (some g) → w'.heap[g]? = some (.cells cells.toArray e (0, 0)) → wpOps P ops Q rest a w') : wpOps P ops Q (i :: rest) a w :=
  ops_one ho hg (wp_store_ hd hop hx hy hv hB hs hi h1 h)
end
theorem one2 {x y : Value} (hx : x.oneCell' = true) (hy : y.oneCell' = true) : ∀ c ∈ [x, y], c.oneCell' = true := by
  intro c hc
  rcases List.mem_cons.1 hc with rfl | hc
  · exact hx
  · obtain rfl := List.mem_singleton.1 hc; exact hy
theorem no_ints2 {k : IntKind} {b : Bool} {A : Option Addr} {n m : Nat} : ∀ c ∈ (#[.bool b, .slice A n m] : Array Value), ∀ i, c ≠ .int k i := by
  intro c hc i
  simp at hc
  rcases hc with rfl | rfl <;> simp
/-- A list of numbers lies elsewhere than in a variable that holds none. -/
theorem off {w w' : World} {k : IntKind} {v : Value} {l : List Nat} {g : Nat} {e : TypeId} {cs : Array Value} (h : IsS w k v l) (hB : w.heap[g]? = some (.cells cs e (0, 0))) (hno : ∀ c ∈ cs, ∀ n, c ≠ .int k n) (hg : w.grownBy w' (some g)) : IsS w' k v l := by
  obtain ⟨A, c, rfl, h1, h2, h3⟩ := h
  refine ⟨A, c, rfl, h1, h2, ?_⟩
  intro i d hd
  obtain ⟨ad, rfl, hc⟩ := h3 i d hd
  refine ⟨ad, rfl, hg.cell hc ?_⟩
  intro e1
  injection e1 with e1
  have hcell : ∀ p : Addr, p.block = g → w.cell? p = some (.int k (d : Int)) → False := by
    intro p hp hpc
    unfold World.cell? at hpc
    rw [hp, hB] at hpc
    simp only [] at hpc
    split at hpc
    · cases hpc
    · exact hno _ (Array.mem_of_getElem? hpc) _ rfl
  exact hcell _ e1 hc
end Go.Proofs.YtpcllhdfalebbaaGreatDoor.flow
namespace Go.Proofs.YtpcllhdfalebbaaGreatDoor.whl
open Go.RowKit Go.Proofs.YtpcllhdfalebbaaGreatDoor.num Go.Proofs.YtpcllhdfalebbaaGreatDoor.mem Go.Proofs.YtpcllhdfalebbaaGreatDoor.nat Go.Proofs.YtpcllhdfalebbaaGreatDoor.txt Go.Proofs.YtpcllhdfalebbaaGreatDoor.str
set_option linter.unusedVariables false
/-- Is the number below 0? -/
def ngB (z : Int) : Bool := decide (z < 0)
theorem ngB_of_neg {z : Int} (h : z < 0) : ngB z = true := decide_eq_true h
theorem ngB_of_pos {z : Int} (h : ¬ z < 0) : ngB z = false := decide_eq_false h
theorem ngB_true {z : Int} (h : ngB z = true) : z < 0 := of_decide_eq_true h
theorem ngB_false {z : Int} (h : ngB z = false) : ¬ z < 0 := of_decide_eq_false h
theorem ngB_zero : ngB 0 = false := rfl
/-- The number of this sign and size. -/
def sg (b : Bool) (x : Nat) : Int := if b = true then -(x : Int) else x
theorem sg_true (x : Nat) : sg true x = -(x : Int) := rfl
theorem sg_false (x : Nat) : sg false x = (x : Int) := rfl
theorem sg_abs (b : Bool) (x : Nat) : (sg b x).natAbs = x := by cases b <;> simp [sg]
theorem sg_self (z : Int) : sg (ngB z) z.natAbs = z := by
  rcases h : ngB z with _ | _
  · have := ngB_false h; rw [sg_false]; omega
  · have := ngB_true h; rw [sg_true]; omega
theorem ngB_sg_pos {b : Bool} {x : Nat} (h : 0 < x) : ngB (sg b x) = b := by
  cases b
  · exact ngB_of_pos (by rw [sg_false]; omega)
  · exact ngB_of_neg (by rw [sg_true]; omega)
theorem ngB_sg_zero (b : Bool) : ngB (sg b 0) = false := by cases b <;> rfl
/-- The order of two whole numbers, as Go tells it. -/
def ordz (x y : Int) : Int := if x < y then -1 else if y < x then 1 else 0
theorem ordz_lt {x y : Int} (h : x < y) : ordz x y = -1 := if_pos h
theorem ordz_gt {x y : Int} (h : y < x) : ordz x y = 1 := by unfold ordz; rw [if_neg (by omega), if_pos h]
theorem ordz_eq {x y : Int} (h : x = y) : ordz x y = 0 := by unfold ordz; rw [if_neg (by omega), if_neg (by omega)]
theorem ordz_bd (x y : Int) : -1 ≤ ordz x y ∧ ordz x y ≤ 1 := by unfold ordz; (repeat' split) <;> omega
/-- How many limbs a whole number has. -/
def lenZ (z : Int) : Nat := (digs 4294967296 z.natAbs).length
theorem lenZ_mono {x y : Int} (h : x.natAbs ≤ y.natAbs) : lenZ x ≤ lenZ y := digs_len_mono (by omega) h
theorem lenZ_mul (x y : Int) : lenZ (x * y) ≤ lenZ x + lenZ y := by
  unfold lenZ; rw [Int.natAbs_mul]; exact mul_len _ _
theorem lenZ_dec (x : Int) : (digs 10000 x.natAbs).length ≤ 3 * lenZ x := dec_le _
/-- The value is this whole number: its sign, and its limbs in memory. -/
def IsZ (w : World) (v : Value) (z : Int) : Prop := ∃ u, v = .agg #[.bool (ngB z), u] ∧ IsS w .u64 u (digs 4294967296 z.natAbs)
/-- The document's way: four decimal digits a place. -/
def IsR (w : World) (v : Value) (z : Int) : Prop := ∃ u, v = .agg #[.bool (ngB z), u] ∧ IsS w .i64 u (digs 10000 z.natAbs)
/-- Its limbs lie in blocks from B on. -/
def FreshZ (B : Nat) (v : Value) : Prop := ∀ n u, v = .agg #[.bool n, u] → Fresh B u
theorem IsZ.below {w w' : World} {v : Value} {z : Int} (h : IsZ w v z) (hb : Below w.heap.size w w') : IsZ w' v z := by
  obtain ⟨u, e, h1⟩ := h
  exact ⟨u, e, h1.below hb⟩
theorem IsR.below {w w' : World} {v : Value} {z : Int} (h : IsR w v z) (hb : Below w.heap.size w w') : IsR w' v z := by
  obtain ⟨u, e, h1⟩ := h
  exact ⟨u, e, h1.below hb⟩
theorem IsZ.drew {w : World} {v : Value} {z : Int} (h : IsZ w v z) : IsZ w.drew v z := by
  obtain ⟨u, e, h1⟩ := h
  exact ⟨u, e, h1.drew⟩
theorem IsR.drew {w : World} {v : Value} {z : Int} (h : IsR w v z) : IsR w.drew v z := by
  obtain ⟨u, e, h1⟩ := h
  exact ⟨u, e, h1.drew⟩
theorem FreshZ.mono {B B' : Nat} {v : Value} (h : FreshZ B v) (hb : B' ≤ B) : FreshZ B' v := fun n u e => (h n u e).mono hb
theorem isZ_mk {w : World} {u : Value} {z : Int} {x : Nat} {b : Bool} (h : IsS w .u64 u (digs 4294967296 x)) (hx : z.natAbs = x) (hb : b = ngB z) : IsZ w (.agg #[.bool b, u]) z := by
  subst hx; subst hb; exact ⟨u, rfl, h⟩
theorem isR_mk {w : World} {u : Value} {z : Int} {x : Nat} {b : Bool} (h : IsS w .i64 u (digs 10000 x)) (hx : z.natAbs = x) (hb : b = ngB z) : IsR w (.agg #[.bool b, u]) z := by
  subst hx; subst hb; exact ⟨u, rfl, h⟩
theorem freshZ_mk {B : Nat} {b : Bool} {u : Value} (h : Fresh B u) : FreshZ B (.agg #[.bool b, u]) := by
  intro n u' e
  injection e with e
  have e1 := congrArg (fun a => a[1]?) e
  simp at e1
  subst e1; exact h
/-- The call ends with this whole number in new memory; what was there is as it was. -/
def RetZ (z : Int) (w : World) (e : Ending) (w' : World) : Prop := ∃ v, e = .returned v ∧ IsZ w' v z ∧ FreshZ w.heap.size v ∧ Below w.heap.size w w'
/-- The same, of the document's numbers. -/
def RetR (z : Int) (w : World) (e : Ending) (w' : World) : Prop := ∃ v, e = .returned v ∧ IsR w' v z ∧ Below w.heap.size w w'
/-- A whole number, and an error's number. -/
def RetZE (z : Int) (n : Int) (w : World) (e : Ending) (w' : World) : Prop := ∃ v, e = .returned (.tuple #[v, .int .i64 n]) ∧ IsZ w' v z ∧ FreshZ w.heap.size v ∧ Below w.heap.size w w'
/-- Two whole numbers, and an error's number. -/
def RetZZE (x y : Int) (n : Int) (w : World) (e : Ending) (w' : World) : Prop := ∃ v u, e = .returned (.tuple #[v, u, .int .i64 n]) ∧ IsZ w' v x ∧ IsZ w' u y ∧ FreshZ w.heap.size v ∧ FreshZ w.heap.size u ∧ Below w.heap.size w w'
/-- Two of the document's. -/
def RetRR (x y : Int) (w : World) (e : Ending) (w' : World) : Prop := ∃ v u, e = .returned (.tuple #[v, u]) ∧ IsR w' v x ∧ IsR w' u y ∧ Below w.heap.size w w'
/-- Block g is just these cells, none frozen. -/
def Blk (w : World) (g : Nat) (t : TypeId) (cs : Array Value) : Prop := w.heap[g]? = some (.cells cs t (0, 0))
theorem Blk.lt {w : World} {g : Nat} {t : TypeId} {cs : Array Value} (h : Blk w g t cs) : g < w.heap.size := (Array.getElem?_eq_some_iff.1 h).1
theorem Blk.cell {w : World} {g : Nat} {t : TypeId} {cs : Array Value} (h : Blk w g t cs) (i : Nat) : w.cell? ⟨g, i, none⟩ = cs[i]? := cell_of_row w g i cs t (0, 0) h
theorem Blk.frozen {w : World} {g : Nat} {t : TypeId} {cs : Array Value} (h : Blk w g t cs) (i : Nat) : w.frozen? ⟨g, i, none⟩ = false := by
  unfold Blk at h
  simp [World.frozen?, h]
theorem Blk.new (w : World) (t : TypeId) (cs : Array Value) : Blk (w.alloc (.cells cs t)) w.heap.size t cs := heap_alloc_new w _
theorem Blk.alloc {w : World} {g : Nat} {t : TypeId} {cs : Array Value} (h : Blk w g t cs) (o : Obj) : Blk (w.alloc o) g t cs := (Below.heap_alloc w o g h.lt).trans h
theorem Blk.drew {w : World} {g : Nat} {t : TypeId} {cs : Array Value} (h : Blk w g t cs) : Blk w.drew g t cs := h
theorem Blk.below {w w' : World} {g : Nat} {t : TypeId} {cs : Array Value} (h : Blk w g t cs) (hb : Below w.heap.size w w') : Blk w' g t cs := (hb.block g h.lt).trans h
theorem Blk.grown {w w' : World} {g g' : Nat} {t : TypeId} {cs : Array Value} (h : Blk w g t cs) (hb : w.grownBy w' (some g')) (hne : g ≠ g') : Blk w' g t cs := (hb.block g h.lt (fun e => hne (by injection e))).trans h
/-- The two cells of a whole number's variable: they read so, and may be written. -/
theorem Blk.two {w : World} {g : Nat} {t : TypeId} {x y : Value} (h : Blk w g t #[x, y]) : w.cell? ⟨g, 0, none⟩ = some x ∧ w.cell? ⟨g, 1, none⟩ = some y ∧ w.frozen? ⟨g, 0, none⟩ = false ∧ w.frozen? ⟨g, 1, none⟩ = false :=
  ⟨h.cell 0, h.cell 1, h.frozen 0, h.frozen 1⟩
/-- The end of a call whose result is a whole number in a variable of its own. -/
theorem endZ {w w2 : World} {b : Bool} {u x y : Value} {z : Int} {g B : Nat} (hb : Below w.heap.size w w2) (hg : w.heap.size ≤ g) (hgB : g < B) (hu : IsS w2 .u64 u (digs 4294967296 z.natAbs)) (hf : Fresh B u) (hz : b = ngB z) :
    RetZ z w (.returned (.agg #[.bool b, u])) ((w2.setCell ⟨g, 0, none⟩ x).setCell ⟨g, 1, none⟩ y) := by
  subst hz
  exact ⟨_, rfl, ⟨u, rfl, (hu.setCell hf hgB _).setCell hf hgB _⟩, freshZ_mk (hf.mono (by omega)), (hb.setCell hg _).setCell hg _⟩
open Go.Proofs.YtpcllhdfalebbaaGreatDoor.flow
/-- A whole number, in memory from block B on. -/
def pz (z : Int) (B : Nat) : Pd := ⟨fun w v => IsZ w v z ∧ FreshZ B v, fun h hb => ⟨h.1.below hb, h.2⟩⟩
def pr (z : Int) : Pd := ⟨fun w v => IsR w v z, fun h hb => h.below hb⟩
/-- A whole number, wherever it lies. -/
def pi (z : Int) : Pd := ⟨fun w v => IsZ w v z, fun h hb => h.below hb⟩
/-- A list of numbers, in memory from block B on. -/
def ps (k : IntKind) (l : List Nat) (B : Nat) : Pd := ⟨fun w v => IsS w k v l ∧ Fresh B v, fun h hb => ⟨h.1.below hb, h.2⟩⟩
theorem RetS.pd {k : IntKind} {l : List Nat} {w : World} {e : Ending} {w' : World} {B : Nat} (h : RetS k l w e w') (hB : B ≤ w.heap.size) : RetPd (ps k l B) w e w' := by
  obtain ⟨v, rfl, h1, h2, h3⟩ := h
  exact ⟨v, rfl, ⟨h1, h2.mono hB⟩, h3⟩
theorem RetZ.pd {z : Int} {w : World} {e : Ending} {w' : World} {B : Nat} (h : RetZ z w e w') (hB : B ≤ w.heap.size) : RetPd (pz z B) w e w' := by
  obtain ⟨v, rfl, h1, h2, h3⟩ := h
  exact ⟨v, rfl, ⟨h1, h2.mono hB⟩, h3⟩
theorem RetR.pd {z : Int} {w : World} {e : Ending} {w' : World} (h : RetR z w e w') : RetPd (pr z) w e w' := h
/-- A pair: numbers, and an error's number; three: numbers, numbers, an error's number. -/
def pt (k : IntKind) (l : List Nat) (n : Int) (B : Nat) : Pd := ⟨fun w t => ∃ v, t = .tuple #[v, .int .i64 n] ∧ IsS w k v l ∧ Fresh B v, fun h hb => by obtain ⟨v, e, h1, h2⟩ := h; exact ⟨v, e, h1.below hb, h2⟩⟩
def pt3 (k : IntKind) (l m : List Nat) (n : Int) (B : Nat) : Pd := ⟨fun w t => ∃ v u, t = .tuple #[v, u, .int .i64 n] ∧ IsS w k v l ∧ IsS w k u m ∧ Fresh B v ∧ Fresh B u, fun h hb => by obtain ⟨v, u, e, h1, h2, h3⟩ := h; exact ⟨v, u, e, h1.below hb, h2.below hb, h3⟩⟩
def pt2 (k : IntKind) (l m : List Nat) (B : Nat) : Pd := ⟨fun w t => ∃ v u, t = .tuple #[v, u] ∧ IsS w k v l ∧ IsS w k u m ∧ Fresh B v ∧ Fresh B u, fun h hb => by obtain ⟨v, u, e, h1, h2, h3⟩ := h; exact ⟨v, u, e, h1.below hb, h2.below hb, h3⟩⟩
theorem RetSI.pd {k : IntKind} {l : List Nat} {n : Int} {w : World} {e : Ending} {w' : World} {B : Nat} (h : RetSI k l n w e w') (hB : B ≤ w.heap.size) : RetPd (pt k l n B) w e w' := by
  obtain ⟨v, rfl, h1, h2, h3⟩ := h
  exact ⟨_, rfl, ⟨v, rfl, h1, h2.mono hB⟩, h3⟩
theorem RetSSE.pd {l m : List Nat} {n : Int} {w : World} {e : Ending} {w' : World} {B : Nat} (h : RetSSE l m n w e w') (hB : B ≤ w.heap.size) : RetPd (pt3 .u64 l m n B) w e w' := by
  obtain ⟨v, u, rfl, h1, h2, h3, h4, h5⟩ := h
  exact ⟨_, rfl, ⟨v, u, rfl, h1, h2, h3.mono hB, h4.mono hB⟩, h5⟩
theorem RetSS.pd {k : IntKind} {l m : List Nat} {w : World} {e : Ending} {w' : World} {B : Nat} (h : RetSS k l m w e w') (hB : B ≤ w.heap.size) : RetPd (pt2 k l m B) w e w' := by
  obtain ⟨v, u, rfl, h1, h2, h3, h4, h5⟩ := h
  exact ⟨_, rfl, ⟨v, u, rfl, h1, h2, h3.mono hB, h4.mono hB⟩, h5⟩
theorem RetV.pd {u : Value} {w : World} {e : Ending} {w' : World} (h : RetV u w e w') : RetPd (Pd.eq u) w e w' := ⟨u, h.1, rfl, h.2⟩
end Go.Proofs.YtpcllhdfalebbaaGreatDoor.whl
namespace Go.Proofs.YtpcllhdfalebbaaGreatDoor.rat
open Go.RowKit Go.Proofs.YtpcllhdfalebbaaGreatDoor.num Go.Proofs.YtpcllhdfalebbaaGreatDoor.mem Go.Proofs.YtpcllhdfalebbaaGreatDoor.nat Go.Proofs.YtpcllhdfalebbaaGreatDoor.txt Go.Proofs.YtpcllhdfalebbaaGreatDoor.str Go.Proofs.YtpcllhdfalebbaaGreatDoor.flow Go.Proofs.YtpcllhdfalebbaaGreatDoor.whl
set_option linter.unusedVariables false
theorem div_parts (z : Int) (g : Nat) (hg : 0 < g) (h : g ∣ z.natAbs) : (z / (g : Int)).natAbs = z.natAbs / g ∧ (z / (g : Int) < 0 ↔ z < 0) := by
  obtain ⟨k, hk⟩ : (g : Int) ∣ z := Int.dvd_natAbs.1 (Int.natCast_dvd_natCast.2 h)
  have hg2 : (g : Int) ≠ 0 := by omega
  rw [hk, Int.mul_ediv_cancel_left _ hg2, Int.natAbs_mul, Int.natAbs_natCast, Nat.mul_div_cancel_left _ hg]
  refine ⟨rfl, ?_⟩
  have hg3 : (0 : Int) < g := by omega
  constructor
  · intro hk0
    exact Int.mul_neg_of_pos_of_neg hg3 hk0
  · intro hk0
    rcases (by omega : k < 0 ∨ 0 ≤ k) with h1 | h1
    · exact h1
    · have := Int.mul_nonneg (Int.le_of_lt hg3) h1
      omega
/-- In lowest terms. -/
theorem mk_num (z : Int) {d : Nat} (hd : d ≠ 0) : (mkRat z d).num.natAbs = z.natAbs / z.natAbs.gcd d := by
  rw [Rat.num_mkRat, if_neg hd, Nat.gcd_comm]
  exact (div_parts z _ (Nat.gcd_pos_of_pos_right _ (by omega)) (Nat.gcd_dvd_left _ _)).1
theorem mk_neg (z : Int) {d : Nat} (hd : d ≠ 0) : ngB (mkRat z d).num = ngB z := by
  rw [Rat.num_mkRat, if_neg hd, Nat.gcd_comm]
  unfold ngB
  rw [decide_eq_decide]
  exact (div_parts z _ (Nat.gcd_pos_of_pos_right _ (by omega)) (Nat.gcd_dvd_left _ _)).2
theorem mk_den (z : Int) {d : Nat} (hd : d ≠ 0) : (mkRat z d).den = d / z.natAbs.gcd d := by
  rw [Rat.den_mkRat, if_neg hd, Nat.gcd_comm]
theorem den_pos (q : Rat) : 0 < q.den := Nat.pos_of_ne_zero q.den_nz
theorem neg_parts (q : Rat) : (-q).num = -q.num ∧ (-q).den = q.den := ⟨Rat.neg_num q, Rat.neg_den q⟩
theorem num_lt {q : Rat} : q.num < 0 ↔ q < 0 := by
  rw [← Rat.not_le, ← Rat.num_nonneg]; omega
theorem divInt_lt {n d : Int} (h : d < 0) : Rat.divInt n d = mkRat (-n) d.natAbs := by
  rw [← Rat.neg_divInt_neg, show -d = ((d.natAbs : Nat) : Int) by omega, Rat.divInt_ofNat]
theorem divInt_gt {n d : Int} (h : 0 < d) : Rat.divInt n d = mkRat n d.natAbs := by
  conv => lhs; rw [show d = ((d.natAbs : Nat) : Int) by omega, Rat.divInt_ofNat]
/-- Sizes: limbs of both parts. -/
def lenQ (q : Rat) (m : Nat) : Prop := lenZ q.num ≤ m ∧ (digs 4294967296 q.den).length ≤ m
theorem lenQ.mono {q : Rat} {m n : Nat} (h : lenQ q m) (hn : m ≤ n) : lenQ q n := ⟨Nat.le_trans h.1 hn, Nat.le_trans h.2 hn⟩
theorem lenQ_mk {z : Int} {d m : Nat} (hd : d ≠ 0) (hz : lenZ z ≤ m) (hl : (digs 4294967296 d).length ≤ m) : lenQ (mkRat z d) m := by
  refine ⟨Nat.le_trans (lenZ_mono ?_) hz, Nat.le_trans (digs_len_mono (by omega) ?_) hl⟩
  · rw [mk_num z hd]; exact Nat.div_le_self _ _
  · rw [mk_den z hd]; exact Nat.div_le_self _ _
theorem lenD (d : Nat) : lenZ (d : Int) = (digs 4294967296 d).length := by unfold lenZ; rw [Int.natAbs_natCast]
theorem lenQ_mul {x y : Rat} {m n : Nat} (h : lenQ x m) (h' : lenQ y n) : lenQ (x * y) (m + n) := by
  rw [Rat.mul_def']
  have e1 := lenZ_mul x.num y.num
  have e4 := lenZ_mul x.den y.den
  have h1 := h.1; have h2 := h.2; have h3 := h'.1; have h4 := h'.2
  rw [lenD, lenD, ← Int.natCast_mul, lenD] at e4
  exact lenQ_mk (Nat.mul_ne_zero x.den_nz y.den_nz) (by omega) (by omega)
/-- The value reads as this fraction: sign and size of its upper part, its lower part; limbs of the program. -/
def IsQ (w : World) (v : Value) (q : Rat) : Prop := ∃ u t, v = .agg #[.bool (ngB q.num), u, t] ∧ IsS w .u64 u (digs 4294967296 q.num.natAbs) ∧ IsS w .u64 t (digs 4294967296 q.den)
/-- The same of the document's own fractions. -/
def IsP (w : World) (v : Value) (q : Rat) : Prop := ∃ u t, v = .agg #[.bool (ngB q.num), u, t] ∧ IsS w .i64 u (digs 10000 q.num.natAbs) ∧ IsS w .i64 t (digs 10000 q.den)
def FreshQ (B : Nat) (v : Value) : Prop := ∀ n u t, v = .agg #[.bool n, u, t] → Fresh B u ∧ Fresh B t
theorem IsQ.below {w w' : World} {v : Value} {q : Rat} (h : IsQ w v q) (hb : Below w.heap.size w w') : IsQ w' v q := by
  obtain ⟨u, t, e, h1, h2⟩ := h
  exact ⟨u, t, e, h1.below hb, h2.below hb⟩
theorem IsP.below {w w' : World} {v : Value} {q : Rat} (h : IsP w v q) (hb : Below w.heap.size w w') : IsP w' v q := by
  obtain ⟨u, t, e, h1, h2⟩ := h
  exact ⟨u, t, e, h1.below hb, h2.below hb⟩
theorem isQ_mk {w : World} {b : Bool} {u t : Value} {x d : Nat} {q : Rat} (h : IsS w .u64 u (digs 4294967296 x)) (k : IsS w .u64 t (digs 4294967296 d)) (hb : b = ngB q.num) (hx : q.num.natAbs = x) (hd : q.den = d) : IsQ w (.agg #[.bool b, u, t]) q := by
  subst hb; subst hx; subst hd; exact ⟨u, t, rfl, h, k⟩
theorem isP_mk {w : World} {b : Bool} {u t : Value} {x d : Nat} {q : Rat} (h : IsS w .i64 u (digs 10000 x)) (k : IsS w .i64 t (digs 10000 d)) (hb : b = ngB q.num) (hx : q.num.natAbs = x) (hd : q.den = d) : IsP w (.agg #[.bool b, u, t]) q := by
  subst hb; subst hx; subst hd; exact ⟨u, t, rfl, h, k⟩
end Go.Proofs.YtpcllhdfalebbaaGreatDoor.rat
namespace Go.Proofs.YtpcllhdfalebbaaGreatDoor.whl
open Go.RowKit Go.Proofs.YtpcllhdfalebbaaGreatDoor.num Go.Proofs.YtpcllhdfalebbaaGreatDoor.mem Go.Proofs.YtpcllhdfalebbaaGreatDoor.nat Go.Proofs.YtpcllhdfalebbaaGreatDoor.txt Go.Proofs.YtpcllhdfalebbaaGreatDoor.str
set_option linter.unusedVariables false
/-- A sign and a size put together, in the size's own memory. -/
def RetSg (b : Bool) (x : Nat) (u : Value) (w : World) (e : Ending) (w' : World) : Prop := e = .returned (.agg #[.bool (ngB (sg b x)), u]) ∧ Below w.heap.size w w'
theorem ret_agg {b c : Bool} {u : Value} (h : b = c) : Ending.returned (.agg #[.bool b, u]) = .returned (.agg #[.bool c, u]) := by rw [h]
set_option maxHeartbeats 400000 in
theorem signed_any (b : Bool) (u : Value) (x : Nat) (w : World) (h : IsS w .u64 u (digs 4294967296 x)) :
    Calls Tryz.prog 70 #[.bool b, u] w (RetSg b x u w) := by
  obtain ⟨A, c, rfl, _⟩ := h
  by_cases hx : 0 < x
  · have hn : 0 < (digs 4294967296 x).length := len_pos hx
    have HE := Lib.hid (ngB_sg_pos (b := b) hx)
    generalize (digs 4294967296 x).length = n at hn ⊢
    cases b
    · go_enter Tryz.func70, Tryz.ntmps70
      go_wp2
      exact bodyPost_ret (v := .agg #[.bool false, .slice A n c]) (by simp [results, Tryz.results70, go_sem]) rfl ⟨ret_agg HE.out.symm, below_alloc (Nat.le_refl _) _⟩
    · go_enter Tryz.func70, Tryz.ntmps70
      go_wp2
      exact bodyPost_ret (v := .agg #[.bool true, .slice A n c]) (by simp [results, Tryz.results70, go_sem]) rfl ⟨ret_agg HE.out.symm, below_alloc (Nat.le_refl _) _⟩
  · obtain rfl : x = 0 := by omega
    have HE := Lib.hid (ngB_sg_zero b)
    rw [digs_zero]
    cases b
    all_goals
      go_enter Tryz.func70, Tryz.ntmps70
      go_wp2
      exact bodyPost_ret (v := .agg #[.bool false, .slice A 0 c]) (by simp [results, Tryz.results70, go_sem]) rfl ⟨ret_agg HE.out.symm, below_alloc (Nat.le_refl _) _⟩
set_option maxHeartbeats 400000 in
theorem rmade_any (b : Bool) (u : Value) (x : Nat) (w : World) (h : IsS w .i64 u (digs 10000 x)) :
    Calls Tryz.prog 75 #[.bool b, u] w (RetSg b x u w) := by
  obtain ⟨A, c, rfl, _⟩ := h
  by_cases hx : 0 < x
  · have hn : 0 < (digs 10000 x).length := rlenp hx
    have HE := Lib.hid (ngB_sg_pos (b := b) hx)
    generalize (digs 10000 x).length = n at hn ⊢
    cases b
    · go_enter Tryz.func75, Tryz.ntmps75
      go_wp2
      exact bodyPost_ret (v := .agg #[.bool false, .slice A n c]) (by simp [results, Tryz.results75, go_sem]) rfl ⟨ret_agg HE.out.symm, below_alloc (Nat.le_refl _) _⟩
    · go_enter Tryz.func75, Tryz.ntmps75
      go_wp2
      exact bodyPost_ret (v := .agg #[.bool true, .slice A n c]) (by simp [results, Tryz.results75, go_sem]) rfl ⟨ret_agg HE.out.symm, below_alloc (Nat.le_refl _) _⟩
  · obtain rfl : x = 0 := by omega
    have HE := Lib.hid (ngB_sg_zero b)
    rw [digs_zero]
    cases b
    all_goals
      go_enter Tryz.func75, Tryz.ntmps75
      go_wp2
      exact bodyPost_ret (v := .agg #[.bool false, .slice A 0 c]) (by simp [results, Tryz.results75, go_sem]) rfl ⟨ret_agg HE.out.symm, below_alloc (Nat.le_refl _) _⟩
set_option maxHeartbeats 400000 in
theorem sign_any (v : Value) (z t : Int) (w : World) (h : IsZ w v z) (ht : t = ordz z 0) :
    Calls Tryz.prog 67 #[v] w (RetV (.int .i64 t) w) := by
  obtain ⟨u, rfl, A, c, rfl, _⟩ := h
  rcases Int.lt_trichotomy z 0 with h | h | h
  · have h1 : t = -1 := by rw [ht]; exact ordz_lt h
    have hn : 0 < (digs 4294967296 z.natAbs).length := len_pos (by omega)
    rw [ngB_of_neg h]
    subst h1
    clear ht
    generalize (digs 4294967296 z.natAbs).length = n at hn ⊢
    have hn1 : ((n : Int) == 0) = false := by rw [beq_eq_false_iff_ne]; omega
    go_enter Tryz.func67, Tryz.ntmps67
    go_wp2
    go_ret
    exact ⟨rfl, below_alloc (Nat.le_refl _) _⟩
  · have h1 : t = 0 := by rw [ht]; exact ordz_eq h
    subst h; subst h1
    clear ht
    rw [ngB_zero, Int.natAbs_zero, digs_zero]
    go_enter Tryz.func67, Tryz.ntmps67
    go_wp2
    go_ret
    exact ⟨rfl, below_alloc (Nat.le_refl _) _⟩
  · have h1 : t = 1 := by rw [ht]; exact ordz_gt h
    have hn : 0 < (digs 4294967296 z.natAbs).length := len_pos (by omega)
    rw [ngB_of_pos (by omega)]
    subst h1
    clear ht
    generalize (digs 4294967296 z.natAbs).length = n at hn ⊢
    have hn1 : ((n : Int) == 0) = false := by rw [beq_eq_false_iff_ne]; omega
    go_enter Tryz.func67, Tryz.ntmps67
    go_wp2
    go_ret
    exact ⟨rfl, below_alloc (Nat.le_refl _) _⟩
set_option maxHeartbeats 400000 in
theorem made_any (b : Bool) (v : Value) (x : Nat) (z : Int) (w : World) (h : IsS w .u64 v (digs 4294967296 x)) (hl : (digs 4294967296 x).length ≤ 1000000) (hz : z = sg b x) :
    Calls Tryz.prog 27 #[.bool b, v] w (RetZ z w) := by
  have HZ := Lib.hid hz
  clear hz
  go_enter Tryz.func27, Tryz.ntmps27
  go_wp2_with fail
  refine (clone_any _ _ _ (h.below (below_alloc (Nat.le_refl _) _)) hl).mono ?_
  rintro e w1 ⟨v1, rfl, k1, f1, b1⟩
  obtain ⟨A1, C1, rfl, _⟩ := id k1
  go_wp2_with fail
  refine (signed_any b _ x _ k1).mono ?_
  rintro e w2 ⟨rfl, b2⟩
  have B2 := ((Blk.new w 25 #[.bool false, .slice none 0 0]).below b1).below b2
  obtain ⟨c0, c1, g0, g1⟩ := B2.two
  go_wp2
  exact bodyPost_ret (v := .agg #[.bool (ngB (sg b x)), .slice A1 (digs 4294967296 x).length C1]) (by simp [results, Tryz.results27, go_sem, c0, c1]) rfl (by
    rw [HZ.out]
    exact endZ (((below_alloc (Nat.le_refl _) _).trans (b1.mono (by simp))).trans (b2.mono (by have := b1.size; simp at this; omega))) (Nat.le_refl _) (by simp) (by rw [sg_abs]; exact k1.below b2) f1 rfl)
end Go.Proofs.YtpcllhdfalebbaaGreatDoor.whl
namespace Go.Proofs.YtpcllhdfalebbaaGreatDoor.whl
open Go.RowKit Go.Proofs.YtpcllhdfalebbaaGreatDoor.num Go.Proofs.YtpcllhdfalebbaaGreatDoor.mem Go.Proofs.YtpcllhdfalebbaaGreatDoor.nat Go.Proofs.YtpcllhdfalebbaaGreatDoor.txt Go.Proofs.YtpcllhdfalebbaaGreatDoor.str Go.Proofs.YtpcllhdfalebbaaGreatDoor.flow
set_option linter.unusedVariables false
theorem sg_mul (x y : Int) : sg (!(ngB x == ngB y)) (x.natAbs * y.natAbs) = x * y := by
  have e : ∀ z : Int, z = sg (ngB z) z.natAbs := fun z => (sg_self z).symm
  conv => rhs; rw [e x, e y]
  cases ngB x <;> cases ngB y <;> simp [sg, Int.neg_mul, Int.mul_neg]
/-- Variables of the call's own: two parameters, and the result. -/
theorem vars3 (w : World) (t1 t2 t3 : TypeId) (x y z : Array Value) : ∃ wx, ((w.alloc (.cells x t1)).alloc (.cells y t2)).alloc (.cells z t3) = wx ∧ Below w.heap.size w wx ∧ Blk wx w.heap.size t1 x ∧ Blk wx (w.heap.size + 1) t2 y ∧ Blk wx (w.heap.size + 1 + 1) t3 z ∧ w.heap.size + 1 + 1 < wx.heap.size := by
  refine ⟨_, rfl, ((below_alloc (Nat.le_refl _) _).alloc (by simp) _).alloc (by simp; omega) _, ((Blk.new w t1 x).alloc _).alloc _, ?_, ?_, by simp⟩
  · have := (Blk.new (w.alloc (.cells x t1)) t2 y).alloc (.cells z t3)
    simpa using this
  · have := Blk.new ((w.alloc (.cells x t1)).alloc (.cells y t2)) t3 z
    simpa using this
set_option maxHeartbeats 1600000 in
set_option maxRecDepth 100000 in
theorem zmul_any (v u : Value) (x y z : Int) (w : World) (h : IsZ w v x) (h' : IsZ w u y) (hl : lenZ x ≤ 100000) (hl' : lenZ y ≤ 100000) (hz : z = x * y) :
    Calls Tryz.prog 85 #[v, u] w (RetZ z w) := by
  obtain ⟨ua, rfl, ha⟩ := h
  obtain ⟨ub, rfl, hb⟩ := h'
  obtain ⟨A, ca, rfl, _⟩ := id ha
  obtain ⟨B, cb, rfl, _⟩ := id hb
  unfold lenZ at hl hl'
  have HA : Hid (z.natAbs = x.natAbs * y.natAbs) := by show _ = _; rw [hz, Int.natAbs_mul]
  have HZ : Hid (sg (!(ngB x == ngB y)) (x.natAbs * y.natAbs) = z) := by show _ = _; rw [hz]; exact sg_mul x y
  clear hz
  go_enter Tryz.func85, Tryz.ntmps85
  go_wp2
  obtain ⟨wx, hwx, bb, B0, B1, B2, hsz⟩ := vars3 w 25 25 25 #[.bool (ngB x), .slice A (digs 4294967296 x.natAbs).length ca] #[.bool (ngB y), .slice B (digs 4294967296 y.natAbs).length cb] #[.bool false, .slice none 0 0]
  rw [hwx]
  have hax := ha.below bb
  have hbx := hb.below bb
  clear hwx
  refine flow 11 [Pd.eq (.pointer (some ⟨w.heap.size, 0, none⟩)), Pd.eq (.bool (ngB x)), Pd.eq (.pointer (some ⟨w.heap.size + 1, 0, none⟩)), Pd.eq (.bool (ngB y)), Pd.eq (.bool (!(ngB x == ngB y))), Pd.eq (.pointer (some ⟨w.heap.size, 1, none⟩)), Pd.eq (.slice A (digs 4294967296 x.natAbs).length ca), Pd.eq (.pointer (some ⟨w.heap.size + 1, 1, none⟩)), Pd.eq (.slice B (digs 4294967296 y.natAbs).length cb), ps .u64 (digs 4294967296 (x.natAbs * y.natAbs)) wx.heap.size, pz z wx.heap.size] (by kernel_rfl) (by kernel_rfl) ?ob ?done
  case ob =>
    refine And.intro (ob_fieldAddr rfl (wt_none rfl) (ev_far rfl rfl) (fun _ => by kernel_rfl) (fun _ => rfl)) ?_
    refine And.intro (ob_load rfl (wt_none rfl) (ev_dep (j := 0) (by kernel_rfl) rfl rfl) (fun w' hb => run_load1 Tryz.underlying4 rfl ((B0.drew.below hb).cell 0)) (fun _ _ => rfl)) ?_
    refine And.intro (ob_fieldAddr rfl (wt_none rfl) (ev_far rfl rfl) (fun _ => by kernel_rfl) (fun _ => rfl)) ?_
    refine And.intro (ob_load rfl (wt_none rfl) (ev_dep (j := 2) (by kernel_rfl) rfl rfl) (fun w' hb => run_load1 Tryz.underlying4 rfl ((B1.drew.below hb).cell 0)) (fun _ _ => rfl)) ?_
    refine And.intro (ob_bin rfl (wt_none rfl) (ev_dep (j := 1) (by kernel_rfl) rfl rfl) (ev_dep (j := 3) (by kernel_rfl) rfl rfl) (fun w' u u' hu hu' => ⟨_, by rw [hu, hu']; exact bin_neq_bool _ _ _ _ Tryz.underlying4 _, rfl⟩)) ?_
    refine And.intro (ob_fieldAddr rfl (wt_none rfl) (ev_far rfl rfl) (fun _ => by kernel_rfl) (fun _ => rfl)) ?_
    refine And.intro (ob_load rfl (wt_none rfl) (ev_dep (j := 5) (by kernel_rfl) rfl rfl) (fun w' hb => run_load1 Tryz.underlying23 rfl ((B0.drew.below hb).cell 1)) (fun _ _ => rfl)) ?_
    refine And.intro (ob_fieldAddr rfl (wt_none rfl) (ev_far rfl rfl) (fun _ => by kernel_rfl) (fun _ => rfl)) ?_
    refine And.intro (ob_load rfl (wt_none rfl) (ev_dep (j := 7) (by kernel_rfl) rfl rfl) (fun w' hb => run_load1 Tryz.underlying23 rfl ((B1.drew.below hb).cell 1)) (fun _ _ => rfl)) ?_
    refine And.intro (ob_call2 rfl Tryz.func80 (by kernel_rfl) (wt_none rfl) (ev_dep (j := 6) (by kernel_rfl) rfl rfl) (ev_dep (j := 8) (by kernel_rfl) rfl rfl) (fun w' u v hb h1 h2 => ?_)) ?_
    · obtain rfl := h1
      obtain rfl := h2
      exact (mul_any _ _ _ _ _ (hax.drew.below hb) (hbx.drew.below hb) hl hl' _ rfl).mono fun e w'' h => RetS.pd h hb.size
    refine And.intro (ob_call2 rfl Tryz.func70 (by kernel_rfl) (wt_none rfl) (ev_dep (j := 4) (by kernel_rfl) rfl rfl) (ev_dep (j := 9) (by kernel_rfl) rfl rfl) (fun w' u v hb h1 h2 => ?_)) ?_
    · obtain rfl := h1
      exact (signed_any _ v _ _ h2.1).mono fun e w'' h => ⟨_, h.1, ⟨isZ_mk (h2.1.below h.2) HA.out (by rw [HZ.out]), freshZ_mk h2.2⟩, h.2⟩
    trivial
  case done =>
    refine fun w' hb v0 h0 v1 h1 v2 h2 v3 h3 v4 h4 v5 h5 v6 h6 v7 h7 v8 h8 v9 h9 v10 h10 b hbf => ?_
    simp only [Act.put, List.setIfInBounds_toArray, List.set_cons_zero, List.set_cons_succ] at hbf
    subst hbf
    obtain rfl := h0; obtain rfl := h1; obtain rfl := h2; obtain rfl := h3; obtain rfl := h4; obtain rfl := h5; obtain rfl := h6; obtain rfl := h7; obtain rfl := h8
    obtain ⟨⟨u10, rfl, k10⟩, f10⟩ := h10
    obtain ⟨A10, c10, rfl, _⟩ := id k10
    have B3 := B2.below hb
    refine any_store (i := 11) (by kernel_rfl) rfl rfl rfl rfl rfl rfl (cells := [.bool (ngB z), .slice A10 (digs 4294967296 z.natAbs).length c10]) rfl B3 rfl (by kernel_rfl) (one2 rfl rfl) fun w2 hg2 B4 => ?_
    have k11 := off k10 B3 no_ints2 hg2
    have f11 := (f10 _ _ rfl).mono (show w.heap.size ≤ wx.heap.size from bb.size)
    have bb2 := ((bb.trans (hb.mono bb.size)).trans ((Below.refl _ _).grown hg2 (Nat.le_trans bb.size hb.size) (fun g hg => by injection hg with hg; omega)))
    obtain ⟨c0, c1, _, _⟩ := Blk.two B4
    refine any_done (by kernel_rfl) ?_
    go_wp2
    exact bodyPost_ret (v := .agg #[.bool (ngB z), .slice A10 (digs 4294967296 z.natAbs).length c10]) (by simp [results, Tryz.results85, go_sem, c0, c1]) rfl ⟨_, rfl, isZ_mk k11 rfl rfl, freshZ_mk f11, bb2⟩
end Go.Proofs.YtpcllhdfalebbaaGreatDoor.whl
namespace Go.Proofs.YtpcllhdfalebbaaGreatDoor.whl
open Go.RowKit Go.Proofs.YtpcllhdfalebbaaGreatDoor.num Go.Proofs.YtpcllhdfalebbaaGreatDoor.mem Go.Proofs.YtpcllhdfalebbaaGreatDoor.nat Go.Proofs.YtpcllhdfalebbaaGreatDoor.txt Go.Proofs.YtpcllhdfalebbaaGreatDoor.str Go.Proofs.YtpcllhdfalebbaaGreatDoor.flow
set_option linter.unusedVariables false
theorem sg_neg (x : Int) : sg (!(ngB x)) x.natAbs = -x := by
  conv => rhs; rw [← sg_self x]
  cases ngB x <;> simp [sg]
theorem signed_pd (b : Bool) (u : Value) (x : Nat) (z : Int) (w : World) {B : Nat} (h : IsS w .u64 u (digs 4294967296 x)) (hf : Fresh B u) (hz : sg b x = z) : Calls Tryz.prog 70 #[.bool b, u] w (RetPd (pz z B) w) :=
  (signed_any b u x w h).mono fun e w' h' => ⟨_, h'.1, ⟨isZ_mk (h.below h'.2) (by rw [← hz, sg_abs]) (by rw [hz]), freshZ_mk hf⟩, h'.2⟩
theorem made_pd (b : Bool) (u : Value) (x : Nat) (z : Int) (w : World) (h : IsS w .i64 u (digs 10000 x)) (hz : sg b x = z) : Calls Tryz.prog 75 #[.bool b, u] w (RetPd (pr z) w) :=
  (rmade_any b u x w h).mono fun e w' h' => ⟨_, h'.1, isR_mk (h.below h'.2) (by rw [← hz, sg_abs]) (by rw [hz]), h'.2⟩
theorem vars2 (w : World) (t1 t2 : TypeId) (x y : Array Value) : ∃ wx, (w.alloc (.cells x t1)).alloc (.cells y t2) = wx ∧ Below w.heap.size w wx ∧ Blk wx w.heap.size t1 x ∧ Blk wx (w.heap.size + 1) t2 y ∧ w.heap.size + 1 < wx.heap.size := by
  refine ⟨_, rfl, (below_alloc (Nat.le_refl _) _).alloc (by simp) _, (Blk.new w t1 x).alloc _, ?_, by simp⟩
  have := Blk.new (w.alloc (.cells x t1)) t2 y
  simpa using this
set_option maxHeartbeats 1600000 in
set_option maxRecDepth 100000 in
theorem zneg_any (a0 : Value) (x : Int) (w : World) (h0 : IsZ w a0 x) (hl : lenZ x ≤ 100000) :
    Calls Tryz.prog 69 #[a0] w (RetZ (-x) w) := by
  obtain ⟨u0, rfl, s0⟩ := h0
  obtain ⟨A0, c0, rfl, _⟩ := id s0
  have HZ : Hid (sg (!(ngB x)) x.natAbs = -x) := by show _ = _; exact sg_neg x
  have HL : Hid ((digs 4294967296 x.natAbs).length ≤ 1000000) := by show _ ≤ _; unfold lenZ at hl; omega
  go_enter Tryz.func69, Tryz.ntmps69
  go_upto_region 1 with (fail)
  obtain ⟨wx, hwx, bb, B0, B1, hsz⟩ := vars2 w 25 25 #[.bool (ngB x), .slice A0 (digs 4294967296 (x).natAbs).length c0] #[.bool false, .slice none 0 0]
  rw [hwx]
  clear hwx
  have k0s := s0.below bb
  have k0 : IsZ wx (.agg #[.bool (ngB x), .slice A0 (digs 4294967296 (x).natAbs).length c0]) (x) := isZ_mk k0s rfl rfl
  have hszb := bb.size
  refine flowp 6 [Pd.eq (.pointer (some ⟨w.heap.size, 0, none⟩)), Pd.eq (.bool (ngB x)), Pd.eq (.bool (!(ngB x))), Pd.eq (.pointer (some ⟨w.heap.size, 1, none⟩)), Pd.eq (.slice A0 (digs 4294967296 (x).natAbs).length c0), pz (-x) wx.heap.size] (by kernel_rfl) ?ob1 ?done1
  case ob1 =>
    refine And.intro (ob_fieldAddr rfl (wt_none rfl) (ev_far rfl rfl) (fun _ => by kernel_rfl) (fun _ => rfl)) ?_
    refine And.intro (ob_load rfl (wt_none rfl) (ev_dep (j := 0) (by kernel_rfl) rfl rfl) (fun w2 hb => run_load1 Tryz.underlying4 rfl ((B0.below hb).cell 0)) (fun _ _ => rfl)) ?_
    refine And.intro (ob_un rfl (wt_none rfl) (ev_dep (j := 1) (by kernel_rfl) rfl rfl) (fun _ => un_not _ _) (fun _ => rfl)) ?_
    refine And.intro (ob_fieldAddr rfl (wt_none rfl) (ev_far rfl rfl) (fun _ => by kernel_rfl) (fun _ => rfl)) ?_
    refine And.intro (ob_load rfl (wt_none rfl) (ev_dep (j := 3) (by kernel_rfl) rfl rfl) (fun w2 hb => run_load1 Tryz.underlying23 rfl ((B0.below hb).cell 1)) (fun _ _ => rfl)) ?_
    refine And.intro (ob_call2 rfl Tryz.func27 (by kernel_rfl) (wt_none rfl) (ev_dep (j := 2) (by kernel_rfl) rfl rfl) (ev_dep (j := 4) (by kernel_rfl) rfl rfl) (fun w2 u0 u1 hb h0 h1 => by obtain rfl := h0; obtain rfl := h1; exact (made_any _ _ _ (-x) _ (k0s.below hb) HL.out HZ.out.symm).mono fun e w3 h => RetZ.pd h hb.size)) ?_
    trivial
  case done1 =>
    refine fun w1 hb1 v0 h0 v1 h1 v2 h2 v3 h3 v4 h4 v5 h5 b hbf => ?_
    obtain rfl := h0; obtain rfl := h1; obtain rfl := h2; obtain rfl := h3; obtain rfl := h4
    obtain ⟨q5, f5⟩ := h5
    simp only [Act.put, List.setIfInBounds_toArray, List.set_cons_zero, List.set_cons_succ] at hbf
    subst hbf
    obtain ⟨u5, rfl, q5⟩ := q5
    obtain ⟨A9, c9, rfl, _⟩ := id q5
    have B9 := B1.below hb1
    refine ops_store (i := 6) rfl rfl rfl rfl rfl rfl (cells := [.bool (ngB (-x)), .slice A9 (digs 4294967296 (-x).natAbs).length c9]) rfl B9 rfl (by kernel_rfl) (one2 rfl rfl) fun w9 hg9 BB9 => ?_
    have k9 := off q5 B9 no_ints2 hg9
    have f9 := (f5 _ _ rfl).mono (show w.heap.size ≤ wx.heap.size from bb.size)
    have bb9 := ((bb.trans (hb1.mono bb.size)).trans ((Below.refl _ _).grown hg9 (Nat.le_trans bb.size hb1.size) (fun g hg => by injection hg with hg; omega)))
    obtain ⟨c0, c1, _, _⟩ := Blk.two BB9
    refine ops_done ?_
    go_wp2
    exact bodyPost_ret (v := .agg #[.bool (ngB (-x)), .slice A9 (digs 4294967296 (-x).natAbs).length c9]) (by simp [results, Tryz.results69, go_sem, c0, c1]) rfl ⟨_, rfl, isZ_mk k9 rfl rfl, freshZ_mk f9, bb9⟩
set_option maxHeartbeats 1600000 in
set_option maxRecDepth 100000 in
theorem rof_any (a0 : Value) (x : Int) (w : World) (h0 : IsZ w a0 x) (hl : lenZ x ≤ 30000) :
    Calls Tryz.prog 39 #[a0] w (RetR x w) := by
  obtain ⟨u0, rfl, s0⟩ := h0
  obtain ⟨A0, c0, rfl, _⟩ := id s0
  have HL : Hid ((digs 4294967296 x.natAbs).length ≤ 100000) := by show _ ≤ _; unfold lenZ at hl; omega
  have HZ : Hid (sg (ngB x) x.natAbs = x) := by show _ = _; exact sg_self x
  go_enter Tryz.func39, Tryz.ntmps39
  go_upto_region 1 with (fail)
  obtain ⟨wx, hwx, bb, B0, B1, hsz⟩ := vars2 w 25 34 #[.bool (ngB x), .slice A0 (digs 4294967296 (x).natAbs).length c0] #[.bool false, .slice none 0 0]
  rw [hwx]
  clear hwx
  have k0s := s0.below bb
  have k0 : IsZ wx (.agg #[.bool (ngB x), .slice A0 (digs 4294967296 (x).natAbs).length c0]) (x) := isZ_mk k0s rfl rfl
  have hszb := bb.size
  refine flow 6 [Pd.eq (.pointer (some ⟨w.heap.size, 0, none⟩)), Pd.eq (.bool (ngB x)), Pd.eq (.pointer (some ⟨w.heap.size, 1, none⟩)), Pd.eq (.slice A0 (digs 4294967296 (x).natAbs).length c0), ps .i64 (digs 10000 x.natAbs) wx.heap.size, pr (x)] (by kernel_rfl) (by kernel_rfl) ?ob3 ?done3
  case ob3 =>
    refine And.intro (ob_fieldAddr rfl (wt_none rfl) (ev_far rfl rfl) (fun _ => by kernel_rfl) (fun _ => rfl)) ?_
    refine And.intro (ob_load rfl (wt_none rfl) (ev_dep (j := 0) (by kernel_rfl) rfl rfl) (fun w2 hb => run_load1 Tryz.underlying4 rfl ((B0.drew.below hb).cell 0)) (fun _ _ => rfl)) ?_
    refine And.intro (ob_fieldAddr rfl (wt_none rfl) (ev_far rfl rfl) (fun _ => by kernel_rfl) (fun _ => rfl)) ?_
    refine And.intro (ob_load rfl (wt_none rfl) (ev_dep (j := 2) (by kernel_rfl) rfl rfl) (fun w2 hb => run_load1 Tryz.underlying23 rfl ((B0.drew.below hb).cell 1)) (fun _ _ => rfl)) ?_
    refine And.intro (ob_call1 rfl Tryz.func41 (by kernel_rfl) (wt_none rfl) (ev_dep (j := 3) (by kernel_rfl) rfl rfl) (fun w2 u0 hb h0 => by obtain rfl := h0; exact (refOf_any _ _ _ (k0s.drew.below hb) HL.out).mono fun e w3 h => RetS.pd h hb.size)) ?_
    refine And.intro (ob_call2 rfl Tryz.func75 (by kernel_rfl) (wt_none rfl) (ev_dep (j := 1) (by kernel_rfl) rfl rfl) (ev_dep (j := 4) (by kernel_rfl) rfl rfl) (fun w2 u0 u1 hb h0 h1 => by obtain rfl := h0; exact made_pd _ _ _ (x) _ h1.1 HZ.out)) ?_
    trivial
  case done3 =>
    refine fun w1 hb1 v0 h0 v1 h1 v2 h2 v3 h3 v4 h4 v5 h5 b hbf => ?_
    obtain rfl := h0; obtain rfl := h1; obtain rfl := h2; obtain rfl := h3
    obtain ⟨q4, f4⟩ := h4
    have q5 := h5
    simp only [Act.put, List.setIfInBounds_toArray, List.set_cons_zero, List.set_cons_succ] at hbf
    subst hbf
    obtain ⟨u5, rfl, q5⟩ := q5
    obtain ⟨A9, c9, rfl, _⟩ := id q5
    have B9 := B1.below hb1
    refine any_store (i := 6) (by kernel_rfl) rfl rfl rfl rfl rfl rfl (cells := [.bool (ngB (x)), .slice A9 (digs 10000 (x).natAbs).length c9]) rfl B9 rfl (by kernel_rfl) (one2 rfl rfl) fun w9 hg9 BB9 => ?_
    have k9 := off q5 B9 no_ints2 hg9
    have bb9 := ((bb.trans (hb1.mono bb.size)).trans ((Below.refl _ _).grown hg9 (Nat.le_trans bb.size hb1.size) (fun g hg => by injection hg with hg; omega)))
    obtain ⟨c0, c1, _, _⟩ := Blk.two BB9
    refine any_done (by kernel_rfl) ?_
    go_wp2
    exact bodyPost_ret (v := .agg #[.bool (ngB (x)), .slice A9 (digs 10000 (x).natAbs).length c9]) (by simp [results, Tryz.results39, go_sem, c0, c1]) rfl ⟨_, rfl, isR_mk k9 rfl rfl, bb9⟩
set_option maxHeartbeats 1600000 in
set_option maxRecDepth 100000 in
theorem rback_any (a0 : Value) (x : Int) (w : World) (h0 : IsR w a0 x) (hl : lenZ x ≤ 30000) :
    Calls Tryz.prog 36 #[a0] w (RetZ x w) := by
  obtain ⟨u0, rfl, s0⟩ := h0
  obtain ⟨A0, c0, rfl, _⟩ := id s0
  have HL : Hid ((digs 4294967296 x.natAbs).length ≤ 100000) := by show _ ≤ _; unfold lenZ at hl; omega
  have HM : Hid ((digs 10000 x.natAbs).length ≤ 100000) := by show _ ≤ _; have := lenZ_dec x; omega
  go_enter Tryz.func36, Tryz.ntmps36
  go_upto_region 1 with (fail)
  obtain ⟨wx, hwx, bb, B0, B1, hsz⟩ := vars2 w 34 25 #[.bool (ngB x), .slice A0 (digs 10000 (x).natAbs).length c0] #[.bool false, .slice none 0 0]
  rw [hwx]
  clear hwx
  have k0s := s0.below bb
  have k0 : IsR wx (.agg #[.bool (ngB x), .slice A0 (digs 10000 (x).natAbs).length c0]) (x) := isR_mk k0s rfl rfl
  have hszb := bb.size
  refine flow 6 [Pd.eq (.pointer (some ⟨w.heap.size, 0, none⟩)), Pd.eq (.bool (ngB x)), Pd.eq (.pointer (some ⟨w.heap.size, 1, none⟩)), Pd.eq (.slice A0 (digs 10000 (x).natAbs).length c0), ps .u64 (digs 4294967296 x.natAbs) wx.heap.size, pz (x) wx.heap.size] (by kernel_rfl) (by kernel_rfl) ?ob4 ?done4
  case ob4 =>
    refine And.intro (ob_fieldAddr rfl (wt_none rfl) (ev_far rfl rfl) (fun _ => by kernel_rfl) (fun _ => rfl)) ?_
    refine And.intro (ob_load rfl (wt_none rfl) (ev_dep (j := 0) (by kernel_rfl) rfl rfl) (fun w2 hb => run_load1 Tryz.underlying4 rfl ((B0.drew.below hb).cell 0)) (fun _ _ => rfl)) ?_
    refine And.intro (ob_fieldAddr rfl (wt_none rfl) (ev_far rfl rfl) (fun _ => by kernel_rfl) (fun _ => rfl)) ?_
    refine And.intro (ob_load rfl (wt_none rfl) (ev_dep (j := 2) (by kernel_rfl) rfl rfl) (fun w2 hb => run_load1 Tryz.underlying32 rfl ((B0.drew.below hb).cell 1)) (fun _ _ => rfl)) ?_
    refine And.intro (ob_call1 rfl Tryz.func37 (by kernel_rfl) (wt_none rfl) (ev_dep (j := 3) (by kernel_rfl) rfl rfl) (fun w2 u0 hb h0 => by obtain rfl := h0; exact (refBack_any _ _ _ (k0s.drew.below hb) HM.out HL.out).mono fun e w3 h => RetS.pd h hb.size)) ?_
    refine And.intro (ob_build2 rfl (wt_none rfl) (ev_dep (j := 1) (by kernel_rfl) rfl rfl) (ev_dep (j := 4) (by kernel_rfl) rfl rfl) (fun w2 u v hu hv => by subst hu; obtain ⟨A7, c7, rfl, _⟩ := id hv.1; exact ⟨.agg #[.bool (ngB x), .slice A7 (digs 4294967296 x.natAbs).length c7], by kernel_rfl, ⟨⟨_, rfl, hv.1⟩, freshZ_mk hv.2⟩⟩)) ?_
    trivial
  case done4 =>
    refine fun w1 hb1 v0 h0 v1 h1 v2 h2 v3 h3 v4 h4 v5 h5 b hbf => ?_
    obtain rfl := h0; obtain rfl := h1; obtain rfl := h2; obtain rfl := h3
    obtain ⟨q4, f4⟩ := h4
    obtain ⟨q5, f5⟩ := h5
    simp only [Act.put, List.setIfInBounds_toArray, List.set_cons_zero, List.set_cons_succ] at hbf
    subst hbf
    obtain ⟨u5, rfl, q5⟩ := q5
    obtain ⟨A9, c9, rfl, _⟩ := id q5
    have B9 := B1.below hb1
    refine any_store (i := 6) (by kernel_rfl) rfl rfl rfl rfl rfl rfl (cells := [.bool (ngB (x)), .slice A9 (digs 4294967296 (x).natAbs).length c9]) rfl B9 rfl (by kernel_rfl) (one2 rfl rfl) fun w9 hg9 BB9 => ?_
    have k9 := off q5 B9 no_ints2 hg9
    have f9 := (f5 _ _ rfl).mono (show w.heap.size ≤ wx.heap.size from bb.size)
    have bb9 := ((bb.trans (hb1.mono bb.size)).trans ((Below.refl _ _).grown hg9 (Nat.le_trans bb.size hb1.size) (fun g hg => by injection hg with hg; omega)))
    obtain ⟨c0, c1, _, _⟩ := Blk.two BB9
    refine any_done (by kernel_rfl) ?_
    go_wp2
    exact bodyPost_ret (v := .agg #[.bool (ngB (x)), .slice A9 (digs 4294967296 (x).natAbs).length c9]) (by simp [results, Tryz.results36, go_sem, c0, c1]) rfl ⟨_, rfl, isZ_mk k9 rfl rfl, freshZ_mk f9, bb9⟩
set_option maxHeartbeats 1600000 in
set_option maxRecDepth 100000 in
theorem rmul_any (a0 : Value) (x : Int) (a1 : Value) (y : Int) (w : World) (h0 : IsR w a0 x) (h1 : IsR w a1 y) (hl : lenZ x ≤ 30000) (hl2 : lenZ y ≤ 30000) :
    Calls Tryz.prog 52 #[a0, a1] w (RetR (x * y) w) := by
  obtain ⟨u0, rfl, s0⟩ := h0
  obtain ⟨A0, c0, rfl, _⟩ := id s0
  obtain ⟨u1, rfl, s1⟩ := h1
  obtain ⟨A1, c1, rfl, _⟩ := id s1
  have HZ : Hid (sg (!(ngB x == ngB y)) (x.natAbs * y.natAbs) = x * y) := by show _ = _; exact sg_mul x y
  have HL : Hid ((digs 10000 x.natAbs).length ≤ 1000000) := by show _ ≤ _; have := lenZ_dec x; omega
  have HL2 : Hid ((digs 10000 y.natAbs).length ≤ 1000000) := by show _ ≤ _; have := lenZ_dec y; omega
  go_enter Tryz.func52, Tryz.ntmps52
  go_upto_region 1 with (fail)
  obtain ⟨wx, hwx, bb, B0, B1, B2, hsz⟩ := vars3 w 34 34 34 #[.bool (ngB x), .slice A0 (digs 10000 (x).natAbs).length c0] #[.bool (ngB y), .slice A1 (digs 10000 (y).natAbs).length c1] #[.bool false, .slice none 0 0]
  rw [hwx]
  clear hwx
  have k0s := s0.below bb
  have k0 : IsR wx (.agg #[.bool (ngB x), .slice A0 (digs 10000 (x).natAbs).length c0]) (x) := isR_mk k0s rfl rfl
  have k1s := s1.below bb
  have k1 : IsR wx (.agg #[.bool (ngB y), .slice A1 (digs 10000 (y).natAbs).length c1]) (y) := isR_mk k1s rfl rfl
  have hszb := bb.size
  refine flow 11 [Pd.eq (.pointer (some ⟨w.heap.size, 0, none⟩)), Pd.eq (.bool (ngB x)), Pd.eq (.pointer (some ⟨w.heap.size + 1, 0, none⟩)), Pd.eq (.bool (ngB y)), Pd.eq (.bool (!((ngB x) == (ngB y)))), Pd.eq (.pointer (some ⟨w.heap.size, 1, none⟩)), Pd.eq (.slice A0 (digs 10000 (x).natAbs).length c0), Pd.eq (.pointer (some ⟨w.heap.size + 1, 1, none⟩)), Pd.eq (.slice A1 (digs 10000 (y).natAbs).length c1), ps .i64 (digs 10000 (x.natAbs * y.natAbs)) wx.heap.size, pr (x * y)] (by kernel_rfl) (by kernel_rfl) ?ob5 ?done5
  case ob5 =>
    refine And.intro (ob_fieldAddr rfl (wt_none rfl) (ev_far rfl rfl) (fun _ => by kernel_rfl) (fun _ => rfl)) ?_
    refine And.intro (ob_load rfl (wt_none rfl) (ev_dep (j := 0) (by kernel_rfl) rfl rfl) (fun w2 hb => run_load1 Tryz.underlying4 rfl ((B0.drew.below hb).cell 0)) (fun _ _ => rfl)) ?_
    refine And.intro (ob_fieldAddr rfl (wt_none rfl) (ev_far rfl rfl) (fun _ => by kernel_rfl) (fun _ => rfl)) ?_
    refine And.intro (ob_load rfl (wt_none rfl) (ev_dep (j := 2) (by kernel_rfl) rfl rfl) (fun w2 hb => run_load1 Tryz.underlying4 rfl ((B1.drew.below hb).cell 0)) (fun _ _ => rfl)) ?_
    refine And.intro (ob_bin rfl (wt_none rfl) (ev_dep (j := 1) (by kernel_rfl) rfl rfl) (ev_dep (j := 3) (by kernel_rfl) rfl rfl) (fun _ _ _ hx hy => ⟨.bool (!((ngB x) == (ngB y))), by rw [hx, hy]; exact bin_neq_bool _ _ _ _ Tryz.underlying4 _, rfl⟩)) ?_
    refine And.intro (ob_fieldAddr rfl (wt_none rfl) (ev_far rfl rfl) (fun _ => by kernel_rfl) (fun _ => rfl)) ?_
    refine And.intro (ob_load rfl (wt_none rfl) (ev_dep (j := 5) (by kernel_rfl) rfl rfl) (fun w2 hb => run_load1 Tryz.underlying32 rfl ((B0.drew.below hb).cell 1)) (fun _ _ => rfl)) ?_
    refine And.intro (ob_fieldAddr rfl (wt_none rfl) (ev_far rfl rfl) (fun _ => by kernel_rfl) (fun _ => rfl)) ?_
    refine And.intro (ob_load rfl (wt_none rfl) (ev_dep (j := 7) (by kernel_rfl) rfl rfl) (fun w2 hb => run_load1 Tryz.underlying32 rfl ((B1.drew.below hb).cell 1)) (fun _ _ => rfl)) ?_
    refine And.intro (ob_call2 rfl Tryz.func31 (by kernel_rfl) (wt_none rfl) (ev_dep (j := 6) (by kernel_rfl) rfl rfl) (ev_dep (j := 8) (by kernel_rfl) rfl rfl) (fun w2 u0 u1 hb h0 h1 => by obtain rfl := h0; obtain rfl := h1; exact (refMul_any _ _ _ _ _ (k0s.drew.below hb) (k1s.drew.below hb) HL.out HL2.out).mono fun e w3 h => RetS.pd h hb.size)) ?_
    refine And.intro (ob_call2 rfl Tryz.func75 (by kernel_rfl) (wt_none rfl) (ev_dep (j := 4) (by kernel_rfl) rfl rfl) (ev_dep (j := 9) (by kernel_rfl) rfl rfl) (fun w2 u0 u1 hb h0 h1 => by obtain rfl := h0; exact made_pd _ _ _ (x * y) _ h1.1 HZ.out)) ?_
    trivial
  case done5 =>
    refine fun w1 hb1 v0 h0 v1 h1 v2 h2 v3 h3 v4 h4 v5 h5 v6 h6 v7 h7 v8 h8 v9 h9 v10 h10 b hbf => ?_
    obtain rfl := h0; obtain rfl := h1; obtain rfl := h2; obtain rfl := h3; obtain rfl := h4; obtain rfl := h5; obtain rfl := h6; obtain rfl := h7; obtain rfl := h8
    obtain ⟨q9, f9⟩ := h9
    have q10 := h10
    simp only [Act.put, List.setIfInBounds_toArray, List.set_cons_zero, List.set_cons_succ] at hbf
    subst hbf
    obtain ⟨u10, rfl, q10⟩ := q10
    obtain ⟨A9, c9, rfl, _⟩ := id q10
    have B9 := B2.below hb1
    refine any_store (i := 11) (by kernel_rfl) rfl rfl rfl rfl rfl rfl (cells := [.bool (ngB (x * y)), .slice A9 (digs 10000 (x * y).natAbs).length c9]) rfl B9 rfl (by kernel_rfl) (one2 rfl rfl) fun w9 hg9 BB9 => ?_
    have k9 := off q10 B9 no_ints2 hg9
    have bb9 := ((bb.trans (hb1.mono bb.size)).trans ((Below.refl _ _).grown hg9 (Nat.le_trans bb.size hb1.size) (fun g hg => by injection hg with hg; omega)))
    obtain ⟨c0, c1, _, _⟩ := Blk.two BB9
    refine any_done (by kernel_rfl) ?_
    go_wp2
    exact bodyPost_ret (v := .agg #[.bool (ngB (x * y)), .slice A9 (digs 10000 (x * y).natAbs).length c9]) (by simp [results, Tryz.results52, go_sem, c0, c1]) rfl ⟨_, rfl, isR_mk k9 rfl rfl, bb9⟩
end Go.Proofs.YtpcllhdfalebbaaGreatDoor.whl
namespace Go.Proofs.YtpcllhdfalebbaaGreatDoor.whl
open Go.RowKit Go.Proofs.YtpcllhdfalebbaaGreatDoor.num Go.Proofs.YtpcllhdfalebbaaGreatDoor.mem Go.Proofs.YtpcllhdfalebbaaGreatDoor.nat Go.Proofs.YtpcllhdfalebbaaGreatDoor.txt Go.Proofs.YtpcllhdfalebbaaGreatDoor.str Go.Proofs.YtpcllhdfalebbaaGreatDoor.flow
set_option linter.unusedVariables false
set_option maxHeartbeats 1600000 in
set_option maxRecDepth 100000 in
theorem zsame_one (a0 a1 : Value) (x : Int) (w : World) (h0 : IsZ w a0 x) (h1 : IsZ w a1 x) :
    Calls Tryz.prog 34 #[a0, a1] w (RetV (.bool true) w) := by
  obtain ⟨u0, rfl, s0⟩ := h0
  obtain ⟨A0, c0, rfl, _⟩ := id s0
  obtain ⟨u1, rfl, s1⟩ := h1
  obtain ⟨A1, c1, rfl, _⟩ := id s1
  go_enter Tryz.func34, Tryz.ntmps34
  go_upto_region 1 with (fail)
  obtain ⟨wx, hwx, bb, B0, B1, hsz⟩ := vars2 w 25 25 #[.bool (ngB x), .slice A0 (digs 4294967296 (x).natAbs).length c0] #[.bool (ngB x), .slice A1 (digs 4294967296 (x).natAbs).length c1]
  rw [hwx]
  clear hwx
  have k0s := s0.below bb
  have k0 : IsZ wx (.agg #[.bool (ngB x), .slice A0 (digs 4294967296 (x).natAbs).length c0]) (x) := isZ_mk k0s rfl rfl
  have k1s := s1.below bb
  have k1 : IsZ wx (.agg #[.bool (ngB x), .slice A1 (digs 4294967296 (x).natAbs).length c1]) (x) := isZ_mk k1s rfl rfl
  have hszb := bb.size
  refine flowp 13 [Pd.eq (.pointer (some ⟨w.heap.size, 0, none⟩)), Pd.eq (.bool (ngB x)), Pd.eq (.pointer (some ⟨w.heap.size + 1, 0, none⟩)), Pd.eq (.bool (ngB x)), Pd.eq (.bool true), Pd.eq (.bool true), Pd.eq (.pointer (some ⟨w.heap.size, 1, none⟩)), Pd.eq (.slice A0 (digs 4294967296 (x).natAbs).length c0), Pd.eq (.pointer (some ⟨w.heap.size + 1, 1, none⟩)), Pd.eq (.slice A1 (digs 4294967296 (x).natAbs).length c1), Pd.eq (.bool true), Pd.eq (.bool true), Pd.eq (.bool true)] (by kernel_rfl) ?ob38 ?done38
  case ob38 =>
    refine And.intro (ob_fieldAddr rfl (wt_none rfl) (ev_far rfl rfl) (fun _ => by kernel_rfl) (fun _ => rfl)) ?_
    refine And.intro (ob_load rfl (wt_none rfl) (ev_dep (j := 0) (by kernel_rfl) rfl rfl) (fun w2 hb => run_load1 Tryz.underlying4 rfl ((B0.below hb).cell 0)) (fun _ _ => rfl)) ?_
    refine And.intro (ob_fieldAddr rfl (wt_none rfl) (ev_far rfl rfl) (fun _ => by kernel_rfl) (fun _ => rfl)) ?_
    refine And.intro (ob_load rfl (wt_none rfl) (ev_dep (j := 2) (by kernel_rfl) rfl rfl) (fun w2 hb => run_load1 Tryz.underlying4 rfl ((B1.below hb).cell 0)) (fun _ _ => rfl)) ?_
    refine And.intro (ob_bin rfl (wt_none rfl) (ev_dep (j := 1) (by kernel_rfl) rfl rfl) (ev_dep (j := 3) (by kernel_rfl) rfl rfl) (fun _ _ _ hx hy => ⟨.bool ((ngB x) == (ngB x)), by rw [hx, hy]; exact bin_eql_bool _ _ _ _ Tryz.underlying4 _, congrArg Value.bool (beq_self_eq_true _)⟩)) ?_
    refine And.intro (ob_move rfl (wt_none rfl) (ev_dep (j := 4) (by kernel_rfl) rfl rfl) (fun _ _ h => h)) ?_
    refine And.intro (ob_fieldAddr rfl (wt_dep (c := true) (b := true) (g := 5) rfl (by kernel_rfl) rfl rfl rfl (by exact fun _ _ h => h)) (ev_far rfl rfl) (fun _ => by kernel_rfl) (fun _ => rfl)) ?_
    refine And.intro (ob_load rfl (wt_dep (c := true) (b := true) (g := 5) rfl (by kernel_rfl) rfl rfl rfl (by exact fun _ _ h => h)) (ev_dep (j := 6) (by kernel_rfl) rfl rfl) (fun w2 hb => run_load1 Tryz.underlying23 rfl ((B0.below hb).cell 1)) (fun _ _ => rfl)) ?_
    refine And.intro (ob_fieldAddr rfl (wt_dep (c := true) (b := true) (g := 5) rfl (by kernel_rfl) rfl rfl rfl (by exact fun _ _ h => h)) (ev_far rfl rfl) (fun _ => by kernel_rfl) (fun _ => rfl)) ?_
    refine And.intro (ob_load rfl (wt_dep (c := true) (b := true) (g := 5) rfl (by kernel_rfl) rfl rfl rfl (by exact fun _ _ h => h)) (ev_dep (j := 8) (by kernel_rfl) rfl rfl) (fun w2 hb => run_load1 Tryz.underlying23 rfl ((B1.below hb).cell 1)) (fun _ _ => rfl)) ?_
    refine And.intro (ob_call2 rfl Tryz.func35 (by kernel_rfl) (wt_dep (c := true) (b := true) (g := 5) rfl (by kernel_rfl) rfl rfl rfl (by exact fun _ _ h => h)) (ev_dep (j := 7) (by kernel_rfl) rfl rfl) (ev_dep (j := 9) (by kernel_rfl) rfl rfl) (fun w2 u0 u1 hb h0 h1 => by obtain rfl := h0; obtain rfl := h1; exact (same_one _ _ _ _ (k0s.below hb) (k1s.below hb)).mono fun e w3 h => RetV.pd h)) ?_
    refine And.intro (ob_pick (b := true) rfl (wt_none rfl) (ev_dep (j := 5) (by kernel_rfl) rfl rfl) (ev_dep (j := 10) (by kernel_rfl) rfl rfl) (fun _ _ h => h)) ?_
    refine And.intro (ob_assign rfl (wt_none rfl) (ev_dep (j := 11) (by kernel_rfl) rfl rfl) (fun _ _ h => h)) ?_
    trivial
  case done38 =>
    refine fun w1 hb1 v0 h0 v1 h1 v2 h2 v3 h3 v4 h4 v5 h5 v6 h6 v7 h7 v8 h8 v9 h9 v10 h10 v11 h11 v12 h12 b hbf => ?_
    obtain rfl := h0; obtain rfl := h1; obtain rfl := h2; obtain rfl := h3; obtain rfl := h4; obtain rfl := h5; obtain rfl := h6; obtain rfl := h7; obtain rfl := h8; obtain rfl := h9; obtain rfl := h10; obtain rfl := h11; obtain rfl := h12
    simp only [Act.put, List.setIfInBounds_toArray, List.set_cons_zero, List.set_cons_succ] at hbf
    subst hbf
    refine ops_done ?_
    go_wp2
    go_ret
    exact ⟨rfl, bb.trans (hb1.mono bb.size)⟩
/-- The whole number that Clean makes of any. -/
def cleanZ (b : Bool) (l : List Nat) (most : Nat) : Int := sg b (cleaned l most)
theorem cleanZ_len (b : Bool) (l : List Nat) (most : Nat) : lenZ (cleanZ b l most) ≤ most := by unfold lenZ cleanZ; rw [sg_abs]; exact cleaned_len l most
set_option maxHeartbeats 800000 in
theorem zclean_any (b : Bool) (v : Value) (l : List Nat) (mI : Int) (most : Nat) (w : World) (hmI : mI = (most : Int)) (h : IsS w .u64 v l) (hu : Lt 18446744073709551616 l) (hmost : most ≤ 1000000) :
    Calls Tryz.prog 40 #[.agg #[.bool b, v], .int .i64 mI] w (RetZ (cleanZ b l most) w) := by
  obtain ⟨A, c, rfl, _⟩ := id h
  have HM := Lib.hid hmI
  clear hmI
  have hsh : Hid (IsS w .u64 (.slice A l.length c) l) := h
  go_enter Tryz.func40, Tryz.ntmps40
  go_upto_region 1 with (fail)
  obtain ⟨wx, hwx, bb, B0, B1, hsz⟩ := vars2 w 25 25 #[.bool b, .slice A l.length c] #[.bool false, .slice none 0 0]
  rw [hwx]
  clear hwx
  have k0s := h.below bb
  obtain ⟨x00, x01, _, _⟩ := Blk.two B0
  go_wp2_with fail
  refine (clean_any _ l _ most _ HM.out k0s hu hmost).mono ?_
  rintro e w1 ⟨v1, rfl, k1, f1, b1⟩
  obtain ⟨A1, c1, rfl, _⟩ := id k1
  have B0' := B0.below b1
  have B1' := B1.below b1
  have bb1 := bb.trans (b1.mono bb.size)
  have hs := b1.size
  obtain ⟨x10, x11, z10, z11⟩ := Blk.two B0'
  obtain ⟨y10, y11, q10, q11⟩ := Blk.two B1'
  clear x00 x01 B0 B1
  obtain ⟨y, hy⟩ : ∃ y, y = cleaned l most := ⟨_, rfl⟩
  have HY := Lib.hid hy.symm
  rw [← hy] at k1 f1 ⊢
  clear hy
  by_cases hy0 : 0 < y
  · have hn : 0 < (digs 4294967296 y).length := len_pos hy0
    have HE : Hid (ngB (sg b y) = b) := ngB_sg_pos hy0
    have HAb : Hid ((sg b y).natAbs = y) := sg_abs b y
    have HC : Hid (cleanZ b l most = sg b y) := by show _ = _; unfold cleanZ; rw [HY.out]
    cases b
    all_goals
      go_wp2
      refine bodyPost_ret (by simp [results, Tryz.results40, go_sem, y10, y11]; rfl) rfl ?_
      rw [HC.out]
      exact endZ bb1 (by omega) (show w.heap.size + 1 < wx.heap.size from hsz) (by rw [HAb.out]; exact k1) f1 HE.out.symm
  · obtain rfl : y = 0 := by omega
    have HC : Hid (cleanZ b l most = sg b 0) := by show _ = _; unfold cleanZ; rw [HY.out]
    have HE : Hid (ngB (sg b 0) = false) := ngB_sg_zero b
    have HAb : Hid ((sg b 0).natAbs = 0) := sg_abs b 0
    have HD : Hid (digs 4294967296 0 = []) := digs_zero _
    rw [HD.out] at k1 f1 ⊢
    cases b
    all_goals
      go_wp2
      refine bodyPost_ret (by simp [results, Tryz.results40, go_sem, y10, y11]; rfl) rfl ?_
      rw [HC.out]
      exact endZ bb1 (by omega) (show w.heap.size + 1 < wx.heap.size from hsz) (by rw [HAb.out, HD.out]; exact k1) f1 HE.out.symm
end Go.Proofs.YtpcllhdfalebbaaGreatDoor.whl
namespace Go.Proofs.YtpcllhdfalebbaaGreatDoor.whl
open Go.RowKit Go.Proofs.YtpcllhdfalebbaaGreatDoor.num Go.Proofs.YtpcllhdfalebbaaGreatDoor.mem Go.Proofs.YtpcllhdfalebbaaGreatDoor.nat Go.Proofs.YtpcllhdfalebbaaGreatDoor.txt Go.Proofs.YtpcllhdfalebbaaGreatDoor.str Go.Proofs.YtpcllhdfalebbaaGreatDoor.flow
set_option linter.unusedVariables false
theorem IsS.cast {w : World} {k : IntKind} {v : Value} {l m : List Nat} (h : IsS w k v l) (e : l = m) : IsS w k v m := e ▸ h
theorem exact_q {x y q : Int} (hy : y ≠ 0) (h : x = q * y) : x.natAbs % y.natAbs = 0 ∧ x.natAbs / y.natAbs = q.natAbs ∧ sg (!(ngB x == ngB y)) q.natAbs = q := by
  have e : x.natAbs = q.natAbs * y.natAbs := by rw [h, Int.natAbs_mul]
  have hp : 0 < y.natAbs := by omega
  refine ⟨by rw [e]; exact Nat.mul_mod_left _ _, by rw [e]; exact Nat.mul_div_cancel _ hp, ?_⟩
  by_cases hq : q = 0
  · subst hq
    cases (!(ngB x == ngB y)) <;> rfl
  · have hx : sg (!(ngB q == ngB y)) (q.natAbs * y.natAbs) = x := by rw [h]; exact sg_mul q y
    have hs : ngB x = (!(ngB q == ngB y)) := by rw [← hx]; exact ngB_sg_pos (Nat.mul_pos (by omega) hp)
    rw [hs]
    have h1 := sg_self q
    revert h1
    cases ngB q <;> cases ngB y <;> exact id
set_option maxHeartbeats 1600000 in
set_option maxRecDepth 100000 in
theorem zexact_ok (a0 : Value) (x : Int) (a1 : Value) (y : Int) (q : Int) (w : World) (h0 : IsZ w a0 x) (h1 : IsZ w a1 y) (hl : lenZ x ≤ 20000) (hl2 : lenZ y ≤ 20000) (hy : y ≠ 0) (hq : x = q * y) :
    Calls Tryz.prog 94 #[a0, a1] w (RetZE q 0 w) := by
  obtain ⟨u0, rfl, s0⟩ := h0
  obtain ⟨A0, c0, rfl, _⟩ := id s0
  obtain ⟨u1, rfl, s1⟩ := h1
  obtain ⟨A1, c1, rfl, _⟩ := id s1
  have HL : Hid ((digs 4294967296 x.natAbs).length ≤ 90000) := Nat.le_trans hl (by omega)
  have HL2 : Hid ((digs 4294967296 y.natAbs).length ≤ 90000) := Nat.le_trans hl2 (by omega)
  obtain ⟨hm1, hm2, hm3⟩ := exact_q hy hq
  have HY : Hid (0 < y.natAbs) := by show 0 < _; omega
  have HM1 := Lib.hid hm1
  have HM2 := Lib.hid hm2
  have HZ := Lib.hid hm3
  clear hm1 hm2 hm3 hy hq
  go_enter Tryz.func94, Tryz.ntmps94
  go_upto_region 1 with (fail)
  obtain ⟨wx, hwx, bb, B0, B1, B2, hsz⟩ := vars3 w 25 25 25 #[.bool (ngB x), .slice A0 (digs 4294967296 (x).natAbs).length c0] #[.bool (ngB y), .slice A1 (digs 4294967296 (y).natAbs).length c1] #[.bool false, .slice none 0 0]
  rw [hwx]
  clear hwx
  have k0s := s0.below bb
  have k0 : IsZ wx (.agg #[.bool (ngB x), .slice A0 (digs 4294967296 (x).natAbs).length c0]) (x) := isZ_mk k0s rfl rfl
  have k1s := s1.below bb
  have k1 : IsZ wx (.agg #[.bool (ngB y), .slice A1 (digs 4294967296 (y).natAbs).length c1]) (y) := isZ_mk k1s rfl rfl
  have hszb := bb.size
  have bb0 := bb.size
  refine flowp 10 [Pd.eq (.pointer (some ⟨w.heap.size, 1, none⟩)), Pd.eq (.slice A0 (digs 4294967296 (x).natAbs).length c0), Pd.eq (.pointer (some ⟨w.heap.size + 1, 1, none⟩)), Pd.eq (.slice A1 (digs 4294967296 (y).natAbs).length c1), pt .u64 (digs 4294967296 q.natAbs) 0 wx.heap.size, pt .u64 (digs 4294967296 q.natAbs) 0 wx.heap.size, ps .u64 (digs 4294967296 q.natAbs) wx.heap.size, Pd.eq (.int .i64 0), ps .u64 (digs 4294967296 q.natAbs) wx.heap.size, Pd.eq (.int .i64 0)] (by kernel_rfl) ?ob3 ?done3
  case ob3 =>
    refine And.intro (ob_fieldAddr rfl (wt_none rfl) (ev_far rfl rfl) (fun _ => by kernel_rfl) (fun _ => rfl)) ?_
    refine And.intro (ob_load rfl (wt_none rfl) (ev_dep (j := 0) (by kernel_rfl) rfl rfl) (fun w2 hb => run_load1 Tryz.underlying23 rfl ((B0.below hb).cell 1)) (fun _ _ => rfl)) ?_
    refine And.intro (ob_fieldAddr rfl (wt_none rfl) (ev_far rfl rfl) (fun _ => by kernel_rfl) (fun _ => rfl)) ?_
    refine And.intro (ob_load rfl (wt_none rfl) (ev_dep (j := 2) (by kernel_rfl) rfl rfl) (fun w2 hb => run_load1 Tryz.underlying23 rfl ((B1.below hb).cell 1)) (fun _ _ => rfl)) ?_
    refine And.intro (ob_call2 rfl Tryz.func96 (by kernel_rfl) (wt_none rfl) (ev_dep (j := 1) (by kernel_rfl) rfl rfl) (ev_dep (j := 3) (by kernel_rfl) rfl rfl) (fun w2 u0 u1 hb h0 h1 => by obtain rfl := h0; obtain rfl := h1; exact (dexact_ok _ _ _ _ _ (k0s.below hb) (k1s.below hb) HL.out HL2.out HY.out _ HM1.out HM2.out.symm).mono fun e w3 h => RetSI.pd h hb.size)) ?_
    refine And.intro (ob_move rfl (wt_none rfl) (ev_dep (j := 4) (by kernel_rfl) rfl rfl) (fun _ _ h => h)) ?_
    refine And.intro (ob_extract rfl (wt_none rfl) (ev_dep (j := 5) (by kernel_rfl) rfl rfl) (fun w2 u hu => by obtain ⟨v, rfl, q1, q2⟩ := hu; exact ⟨v, rfl, q1, q2⟩)) ?_
    refine And.intro (ob_extract rfl (wt_none rfl) (ev_dep (j := 5) (by kernel_rfl) rfl rfl) (fun w2 u hu => by obtain ⟨v, rfl, q1, q2⟩ := hu; exact ⟨_, rfl, rfl⟩)) ?_
    refine And.intro (ob_assign rfl (wt_none rfl) (ev_dep (j := 6) (by kernel_rfl) rfl rfl) (fun _ _ h => h)) ?_
    refine And.intro (ob_assign rfl (wt_none rfl) (ev_dep (j := 7) (by kernel_rfl) rfl rfl) (fun _ _ h => h)) ?_
    trivial
  case done3 =>
    refine fun w1 hb1 v0 h0 v1 h1 v2 h2 v3 h3 v4 h4 v5 h5 v6 h6 v7 h7 v8 h8 v9 h9 b hbf => ?_
    obtain rfl := h0; obtain rfl := h1; obtain rfl := h2; obtain rfl := h3; obtain rfl := h7; obtain rfl := h9
    clear h4
    clear h5
    obtain ⟨q6, f6⟩ := h6
    obtain ⟨q8, f8⟩ := h8
    simp only [Act.put, List.setIfInBounds_toArray, List.set_cons_zero, List.set_cons_succ] at hbf
    subst hbf
    obtain ⟨A6, c6, rfl, _⟩ := id q8
    have kq := q8
    have kqf := f8
    replace B0 := B0.below hb1
    replace B1 := B1.below hb1
    replace B2 := B2.below hb1
    replace k0s := k0s.below hb1
    replace k1s := k1s.below hb1
    replace k0 := k0.below hb1
    replace k1 := k1.below hb1
    replace bb := bb.trans (hb1.mono bb.size)
    have hszb := bb.size
    obtain ⟨x00, x01, y00, y01⟩ := Blk.two B0
    obtain ⟨x10, x11, y10, y11⟩ := Blk.two B1
    obtain ⟨x20, x21, y20, y21⟩ := Blk.two B2
    refine ops_done ?_
    go_upto_region 4 with (fail)
    refine flowp 7 [Pd.eq (.pointer (some ⟨w.heap.size, 0, none⟩)), Pd.eq (.bool (ngB x)), Pd.eq (.pointer (some ⟨w.heap.size + 1, 0, none⟩)), Pd.eq (.bool (ngB y)), Pd.eq (.bool (!((ngB x) == (ngB y)))), Pd.eq (.slice A6 (digs 4294967296 q.natAbs).length c6), pz (q) wx.heap.size] (by kernel_rfl) ?ob4 ?done4
    case ob4 =>
      refine And.intro (ob_fieldAddr rfl (wt_none rfl) (ev_far rfl rfl) (fun _ => by kernel_rfl) (fun _ => rfl)) ?_
      refine And.intro (ob_load rfl (wt_none rfl) (ev_dep (j := 0) (by kernel_rfl) rfl rfl) (fun w2 hb => run_load1 Tryz.underlying4 rfl ((B0.below hb).cell 0)) (fun _ _ => rfl)) ?_
      refine And.intro (ob_fieldAddr rfl (wt_none rfl) (ev_far rfl rfl) (fun _ => by kernel_rfl) (fun _ => rfl)) ?_
      refine And.intro (ob_load rfl (wt_none rfl) (ev_dep (j := 2) (by kernel_rfl) rfl rfl) (fun w2 hb => run_load1 Tryz.underlying4 rfl ((B1.below hb).cell 0)) (fun _ _ => rfl)) ?_
      refine And.intro (ob_bin rfl (wt_none rfl) (ev_dep (j := 1) (by kernel_rfl) rfl rfl) (ev_dep (j := 3) (by kernel_rfl) rfl rfl) (fun _ _ _ hx hy => ⟨.bool (!((ngB x) == (ngB y))), by rw [hx, hy]; exact bin_neq_bool _ _ _ _ Tryz.underlying4 _, rfl⟩)) ?_
      refine And.intro (ob_move rfl (wt_none rfl) (ev_far rfl rfl) (fun _ _ h => h)) ?_
      refine And.intro (ob_call2 rfl Tryz.func70 (by kernel_rfl) (wt_none rfl) (ev_dep (j := 4) (by kernel_rfl) rfl rfl) (ev_dep (j := 5) (by kernel_rfl) rfl rfl) (fun w2 u0 u1 hb h0 h1 => by obtain rfl := h0; obtain rfl := h1; exact signed_pd _ _ _ (q) _ (kq.below hb) kqf HZ.out)) ?_
      trivial
    case done4 =>
      refine fun w2 hb2 v0 h0 v1 h1 v2 h2 v3 h3 v4 h4 v5 h5 v6 h6 b hbf => ?_
      obtain rfl := h0; obtain rfl := h1; obtain rfl := h2; obtain rfl := h3; obtain rfl := h4; obtain rfl := h5
      obtain ⟨q6, f6⟩ := h6
      simp only [Act.put, List.setIfInBounds_toArray, List.set_cons_zero, List.set_cons_succ] at hbf
      subst hbf
      obtain ⟨u6, rfl, q6⟩ := q6
      obtain ⟨A9, c9, rfl, _⟩ := id q6
      have B9 := B2.below hb2
      refine ops_store (i := 7) rfl rfl rfl rfl rfl rfl (cells := [.bool (ngB (q)), .slice A9 (digs 4294967296 (q).natAbs).length c9]) rfl B9 rfl (by kernel_rfl) (one2 rfl rfl) fun w9 hg9 BB9 => ?_
      have k9 := off q6 B9 no_ints2 hg9
      have f9 := (f6 _ _ rfl).mono bb0
      have bb9 := ((bb.trans (hb2.mono bb.size)).trans ((Below.refl _ _).grown hg9 (Nat.le_trans bb.size hb2.size) (fun g hg => by injection hg with hg; omega)))
      obtain ⟨c0, c1, _, _⟩ := Blk.two BB9
      refine ops_assign (i := 8) (.int .i64 0) rfl rfl rfl rfl rfl fun b hbf => ?_
      simp only [Act.put, List.setIfInBounds_toArray, List.set_cons_zero, List.set_cons_succ] at hbf
      subst hbf
      refine ops_done ?_
      go_wp2
      exact bodyPost_ret (v := .tuple #[.agg #[.bool (ngB (q)), .slice A9 (digs 4294967296 (q).natAbs).length c9], .int .i64 0]) (by simp [results, Tryz.results94, go_sem, c0, c1]) rfl ⟨_, rfl, isZ_mk k9 rfl rfl, freshZ_mk f9, bb9⟩
end Go.Proofs.YtpcllhdfalebbaaGreatDoor.whl
namespace Go.Proofs.YtpcllhdfalebbaaGreatDoor.whl
open Go.RowKit Go.Proofs.YtpcllhdfalebbaaGreatDoor.num Go.Proofs.YtpcllhdfalebbaaGreatDoor.mem Go.Proofs.YtpcllhdfalebbaaGreatDoor.nat Go.Proofs.YtpcllhdfalebbaaGreatDoor.txt Go.Proofs.YtpcllhdfalebbaaGreatDoor.str Go.Proofs.YtpcllhdfalebbaaGreatDoor.flow
set_option linter.unusedVariables false
set_option maxHeartbeats 800000 in
theorem zof_any (n : Int) (w : World) (h1 : -9223372036854775808 ≤ n) (h2 : n ≤ 9223372036854775807) :
    Calls Tryz.prog 87 #[.int .i64 n] w (RetZ n w) := by
  by_cases hn : n < 0
  · have HW : Hid (IntKind.u64.wrap (-IntKind.u64.wrap n) = ((n.natAbs : Nat) : Int)) := by
      show _ = _
      rw [IntKind.wrap_u64, IntKind.wrap_u64]; omega
    have HB : Hid (IntKind.u64.wrap (-IntKind.u64.wrap n) ≤ 18446744073709551615) := by
      show _ ≤ _
      rw [HW.out]; omega
    have HZ : Hid (sg true n.natAbs = n) := by show _ = _; rw [sg_true]; omega
    go_enter Tryz.func87, Tryz.ntmps87
    go_wp2_with fail
    refine (of_any _ n.natAbs _ HW.out HB.out).mono ?_
    rintro e w1 ⟨v1, rfl, k1, f1, b1⟩
    obtain ⟨A1, C1, rfl, _⟩ := id k1
    go_wp2_with fail
    refine (signed_pd true _ n.natAbs n _ k1 f1 HZ.out).mono ?_
    rintro e w2 ⟨v2, rfl, ⟨⟨u2, rfl, k2⟩, f2⟩, b2⟩
    obtain ⟨A2, C2, rfl, _⟩ := id k2
    have B2 := ((Blk.new w 25 #[.bool false, .slice none 0 0]).below b1).below b2
    obtain ⟨c0, c1, g0, g1⟩ := B2.two
    have bb1 := (below_alloc (Nat.le_refl w.heap.size) (.cells #[.bool false, .slice none 0 0] 25)).trans (b1.mono (by simp))
    have bb2 := bb1.trans (b2.mono bb1.size)
    go_wp2
    exact bodyPost_ret (v := .agg #[.bool (ngB n), .slice A2 (digs 4294967296 n.natAbs).length C2]) (by simp [results, Tryz.results87, go_sem, c0, c1]) rfl (endZ bb2 (Nat.le_refl _) (by simp) k2 (f2 _ _ rfl) rfl)
  · have HW : Hid (n = ((n.natAbs : Nat) : Int)) := by show _ = _; omega
    have HZ : Hid (sg false n.natAbs = n) := by show _ = _; rw [sg_false]; omega
    have hn0 : 0 ≤ n := by omega
    go_enter Tryz.func87, Tryz.ntmps87
    go_wp2_with fail
    refine (of_any _ n.natAbs _ HW.out (by omega)).mono ?_
    rintro e w1 ⟨v1, rfl, k1, f1, b1⟩
    obtain ⟨A1, C1, rfl, _⟩ := id k1
    go_wp2_with fail
    refine (signed_pd false _ n.natAbs n _ k1 f1 HZ.out).mono ?_
    rintro e w2 ⟨v2, rfl, ⟨⟨u2, rfl, k2⟩, f2⟩, b2⟩
    obtain ⟨A2, C2, rfl, _⟩ := id k2
    have B2 := ((Blk.new w 25 #[.bool false, .slice none 0 0]).below b1).below b2
    obtain ⟨c0, c1, g0, g1⟩ := B2.two
    have bb1 := (below_alloc (Nat.le_refl w.heap.size) (.cells #[.bool false, .slice none 0 0] 25)).trans (b1.mono (by simp))
    have bb2 := bb1.trans (b2.mono bb1.size)
    go_wp2
    exact bodyPost_ret (v := .agg #[.bool (ngB n), .slice A2 (digs 4294967296 n.natAbs).length C2]) (by simp [results, Tryz.results87, go_sem, c0, c1]) rfl (endZ bb2 (Nat.le_refl _) (by simp) k2 (f2 _ _ rfl) rfl)
/-- A whole number as a text. -/
def txtz (z : Int) : List UInt8 := if z < 0 then 45 :: txt 10 z.natAbs else txt 10 z.natAbs
theorem concat_minus (R : ByteArray) (l : List UInt8) (h : StrIs R l) : StrIs (⟨#[45]⟩ ++ R) (45 :: l) := by
  subst h
  show (ByteArray.append ⟨#[45]⟩ R).data.toList = _
  simp [ByteArray.append]
theorem txt10_len (x : Nat) : (txt 10 x).length ≤ 10 * (digs 4294967296 x).length + 1 := by
  unfold txt
  split
  · simp
  · rw [List.length_map, List.length_reverse]
    refine Nat.le_succ_of_le (digs_len_le (by omega) ?_)
    have h1 : x < 4294967296 ^ (digs 4294967296 x).length := digs_lt_pow (by omega) x
    rw [Nat.pow_mul]
    exact Nat.lt_of_lt_of_le h1 (Nat.pow_le_pow_left (by decide) _)
set_option maxHeartbeats 800000 in
theorem zprint_any (v : Value) (z : Int) (w : World) (h : IsZ w v z) (hl : lenZ z ≤ 150) :
    Calls Tryz.prog 54 #[v] w (RetStrB (txtz z) w) := by
  obtain ⟨u, rfl, s0⟩ := id h
  obtain ⟨A, c, rfl, _⟩ := id s0
  go_enter Tryz.func54, Tryz.ntmps54
  go_wp2_with fail
  have B0 := Blk.new w 25 #[.bool (ngB z), .slice A (digs 4294967296 z.natAbs).length c]
  refine (print_any _ _ _ (s0.below (below_alloc (Nat.le_refl _) _)) hl).mono ?_
  rintro e w1 ⟨R, rfl, hR, b1⟩
  have B1 := B0.below b1
  have bb := (below_alloc (Nat.le_refl w.heap.size) (.cells #[.bool (ngB z), .slice A (digs 4294967296 z.natAbs).length c] 25)).trans (b1.mono (by simp))
  obtain ⟨x0, x1, _, _⟩ := Blk.two B1
  go_wp2_with fail
  refine (sign_any _ z (ordz z 0) _ ⟨_, rfl, s0.below bb⟩ rfl).mono ?_
  rintro e w2 ⟨rfl, b2⟩
  have bb2 := bb.trans (b2.mono bb.size)
  by_cases hz : z < 0
  · have ho : ordz z 0 < 0 := by rw [ordz_lt hz]; decide
    have hsz : ¬ 9223372036854775807 < 1 + R.size := by
      have h1 := hR.size
      have h2 := txt10_len z.natAbs
      unfold lenZ at hl
      omega
    have HT : Hid (txtz z = 45 :: txt 10 z.natAbs) := by show _ = _; unfold txtz; rw [if_pos hz]
    clear hz
    go_wp2
    go_ret
    rw [HT.out]
    exact ⟨_, rfl, concat_minus R _ hR, bb2⟩
  · have ho : ¬ ordz z 0 < 0 := by
      have := ordz_bd z 0
      rcases Int.lt_trichotomy z 0 with h | h | h
      · omega
      · rw [ordz_eq h]; omega
      · rw [ordz_gt h]; omega
    have HT : Hid (txtz z = txt 10 z.natAbs) := by show _ = _; unfold txtz; rw [if_neg hz]
    clear hz
    go_wp2
    go_ret
    rw [HT.out]
    exact ⟨_, rfl, hR, bb2⟩
end Go.Proofs.YtpcllhdfalebbaaGreatDoor.whl
namespace Go.Proofs.YtpcllhdfalebbaaGreatDoor.rto
open Go.RowKit Go.Proofs.YtpcllhdfalebbaaGreatDoor.num Go.Proofs.YtpcllhdfalebbaaGreatDoor.mem Go.Proofs.YtpcllhdfalebbaaGreatDoor.nat Go.Proofs.YtpcllhdfalebbaaGreatDoor.txt Go.Proofs.YtpcllhdfalebbaaGreatDoor.str Go.Proofs.YtpcllhdfalebbaaGreatDoor.whl Go.Proofs.YtpcllhdfalebbaaGreatDoor.rat
set_option linter.unusedVariables false
/-- / or . -/
def sepB (c : UInt8) : Bool := c == 47 || c == 46
def cutA (l : List UInt8) : List UInt8 := l.takeWhile fun c => !sepB c
def cutB (l : List UInt8) : List UInt8 := l.dropWhile fun c => !sepB c
section
open Classical
/-- What stands ahead of the %: an error's number (0: none), and the fraction. -/
noncomputable def readP (n : Nat) (l : List UInt8) : Int × Rat :=
  if okS 10 (cutA l) then
    match cutB l with
    | [] => (0, mkRat (numS 10 (cutA l)) n)
    | c :: r => if okS 10 r then (if c = 47 then (if numS 10 r = 0 then (3, 0) else (0, mkRat (numS 10 (cutA l)) (numS 10 r * n))) else (0, mkRat ((numS 10 (cutA l) * 10 ^ r.length + numS 10 r : Nat) : Int) (10 ^ r.length * n))) else (5, 0)
  else (5, 0)
/-- What a text is read as. -/
noncomputable def readQ (l : List UInt8) : Int × Rat := if l.getLast? = some 37 then readP 100 l.dropLast else readP 1 l
end
theorem dig_sep {c : UInt8} (h : dv c < 10) : sepB c = false := by
  unfold sepB
  rw [Bool.or_eq_false_iff, beq_eq_false_iff_ne, beq_eq_false_iff_ne]
  constructor <;> rintro rfl <;> revert h <;> decide
theorem dig_pct {c : UInt8} (h : dv c < 10) : c ≠ 37 := by rintro rfl; revert h; decide
theorem cutA_ok {l m : List UInt8} {c : UInt8} (h : ∀ x ∈ l, dv x < 10) (hc : sepB c = true) : cutA (l ++ c :: m) = l ∧ cutB (l ++ c :: m) = c :: m := by
  unfold cutA cutB
  induction l with
  | nil => simp [hc]
  | cons a l ih =>
    have ha := dig_sep (h a (by simp))
    obtain ⟨h1, h2⟩ := ih fun x hx => h x (by simp [hx])
    simp [ha, h1, h2]
theorem cutA_all {l : List UInt8} (h : ∀ x ∈ l, dv x < 10) : cutA l = l ∧ cutB l = [] := by
  unfold cutA cutB
  induction l with
  | nil => simp
  | cons a l ih =>
    have ha := dig_sep (h a (by simp))
    obtain ⟨h1, h2⟩ := ih fun x hx => h x (by simp [hx])
    simp [ha, h1, h2]
theorem numS_append (b : Nat) (l m : List UInt8) : numS b (l ++ m) = numS b l * b ^ m.length + numS b m := by
  unfold numS
  rw [List.reverse_append, List.map_append, val_append, List.length_map, List.length_reverse, Nat.mul_comm]
  omega
theorem numS_noughts (b n : Nat) (l : List UInt8) : numS b (List.replicate n 48 ++ l) = numS b l := by
  induction n with
  | zero => simp
  | succ n ih => rw [List.replicate_succ, List.cons_append, numS_cons0 _ (by decide), ih]
theorem okS_append {b : Nat} {l m : List UInt8} (h : okS b l) (k : ∀ c ∈ m, dv c < b) : okS b (l ++ m) := by
  refine ⟨by simp [h.1], fun c hc => ?_⟩
  rcases List.mem_append.1 hc with h1 | h1
  · exact h.2 c h1
  · exact k c h1
theorem okS_take {b : Nat} {l : List UInt8} {n : Nat} (h : okS b l) (hn : 0 < n) : okS b (l.take n) := by
  refine ⟨?_, fun c hc => h.2 c (List.mem_of_mem_take hc)⟩
  obtain ⟨h1, _⟩ := h
  cases l with
  | nil => exact absurd rfl h1
  | cons a l => cases n with
    | zero => omega
    | succ n => simp
theorem okS_drop {b : Nat} {l : List UInt8} {n : Nat} (h : okS b l) (hn : n < l.length) : okS b (l.drop n) := by
  refine ⟨fun e => ?_, fun c hc => h.2 c (List.mem_of_mem_drop hc)⟩
  have := congrArg List.length e
  simp at this
  omega
/-- Noughts ahead, so that more than n digits stand there. -/
def padz (n : Nat) (s : List UInt8) : List UInt8 := List.replicate (n + 1 - s.length) 48 ++ s
theorem padz_ok {n : Nat} {s : List UInt8} (h : okS 10 s) : okS 10 (padz n s) := by
  refine ⟨by simp [padz, h.1], fun c hc => ?_⟩
  unfold padz at hc
  rcases List.mem_append.1 hc with h1 | h1
  · rw [List.eq_of_mem_replicate h1]; decide
  · exact h.2 c h1
theorem padz_num (n : Nat) (s : List UInt8) : numS 10 (padz n s) = numS 10 s := numS_noughts _ _ _
theorem padz_len {n : Nat} {s : List UInt8} : n < (padz n s).length := by simp [padz]; omega
theorem padz_zero {s : List UInt8} (h : s ≠ []) : padz 0 s = s := by
  have := List.length_pos_iff.2 h
  unfold padz
  rw [show 0 + 1 - s.length = 0 by omega]; rfl
/-- The digits of x, n of them behind the point. -/
def decP (x n : Nat) : List UInt8 := if n = 0 then txt 10 x else (padz n (txt 10 x)).take ((padz n (txt 10 x)).length - n) ++ 46 :: (padz n (txt 10 x)).drop ((padz n (txt 10 x)).length - n)
def decT (b : Bool) (x n : Nat) : List UInt8 := if b = true then 45 :: decP x n else decP x n
theorem read_dec (x n m : Nat) : readP m (decP x n) = (0, mkRat (x : Int) (10 ^ n * m)) := by
  have ht := txt_ok (b := 10) (by omega) (by omega) x
  unfold decP
  by_cases hn : n = 0
  · rw [if_pos hn]
    obtain ⟨h1, h2⟩ := cutA_all ht.2
    unfold readP
    rw [h1, h2, if_pos ht, num_txt (by omega) (by omega), hn]
    simp
  · rw [if_neg hn]
    have hp := padz_ok (n := n) ht
    have hl : n < (padz n (txt 10 x)).length := padz_len
    have hv := padz_num n (txt 10 x)
    rw [num_txt (by omega) (by omega)] at hv
    generalize padz n (txt 10 x) = s at *
    have ha := okS_take (n := s.length - n) hp (by omega)
    have hb := okS_drop (n := s.length - n) hp (by omega)
    obtain ⟨h1, h2⟩ := cutA_ok (l := s.take (s.length - n)) (m := s.drop (s.length - n)) (c := 46) ha.2 (by decide)
    have e := numS_append 10 (s.take (s.length - n)) (s.drop (s.length - n))
    rw [List.take_append_drop, hv, List.length_drop, show s.length - (s.length - n) = n by omega] at e
    unfold readP
    rw [h1, h2, if_pos ha]
    simp only [if_pos hb]
    rw [if_neg (by decide), List.length_drop, show s.length - (s.length - n) = n by omega, ← e]
theorem decP_pct (x n : Nat) : ∀ c ∈ decP x n, c ≠ 37 := by
  intro c hc
  have ht := txt_ok (b := 10) (by omega) (by omega) x
  unfold decP at hc
  by_cases hn : n = 0
  · rw [if_pos hn] at hc; exact dig_pct (ht.2 c hc)
  · rw [if_neg hn] at hc
    have hp := padz_ok (n := n) ht
    rcases List.mem_append.1 hc with h | h
    · exact dig_pct (hp.2 c (List.mem_of_mem_take h))
    · rcases List.mem_cons.1 h with rfl | h
      · decide
      · exact dig_pct (hp.2 c (List.mem_of_mem_drop h))
theorem read_own {l : List UInt8} (h : ∀ c ∈ l, c ≠ 37) : readQ l = readP 1 l := by
  unfold readQ
  rw [if_neg]
  intro e
  exact h 37 (List.mem_of_getLast? e) rfl
theorem read_pct (l : List UInt8) : readQ (l ++ [37]) = readP 100 l := by
  unfold readQ
  rw [if_pos (by simp), List.dropLast_concat]
/-- A fraction's text. -/
def txtr (q : Rat) : List UInt8 := if q.den = 1 then txtz q.num else txtz q.num ++ 47 :: txt 10 q.den
theorem txtz_pos {z : Int} (h : ¬ z < 0) : txtz z = txt 10 z.natAbs := if_neg h
theorem read_print {q : Rat} (h : ¬ q.num < 0) : readQ (txtr q) = (0, q) := by
  have h1 := txt_ok (b := 10) (by omega) (by omega) q.num.natAbs
  have h2 := txt_ok (b := 10) (by omega) (by omega) q.den
  have e1 : ((q.num.natAbs : Nat) : Int) = q.num := by omega
  unfold txtr
  rw [txtz_pos h]
  by_cases hd : q.den = 1
  · rw [if_pos hd, read_own fun c hc => dig_pct (h1.2 c hc)]
    obtain ⟨k1, k2⟩ := cutA_all h1.2
    unfold readP
    rw [k1, k2, if_pos h1, num_txt (by omega) (by omega), e1]
    conv => rhs; rw [← Rat.mkRat_self q, hd]
  · rw [if_neg hd, read_own fun c hc => by
      rcases List.mem_append.1 hc with h | h
      · exact dig_pct (h1.2 c h)
      · rcases List.mem_cons.1 h with rfl | h
        · decide
        · exact dig_pct (h2.2 c h)]
    obtain ⟨k1, k2⟩ := cutA_ok (l := txt 10 q.num.natAbs) (m := txt 10 q.den) (c := 47) h1.2 (by decide)
    unfold readP
    rw [k1, k2, if_pos h1]
    simp only [if_pos h2, num_txt (b := 10) (by omega) (by omega)]
    rw [if_pos trivial, if_neg q.den_nz, Nat.mul_one, e1, Rat.mkRat_self]
/-- So many digits tell it. -/
theorem tells {q : Rat} {n : Nat} : (q.num.natAbs * 10 ^ n) % q.den = 0 ↔ q.den ∣ 10 ^ n := by
  rw [← Nat.dvd_iff_mod_eq_zero]
  exact ⟨fun h => Nat.Coprime.dvd_of_dvd_mul_left (Nat.Coprime.symm q.reduced) h, fun h => Nat.dvd_trans h (Nat.dvd_mul_left _ _)⟩
theorem least_ten : ∀ (n d : Nat), d ∣ 10 ^ n → ∃ k, k ≤ n ∧ d ∣ 10 ^ k ∧ (∀ m, m < k → ¬ d ∣ 10 ^ m) ∧ 2 ^ k ≤ d
  | 0, d, h => by
      have : d = 1 := Nat.dvd_one.1 h
      exact ⟨0, Nat.le_refl _, h, fun m hm => by omega, by omega⟩
  | n + 1, d, h => by
      by_cases h1 : d = 1
      · subst h1; exact ⟨0, by omega, Nat.one_dvd _, fun m hm => by omega, by omega⟩
      have hd0 : 0 < d := Nat.pos_of_dvd_of_pos h (Nat.pow_pos (by omega))
      obtain ⟨g, hg⟩ : ∃ g, g = Nat.gcd d 10 := ⟨_, rfl⟩
      have hgp : 0 < g := by rw [hg]; exact Nat.gcd_pos_of_pos_right _ (by omega)
      obtain ⟨e, he⟩ : g ∣ d := by rw [hg]; exact Nat.gcd_dvd_left _ _
      obtain ⟨f, hf⟩ : g ∣ 10 := by rw [hg]; exact Nat.gcd_dvd_right _ _
      have hc : Nat.Coprime e f := by
        have := Nat.coprime_div_gcd_div_gcd (m := d) (n := 10) (by rw [← hg]; exact hgp)
        rw [← hg] at this
        rw [he, Nat.mul_div_cancel_left _ hgp] at this
        rwa [show (10 : Nat) / g = f by conv => lhs; rw [hf]; rw [Nat.mul_div_cancel_left _ hgp]] at this
      have hg1 : 2 ≤ g := by
        rcases Nat.lt_or_ge g 2 with hlt | hge
        · have hg1 : Nat.gcd d 10 = 1 := by omega
          have : Nat.Coprime d (10 ^ (n + 1)) := Nat.Coprime.pow_right _ hg1
          have := Nat.Coprime.eq_one_of_dvd this h
          omega
        · exact hge
      have he10 : e ∣ 10 ^ n := by
        have h2 : g * e ∣ g * (f * 10 ^ n) := by rw [← he, ← Nat.mul_assoc, ← hf, Nat.mul_comm, ← Nat.pow_succ]; exact h
        exact Nat.Coprime.dvd_of_dvd_mul_left hc (Nat.dvd_of_mul_dvd_mul_left hgp h2)
      obtain ⟨k, hk, k1, k2, k3⟩ := least_ten n e he10
      refine ⟨k + 1, by omega, ?_, ?_, ?_⟩
      · rw [he, Nat.pow_succ, Nat.mul_comm (10 ^ k)]
        exact Nat.mul_dvd_mul ⟨f, hf⟩ k1
      · intro m hm hd
        cases m with
        | zero => exact h1 (Nat.dvd_one.1 hd)
        | succ m =>
          refine k2 m (by omega) ?_
          have h2 : g * e ∣ g * (f * 10 ^ m) := by rw [← he, ← Nat.mul_assoc, ← hf, Nat.mul_comm, ← Nat.pow_succ]; exact hd
          exact Nat.Coprime.dvd_of_dvd_mul_left hc (Nat.dvd_of_mul_dvd_mul_left hgp h2)
      · rw [he, Nat.pow_succ, Nat.mul_comm]
        exact Nat.mul_le_mul hg1 k3
theorem ten_bits {d k : Nat} (h : 2 ^ k ≤ d) : k < nbits d := by
  rcases Nat.lt_or_ge k (nbits d) with h1 | h1
  · exact h1
  · have h2 := nbits_lt (x := d)
    have := Nat.pow_le_pow_right (n := 2) (by omega) h1
    omega
theorem dec_q {q : Rat} {n x : Nat} (h0 : ¬ q.num < 0) (hx : x = q.num.natAbs * 10 ^ n / q.den) (hd : q.den ∣ 10 ^ n) : mkRat (x : Int) (10 ^ n) = q := by
  have h1 : x * q.den = q.num.natAbs * 10 ^ n := by rw [hx]; exact Nat.div_mul_cancel (Nat.dvd_trans hd (Nat.dvd_mul_left _ _))
  have h2 : (10 : Nat) ^ n ≠ 0 := by have : 0 < 10 ^ n := Nat.pow_pos (by omega); omega
  conv => rhs; rw [← Rat.mkRat_self q]
  rw [Rat.mkRat_eq_iff h2 q.den_nz]
  have h3 := congrArg (fun k : Nat => (k : Int)) h1
  simp only [Int.natCast_mul] at h3
  rw [h3, show ((q.num.natAbs : Nat) : Int) = q.num by omega]
theorem dec_back {q : Rat} {n x : Nat} (h0 : ¬ q.num < 0) (hx : x = q.num.natAbs * 10 ^ n / q.den) (hd : q.den ∣ 10 ^ n) : readQ (decP x n) = (0, q) := by
  rw [read_own (decP_pct x n), read_dec, Nat.mul_one, dec_q h0 hx hd]
theorem pct_back {q : Rat} {n x : Nat} (h0 : ¬ (q * 100).num < 0) (hx : x = (q * 100).num.natAbs * 10 ^ n / (q * 100).den) (hd : (q * 100).den ∣ 10 ^ n) : readQ (decP x n ++ [37]) = (0, q) := by
  have e : mkRat (x : Int) (10 ^ n * 100) = mkRat (x : Int) (10 ^ n) * mkRat 1 100 := by rw [Rat.mkRat_mul_mkRat, Int.mul_one]
  rw [read_pct, read_dec, e, dec_q h0 hx hd, Rat.mul_assoc, show (100 : Rat) * mkRat 1 100 = 1 by decide +kernel, Rat.mul_one]
end Go.Proofs.YtpcllhdfalebbaaGreatDoor.rto
namespace Go.Proofs.YtpcllhdfalebbaaGreatDoor.whl
open Go.RowKit Go.ChangeShapes Go.WideShapes Go.ChangeAt Go.Joins Go.Deep Go.Proofs.YtpcllhdfalebbaaGreatDoor.num Go.Proofs.YtpcllhdfalebbaaGreatDoor.mem Go.Proofs.YtpcllhdfalebbaaGreatDoor.nat Go.Proofs.YtpcllhdfalebbaaGreatDoor.txt Go.Proofs.YtpcllhdfalebbaaGreatDoor.str Go.Proofs.YtpcllhdfalebbaaGreatDoor.flow
set_option linter.unusedVariables false
theorem trod_nat {H : Type} {enc : TypeId × Value → H} {P : Program} {W : World} {t e : TypeId} {n : Nat} {v : Value} {y : DataW H × List MemPlace} (ht : P.underlying t = some (.slice e)) (he : P.underlying e = some (.int .u64)) (hc : P.cellsOf e = 1)
    (h : DataW.trod enc P W 0 (fun _ => true) true n t [v] = some y) : ∃ l : List Nat, IsS W .u64 v l ∧ Lt 18446744073709551616 l := by
  rcases open_ints ht he hc h with ⟨hcs, hx⟩ | ⟨a, len, cap, zs, hcs, _, hl, hm, hz, hx, hcell, hwz⟩
  · injection hcs with hcs _
    subst hcs
    exact ⟨[], isNil _ _, Lt.nil _⟩
  · injection hcs with hcs _
    subst hcs
    simp only [if_true] at hz
    have hlen : ((zs.take len).map Int.toNat).length = len := by simp; omega
    refine ⟨(zs.take len).map Int.toNat, ⟨some a, cap, by rw [hlen], by rw [hlen]; exact hl, hm, ?_⟩, ?_⟩
    · intro i d hd
      have hi : i < len := by rw [← hlen]; exact (List.getElem?_eq_some_iff.1 hd).1
      have hi2 : i < zs.length := by omega
      refine ⟨a, rfl, ?_⟩
      rw [hcell i hi2]
      have hb := wf_u64 (hwz _ (List.getElem_mem hi2))
      have hd2 : d = (zs[i]).toNat := by
        rw [List.getElem?_map, List.getElem?_take_of_lt hi, List.getElem?_eq_getElem hi2] at hd
        simpa using hd.symm
      rw [List.getD_eq_getElem?_getD, List.getElem?_eq_getElem hi2, hd2]
      simp only [Option.getD_some]
      rw [Int.toNat_of_nonneg hb.1]
    · intro d hd
      obtain ⟨z, hz1, rfl⟩ := List.mem_map.1 hd
      have hb := wf_u64 (hwz z (List.mem_of_mem_take hz1))
      omega
theorem lenZ_mul_le {x y : Int} {m n : Nat} (h : lenZ x ≤ m) (h' : lenZ y ≤ n) : lenZ (x * y) ≤ m + n := by have := lenZ_mul x y; omega
/-- A variable that the region made: it holds its type's zero value. -/
def pn (t : TypeId) (cells : Array Value) (B : Nat) : Pd := ⟨fun w v => ∃ g, v = .pointer (some ⟨g, 0, none⟩) ∧ B ≤ g ∧ Blk w g t cells, fun h hb => by obtain ⟨g, e, h1, h2⟩ := h; exact ⟨g, e, h1, h2.below hb⟩⟩
/-- Two whole numbers, and an error's number. -/
def pzz (x y : Int) (n : Int) (B : Nat) : Pd := ⟨fun w t => ∃ v u, t = .tuple #[v, u, .int .i64 n] ∧ IsZ w v x ∧ IsZ w u y ∧ FreshZ B v ∧ FreshZ B u, fun h hb => by obtain ⟨v, u, e, h1, h2, h3⟩ := h; exact ⟨v, u, e, h1.below hb, h2.below hb, h3⟩⟩
def pze (x : Int) (n : Int) (B : Nat) : Pd := ⟨fun w t => ∃ v, t = .tuple #[v, .int .i64 n] ∧ IsZ w v x ∧ FreshZ B v, fun h hb => by obtain ⟨v, e, h1, h2⟩ := h; exact ⟨v, e, h1.below hb, h2⟩⟩
def prr (x y : Int) : Pd := ⟨fun w t => ∃ v u, t = .tuple #[v, u] ∧ IsR w v x ∧ IsR w u y, fun h hb => by obtain ⟨v, u, e, h1, h2⟩ := h; exact ⟨v, u, e, h1.below hb, h2.below hb⟩⟩
theorem RetZZE.pd {x y : Int} {n : Int} {w : World} {e : Ending} {w' : World} {B : Nat} (h : RetZZE x y n w e w') (hB : B ≤ w.heap.size) : RetPd (pzz x y n B) w e w' := by
  obtain ⟨v, u, rfl, h1, h2, h3, h4, h5⟩ := h
  exact ⟨_, rfl, ⟨v, u, rfl, h1, h2, h3.mono hB, h4.mono hB⟩, h5⟩
theorem RetZE.pd {x : Int} {n : Int} {w : World} {e : Ending} {w' : World} {B : Nat} (h : RetZE x n w e w') (hB : B ≤ w.heap.size) : RetPd (pze x n B) w e w' := by
  obtain ⟨v, rfl, h1, h2, h3⟩ := h
  exact ⟨_, rfl, ⟨v, rfl, h1, h2.mono hB⟩, h3⟩
theorem RetRR.pd {x y : Int} {w : World} {e : Ending} {w' : World} (h : RetRR x y w e w') : RetPd (prr x y) w e w' := by
  obtain ⟨v, u, rfl, h1, h2, h3⟩ := h
  exact ⟨_, rfl, ⟨v, u, rfl, h1, h2⟩, h3⟩
end Go.Proofs.YtpcllhdfalebbaaGreatDoor.whl
namespace Go.Proofs.YtpcllhdfalebbaaGreatDoor.whl
open Go.RowKit Go.Proofs.YtpcllhdfalebbaaGreatDoor.num Go.Proofs.YtpcllhdfalebbaaGreatDoor.mem Go.Proofs.YtpcllhdfalebbaaGreatDoor.nat Go.Proofs.YtpcllhdfalebbaaGreatDoor.txt Go.Proofs.YtpcllhdfalebbaaGreatDoor.str Go.Proofs.YtpcllhdfalebbaaGreatDoor.flow
set_option linter.unusedVariables false
/-- The text l is a sign (or none), and t. -/
def Cut (b : Bool) (l t : List UInt8) : Prop := (b = true ∧ l = 45 :: t) ∨ (b = false ∧ t = l ∧ l.head? ≠ some 45)
def RetCut (b : Bool) (t : List UInt8) (w : World) (e : Ending) (w' : World) : Prop := ∃ R, e = .returned (.tuple #[.string R, .bool b]) ∧ StrIs R t ∧ Below w.heap.size w w'
end Go.Proofs.YtpcllhdfalebbaaGreatDoor.whl
namespace Go.Proofs.YtpcllhdfalebbaaGreatDoor.whl
open Go.RowKit Go.Proofs.YtpcllhdfalebbaaGreatDoor.num Go.Proofs.YtpcllhdfalebbaaGreatDoor.mem Go.Proofs.YtpcllhdfalebbaaGreatDoor.nat Go.Proofs.YtpcllhdfalebbaaGreatDoor.txt Go.Proofs.YtpcllhdfalebbaaGreatDoor.str Go.Proofs.YtpcllhdfalebbaaGreatDoor.flow
set_option linter.unusedVariables false
theorem u8_fig {r : Nat} (h : r < 10) : 48 + (r : Int) = (((ch r).toNat : Nat) : Int) := by
  rw [ch_toNat (by omega), if_pos h]; omega
set_option maxHeartbeats 3200000 in
set_option maxRecDepth 100000 in
theorem rtext_any (v : Value) (a : Nat) (w : World) (h : IsS w .i64 v (digs 10000 a)) (hl3 : (digs 10000 a).length ≤ 1000) :
    Calls Tryz.prog 21 #[v] w (RetStrB (txt 10 a) w) := by
  have hdl : (digs 10 a).length ≤ 10000 := by
    refine Nat.le_trans (digs_len_le (k := 4 * (digs 10000 a).length) (by omega) ?_) (by omega)
    have h1 : a < 10000 ^ (digs 10000 a).length := digs_lt_pow (by omega) a
    rw [Nat.pow_mul]
    exact h1
  have HDL := Lib.hid hdl
  clear hdl
  obtain ⟨A, c, rfl, _⟩ := id h
  by_cases h0 : a = 0
  · have hlz := rlen0 h0
    have HT : Hid (txt 10 a = [48]) := by show _ = _; rw [h0, txt_zero]
    have hlI : (((digs 10000 a).length : Int) == 0) = true := by rw [beq_iff_eq]; omega
    clear hlz h0
    go_enter Tryz.func21, Tryz.ntmps21
    go_wp2
    go_ret
    exact ⟨_, rfl, by rw [HT.out]; rfl, Below.refl _ _⟩
  · have hap : 0 < a := by omega
    have hlz := rlenp hap
    have hlI : (((digs 10000 a).length : Int) == 0) = false := by rw [beq_eq_false_iff_ne]; omega
    have hlN : ((digs 10000 a).length == 0) = false := by rw [beq_eq_false_iff_ne]; omega
    have hne3 : ¬ digs 10000 a = [] := fun e => by rw [e] at hlz; simp at hlz
    have HT : Hid (txt 10 a = (digs 10 a).reverse.map ch) := txt_pos h0
    have HA0 := Lib.hid h0
    clear h0
    go_enter Tryz.func21, Tryz.ntmps21
    go_wp2
    have hown0 : Own (w.alloc (.cells #[] 5)) w.heap.size 5 .u8 (.slice (some ⟨w.heap.size, 0, none⟩) 0 0) (u8s (([] : List Nat).reverse.map ch)) := own_lit0 w _ _ _ (Nat.le_refl _)
    have hb0 : Below w.heap.size w (w.alloc (.cells #[] 5)) := below_alloc (Nat.le_refl _) _
    have k10 := h.below (below_alloc (Nat.le_refl _) (.cells #[] 5))
    generalize w.alloc (.cells #[] 5) = W0 at hown0 hb0 k10 ⊢
    go_loopw [0, 3] (fun vx vo wr => ∃ (y : Nat) (D : List Nat), y ≤ a ∧ Hid (DG 10 a y D) ∧ IsS wr .i64 vx (digs 10000 y) ∧ Own wr w.heap.size 5 .u8 vo (u8s (D.reverse.map ch)) ∧ Below w.heap.size w wr) (fun _ vo _ => (digs 10 a).length - lenOf vo)
    case atStart => exact ⟨a, [], Nat.le_refl _, rfl, k10, hown0, hb0⟩
    case round =>
      clear hown0 hb0 k10 h
      obtain ⟨y, D, hy, HD, ky, hown, hb⟩ := hrel
      have ly : (digs 10000 y).length ≤ 1000 := Nat.le_trans (digs_len_mono (by omega) hy) hl3
      obtain ⟨A2, c2, rfl, _⟩ := id ky
      obtain ⟨A3, c3, hvo, hc3, hm3, hr3⟩ := id hown.isS
      obtain ⟨T, hT⟩ : ∃ T, T = D.reverse.map ch := ⟨_, rfl⟩
      rw [← hT] at hvo hown hc3 hr3
      have HTE := Lib.hid hT
      have HUL : Hid ((u8s T).length = D.length) := by show _ = _; rw [u8s_len, hT]; simp
      clear hT hc3 hm3
      subst hvo
      by_cases h0 : 0 < y
      · have hlz2 := rlenp h0
        have HD2 := Lib.hid (HD.out.step (by omega) h0)
        have hlt : D.length < (digs 10 a).length := by
          have h1 := congrArg List.length HD.out
          rw [List.length_append, digs_pos (by omega) h0, List.length_cons] at h1
          omega
        have hq : y / 10 ≤ a := Nat.le_trans (Nat.div_le_self _ _) hy
        have hr : y % 10 < 10 := Nat.mod_lt _ (by omega)
        have HQ : Hid (y / 10 = y / 10) := rfl
        obtain ⟨q, hqe⟩ : ∃ q, q = y / 10 := ⟨_, rfl⟩
        obtain ⟨r, hre⟩ : ∃ r, r = y % 10 := ⟨_, rfl⟩
        rw [← hqe, ← hre] at HD2
        rw [← hqe] at hq
        rw [← hre] at hr
        have HQE := Lib.hid hqe
        have HRE := Lib.hid hre
        have HLT := Lib.hid hlt
        have HF := Lib.hid (u8_fig hr)
        have hr0 : (r : Int) < 10 := by omega
        clear hqe hre hlt
        go_wp2_with fail
        refine (divSmall_any _ y _ 10 q r _ rfl ky (by omega) (by omega) (by omega) HQE.out HRE.out).mono ?_
        rintro e w2 ⟨v2, rfl, k2, f2, b2⟩
        have hb2 := hb.trans (b2.mono hb.size)
        have hown2 := hown.below b2
        have hr4 := hr3.below b2
        have hsz2 := hb2.size
        clear hown hb hr3
        go_wp2_with (at_builtin; refine wpList_append_b rfl (.tmp 21) (.tmp 22) rfl slb rfl (own_lit1 w2 w.heap.size 5 .u8 (d := (ch r).toNat) HF.out hb2.size) rfl rfl (hr4.below (below_alloc (Nat.le_refl _) _)) (by have h1 := HUL.out; have h3 := HLT.out; have h5 := HDL.out; simp only [List.length_cons, List.length_nil]; omega) (Nat.le_trans hsz2 (by simp)) ?_; intro v3 w4 hown4 hb4 hg4)
        have hown5 : Hid (Own w4 w.heap.size 5 .u8 v3 (u8s ((D ++ [r]).reverse.map ch))) := by
          show Own _ _ _ _ _ _
          have e : u8s ((D ++ [r]).reverse.map ch) = [(ch r).toNat] ++ u8s T := by rw [HTE.out]; simp [u8s]
          rw [e]; exact hown4
        have hl5 : Hid (lenOf v3 = D.length + 1) := by
          obtain ⟨A5, c5, e, _⟩ := hown4.isS
          show lenOf v3 = _
          rw [e]
          have := HUL.out
          simp only [lenOf, List.length_append, List.length_cons, List.length_nil]; omega
        have hb5 := (hb2.alloc hb2.size _).trans hb4
        have bb : Below w2.heap.size w2 w4 := by
          refine Below.grown (below_alloc (Nat.le_refl w2.heap.size) _) hg4 (by simp) (fun g hg => ?_)
          have h9 : some w2.heap.size = some g := hg
          injection h9 with h9
          omega
        have k5 := k2.below bb
        go_roundw
        case rel => exact ⟨q, _, hq, HD2, k5, hown5.out, hb5⟩
        case measure => have h1 := hl5.out; have h3 := HUL.out; have h4 := HLT.out; rw [h1]; simp only [lenOf]; omega
      · obtain rfl : y = 0 := by omega
        have hlz2 : (digs 10000 0).length = 0 := rlen0 rfl
        have hD := HD.out
        unfold DG at hD
        rw [digs_zero, List.append_nil] at hD
        have hTt : T = txt 10 a := by rw [HTE.out, HT.out, hD]
        have hA3 : A3 ≠ none := by
          intro hA
          have hlen : 0 < (u8s T).length := by rw [hTt, u8s_len]; exact List.length_pos_iff.2 (txt_ne (by omega) a)
          obtain ⟨g, cap, e1, _⟩ := hown.place hlen
          injection e1 with e1 _ _
          rw [hA] at e1
          cases e1
        obtain ⟨R, hR, hconv⟩ := own_string hown hA3
        rw [hTt] at hR
        clear hD hTt
        go_wp2
        go_ret
        exact ⟨R, rfl, hR, hb⟩
theorem txt4_len (x : Nat) : (txt 10 x).length ≤ 4 * (digs 10000 x).length + 1 := by
  unfold txt
  split
  · simp
  · rw [List.length_map, List.length_reverse]
    refine Nat.le_succ_of_le (digs_len_le (by omega) ?_)
    have h1 : x < 10000 ^ (digs 10000 x).length := digs_lt_pow (by omega) x
    rw [Nat.pow_mul]
    exact h1
set_option maxHeartbeats 800000 in
theorem rprint_any (v : Value) (z : Int) (w : World) (h : IsR w v z) (hl : (digs 10000 z.natAbs).length ≤ 1000) :
    Calls Tryz.prog 56 #[v] w (RetStrB (txtz z) w) := by
  obtain ⟨u, rfl, s0⟩ := id h
  obtain ⟨A, c, rfl, _⟩ := id s0
  by_cases hz : z < 0
  · have hn : ngB z = true := by unfold ngB; exact decide_eq_true hz
    have HT : Hid (txtz z = 45 :: txt 10 z.natAbs) := by show _ = _; unfold txtz; rw [if_pos hz]
    rw [hn]
    clear hz h hn
    go_enter Tryz.func56, Tryz.ntmps56
    have B0 := Blk.new w 34 #[.bool true, .slice A (digs 10000 z.natAbs).length c]
    go_wp2_with fail
    refine (rtext_any _ _ _ (s0.below (below_alloc (Nat.le_refl _) _)) hl).mono ?_
    rintro e w1 ⟨R, rfl, hR, b1⟩
    have bb := (below_alloc (Nat.le_refl w.heap.size) (.cells #[.bool true, .slice A (digs 10000 z.natAbs).length c] 34)).trans (b1.mono (by simp))
    have hsz : ¬ 9223372036854775807 < 1 + R.size := by
      have h1 := hR.size
      have h2 := txt4_len z.natAbs
      omega
    go_wp2
    go_ret
    rw [HT.out]
    exact ⟨_, rfl, concat_minus R _ hR, bb⟩
  · have hn : ngB z = false := by unfold ngB; exact decide_eq_false hz
    have HT : Hid (txtz z = txt 10 z.natAbs) := by show _ = _; unfold txtz; rw [if_neg hz]
    rw [hn]
    clear hz h hn
    go_enter Tryz.func56, Tryz.ntmps56
    have B0 := Blk.new w 34 #[.bool false, .slice A (digs 10000 z.natAbs).length c]
    go_wp2_with fail
    refine (rtext_any _ _ _ (s0.below (below_alloc (Nat.le_refl _) _)) hl).mono ?_
    rintro e w1 ⟨R, rfl, hR, b1⟩
    have bb := (below_alloc (Nat.le_refl w.heap.size) (.cells #[.bool false, .slice A (digs 10000 z.natAbs).length c] 34)).trans (b1.mono (by simp))
    go_wp2
    go_ret
    rw [HT.out]
    exact ⟨_, rfl, hR, bb⟩
end Go.Proofs.YtpcllhdfalebbaaGreatDoor.whl
namespace Go.Proofs.YtpcllhdfalebbaaGreatDoor.nat
open Go.RowKit Go.Proofs.YtpcllhdfalebbaaGreatDoor.num Go.Proofs.YtpcllhdfalebbaaGreatDoor.mem
set_option linter.unusedVariables false
set_option maxHeartbeats 800000 in
theorem mulAdd_zero (v : Value) (c : Nat) (w : World) (h : IsS w .i64 v []) (c1 : c ≤ 9223372036854775807) :
    Calls Tryz.prog 72 #[v, .int .i64 1, .int .i64 (c : Int)] w (RetS .i64 (digs 10000 c) w) := by
  obtain ⟨A, cap, rfl, hcap, hcm, hr⟩ := h
  have h20 : c < 10000 ^ 5 := by
    have : (10000 : Nat) ^ 5 = 100000000000000000000 := by decide
    omega
  have H20 := Lib.hid h20
  clear h20
  go_enter Tryz.func72, Tryz.ntmps72
  go_wp2
  go_loopw [2, 7, 8] (fun vc vo vi wr => Own wr w.heap.size 3 .i64 vo [] ∧ Below w.heap.size w wr ∧ vc = .int .i64 (c : Int) ∧ vi = .int .i64 0) (fun _ _ _ _ => 0)
  case atStart => exact ⟨own_lit0 w _ _ .i64 (Nat.le_refl _), below_alloc (Nat.le_refl _) _, rfl, rfl⟩
  case round =>
    obtain ⟨hown, hb, rfl, rfl⟩ := hrel
    go_wp2
    go_loopw [2, 7] (fun vc vo wr => ∃ (c' j : Nat) (o : List Nat), c' ≤ 9223372036854775807 ∧ Hid (c' < 10000 ^ j) ∧ o.length + j ≤ 5 ∧ MB c c' o ∧ Own wr w.heap.size 3 .i64 vo o ∧ Below w.heap.size w wr ∧ vc = .int .i64 (c' : Int)) (fun vc _ _ => (intOf vc).toNat)
    case atStart => exact ⟨c, 5, [], c1, H20, by simp, by unfold MB; exact ⟨Lt.nil _, by simp [val]⟩, hown, hb, rfl⟩
    case round =>
      clear hown hb
      obtain ⟨c2, j, o2, hc', HJ, hoj, hM, hown, hb, rfl⟩ := hrel
      have hsz := hb.size
      by_cases hp : 0 < c2
      · have HM := Lib.hid hM.step
        clear hM
        obtain ⟨j, rfl⟩ : ∃ i, j = i + 1 := by
          rcases j with _ | j
          · have := HJ.out; simp at this; omega
          · exact ⟨j, rfl⟩
        have HJ2 : Hid (c2 / 10000 < 10000 ^ j) := by
          show _ < _
          have := HJ.out
          rw [Nat.pow_succ] at this
          exact Nat.div_lt_of_lt_mul (by rw [Nat.mul_comm]; exact this)
        go_wp2_with (at_builtin; refine wpList_append_one rfl (.tmp 33) (.tmp 36) rfl sl33 (c2 % 10000) rfl hown rfl (by omega) (by omega) (by omega) ?_; intro v' w1 hown1 hb1 hg1)
        go_roundw
        case rel => exact ⟨_, j, _, by omega, HJ2, by simp; omega, HM.out, hown1, hb.trans hb1, int_eq (by omega)⟩
        case measure => simp [intOf]; omega
      · obtain rfl : c2 = 0 := by omega
        obtain ⟨h1, h2⟩ := hM.done
        have HV := Lib.hid h2
        clear h2 hM
        go_wp2_with fail
        refine (refTrim_any _ _ _ hown.isS h1 (by omega)).mono ?_
        rintro e w' ⟨v', rfl, hv, hf, hb2⟩
        go_wp2
        go_ret
        exact ⟨_, rfl, by rw [HV.out] at hv; exact hv, hf.mono hsz, hb.trans (hb2.mono hsz)⟩
set_option maxHeartbeats 400000 in
/-- Of any number that is an int. -/
theorem refNum_wide (nI : Int) (n : Nat) (w : World) (hn : nI = (n : Int)) (n1 : n ≤ 9223372036854775807) :
    Calls Tryz.prog 28 #[.int .i64 nI] w (RetS .i64 (digs 10000 n) w) := by
  subst hn
  go_enter Tryz.func28, Tryz.ntmps28
  go_wp2_with fail
  refine (mulAdd_zero _ n _ (own_lit0 w w.heap.size _ .i64 (Nat.le_refl _)).isS n1).mono ?_
  rintro e w' ⟨v', rfl, hv, hf, hb⟩
  go_wp2
  go_ret
  exact ⟨_, rfl, hv, hf.mono (by simp), (below_alloc (Nat.le_refl _) _).trans (hb.mono (by simp))⟩
end Go.Proofs.YtpcllhdfalebbaaGreatDoor.nat
namespace Go.Proofs.YtpcllhdfalebbaaGreatDoor.whl
open Go.RowKit Go.Proofs.YtpcllhdfalebbaaGreatDoor.num Go.Proofs.YtpcllhdfalebbaaGreatDoor.mem Go.Proofs.YtpcllhdfalebbaaGreatDoor.nat Go.Proofs.YtpcllhdfalebbaaGreatDoor.txt Go.Proofs.YtpcllhdfalebbaaGreatDoor.str Go.Proofs.YtpcllhdfalebbaaGreatDoor.flow
set_option linter.unusedVariables false
section
variable {P : Program}
end
/-- A slice of whole numbers: each as its sign and the slice of its limbs. -/
def IsVZ (w : World) (v : Value) (ps : List (Int × Value)) : Prop := ∃ A c, v = .slice A ps.length c ∧ ps.length ≤ c ∧ ∀ i p, ps[i]? = some p → ∃ ad, A = some ad ∧ w.cell? (ad.add (i * 2)) = some (.bool (ngB p.1)) ∧ w.cell? (ad.add (i * 2 + 1)) = some p.2
def NumsZ (w : World) (ps : List (Int × Value)) : Prop := ∀ p ∈ ps, IsS w .u64 p.2 (digs 4294967296 p.1.natAbs)
def abss (ps : List (Int × Value)) : List Nat := ps.map fun p => p.1.natAbs
def hi (ps : List (Int × Value)) : List (Int × Value) := ps.filter fun p => !ngB p.1
def lo (ps : List (Int × Value)) : List (Int × Value) := ps.filter fun p => ngB p.1
def vals (ps : List (Int × Value)) : List Value := ps.map Prod.snd
theorem IsVZ.below {w w' : World} {v : Value} {ps : List (Int × Value)} (h : IsVZ w v ps) (hb : Below w.heap.size w w') : IsVZ w' v ps := by
  obtain ⟨A, c, e, h1, h2⟩ := h
  refine ⟨A, c, e, h1, fun i p hp => ?_⟩
  obtain ⟨ad, ha, hc, hd⟩ := h2 i p hp
  exact ⟨ad, ha, (hb.cell (World.block_lt_of_cell? w _ hc)).trans hc, (hb.cell (World.block_lt_of_cell? w _ hd)).trans hd⟩
theorem NumsZ.below {w w' : World} {ps : List (Int × Value)} (h : NumsZ w ps) (hb : Below w.heap.size w w') : NumsZ w' ps := fun p hp => (h p hp).below hb
theorem NumsZ.sub {w : World} {ps qs : List (Int × Value)} (h : NumsZ w ps) (hs : ∀ p ∈ qs, p ∈ ps) : Nums w (vals qs) (abss qs) := by
  refine ⟨by simp [vals, abss], fun i u x hu hx => ?_⟩
  unfold vals at hu; unfold abss at hx
  rw [List.getElem?_map] at hu hx
  cases hp : qs[i]? with
  | none => rw [hp] at hu; cases hu
  | some p =>
    rw [hp] at hu hx
    obtain rfl : p.2 = u := by simpa using hu
    obtain rfl : p.1.natAbs = x := by simpa using hx
    exact h p (hs p (List.mem_of_getElem? hp))
theorem RowV.other {w w' : World} {base : Nat} {e : TypeId} {v : Value} {vs : List Value} {row : Option Nat} (h : RowV w base e v vs) (hg : w.grownBy w' row) (hne : ∀ g, v.ownBlock = some g → row ≠ some g) : RowV w' base e v vs :=
  World.ownsRow.kept (row := row) h hg (by
    cases hv : v.ownBlock with
    | none => exact .inl rfl
    | some g => exact .inr fun e => hne g hv e.symm)
theorem rowV_nil (w : World) (base : Nat) (e : TypeId) : RowV w base e (.slice none 0 0) [] := ⟨rfl, .inl ⟨rfl, rfl⟩⟩
end Go.Proofs.YtpcllhdfalebbaaGreatDoor.whl
namespace Go.Proofs.YtpcllhdfalebbaaGreatDoor.flow
open Go.RowKit Go.Proofs.YtpcllhdfalebbaaGreatDoor.num Go.Proofs.YtpcllhdfalebbaaGreatDoor.mem
set_option linter.unusedVariables false
section
variable {P : Program}
theorem run_loadPart {t : TypeId} {g off : Nat} {cs es : List Value} {e : TypeId} {d : TypeDesc} {w : World} (hu : P.underlying t = some d) (hd : d.isRow = true) (hi : (P.info? t).map (·.size) = some cs.length) (hB : w.heap[g]? = some (.cells es.toArray e (0, 0))) (hsub : (es.drop off).take cs.length = cs) : (Instr.loadAt t (.pointer (some ⟨g, off, none⟩))).run P w = .ok (.agg cs.toArray) w :=
  run_loadAt_mid w g off t cs d (fun j v hj => by
    rw [cell_of_row w g (off + j) es.toArray e (0, 0) hB]
    have hj2 : j < cs.length := (List.getElem?_eq_some_iff.1 hj).1
    have h := congrArg (·[j]?) hsub
    simp only [List.getElem?_take_of_lt hj2, List.getElem?_drop] at h
    rw [hj] at h
    simpa using h) hu hd hi
end
section
variable {P : Program} {Q : Exit → Act → World → Prop} {ops : Array Oper} {L : List Oper} {Φ : List Pd} {w0 : World} {a0 : Act} {i : Nat} {o : Oper}
theorem ob_build1b {t : TypeId} {k : Nat} {x : Operand} {F : World → Value → Prop} (hop : o.op = .build t #[(k, x)]) (hw : Wt ops L Φ w0 a0 o true) (hx : Ev L Φ w0 a0 o x F)
    (hr : ∀ w u, Below w0.heap.size w0 w → F w u → ∃ v, (Instr.build t #[(k, u)]).run P w = .ok v w ∧ (ph Φ i).p w v) : Ob P Q ops L Φ w0 a0 i o :=
  ob_val hw (by unfold isA; rw [hop]) fun ms w hS => by
    obtain ⟨v, h1, h2⟩ := hr w _ hS.below (hx ms w hS)
    exact ⟨v, by unfold execOp; simp only [hop, Sem.run_bind, List.map_toArray, List.map_cons, List.map_nil, h1]; rfl, h2⟩
end
theorem one3 {x y z : Value} (hx : x.oneCell' = true) (hy : y.oneCell' = true) (hz : z.oneCell' = true) : ∀ c ∈ [x, y, z], c.oneCell' = true := by
  intro c hc
  rcases List.mem_cons.1 hc with rfl | hc
  · exact hx
  · exact one2 hy hz c hc
theorem no_ints3 {k : IntKind} {b : Bool} {A D : Option Addr} {n m i j : Nat} : ∀ c ∈ (#[.bool b, .slice A n m, .slice D i j] : Array Value), ∀ i, c ≠ .int k i := by
  intro c hc i
  simp at hc
  rcases hc with rfl | rfl | rfl <;> simp
end Go.Proofs.YtpcllhdfalebbaaGreatDoor.flow
namespace Go.Proofs.YtpcllhdfalebbaaGreatDoor.rat
open Go.RowKit Go.Proofs.YtpcllhdfalebbaaGreatDoor.num Go.Proofs.YtpcllhdfalebbaaGreatDoor.mem Go.Proofs.YtpcllhdfalebbaaGreatDoor.nat Go.Proofs.YtpcllhdfalebbaaGreatDoor.txt Go.Proofs.YtpcllhdfalebbaaGreatDoor.str Go.Proofs.YtpcllhdfalebbaaGreatDoor.flow Go.Proofs.YtpcllhdfalebbaaGreatDoor.whl
set_option linter.unusedVariables false
theorem three {w : World} {g : Nat} {t : TypeId} {x y z : Value} (h : Blk w g t #[x, y, z]) : w.cell? ⟨g, 0, none⟩ = some x ∧ w.cell? ⟨g, 1, none⟩ = some y ∧ w.cell? ⟨g, 2, none⟩ = some z ∧ w.frozen? ⟨g, 0, none⟩ = false ∧ w.frozen? ⟨g, 1, none⟩ = false ∧ w.frozen? ⟨g, 2, none⟩ = false :=
  ⟨h.cell 0, h.cell 1, h.cell 2, h.frozen 0, h.frozen 1, h.frozen 2⟩
theorem FreshQ.mono {B B' : Nat} {v : Value} (h : FreshQ B v) (hb : B' ≤ B) : FreshQ B' v := fun n u t e => ⟨(h n u t e).1.mono hb, (h n u t e).2.mono hb⟩
theorem freshQ_mk {B : Nat} {b : Bool} {u t : Value} (h : Fresh B u) (k : Fresh B t) : FreshQ B (.agg #[.bool b, u, t]) := by
  intro n u' t' e
  injection e with e
  have e := congrArg Array.toList e
  simp at e
  obtain ⟨_, rfl, rfl⟩ := e
  exact ⟨h, k⟩
/-- The call's answer is this fraction, in new memory. -/
def RetQ (q : Rat) (w : World) (e : Ending) (w' : World) : Prop := ∃ v, e = .returned v ∧ IsQ w' v q ∧ FreshQ w.heap.size v ∧ Below w.heap.size w w'
/-- The document's own fraction. -/
def RetP (q : Rat) (w : World) (e : Ending) (w' : World) : Prop := ∃ v, e = .returned v ∧ IsP w' v q ∧ Below w.heap.size w w'
/-- In new memory. -/
def RetPF (q : Rat) (w : World) (e : Ending) (w' : World) : Prop := ∃ v, e = .returned v ∧ IsP w' v q ∧ FreshQ w.heap.size v ∧ Below w.heap.size w w'
/-- The call's answer is this fraction. -/
def RetQn (q : Rat) (w : World) (e : Ending) (w' : World) : Prop := ∃ v, e = .returned v ∧ IsQ w' v q ∧ Below w.heap.size w w'
/-- This fraction, and an error's number. -/
def RetQE (q : Rat) (n : Int) (w : World) (e : Ending) (w' : World) : Prop := ∃ v, e = .returned (.tuple #[v, .int .i64 n]) ∧ IsQ w' v q ∧ Below w.heap.size w w'
/-- Nothing, and an error's number. -/
def RetQN (n : Int) (w : World) (e : Ending) (w' : World) : Prop := e = .returned (.tuple #[.agg #[.bool false, .slice none 0 0, .slice none 0 0], .int .i64 n]) ∧ Below w.heap.size w w'
def pqe (q : Rat) (n : Int) : Pd := ⟨fun w t => ∃ v, t = .tuple #[v, .int .i64 n] ∧ IsQ w v q, fun h hb => by obtain ⟨v, e, h1⟩ := h; exact ⟨v, e, h1.below hb⟩⟩
def pq (q : Rat) (B : Nat) : Pd := ⟨fun w v => IsQ w v q ∧ FreshQ B v, fun h hb => ⟨h.1.below hb, h.2⟩⟩
def pqn (q : Rat) : Pd := ⟨fun w v => IsQ w v q, fun h hb => h.below hb⟩
def pp (q : Rat) : Pd := ⟨fun w v => IsP w v q, fun h hb => h.below hb⟩
def ppf (q : Rat) (B : Nat) : Pd := ⟨fun w v => IsP w v q ∧ FreshQ B v, fun h hb => ⟨h.1.below hb, h.2⟩⟩
theorem RetQ.pd {q : Rat} {w : World} {e : Ending} {w' : World} {B : Nat} (h : RetQ q w e w') (hB : B ≤ w.heap.size) : RetPd (pq q B) w e w' := by
  obtain ⟨v, h1, h2, h3, h4⟩ := h
  exact ⟨v, h1, ⟨h2, h3.mono hB⟩, h4⟩
theorem RetQn.pd {q : Rat} {w : World} {e : Ending} {w' : World} (h : RetQn q w e w') : RetPd (pqn q) w e w' := h
theorem RetQ.n {q : Rat} {w : World} {e : Ending} {w' : World} (h : RetQ q w e w') : RetQn q w e w' := by
  obtain ⟨v, h1, h2, _, h4⟩ := h
  exact ⟨v, h1, h2, h4⟩
theorem RetQE.pd {q : Rat} {n : Int} {w : World} {e : Ending} {w' : World} (h : RetQE q n w e w') : RetPd (pqe q n) w e w' := by
  obtain ⟨v, h1, h2, h3⟩ := h
  exact ⟨_, h1, ⟨v, rfl, h2⟩, h3⟩
theorem RetQN.pd {n : Int} {w : World} {e : Ending} {w' : World} (h : RetQN n w e w') : RetPd (Pd.eq (.tuple #[.agg #[.bool false, .slice none 0 0, .slice none 0 0], .int .i64 n])) w e w' := ⟨_, h.1, rfl, h.2⟩
theorem RetP.pd {q : Rat} {w : World} {e : Ending} {w' : World} (h : RetP q w e w') : RetPd (pp q) w e w' := h
theorem RetPF.pd {q : Rat} {w : World} {e : Ending} {w' : World} (h : RetPF q w e w') : RetPd (pp q) w e w' := by
  obtain ⟨v, h1, h2, h3, h4⟩ := h
  exact ⟨v, h1, h2, h4⟩
theorem RetPF.pdf {q : Rat} {w : World} {e : Ending} {w' : World} {B : Nat} (h : RetPF q w e w') (hB : B ≤ w.heap.size) : RetPd (ppf q B) w e w' := by
  obtain ⟨v, h1, h2, h3, h4⟩ := h
  exact ⟨v, h1, ⟨h2, h3.mono hB⟩, h4⟩
theorem endQ {w w2 : World} {u t x y z : Value} {q : Rat} {g B : Nat} (hb : Below w.heap.size w w2) (hg : w.heap.size ≤ g) (hgB : g < B) (hu : IsS w2 .u64 u (digs 4294967296 q.num.natAbs)) (ht : IsS w2 .u64 t (digs 4294967296 q.den)) (hf : FreshQ B (.agg #[.bool (ngB q.num), u, t])) :
    RetQ q w (.returned (.agg #[.bool (ngB q.num), u, t])) (((w2.setCell ⟨g, 0, none⟩ x).setCell ⟨g, 1, none⟩ y).setCell ⟨g, 2, none⟩ z) := by
  obtain ⟨f1, f2⟩ := hf _ _ _ rfl
  exact ⟨_, rfl, ⟨u, t, rfl, ((hu.setCell f1 hgB _).setCell f1 hgB _).setCell f1 hgB _, ((ht.setCell f2 hgB _).setCell f2 hgB _).setCell f2 hgB _⟩, hf.mono (by omega), ((hb.setCell hg _).setCell hg _).setCell hg _⟩
theorem RetZ.pi {z : Int} {w : World} {e : Ending} {w' : World} (h : RetZ z w e w') : RetPd (pi z) w e w' := by
  obtain ⟨v, h1, h2, _, h4⟩ := h
  exact ⟨v, h1, h2, h4⟩
end Go.Proofs.YtpcllhdfalebbaaGreatDoor.rat
namespace Go.Proofs.YtpcllhdfalebbaaGreatDoor.num
set_option linter.unusedVariables false
theorem gcd_mod (x y : Nat) : Nat.gcd y (x % y) = Nat.gcd x y := by
  rw [Nat.gcd_comm x y, Nat.gcd_rec y x, Nat.gcd_comm]
/-- The odd part. -/
def odp (x : Nat) : Nat := x / 2 ^ tz x
theorem tz_split {x : Nat} (h : 0 < x) : x = 2 ^ tz x * odp x ∧ odp x % 2 = 1 := by
  induction x using Nat.strongRecOn with
  | ind x ih =>
    by_cases h1 : x % 2 = 1
    · unfold odp; rw [tz_odd h1]; simp [h1]
    · have h2 : x % 2 = 0 := by omega
      obtain ⟨e, o⟩ := ih (x / 2) (by omega) (by omega)
      have e2 : odp x = odp (x / 2) := by
        unfold odp
        rw [tz_even (by omega) h2, Nat.pow_succ, Nat.mul_comm, ← Nat.div_div_eq_div_mul]
      refine ⟨?_, by rw [e2]; exact o⟩
      rw [e2, tz_even (by omega) h2, Nat.pow_succ, Nat.mul_right_comm, ← e]
      omega
theorem odp_pos {x : Nat} (h : 0 < x) : 0 < odp x := by have := (tz_split h).2; omega
theorem odp_le (x : Nat) : odp x ≤ x := Nat.div_le_self _ _
theorem odp_half {x : Nat} (h : 0 < x) (h2 : x % 2 = 0) : 2 * odp x ≤ x := by
  obtain ⟨e, o⟩ := tz_split h
  have ht : tz x = (tz x - 1) + 1 := by rw [tz_even (by omega) h2]; omega
  rw [ht, Nat.pow_succ] at e
  have := Nat.pow_pos (n := tz x - 1) (show 0 < 2 by omega)
  have h3 : 1 * (2 * odp x) ≤ 2 ^ (tz x - 1) * (2 * odp x) := Nat.mul_le_mul_right _ this
  rw [← Nat.mul_assoc] at h3
  rw [← Nat.mul_assoc, Nat.one_mul] at h3
  omega
theorem cop2 {o : Nat} (h : o % 2 = 1) (k : Nat) : Nat.Coprime (2 ^ k) o := by
  refine Nat.Coprime.pow_left k ?_
  show Nat.gcd 2 o = 1
  rw [Nat.gcd_rec, h]; rfl
/-- Of an odd number, twos in the other one count for nothing. -/
theorem gcd_odp {x y : Nat} (hx : 0 < x) (hy : y % 2 = 1) : Nat.gcd (odp x) y = Nat.gcd x y := by
  have e := (tz_split hx).1
  have h := Nat.Coprime.gcd_mul_left_cancel (odp x) (cop2 hy (tz x))
  rw [← e] at h
  exact h.symm
theorem gcd_two (i j p q : Nat) (hp : p % 2 = 1) (hij : i ≤ j) : Nat.gcd (2 ^ i * p) (2 ^ j * q) = 2 ^ i * Nat.gcd p q := by
  have e : 2 ^ j * q = 2 ^ i * (2 ^ (j - i) * q) := by rw [← Nat.mul_assoc, ← Nat.pow_add]; congr 2; omega
  rw [e, Nat.gcd_mul_left, Nat.gcd_comm p, Nat.Coprime.gcd_mul_left_cancel q (cop2 hp (j - i)), Nat.gcd_comm]
theorem gcd_parts {x y : Nat} (hx : 0 < x) (hy : 0 < y) : Nat.gcd x y = Nat.gcd (odp x) (odp y) * 2 ^ min (tz x) (tz y) := by
  obtain ⟨e1, o1⟩ := tz_split hx
  obtain ⟨e2, o2⟩ := tz_split hy
  rw [Nat.mul_comm]
  rcases Nat.le_total (tz x) (tz y) with h | h
  · rw [Nat.min_eq_left h]
    conv => lhs; rw [e1, e2]
    exact gcd_two _ _ _ _ o1 h
  · rw [Nat.min_eq_right h, Nat.gcd_comm x y, Nat.gcd_comm (odp x)]
    conv => lhs; rw [e1, e2]
    exact gcd_two _ _ _ _ o2 h
/-- What the loop of halving and taking off keeps. -/
def BG (g x y : Nat) : Prop := x % 2 = 1 ∧ y % 2 = 1 ∧ Nat.gcd x y = g
theorem BG.swap {g x y : Nat} (h : BG g x y) : BG g y x := ⟨h.2.1, h.1, by rw [Nat.gcd_comm]; exact h.2.2⟩
theorem BG.step {g x y : Nat} (h : BG g x y) (hlt : y < x) : BG g (odp (x - y)) y ∧ 0 < x - y ∧ odp (x - y) + y < x + y := by
  obtain ⟨h1, h2, h3⟩ := h
  have h0 : 0 < x - y := by omega
  refine ⟨⟨(tz_split h0).2, h2, ?_⟩, h0, ?_⟩
  · rw [gcd_odp h0 h2, Nat.gcd_sub_self_left (by omega), h3]
  · have := odp_half h0 (by omega)
    omega
theorem BG.done {g x : Nat} (h : BG g x x) : g = x := by rw [← h.2.2, Nat.gcd_self]
theorem BG.start {x y : Nat} (hx : 0 < x) (hy : 0 < y) : BG (Nat.gcd (odp x) (odp y)) (odp x) (odp y) := ⟨(tz_split hx).2, (tz_split hy).2, rfl⟩
/-- The greatest common divisor of many. -/
def gcds (l : List Nat) : Nat := l.foldl Nat.gcd 0
theorem gcds_snoc (l : List Nat) (x : Nat) : gcds (l ++ [x]) = Nat.gcd (gcds l) x := by simp [gcds]
theorem tz_pow_le {x : Nat} (h : 0 < x) : 2 ^ tz x ≤ x := by
  have e := (tz_split h).1
  have h2 := odp_pos h
  have h3 : 2 ^ tz x * 1 ≤ 2 ^ tz x * odp x := Nat.mul_le_mul_left _ h2
  omega
theorem odp_limbs (x : Nat) : x / 4294967296 ^ (tz x / 32) / 2 ^ (tz x % 32) = odp x := by
  have e : (4294967296 : Nat) = 2 ^ 32 := by decide
  unfold odp
  rw [Nat.div_div_eq_div_mul, e, ← Nat.pow_mul, ← Nat.pow_add]
  congr 2; omega
theorem tz_limb {x : Nat} (h : 0 < x) : tz x / 32 < (digs 4294967296 x).length := by
  have h1 := tz_pow_le h
  have h2 := digs_lt_pow (B := 4294967296) (by omega) x
  have e : (4294967296 : Nat) = 2 ^ 32 := by decide
  rw [e, ← Nat.pow_mul] at h2
  have h3 : 2 ^ tz x < 2 ^ (32 * (digs 4294967296 x).length) := by rw [← e] at h2; exact Nat.lt_of_le_of_lt h1 h2
  have h4 := (Nat.pow_lt_pow_iff_right (show 1 < 2 by omega)).1 h3
  omega
end Go.Proofs.YtpcllhdfalebbaaGreatDoor.num
namespace Go.Proofs.YtpcllhdfalebbaaGreatDoor.nat
open Go.RowKit Go.Proofs.YtpcllhdfalebbaaGreatDoor.num Go.Proofs.YtpcllhdfalebbaaGreatDoor.mem Go.Proofs.YtpcllhdfalebbaaGreatDoor.limb
set_option linter.unusedVariables false
/-- The call ends with a slice that reads as the list; what was there is as it was. -/
def RetSs (k : IntKind) (l : List Nat) (w : World) (e : Ending) (w' : World) : Prop := ∃ v, e = .returned v ∧ IsS w' k v l ∧ Below w.heap.size w w'
theorem dlen0 {B x : Nat} (hB : 2 ≤ B) (h : x = 0) : (digs B x).length ≤ 0 := by rw [h, digs_zero]; simp
theorem dlenp {B x : Nat} (hB : 2 ≤ B) (h : 0 < x) : 0 < (digs B x).length := by
  rcases Nat.eq_zero_or_pos (digs B x).length with h0 | h0
  · have := (digs_len0 hB).1 h0; omega
  · exact h0
set_option maxHeartbeats 800000 in
theorem refGcd_any (v u : Value) (x y : Nat) (w : World) (h : IsS w .i64 v (digs 10000 x)) (h' : IsS w .i64 u (digs 10000 y)) (hl : (digs 10000 x).length ≤ 100000) (hl' : (digs 10000 y).length ≤ 100000) :
    Calls Tryz.prog 73 #[v, u] w (RetSs .i64 (digs 10000 (Nat.gcd x y)) w) := by
  go_enter Tryz.func73, Tryz.ntmps73
  go_wp2
  go_loopg [0, 1] y (fun gk va vb wr => ∃ (p q : Nat), q ≤ gk ∧ IsS wr .i64 va (digs 10000 p) ∧ IsS wr .i64 vb (digs 10000 q) ∧ (digs 10000 p).length ≤ 100000 ∧ (digs 10000 q).length ≤ 100000 ∧ Hid (Nat.gcd p q = Nat.gcd x y) ∧ Below w.heap.size w wr)
  case atStart => exact ⟨x, y, Nat.le_refl _, h, h', hl, hl', rfl, Below.refl _ _⟩
  case round =>
    obtain ⟨p, q, hq, hp, hqs, lp, lq, HG, hb⟩ := hrel
    obtain ⟨A2, c2, rfl, _⟩ := id hqs
    by_cases hq0 : q = 0
    · have hz := dlen0 (B := 10000) (by omega) hq0
      have HE : Hid (Nat.gcd x y = p) := by have h1 := HG.out; rw [hq0, Nat.gcd_zero_right] at h1; exact h1.symm
      clear hq0
      go_wp2
      go_ret
      exact ⟨_, rfl, by rw [HE.out]; exact hp, hb⟩
    · have hz := dlenp (B := 10000) (x := q) (by omega) (by omega)
      have hml := dec_mod p q
      have hlt : p % q < q := Nat.mod_lt _ (by omega)
      have HG2 : Hid (Nat.gcd q (p % q) = Nat.gcd x y) := by show _ = _; rw [gcd_mod]; exact HG.out
      go_wp2_with fail
      refine (refDiv_any _ _ p q _ hp hqs lp lq (by omega)).mono ?_
      rintro e w' ⟨v3, v4, rfl, k3, k4, f3, f4, b4⟩
      have hb2 := hb.trans (b4.mono hb.size)
      go_wp2
      go_roundg (p % q)
      case rel => exact ⟨q, p % q, Nat.le_refl _, hqs.below b4, k4, lq, by omega, HG2, hb2⟩
      case measure => omega
set_option maxHeartbeats 400000 in
theorem gown_any (v : Value) (x : Nat) (w : World) (h : IsS w .u64 v (digs 4294967296 x)) (hl : (digs 4294967296 x).length ≤ 90000) :
    Calls Tryz.prog 144 #[v] w (RetS .u64 (digs 4294967296 x) w) := by
  go_enter Tryz.func144, Tryz.ntmps144
  go_wp2_with fail
  refine (small_any _ x _ _ 1 0 _ h (by omega) rfl rfl (by omega) (by omega) x (by omega)).mono ?_
  rintro e w1 ⟨v1, rfl, k1, f1, b1⟩
  go_wp2
  go_ret
  exact ⟨_, rfl, k1, f1, b1⟩
end Go.Proofs.YtpcllhdfalebbaaGreatDoor.nat
namespace Go.Proofs.YtpcllhdfalebbaaGreatDoor.nat
open Go.RowKit Go.Proofs.YtpcllhdfalebbaaGreatDoor.num Go.Proofs.YtpcllhdfalebbaaGreatDoor.mem Go.Proofs.YtpcllhdfalebbaaGreatDoor.limb
set_option linter.unusedVariables false
/-- Noughts below a number. -/
theorem digs_up {B : Nat} (hB : 2 ≤ B) (q : Nat) {y : Nat} (hy : 0 < y) : digs B (B ^ q * y) = List.replicate q 0 ++ digs B y := by
  induction q with
  | zero => simp
  | succ q ih =>
    have hp : 0 < B ^ q * y := Nat.mul_pos (Nat.pow_pos (by omega)) hy
    have e : B ^ (q + 1) * y = B * (B ^ q * y) := by rw [Nat.pow_succ, Nat.mul_comm (B ^ q) B, Nat.mul_assoc]
    rw [e, digs_pos hB (Nat.mul_pos (by omega) hp), Nat.mul_mod_right, Nat.mul_div_cancel_left _ (by omega), ih, List.replicate_succ, List.cons_append]
set_option maxHeartbeats 800000 in
theorem godd_any (v : Value) (x : Nat) (w : World) (h : IsS w .u64 v (digs 4294967296 x)) (hl : (digs 4294967296 x).length ≤ 90000) (hx : 0 < x) (y : Nat) (hy : y = odp x) :
    Calls Tryz.prog 146 #[v] w (RetS .u64 (digs 4294967296 y) w) := by
  obtain ⟨t, ht⟩ : ∃ t, t = tz x := ⟨_, rfl⟩
  have hgl : t / 32 < (digs 4294967296 x).length := by rw [ht]; exact tz_limb hx
  have HT := Lib.hid ht
  have HY : Hid (y = x / 4294967296 ^ (t / 32) / 2 ^ (t % 32)) := by show _ = _; rw [hy, ht, odp_limbs]
  have HD : Hid ((digs 4294967296 x).drop (t / 32) = digs 4294967296 (x / 4294967296 ^ (t / 32))) := drop_div (n := t / 32) (by omega)
  have hdl := digs_len_mono (B := 4294967296) (by omega) (Nat.div_le_self x (4294967296 ^ (t / 32)))
  clear ht hy
  obtain ⟨A, c, rfl, hc, hm, hr⟩ := id h
  have hm2 := hm
  unfold maxLen at hm2
  have hs : IsS w .u64 (.slice (A.map fun x => x.add (t / 32)) ((digs 4294967296 x).length - t / 32) (c - t / 32)) (digs 4294967296 (x / 4294967296 ^ (t / 32))) := by rw [← HD.out]; exact hr.isDrop hc hm (by omega)
  have hcap : t / 32 < c := by omega
  go_enter Tryz.func146, Tryz.ntmps146
  go_wp2_with fail
  refine (zeros_any _ x t _ h (by omega) HT.out).mono ?_
  rintro e w1 ⟨rfl, rfl⟩
  go_wp2_with fail
  all_goals
    refine (shr_ok _ (x / 4294967296 ^ (t / 32)) _ (t % 32) _ (by omega) (by first | exact hs | skip) (by omega) (by omega) y HY.out).mono ?_
    rintro e w1 ⟨v1, rfl, k1, f1, b1⟩
    go_wp2
    go_ret
    exact ⟨_, rfl, k1, f1, b1⟩
set_option maxHeartbeats 800000 in
theorem gdoubled_any (v : Value) (x : Nat) (nI : Int) (n : Nat) (w : World) (hnI : nI = (n : Int)) (h : IsS w .u64 v (digs 4294967296 x)) (hl : (digs 4294967296 x).length ≤ 90000) (hx : 0 < x) (hn : n ≤ 3000000) (y : Nat) (hy : y = x * 2 ^ n) :
    Calls Tryz.prog 147 #[v, .int .i64 nI] w (RetS .u64 (digs 4294967296 y) w) := by
  subst hnI
  have hz : 0 < x * 2 ^ (n % 32) := Nat.mul_pos hx (Nat.pow_pos (by omega))
  have hzl := up_len (x := x) (u := n % 32) (by omega)
  have HE : Hid (digs 4294967296 y = List.replicate (n / 32) 0 ++ digs 4294967296 (x * 2 ^ (n % 32))) := by
    show _ = _
    rw [← digs_up (by omega) _ hz, hy, pow32, Nat.mul_left_comm, ← Nat.pow_add]
    congr 3; omega
  clear hy
  go_enter Tryz.func147, Tryz.ntmps147
  go_wp2_with fail
  refine (shl_ok _ x _ (n % 32) _ (by omega) h (by omega) (by omega) _ rfl).mono ?_
  rintro e w1 ⟨v1, rfl, k1, f1, b1⟩
  obtain ⟨A1, c1, rfl, hc1, hm1, hr1⟩ := k1
  go_wp2_with (first
    | (at_make; refine wpList_make_rd rfl _ _ rfl sl24 (n / 32) rfl rfl (by omega) (by omega) (by omega) (Nat.le_refl _) ?_; intro w2 hown2 hb2 hz2)
    | (at_builtin; refine wpList_append_rd rfl (.tmp 16) (.tmp 17) rfl sl24 rfl hown2 rfl (news := digs 4294967296 (x * 2 ^ (n % 32))) rfl (hr1.below hb2) (by simp; omega) hb2.size ?_; intro v' w3 hown3 hb3 hg3))
  go_ret
  exact ⟨_, rfl, by rw [HE.out]; exact hown3.isS, hown3.fresh.mono b1.size, (b1.trans (hb2.mono b1.size)).trans (hb3.mono b1.size)⟩
end Go.Proofs.YtpcllhdfalebbaaGreatDoor.nat
namespace Go.Proofs.YtpcllhdfalebbaaGreatDoor.nat
open Go.RowKit Go.Proofs.YtpcllhdfalebbaaGreatDoor.num Go.Proofs.YtpcllhdfalebbaaGreatDoor.mem Go.Proofs.YtpcllhdfalebbaaGreatDoor.limb
set_option linter.unusedVariables false
theorem limb_bits {x n : Nat} (h : (digs 4294967296 x).length ≤ n) : x < 2 ^ (32 * n) := by
  have h2 := digs_lt_pow (B := 4294967296) (by omega) x
  rw [pow32] at h2
  exact Nat.lt_of_lt_of_le h2 (Nat.pow_le_pow_right (by omega) (by omega))
theorem tz_le {x n : Nat} (hx : 0 < x) (h : (digs 4294967296 x).length ≤ n) : tz x ≤ 32 * n := by
  have h1 := Nat.lt_of_le_of_lt (tz_pow_le hx) (limb_bits h)
  have := (Nat.pow_lt_pow_iff_right (show 1 < 2 by omega)).1 h1
  omega
theorem odp_len (x : Nat) : (digs 4294967296 (odp x)).length ≤ (digs 4294967296 x).length := digs_len_mono (by omega) (odp_le x)
theorem sub_len (x y : Nat) : (digs 4294967296 (x - y)).length ≤ (digs 4294967296 x).length := digs_len_mono (by omega) (Nat.sub_le _ _)
set_option maxHeartbeats 1600000 in
theorem binary_any (v u : Value) (x y : Nat) (w : World) (h : IsS w .u64 v (digs 4294967296 x)) (h' : IsS w .u64 u (digs 4294967296 y)) (hl : (digs 4294967296 x).length ≤ 90000) (hl' : (digs 4294967296 y).length ≤ 90000) (z : Nat) (hz : z = Nat.gcd x y) :
    Calls Tryz.prog 118 #[v, u] w (RetS .u64 (digs 4294967296 z) w) := by
  have HZ := Lib.hid hz
  clear hz
  by_cases hx0 : x = 0
  · have hzl := dlen0 (B := 4294967296) (by omega) hx0
    have HE : Hid (z = y) := by show _ = _; rw [HZ.out, hx0, Nat.gcd_zero_left]
    clear hx0
    go_enter Tryz.func118, Tryz.ntmps118
    go_wp2_with fail
    refine (gown_any _ x _ h hl).mono ?_
    rintro e w1 ⟨v1, rfl, k1, f1, b1⟩
    go_wp2_with fail
    refine (gown_any _ y _ (h'.below b1) hl').mono ?_
    rintro e w2 ⟨v2, rfl, k2, f2, b2⟩
    obtain ⟨A1, c1, rfl, _⟩ := id k1
    go_wp2
    go_ret
    exact ⟨_, rfl, by rw [HE.out]; exact k2, f2.mono b1.size, b1.trans (b2.mono b1.size)⟩
  · have hxp : 0 < x := by omega
    have hxl := dlenp (B := 4294967296) (by omega) hxp
    have hxl2 : (((digs 4294967296 x).length : Int) == 0) = false := by rw [beq_eq_false_iff_ne]; omega
    clear hx0
    by_cases hy0 : y = 0
    · have hzl := dlen0 (B := 4294967296) (by omega) hy0
      have HE : Hid (z = x) := by show _ = _; rw [HZ.out, hy0, Nat.gcd_zero_right]
      clear hy0
      go_enter Tryz.func118, Tryz.ntmps118
      go_wp2_with fail
      refine (gown_any _ x _ h hl).mono ?_
      rintro e w1 ⟨v1, rfl, k1, f1, b1⟩
      go_wp2_with fail
      refine (gown_any _ y _ (h'.below b1) hl').mono ?_
      rintro e w2 ⟨v2, rfl, k2, f2, b2⟩
      obtain ⟨A1, c1, rfl, _⟩ := id k1
      obtain ⟨A2, c2, rfl, _⟩ := id k2
      go_wp2
      go_ret
      exact ⟨_, rfl, by rw [HE.out]; exact k1.below b2, f1, b1.trans (b2.mono b1.size)⟩
    · have hyp : 0 < y := by omega
      have hyl := dlenp (B := 4294967296) (by omega) hyp
      have hyl2 : (((digs 4294967296 y).length : Int) == 0) = false := by rw [beq_eq_false_iff_ne]; omega
      clear hy0
      obtain ⟨t, ht⟩ : ∃ t, t = tz x := ⟨_, rfl⟩
      obtain ⟨s, hs⟩ : ∃ s, s = tz y := ⟨_, rfl⟩
      have htl := tz_le hxp hl
      have hsl := tz_le hyp hl'
      rw [← ht] at htl
      rw [← hs] at hsl
      obtain ⟨g, hg⟩ : ∃ g, g = Nat.gcd (odp x) (odp y) := ⟨_, rfl⟩
      have HG : Hid (z = g * 2 ^ min t s) := by show _ = _; rw [HZ.out, gcd_parts hxp hyp, hg, ht, hs]
      obtain ⟨p0, hp0⟩ : ∃ p, p = odp x := ⟨_, rfl⟩
      obtain ⟨q0, hq0⟩ : ∃ q, q = odp y := ⟨_, rfl⟩
      have hpl := odp_len x
      have hql := odp_len y
      have HB : Hid (BG g p0 q0) := by show BG _ _ _; rw [hg, hp0, hq0]; exact BG.start hxp hyp
      rw [← hp0] at hpl
      rw [← hq0] at hql
      have HT := Lib.hid ht
      have HS := Lib.hid hs
      have HP := Lib.hid hp0
      have HQ := Lib.hid hq0
      rcases (show (s < t ∧ min t s = s) ∨ (¬ s < t ∧ min t s = t) from by omega) with ⟨hst, hm⟩ | ⟨hst, hm⟩
      all_goals
        rw [hm] at HG
        clear ht hs hg hp0 hq0 HZ hm
        go_enter Tryz.func118, Tryz.ntmps118
        go_wp2_with fail
        refine (gown_any _ x _ h hl).mono ?_
        rintro e w1 ⟨v1, rfl, k1, f1, b1⟩
        go_wp2_with fail
        refine (gown_any _ y _ (h'.below b1) hl').mono ?_
        rintro e w2 ⟨v2, rfl, k2, f2, b2⟩
        replace k1 := k1.below b2
        have b3 := b1.trans (b2.mono b1.size)
        obtain ⟨A1, c1, rfl, _⟩ := id k1
        obtain ⟨A2, c2, rfl, _⟩ := id k2
        clear h h' b1 b2 f1 f2
        go_wp2_with fail
        refine (zeros_any _ x t _ k1 (by omega) HT.out).mono ?_
        rintro e w3 ⟨rfl, rfl⟩
        go_wp2_with fail
        refine (zeros_any _ y s _ k2 (by omega) HS.out).mono ?_
        rintro e w3 ⟨rfl, rfl⟩
        go_wp2_with fail
        refine (godd_any _ x _ k1 hl hxp p0 HP.out).mono ?_
        rintro e w3 ⟨v3, rfl, k3, f3, b4⟩
        have b5 := b3.trans (b4.mono b3.size)
        go_wp2_with fail
        refine (godd_any _ y _ (k2.below b4) hl' hyp q0 HQ.out).mono ?_
        rintro e w4 ⟨v4, rfl, k4, f4, b6⟩
        have b7 := b5.trans (b6.mono b5.size)
        replace k3 := k3.below b6
        clear k1 k2 b3 b4 b5 b6 f3 f4
        go_wp2_with fail
        refine (cmp_any _ _ p0 q0 (ord p0 q0) _ k3 k4 rfl).mono ?_
        rintro e w5 ⟨rfl, b8⟩
        have b9 := b7.trans (b8.mono b7.size)
        replace k3 := k3.below b8
        replace k4 := k4.below b8
        clear b7 b8
        go_wp2
        go_loopg [0, 1, 6] (p0 + q0) (fun gk va vb vo wr => ∃ (p q : Nat) (o : Int), p + q ≤ gk ∧ IsS wr .u64 va (digs 4294967296 p) ∧ IsS wr .u64 vb (digs 4294967296 q) ∧ (digs 4294967296 p).length ≤ 90000 ∧ (digs 4294967296 q).length ≤ 90000 ∧ Hid (BG g p q) ∧ Hid (o = ord p q) ∧ vo = .int .i64 o ∧ Below w.heap.size w wr)
        case atStart => exact ⟨p0, q0, _, Nat.le_refl _, k3, k4, by omega, by omega, HB, rfl, rfl, b9⟩
        case round =>
          clear k3 k4 b9
          obtain ⟨p, q, o, hpq, kp, kq, lp, lq, HBG, HO, rfl, hb⟩ := hrel
          rcases Nat.lt_trichotomy p q with hlt | heq | hlt
          · obtain rfl : o = -1 := by rw [HO.out]; exact ord_lt hlt
            clear HO
            obtain ⟨hs1, hs2, hs3⟩ := HBG.out.swap.step hlt
            have HS1 := Lib.hid hs1
            have hs4 := sub_len q p
            have hs5 := odp_len (q - p)
            clear hs1
            go_wp2_with fail
            refine (sub_ok _ _ q p _ kq kp (by omega) (by omega) (q - p) rfl).mono ?_
            rintro e w5 ⟨v5, rfl, k5, f5, b5⟩
            go_wp2_with fail
            refine (godd_any _ (q - p) _ k5 (by omega) hs2 (odp (q - p)) rfl).mono ?_
            rintro e w6 ⟨v6, rfl, k6, f6, b6⟩
            have kp2 := (kp.below b5).below b6
            have b7 := (hb.trans (b5.mono hb.size))
            have b8 := b7.trans (b6.mono b7.size)
            go_wp2_with fail
            refine (cmp_any _ _ (odp (q - p)) p (ord (odp (q - p)) p) _ k6 kp2 rfl).mono ?_
            rintro e w7 ⟨rfl, b9⟩
            have b10 := b8.trans (b9.mono b8.size)
            go_wp2
            go_roundg (odp (q - p) + p)
            case rel => exact ⟨odp (q - p), p, _, Nat.le_refl _, k6.below b9, kp2.below b9, by omega, by omega, HS1, rfl, rfl, b10⟩
            case measure => omega
          · obtain rfl : o = 0 := by rw [HO.out, heq]; exact ord_eq q
            subst heq
            have HZ := (fun m (hh : Hid (z = g * 2 ^ m)) => (show Hid (z = p * 2 ^ m) from by show _ = _; rw [hh.out, HBG.out.done])) _ HG
            have hpos : 0 < p := by have := HBG.out.1; omega
            clear HO
            go_wp2_with fail
            refine (gdoubled_any _ p _ _ _ rfl kp (by omega) hpos (by omega) z HZ.out).mono ?_
            rintro e w5 ⟨v5, rfl, k5, f5, b5⟩
            go_wp2
            go_ret
            exact ⟨_, rfl, k5, f5.mono hb.size, hb.trans (b5.mono hb.size)⟩
          · obtain rfl : o = 1 := by rw [HO.out]; exact ord_gt hlt
            clear HO
            obtain ⟨hs1, hs2, hs3⟩ := HBG.out.step hlt
            have HS1 := Lib.hid hs1
            have hs4 := sub_len p q
            have hs5 := odp_len (p - q)
            clear hs1
            go_wp2_with fail
            refine (sub_ok _ _ p q _ kp kq (by omega) (by omega) (p - q) rfl).mono ?_
            rintro e w5 ⟨v5, rfl, k5, f5, b5⟩
            go_wp2_with fail
            refine (godd_any _ (p - q) _ k5 (by omega) hs2 (odp (p - q)) rfl).mono ?_
            rintro e w6 ⟨v6, rfl, k6, f6, b6⟩
            have kq2 := (kq.below b5).below b6
            have b7 := (hb.trans (b5.mono hb.size))
            have b8 := b7.trans (b6.mono b7.size)
            go_wp2_with fail
            refine (cmp_any _ _ (odp (p - q)) q (ord (odp (p - q)) q) _ k6 kq2 rfl).mono ?_
            rintro e w7 ⟨rfl, b9⟩
            have b10 := b8.trans (b9.mono b8.size)
            go_wp2
            go_roundg (odp (p - q) + q)
            case rel => exact ⟨odp (p - q), q, _, Nat.le_refl _, k6.below b9, kq2.below b9, by omega, by omega, HS1, rfl, rfl, b10⟩
            case measure => omega
end Go.Proofs.YtpcllhdfalebbaaGreatDoor.nat
namespace Go.Proofs.YtpcllhdfalebbaaGreatDoor.nat
open Go.RowKit Go.Proofs.YtpcllhdfalebbaaGreatDoor.num Go.Proofs.YtpcllhdfalebbaaGreatDoor.mem Go.Proofs.YtpcllhdfalebbaaGreatDoor.limb
set_option linter.unusedVariables false
theorem gcd_len {x y n : Nat} (hx : (digs 4294967296 x).length ≤ n) (hy : (digs 4294967296 y).length ≤ n) : (digs 4294967296 (Nat.gcd x y)).length ≤ n := by
  rcases Nat.eq_zero_or_pos x with h | h
  · rw [h, Nat.gcd_zero_left]; exact hy
  · exact Nat.le_trans (digs_len_mono (by omega) (Nat.gcd_le_left y h)) hx
/-- Each of them has so many limbs at most. -/
def Lens (n : Nat) (xs : List Nat) : Prop := ∀ x ∈ xs, (digs 4294967296 x).length ≤ n
theorem Lens.at {n : Nat} {xs : List Nat} (h : Lens n xs) {k x : Nat} (hk : xs[k]? = some x) : (digs 4294967296 x).length ≤ n := h x (List.mem_of_getElem? hk)
theorem Lens.snoc {n : Nat} {xs : List Nat} (h : Lens n xs) {x : Nat} (hx : (digs 4294967296 x).length ≤ n) : Lens n (xs ++ [x]) := by
  intro y hy
  rcases List.mem_append.1 hy with hy | hy
  · exact h y hy
  · rw [List.mem_singleton.1 hy]; exact hx
theorem gcds_step {xs : List Nat} {k x : Nat} (h : xs[k]? = some x) : gcds (xs.take (k + 1)) = Nat.gcd (gcds (xs.take k)) x := by rw [take_step h, gcds_snoc]
set_option maxHeartbeats 1600000 in
theorem ggcd_any (V : Value) (vs : List Value) (xs : List Nat) (w : World) (hV : IsV w V vs) (hN : Nums w vs xs) (hl : vs.length ≤ 1000000) (hS : Lens 90000 xs) :
    Calls Tryz.prog 93 #[V] w (RetS .u64 (digs 4294967296 (gcds xs)) w) := by
  obtain ⟨A, c, rfl, hc, hcells⟩ := hV
  have HC := Lib.hid hcells
  have HN := Lib.hid hN
  have HX : Hid (vs.length = xs.length) := hN.1
  have HS := Lib.hid hS
  clear hcells hN hS
  go_enter Tryz.func93, Tryz.ntmps93
  go_wp2
  go_loopw [3, 9] (fun vg vi wr => ∃ (k G : Nat), k ≤ vs.length ∧ Hid (G = gcds (xs.take k)) ∧ (digs 4294967296 G).length ≤ 90000 ∧ IsS wr .u64 vg (digs 4294967296 G) ∧ Fresh w.heap.size vg ∧ Below w.heap.size w wr ∧ vi = .int .i64 (k : Int)) (fun _ vi _ => vs.length - (intOf vi).toNat)
  case atStart => exact ⟨0, 0, by omega, rfl, by rw [digs_zero]; simp, by rw [digs_zero]; exact (own_lit0 w w.heap.size _ .u64 (Nat.le_refl _)).isS, fresh_at (Nat.le_refl _), below_alloc (Nat.le_refl _) _, rfl⟩
  case round =>
    obtain ⟨k, G, hk, HG, lG, kG, fG, hb, rfl⟩ := hrel
    by_cases hp : k < vs.length
    · obtain ⟨u, x, hu, hx, hv⟩ := HN.out.at_ hp
      obtain ⟨ad, rfl, hcell⟩ := HC.out k u hu
      have hcell2 := (hb.cell (World.block_lt_of_cell? w _ hcell)).trans hcell
      have lx := HS.out.at hx
      have hv2 := hv.below hb
      have hlz : (digs 4294967296 (Nat.gcd G x)).length ≤ 90000 := gcd_len lG lx
      obtain ⟨z, hz⟩ : ∃ z, z = Nat.gcd G x := ⟨_, rfl⟩
      rw [← hz] at hlz
      have HT : Hid (z = gcds (xs.take (k + 1))) := by show _ = _; rw [gcds_step hx, ← HG.out]; exact hz
      obtain ⟨t, ht⟩ : ∃ t, t = ord x G := ⟨_, rfl⟩
      have HO := Lib.hid ht
      have HZ := Lib.hid hz
      obtain ⟨A1, c1, rfl, _⟩ := id hv2
      obtain ⟨A2, c2, rfl, _⟩ := id kG
      clear hu hx hv hcell hz
      by_cases hlt : x < G
      · have ht0 : t < 0 := by rw [ht]; exact ord_lt0.2 hlt
        clear ht
        rcases Nat.eq_zero_or_pos x with hx0 | hx0
        · have hzl := dlen0 (B := 4294967296) (by omega) hx0
          clear hx0
          go_wp2_with fail
          refine (cmp_any _ _ x G t _ hv2 kG HO.out).mono ?_
          rintro e w1 ⟨rfl, b1⟩
          go_wp2_with fail
          refine (binary_any _ _ G x _ (kG.below b1) (hv2.below b1) lG lx z HZ.out).mono ?_
          rintro e w2 ⟨v2, rfl, k2, f2, b2⟩
          have b3 := hb.trans (b1.mono hb.size)
          have b4 := b3.trans (b2.mono b3.size)
          go_wp2
          go_roundw
          case rel => exact ⟨k + 1, z, by omega, HT, hlz, k2, f2.mono b3.size, b4, by go_num⟩
          case measure => simp [intOf]; omega
        · have hzl := dlenp (B := 4294967296) (by omega) hx0
          have hml := mod_len' (x := G) (y := x) hx0
          have HZ2 : Hid (z = Nat.gcd (G % x) x) := by show _ = _; rw [HZ.out, Nat.gcd_comm G x, Nat.gcd_rec]
          go_wp2_with fail
          refine (cmp_any _ _ x G t _ hv2 kG HO.out).mono ?_
          rintro e w1 ⟨rfl, b1⟩
          have b3 := hb.trans (b1.mono hb.size)
          replace hv2 := hv2.below b1
          replace kG := kG.below b1
          go_wp2_with fail
          refine (dmod_ok _ _ G x _ kG hv2 lG lx hx0 (G % x) rfl).mono ?_
          rintro e w2 ⟨v2, rfl, k2, f2, b2⟩
          have b4 := b3.trans (b2.mono b3.size)
          go_wp2_with fail
          refine (binary_any _ _ (G % x) x _ k2 (hv2.below b2) (by omega) lx z HZ2.out).mono ?_
          rintro e w3 ⟨v3, rfl, k3, f3, b5⟩
          have b6 := b4.trans (b5.mono b4.size)
          go_wp2
          go_roundw
          case rel => exact ⟨k + 1, z, by omega, HT, hlz, k3, f3.mono b4.size, b6, by go_num⟩
          case measure => simp [intOf]; omega
      · have ht0 : ¬ t < 0 := by rw [ht, ord_lt0]; exact hlt
        clear ht
        rcases Nat.eq_zero_or_pos G with hx0 | hx0
        · have hzl := dlen0 (B := 4294967296) (by omega) hx0
          have HZ2 : Hid (z = Nat.gcd x G) := by show _ = _; rw [HZ.out, Nat.gcd_comm]
          clear hx0
          go_wp2_with fail
          refine (cmp_any _ _ x G t _ hv2 kG HO.out).mono ?_
          rintro e w1 ⟨rfl, b1⟩
          go_wp2_with fail
          refine (binary_any _ _ x G _ (hv2.below b1) (kG.below b1) lx lG z HZ2.out).mono ?_
          rintro e w2 ⟨v2, rfl, k2, f2, b2⟩
          have b3 := hb.trans (b1.mono hb.size)
          have b4 := b3.trans (b2.mono b3.size)
          go_wp2
          go_roundw
          case rel => exact ⟨k + 1, z, by omega, HT, hlz, k2, f2.mono b3.size, b4, by go_num⟩
          case measure => simp [intOf]; omega
        · have hzl := dlenp (B := 4294967296) (by omega) hx0
          have hml := mod_len' (x := x) (y := G) hx0
          have HZ2 : Hid (z = Nat.gcd (x % G) G) := by show _ = _; rw [HZ.out, Nat.gcd_rec]
          go_wp2_with fail
          refine (cmp_any _ _ x G t _ hv2 kG HO.out).mono ?_
          rintro e w1 ⟨rfl, b1⟩
          have b3 := hb.trans (b1.mono hb.size)
          replace hv2 := hv2.below b1
          replace kG := kG.below b1
          go_wp2_with fail
          refine (dmod_ok _ _ x G _ hv2 kG lx lG hx0 (x % G) rfl).mono ?_
          rintro e w2 ⟨v2, rfl, k2, f2, b2⟩
          have b4 := b3.trans (b2.mono b3.size)
          go_wp2_with fail
          refine (binary_any _ _ (x % G) G _ k2 (kG.below b2) (by omega) lG z HZ2.out).mono ?_
          rintro e w3 ⟨v3, rfl, k3, f3, b5⟩
          have b6 := b4.trans (b5.mono b4.size)
          go_wp2
          go_roundw
          case rel => exact ⟨k + 1, z, by omega, HT, hlz, k3, f3.mono b4.size, b6, by go_num⟩
          case measure => simp [intOf]; omega
    · have HE : Hid (G = gcds xs) := by have h1 := HG.out; rw [List.take_of_length_le (by have := HX.out; omega)] at h1; exact h1
      go_wp2
      go_ret
      exact ⟨_, rfl, by rw [← HE.out]; exact kG, fG, hb⟩
end Go.Proofs.YtpcllhdfalebbaaGreatDoor.nat
namespace Go.Proofs.YtpcllhdfalebbaaGreatDoor.nat
open Go.RowKit Go.Proofs.YtpcllhdfalebbaaGreatDoor.num Go.Proofs.YtpcllhdfalebbaaGreatDoor.mem Go.Proofs.YtpcllhdfalebbaaGreatDoor.limb
set_option linter.unusedVariables false
end Go.Proofs.YtpcllhdfalebbaaGreatDoor.nat
namespace Go.Proofs.YtpcllhdfalebbaaGreatDoor.flow
open Go.RowKit Go.Proofs.YtpcllhdfalebbaaGreatDoor.num Go.Proofs.YtpcllhdfalebbaaGreatDoor.mem
set_option linter.unusedVariables false
/-- All but operation q are waited for. -/
def covQ (L : List Oper) (q n : Nat) (o : Oper) : Bool :=
  (List.range n).all fun i => i == q || (onsOf o).contains i || (List.range n).any fun k => decide (i < k) && (!(k == q) && ((L[k]?).map fun x => (onsOf x).contains i).getD false)
theorem covQ_all {L : List Oper} {q : Nat} {o : Oper} {ms : List (Option Value)} (hlen : ms.length = L.length) (h : covQ L q L.length o = true) (hdone : ∀ e ∈ o.after, Region.binds .any e = true → ∃ v, ms[e.on]? = some (some v))
    (hdc : ∀ (j : Nat) (x : Oper) (v : Value), L[j]? = some x → ms[j]? = some (some v) → ∀ e ∈ x.after, Region.binds .any e = true → ∃ v, ms[e.on]? = some (some v)) : ∀ i, i < L.length → i ≠ q → ∃ v, ms[i]? = some (some v) := by
  unfold covQ at h
  have key : ∀ k i, i + k = L.length → i < L.length → i ≠ q → ∃ v, ms[i]? = some (some v) := by
    intro k
    induction k using Nat.strongRecOn with
    | ind k ih =>
      intro i hik hi hiq
      have h1 := List.all_eq_true.1 h i (by simp [hi])
      rw [Bool.or_eq_true, Bool.or_eq_true] at h1
      rcases h1 with (h1 | h1) | h1
      · exact absurd (by simpa using h1) hiq
      · obtain ⟨e, he, hb, rfl⟩ := mem_onsOf.1 (by simpa using h1)
        exact hdone e he hb
      · obtain ⟨m, hm, h2⟩ := List.any_eq_true.1 h1
        rw [Bool.and_eq_true, Bool.and_eq_true] at h2
        have hm2 : m < L.length := by simpa using hm
        have him : i < m := by simpa using h2.1
        have hmq : m ≠ q := by simpa using h2.2.1
        obtain ⟨v, hv⟩ := ih (L.length - m) (by omega) m (by omega) hm2 hmq
        have h3 := h2.2.2
        rw [List.getElem?_eq_getElem hm2] at h3
        obtain ⟨e, he, hb, rfl⟩ := mem_onsOf.1 (by simpa using h3)
        exact hdc m _ v (List.getElem?_eq_getElem hm2) hv e he hb
  intro i hi hiq
  exact key (L.length - i) i (by omega) hi hiq
/-- All of the first n are up but q. -/
def lstq (n m q : Nat) : Array Bool := ((List.replicate n true).set q false ++ List.replicate m false).toArray
theorem lst_but {L : List Oper} {q m : Nat} {ms : List (Option Value)} (hlen : ms.length = L.length) (hbut : ∀ i, i < L.length → i ≠ q → ∃ v, ms[i]? = some (some v)) (hmq : ms[q]? = some none) : lst ms m = lstq L.length m q := by
  unfold lst lstq
  congr 2
  refine List.ext_getElem (by simp [hlen]) fun i h1 h2 => ?_
  have h3 : i < ms.length := by simpa using h1
  rw [List.getElem_map, List.getElem_set]
  by_cases e : q = i
  · subst e
    rw [if_pos rfl]
    rw [List.getElem?_eq_getElem h3] at hmq
    rw [Option.some.inj hmq]; rfl
  · rw [if_neg e]
    obtain ⟨v, hv⟩ := hbut i (by omega) (fun h => e h.symm)
    rw [List.getElem?_eq_getElem h3] at hv
    rw [Option.some.inj hv]; simp
theorem late_main {P : Program} {Q : Exit → Act → World → Prop} {ops : Array Oper} {L L2 : List Oper} {Φ : List Pd} {w0 : World} {a0 : Act} (hop : ops.toList = L ++ L2) (hd : distinctB L = true) (hback : backB 0 L = true) {q : Nat} {oq : Oper} (hq : L[q]? = some oq) (hcov : (L2.all fun o => covB L L.length o || covQ L q L.length o) = true) (hsel : Region.noSelect ops = true) (hfree : Region.free .any ops (lstq L.length L2.length q) q = true) (hrdy : (Region.ready .any ops (lstq L.length L2.length q)).contains q = true) (hQ : ∀ c a w v, Q (.panic c) (a.put oq.dst v) w → Q (.panic c) a w)
    (late : ∀ ms w, St L Φ w0 oq ms w → ∃ v, Yields P ops oq v (putM a0 L ms) ∧ (ph Φ q).p w v) (hA : isA oq = false)
    (ob : Obs P Q ops L Φ w0 a0 0 L)
    (done : ∀ ms w, (∀ i, i < L.length → ∃ v, ms[i]? = some (some v)) → Inv L Φ w0 ms w → wpAny P .any ops Q L2.length (lst ms L2.length) (putM a0 L ms) w) :
    ∀ (k : Nat) (ms : List (Option Value)) (w : World), (ms.filter Option.isNone).length = k → Inv L Φ w0 ms w → wpAny P .any ops Q (k + L2.length) (lst ms L2.length) (putM a0 L ms) w := by
  have hsz : ops.size = L.length + L2.length := by
    have := congrArg List.length hop
    simpa using this
  have hat : ∀ i, ops[i]? = (L ++ L2)[i]? := fun i => by rw [← hop, Array.getElem?_toList]
  intro k
  induction k with
  | zero =>
    intro ms w hk hI
    rw [Nat.zero_add]
    refine done ms w (fun i hi => ?_) hI
    have hi2 : i < ms.length := by rw [hI.len]; exact hi
    rcases hm : ms[i] with _ | v
    · exfalso
      have h1 : ms[i] ∈ ms.filter Option.isNone := List.mem_filter.2 ⟨List.getElem_mem hi2, by rw [hm]; rfl⟩
      rw [List.length_eq_zero_iff.1 hk] at h1
      simp at h1
    · exact ⟨v, by rw [List.getElem?_eq_getElem hi2, hm]⟩
  | succ k ih =>
    intro ms w hk hI
    -- some operation of L has not come up
    have hnot : ¬ ∀ i, i < L.length → ∃ v, ms[i]? = some (some v) := by
      intro hall
      have h0 : ms.filter Option.isNone = [] := by
        rw [List.filter_eq_nil_iff]
        intro m hm
        obtain ⟨i, hi, rfl⟩ := List.mem_iff_getElem.1 hm
        obtain ⟨v, hv⟩ := hall i (by rw [← hI.len]; exact hi)
        rw [List.getElem?_eq_getElem hi] at hv
        rw [Option.some.inj hv]; simp
      rw [h0] at hk; simp at hk
    -- the least one that has not may come up
    have least : ∀ n i, i ≤ n → i < L.length → Region.ready .any ops (lst ms L2.length) = [] → ∃ v, ms[i]? = some (some v) := by
      intro n
      induction n with
      | zero =>
        intro i hin hi hr
        obtain rfl : i = 0 := by omega
        have hi2 : 0 < ms.length := by rw [hI.len]; exact hi
        rcases hm : ms[0] with _ | v
        · exfalso
          have : 0 ∈ Region.ready .any ops (lst ms L2.length) := by
            rw [mem_ready]
            refine ⟨by rw [lst_lt hi2, hm]; rfl, L[0], by rw [hat, List.getElem?_append_left hi, List.getElem?_eq_getElem hi], ?_⟩
            intro e he hb
            have := backB_at L 0 0 _ hback (List.getElem?_eq_getElem hi) e he hb
            omega
          rw [hr] at this; simp at this
        · exact ⟨v, by rw [List.getElem?_eq_getElem hi2, hm]⟩
      | succ n ihn =>
        intro i hin hi hr
        have hi2 : i < ms.length := by rw [hI.len]; exact hi
        rcases hm : ms[i] with _ | v
        · exfalso
          have : i ∈ Region.ready .any ops (lst ms L2.length) := by
            rw [mem_ready]
            refine ⟨by rw [lst_lt hi2, hm]; rfl, L[i], by rw [hat, List.getElem?_append_left hi, List.getElem?_eq_getElem hi], ?_⟩
            intro e he hb
            have h1 := backB_at L 0 i _ hback (List.getElem?_eq_getElem hi) e he hb
            have h3 : e.on < ms.length := by rw [hI.len]; omega
            obtain ⟨v, hv⟩ := ihn e.on (by omega) (by omega) hr
            rw [lst_lt h3]
            rw [List.getElem?_eq_getElem h3] at hv
            rw [Option.some.inj hv]; rfl
          rw [hr] at this; simp at this
        · exact ⟨v, by rw [List.getElem?_eq_getElem hi2, hm]⟩
    have hcnt : ∀ (i : Nat) (v : Value), ms[i]? = some none → ((ms.set i (some v)).filter Option.isNone).length = k := by
      intro i v hmi
      have key : ∀ (l : List (Option Value)) (i : Nat), l[i]? = some none → ((l.set i (some v)).filter Option.isNone).length + 1 = (l.filter Option.isNone).length := by
        intro l
        induction l with
        | nil => intro i h; simp at h
        | cons m l ihl =>
          intro i h
          cases i with
          | zero =>
            obtain rfl : m = none := by simpa using h
            simp
          | succ i =>
            have := ihl i (by simpa using h)
            rw [List.set_cons_succ, List.filter_cons, List.filter_cons]
            split
            · simp only [List.length_cons]; omega
            · exact this
      have := key ms i hmi
      omega
    have hqL : q < L.length := (List.getElem?_eq_some_iff.1 hq).1
    by_cases hbut : ∀ i, i < L.length → i ≠ q → ∃ v, ms[i]? = some (some v)
    · have hq2 : q < ms.length := by rw [hI.len]; exact hqL
      have hmq : ms[q]? = some none := by
        rw [List.getElem?_eq_getElem hq2]
        rcases hm : ms[q] with _ | v
        · rfl
        · exact absurd (fun i hi => by
            by_cases e : i = q
            · subst e; exact ⟨v, by rw [List.getElem?_eq_getElem hq2, hm]⟩
            · exact hbut i hi e) hnot
      have hdq : ∀ e ∈ oq.after, Region.binds .any e = true → ∃ v, ms[e.on]? = some (some v) := by
        intro e he hb
        have := backB_at L 0 q _ hback hq e he hb
        exact hbut e.on (by omega) (by omega)
      obtain ⟨v, hy, hp⟩ := late ms w ⟨hI.len, hI.below, hI.ty, hdq⟩
      have el : lst ms L2.length = lstq L.length L2.length q := lst_but hI.len hbut hmq
      have hoq : ops[q]? = some oq := by rw [hat, List.getElem?_append_left hqL]; exact hq
      have hnext := ih (ms.set q (some v)) w (hcnt q v hmq) (hI.step hq hmq hdq (Below.refl _ _) hp (fun h => by rw [hA] at h; cases h))
      rw [← lst_set v hq2, ← putM_set v L ms a0 q oq hd hq hmq] at hnext
      rw [show k + 1 + L2.length = (k + L2.length) + 1 from by omega]
      exact wpAny_take hoq hsel (by rw [el]; exact hfree) (by rw [el]; exact hrdy) (fun c a w h => hQ c a w v h) hy hnext
    rw [show k + 1 + L2.length = (k + L2.length) + 1 from by omega]
    refine ⟨fun hr => absurd (fun i hi => least i i (Nat.le_refl _) hi hr) hnot, fun i hi => ?_⟩
    obtain ⟨h1, o, ho, haft⟩ := mem_ready.1 hi
    have hdeps : ∀ e ∈ o.after, Region.binds .any e = true → ∃ v, ms[e.on]? = some (some v) := by
      intro e he hb
      have h2 := haft e he hb
      by_cases h3 : e.on < ms.length
      · rw [lst_lt h3] at h2
        obtain ⟨v, hv⟩ := Option.isSome_iff_exists.1 h2
        exact ⟨v, by rw [List.getElem?_eq_getElem h3, hv]⟩
      · rw [lst_ge (by omega)] at h2; cases h2
    by_cases hiL : i < L.length
    · have hi2 : i < ms.length := by rw [hI.len]; exact hiL
      rw [lst_lt hi2] at h1
      have hmi : ms[i]? = some none := by
        rw [List.getElem?_eq_getElem hi2]
        rcases hm : ms[i] with _ | v
        · rfl
        · rw [hm] at h1; cases h1
      have hoL : L[i]? = some o := by rw [hat, List.getElem?_append_left hiL] at ho; exact ho
      have hob := ob.at_ L 0 i o hoL
      rw [Nat.zero_add] at hob
      have hst := hob ms w ⟨hI.len, hI.below, hI.ty, hdeps⟩
      have hcount : ∀ v : Value, ((ms.set i (some v)).filter Option.isNone).length = k := by
        intro v
        have key : ∀ (l : List (Option Value)) (i : Nat), l[i]? = some none → ((l.set i (some v)).filter Option.isNone).length + 1 = (l.filter Option.isNone).length := by
          intro l
          induction l with
          | nil => intro i h; simp at h
          | cons m l ihl =>
            intro i h
            cases i with
            | zero =>
              obtain rfl : m = none := by simpa using h
              simp
            | succ i =>
              have := ihl i (by simpa using h)
              rw [List.set_cons_succ, List.filter_cons, List.filter_cons]
              split
              · simp only [List.length_cons]; omega
              · exact this
        have := key ms i hmi
        omega
      unfold wpOp
      rw [ho]
      simp only []
      by_cases hw : Region.wanted o (yielded ops (putM a0 L ms).tmps) = true
      · rw [if_pos hw] at hst ⊢
        refine .inl (Oper.wp_mono ?_ hst)
        rintro a' w' ⟨v, rfl, hb, hv, ha⟩
        rw [lst_set v hi2, putM_set v L ms a0 i o hd hoL hmi]
        exact ih _ w' (hcount v) (hI.step hoL hmi hdeps hb hv ha)
      · rw [if_neg hw] at hst ⊢
        rw [lst_set undef hi2, putM_set undef L ms a0 i o hd hoL hmi]
        exact ih _ w (hcount undef) (hI.step hoL hmi hdeps (Below.refl _ _) hst.1 (fun h => by rw [hst.2] at h; cases h))
    · exfalso
      have ho2 : o ∈ L2 := by
        rw [hat, List.getElem?_append_right (by omega)] at ho
        exact List.mem_of_getElem? ho
      have hc := List.all_eq_true.1 hcov o ho2
      rcases Bool.or_eq_true _ _ ▸ hc with hc | hc
      · exact hnot (covB_all hI.len hc hdeps hI.dc)
      · exact hbut (covQ_all hI.len hc hdeps hI.dc)
/-- Each operation's word once; then what stands behind, for whatever values. -/
theorem late_core {P : Program} {Q : Exit → Act → World → Prop} {ops : Array Oper} (n : Nat) (Φ : List Pd) {w : World} {a0 : Act}
    (h1 : distinctB (ops.toList.take n) = true) (h2 : backB 0 (ops.toList.take n) = true) {q : Nat} {oq : Oper} (hq : (ops.toList.take n)[q]? = some oq) (h3 : ((ops.toList.drop n).all fun o => covB (ops.toList.take n) (ops.toList.take n).length o || covQ (ops.toList.take n) q (ops.toList.take n).length o) = true) (h4 : Region.noSelect ops = true) (h5 : Region.free .any ops (lstq (ops.toList.take n).length (ops.toList.drop n).length q) q = true) (h6 : (Region.ready .any ops (lstq (ops.toList.take n).length (ops.toList.drop n).length q)).contains q = true) (hQ : ∀ c a w v, Q (.panic c) (a.put oq.dst v) w → Q (.panic c) a w)
    (late : ∀ ms w1, St (ops.toList.take n) Φ w oq ms w1 → ∃ v, Yields P ops oq v (putM a0 (ops.toList.take n) ms) ∧ (ph Φ q).p w1 v) (hA : isA oq = false)
    (ob : Obs P Q ops (ops.toList.take n) Φ w a0 0 (ops.toList.take n))
    (done : ∀ w', Below w.heap.size w w' → Done (fun a w' => wpAny P .any ops Q (ops.toList.drop n).length (List.replicate (ops.toList.take n).length true ++ List.replicate (ops.toList.drop n).length false).toArray a w') Φ w' 0 (ops.toList.take n) [] a0) : wpAny P .any ops Q ops.size (Array.replicate ops.size false) a0 w := by
  have hop : ops.toList = ops.toList.take n ++ ops.toList.drop n := (List.take_append_drop n _).symm
  generalize ops.toList.take n = L at *
  generalize ops.toList.drop n = L2 at *
  have hsz : ops.size = L.length + L2.length := by
    have := congrArg List.length hop
    simpa using this
  have none_ : ∀ (i : Nat) (v : Value), ¬ (List.replicate L.length (none : Option Value))[i]? = some (some v) := by
    intro i v h
    rw [List.getElem?_replicate] at h
    split at h <;> cases h
  have hI0 : Inv L Φ w (List.replicate L.length none) w := ⟨by simp, Below.refl _ _, fun i v h => absurd h (none_ i v), fun j x v _ h => absurd h (none_ j v), fun i j oi oj u v _ _ _ _ _ h _ => absurd h (none_ i u), fun i oi u _ _ h => absurd h (none_ i u)⟩
  have hmain := late_main (P := P) (Q := Q) (ops := ops) (L := L) (L2 := L2) (Φ := Φ) (w0 := w) (a0 := a0) hop h1 h2 hq h3 h4 h5 h6 hQ late hA ob (fun ms w' hall hI => by
    rw [lst_end L2.length hI.len hall]
    have := done_all (K := fun a w' => wpAny P .any ops Q L2.length (List.replicate L.length true ++ List.replicate L2.length false).toArray a w') hI hall L 0 a0 [] (by simp) (by omega) (by simp) (done w' hI.below)
    simpa using this) L.length (List.replicate L.length none) w (by simp) hI0
  rw [putM_none, lst_start, ← hsz] at hmain
  exact hmain
/-- A region that draws its order: each operation's word once; then what stands behind, for whatever values. -/
theorem flowl {P : Program} {Q : Exit → Act → World → Prop} {id : Nat} {ops : Array Oper} (n : Nat) (Φ : List Pd) {w : World} {a0 : Act} (hm : P.follows .mixedOrders = true)
    (q : Nat) {oq : Oper} (hq : (ops.toList.take n)[q]? = some oq) (hB : (distinctB (ops.toList.take n) && backB 0 (ops.toList.take n) && (ops.toList.drop n).all (fun o => covB (ops.toList.take n) (ops.toList.take n).length o || covQ (ops.toList.take n) q (ops.toList.take n).length o) && Region.noSelect ops && Region.free .any ops (lstq (ops.toList.take n).length (ops.toList.drop n).length q) q && (Region.ready .any ops (lstq (ops.toList.take n).length (ops.toList.drop n).length q)).contains q && !isA oq) = true) (hQ : ∀ c a w v, Q (.panic c) (a.put oq.dst v) w → Q (.panic c) a w)
    (late : ∀ ms w1, St (ops.toList.take n) Φ w.drew oq ms w1 → ∃ v, Yields P ops oq v (putM a0 (ops.toList.take n) ms) ∧ (ph Φ q).p w1 v)
    (ob : Obs P Q ops (ops.toList.take n) Φ w.drew a0 0 (ops.toList.take n))
    (done : ∀ w', Below w.heap.size w w' → Done (fun a w' => wpAny P .any ops Q (ops.toList.drop n).length (List.replicate (ops.toList.take n).length true ++ List.replicate (ops.toList.drop n).length false).toArray a w') Φ w' 0 (ops.toList.take n) [] a0) : (Code.region id ops true).wp P Q a0 w := by
  simp only [Bool.and_eq_true] at hB
  obtain ⟨⟨⟨⟨⟨⟨h1, h2⟩, h3⟩, h4⟩, h5⟩, h6⟩, hA⟩ := hB
  have hA : isA oq = false := by simpa using hA
  exact wp_region_any hm (late_core n Φ (w := w.drew) h1 h2 hq h3 h4 h5 h6 hQ late hA ob fun w' hb => done w' ((Below.refl _ w).drew.trans hb))
/-- The late operation is an extract. -/
theorem late_extract {P : Program} {ops : Array Oper} {L : List Oper} {Φ : List Pd} {w0 : World} {a0 : Act} {o : Oper} {G : Pd} {x : Operand} {k : Nat} {F : World → Value → Prop} (hop : o.op = .extract x k) (hg : o.guard = none) (hx : Ev L Φ w0 a0 o x F)
    (hr : ∀ w u, F w u → ∃ v, (∀ w, (Instr.extract u k).run P w = .ok v w) ∧ G.p w v) : ∀ ms w1, St L Φ w0 o ms w1 → ∃ v, Yields P ops o v (putM a0 L ms) ∧ G.p w1 v := by
  intro ms w1 hS
  obtain ⟨v, h1, h2⟩ := hr w1 _ (hx ms w1 hS)
  refine ⟨v, .inl ⟨by unfold Region.wanted; rw [hg], fun w => ?_⟩, h2⟩
  unfold execOp; simp only [hop]; rw [Sem.run_bind, h1]; rfl
end Go.Proofs.YtpcllhdfalebbaaGreatDoor.flow
namespace Go.Proofs.YtpcllhdfalebbaaGreatDoor.flow
open Go.RowKit Go.Proofs.YtpcllhdfalebbaaGreatDoor.num Go.Proofs.YtpcllhdfalebbaaGreatDoor.mem
set_option linter.unusedVariables false
section
variable {P : Program} {Q : Exit → Act → World → Prop} {ops : Array Oper} {L : List Oper} {Φ : List Pd} {w0 : World} {a0 : Act} {i : Nat} {o : Oper}
theorem ob_min {x y : Operand} {at_ : Array TypeId} {F G : World → Value → Prop} (hop : o.op = .call { callee := .builtin .min, args := #[x, y], argTypes := at_ }) (hw : Wt ops L Φ w0 a0 o true) (hx : Ev L Φ w0 a0 o x F) (hy : Ev L Φ w0 a0 o y G)
    (hr : ∀ w u v, F w u → G w v → ∃ r, (Builtin.min2 u v).run P w = .ok r w ∧ (ph Φ i).p w r) : Ob P Q ops L Φ w0 a0 i o :=
  ob_val hw (by unfold isA; rw [hop]) fun ms w hS => by
    obtain ⟨v, h1, h2⟩ := hr w _ _ (hx ms w hS) (hy ms w hS)
    exact ⟨v, by unfold execOp; simp [hop, resolve, invoke, builtin, Builtin.min_, h1], h2⟩
theorem ob_slice_to {t : TypeId} {x y : Operand} {F G : World → Value → Prop} (hop : o.op = .slice t x none (some y) none) (hw : Wt ops L Φ w0 a0 o true) (hx : Ev L Φ w0 a0 o x F) (hy : Ev L Φ w0 a0 o y G)
    (hr : ∀ w u v, F w u → G w v → ∃ r, (Instr.sliceAt t u none (some v) none).run P w = .ok r w ∧ (ph Φ i).p w r) : Ob P Q ops L Φ w0 a0 i o :=
  ob_val hw (by unfold isA; rw [hop]) fun ms w hS => by
    obtain ⟨v, h1, h2⟩ := hr w _ _ (hx ms w hS) (hy ms w hS)
    exact ⟨v, by unfold execOp; simp only [hop, Sem.run_bind, Option.map_none, Option.map_some, h1]; rfl, h2⟩
theorem ob_build2b {t : TypeId} {k l : Nat} {x y : Operand} {F G : World → Value → Prop} (hop : o.op = .build t #[(k, x), (l, y)]) (hw : Wt ops L Φ w0 a0 o true) (hx : Ev L Φ w0 a0 o x F) (hy : Ev L Φ w0 a0 o y G)
    (hr : ∀ w u u', Below w0.heap.size w0 w → F w u → G w u' → ∃ v, (Instr.build t #[(k, u), (l, u')]).run P w = .ok v w ∧ (ph Φ i).p w v) : Ob P Q ops L Φ w0 a0 i o :=
  ob_val hw (by unfold isA; rw [hop]) fun ms w hS => by
    obtain ⟨v, h1, h2⟩ := hr w _ _ hS.below (hx ms w hS) (hy ms w hS)
    exact ⟨v, by unfold execOp; simp only [hop, Sem.run_bind, List.map_toArray, List.map_cons, List.map_nil, h1]; rfl, h2⟩
theorem len_string {t ty : TypeId} (hu : P.underlying t = some .string) (S : ByteArray) (w : World) : (Builtin.len_ #[t] ty #[.string S]).run P w = .ok (.int .i64 (S.size : Int)) w := by
  simp [Builtin.len_, go_sem, run_underlying hu]
theorem min_nat (a b : Nat) (w : World) : (Builtin.min2 (.int .i64 (a : Int)) (.int .i64 (b : Int))).run P w = .ok (.int .i64 ((min a b : Nat) : Int)) w := by
  simp only [Builtin.min2, Sem.run_pure]
  congr 2
  split <;> omega
theorem slice_to {t : TypeId} (hu : P.underlying t = some .string) (S : ByteArray) (n : Nat) (hn : n ≤ S.size) (w : World) : (Instr.sliceAt t (.string S) none (some (.int .i64 (n : Int))) none).run P w = .ok (.string (S.extract 0 n)) w := by
  simp [Instr.sliceAt, Instr.slice, Instr.sliceBounds, Instr.sliceBound, go_sem, run_underlying hu, hn]
theorem slice_from {t : TypeId} (hu : P.underlying t = some .string) (S : ByteArray) (n : Nat) (hn : n ≤ S.size) (w : World) : (Instr.sliceAt t (.string S) (some (.int .i64 (n : Int))) none none).run P w = .ok (.string (S.extract n S.size)) w := by
  simp [Instr.sliceAt, Instr.slice, Instr.sliceBounds, Instr.sliceBound, go_sem, run_underlying hu, hn]
end
end Go.Proofs.YtpcllhdfalebbaaGreatDoor.flow
namespace Go.Proofs.YtpcllhdfalebbaaGreatDoor.whl
open Go.RowKit Go.Proofs.YtpcllhdfalebbaaGreatDoor.num Go.Proofs.YtpcllhdfalebbaaGreatDoor.mem Go.Proofs.YtpcllhdfalebbaaGreatDoor.nat Go.Proofs.YtpcllhdfalebbaaGreatDoor.txt Go.Proofs.YtpcllhdfalebbaaGreatDoor.str Go.Proofs.YtpcllhdfalebbaaGreatDoor.flow
set_option linter.unusedVariables false
theorem vars1 (w : World) (t1 : TypeId) (x : Array Value) : ∃ wx, w.alloc (.cells x t1) = wx ∧ Below w.heap.size w wx ∧ Blk wx w.heap.size t1 x ∧ w.heap.size < wx.heap.size := ⟨_, rfl, below_alloc (Nat.le_refl _) _, Blk.new w t1 x, by simp⟩
/-- A printed text is this one string. -/
theorem RetStrB.pd {l : List UInt8} {w : World} {e : Ending} {w' : World} (h : RetStrB l w e w') : RetPd (Pd.eq (.string ⟨l.toArray⟩)) w e w' := by
  obtain ⟨R, rfl, hR, hb⟩ := h
  exact ⟨_, rfl, by rw [hR.is]; rfl, hb⟩
end Go.Proofs.YtpcllhdfalebbaaGreatDoor.whl
namespace Go.Proofs.YtpcllhdfalebbaaGreatDoor.whl
open Go.RowKit Go.ChangeShapes Go.WideShapes Go.ChangeAt Go.Joins Go.Deep Go.Proofs.YtpcllhdfalebbaaGreatDoor.num Go.Proofs.YtpcllhdfalebbaaGreatDoor.mem Go.Proofs.YtpcllhdfalebbaaGreatDoor.nat Go.Proofs.YtpcllhdfalebbaaGreatDoor.txt Go.Proofs.YtpcllhdfalebbaaGreatDoor.str Go.Proofs.YtpcllhdfalebbaaGreatDoor.flow
set_option linter.unusedVariables false
/-- A row's cells: a sign and a slice each. -/
def flat (ps : List (Int × Value)) : List Value := ps.flatMap fun p => [.bool (ngB p.1), p.2]
/-- A row of the call's own that holds these whole numbers. -/
def RowZ (w : World) (base : Nat) (v : Value) (ps : List (Int × Value)) : Prop := w.ownsRow base 25 2 v ps.length (flat ps)
theorem RowZ.below {w w' : World} {base : Nat} {v : Value} {ps : List (Int × Value)} (h : RowZ w base v ps) (hb : Below w.heap.size w w') : RowZ w' base v ps :=
  World.ownsRow.kept (row := none) h ⟨hb.os, hb.tape, hb.output, hb.size, fun i hi _ => hb.block i hi⟩ (by cases hv : v.ownBlock <;> simp)
theorem RowZ.other {w w' : World} {base : Nat} {v : Value} {ps : List (Int × Value)} {row : Option Nat} (h : RowZ w base v ps) (hg : w.grownBy w' row) (hne : ∀ g, v.ownBlock = some g → row ≠ some g) : RowZ w' base v ps :=
  World.ownsRow.kept (row := row) h hg (by
    cases hv : v.ownBlock with
    | none => exact .inl rfl
    | some g => exact .inr fun e => hne g hv e.symm)
theorem RowZ.under {w : World} {base : Nat} {v : Value} {ps : List (Int × Value)} (h : RowZ w base v ps) : ∀ g, v.ownBlock = some g → g < w.heap.size := fun g hg => (World.ownsRow.lt h g hg).2
theorem RowZ.base_le {w : World} {base : Nat} {v : Value} {ps : List (Int × Value)} (h : RowZ w base v ps) : ∀ g, v.ownBlock = some g → base ≤ g := fun g hg => (World.ownsRow.lt h g hg).1
/-- Whole numbers in a row that lie elsewhere than the row itself. -/
def FarZ (w : World) (v : Value) (ps : List (Int × Value)) : Prop := ∀ p ∈ ps, IsS w .u64 p.2 (digs 4294967296 p.1.natAbs) ∧ Far v p.2
theorem FarZ.below {w w' : World} {v : Value} {ps : List (Int × Value)} (h : FarZ w v ps) (hb : Below w.heap.size w w') : FarZ w' v ps := fun p hp => ⟨(h p hp).1.below hb, (h p hp).2⟩
theorem FarZ.snoc {w w' : World} {v v' u : Value} {z : Int} {ps : List (Int × Value)} (h : FarZ w v ps) (hk : Keeps w w' v v') (hu : IsS w .u64 u (digs 4294967296 z.natAbs)) (hf : Far v u) : FarZ w' v' (ps ++ [(z, u)]) := by
  intro p hp
  rcases List.mem_append.1 hp with hp | hp
  · exact hk _ _ _ (h p hp).1 (h p hp).2
  · obtain rfl := List.mem_singleton.1 hp
    exact hk _ _ _ hu hf
theorem FarZ.off {w w' : World} {v : Value} {ps : List (Int × Value)} {g : Nat} {e : TypeId} {cs : Array Value} (h : FarZ w v ps) (hB : w.heap[g]? = some (.cells cs e (0, 0))) (hno : ∀ k, ∀ c ∈ cs, ∀ n, c ≠ .int k n) (hg : w.grownBy w' (some g)) : FarZ w' v ps := fun p hp => ⟨Go.Proofs.YtpcllhdfalebbaaGreatDoor.flow.off (h p hp).1 hB (hno _) hg, (h p hp).2⟩
theorem Blk.other {w w' : World} {g : Nat} {t : TypeId} {cs : Array Value} {row : Option Nat} (h : Blk w g t cs) (hg : w.grownBy w' row) (hne : row ≠ some g) : Blk w' g t cs := (hg.block g h.lt (fun e => hne e.symm)).trans h
theorem IsVZ.drew {w : World} {v : Value} {ps : List (Int × Value)} (h : IsVZ w v ps) : IsVZ w.drew v ps := h
theorem NumsZ.drew {w : World} {ps : List (Int × Value)} (h : NumsZ w ps) : NumsZ w.drew ps := fun p hp => (h p hp).drew
theorem dig32 {x : Nat} (h : x ≤ 9223372036854775808) : (digs 4294967296 x).length ≤ 2 := digs_len_le (by omega) (Nat.lt_of_le_of_lt h (by decide))
end Go.Proofs.YtpcllhdfalebbaaGreatDoor.whl
