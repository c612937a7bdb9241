/- A statement whose order is open, walked once: each operation's value is told by a word that later calls keep ('Below'), so no order is chosen. No program stands here.
The state: a frame with the values of the operations that have come up ('putM'); what each operation owes ('Ob'); all orders at once ('flow'). -/
import Derived.Test.YtbfflcpmagjlnaaDoorWords
import Derived.Orders
import Derived.Deep.MidRow
namespace Go.Proofs.YtbfflcpmagjlnaaDoor.flow
open Go.RowKit Go.Proofs.YtbfflcpmagjlnaaDoor.num Go.Proofs.YtbfflcpmagjlnaaDoor.mem
set_option linter.unusedVariables false

/-- The frame with the values of those operations that have come up. -/
def putM (a : Act) : List Oper → List (Option Value) → Act
  | o :: os, some v :: ms => putM (a.put o.dst v) os ms
  | _ :: os, none :: ms => putM a os ms
  | _, _ => a
/-- No two write one slot. -/
def distinctB : List Oper → Bool
  | [] => true
  | o :: os => (match o.dst with | none => true | some d => os.all fun x => x.dst != some d) && distinctB os
theorem distinct_head {o : Oper} {os : List Oper} (h : distinctB (o :: os) = true) : ∀ x ∈ os, ∀ d, o.dst = some d → x.dst ≠ some d := by
  intro x hx d hd
  simp only [distinctB, hd, Bool.and_eq_true] at h
  have := List.all_eq_true.1 h.1 x hx
  simpa using this
theorem distinct_tail {o : Oper} {os : List Oper} (h : distinctB (o :: os) = true) : distinctB os = true := by
  simp only [distinctB, Bool.and_eq_true] at h; exact h.2
theorem putM_put (d : Option Tmp) (v : Value) : ∀ (L : List Oper) (ms : List (Option Value)) (a : Act), (∀ x ∈ L, ∀ t, d = some t → x.dst ≠ some t) → (putM a L ms).put d v = putM (a.put d v) L ms
  | [], ms, a, _ => by cases ms <;> rfl
  | o :: os, [], a, _ => rfl
  | o :: os, none :: ms, a, h => putM_put d v os ms a fun x hx => h x (by simp [hx])
  | o :: os, some u :: ms, a, h => by
    show (putM (a.put o.dst u) os ms).put d v = putM ((a.put d v).put o.dst u) os ms
    rw [putM_put d v os ms _ fun x hx => h x (by simp [hx])]
    rw [Act.put_comm a v u (x := d) (y := o.dst) (fun t ht => h o (by simp) t ht)]
theorem putM_set (v : Value) : ∀ (L : List Oper) (ms : List (Option Value)) (a : Act) (i : Nat) (o : Oper), distinctB L = true → L[i]? = some o → ms[i]? = some none → (putM a L ms).put o.dst v = putM a L (ms.set i (some v))
  | [], ms, a, i, o, _, h, _ => by simp at h
  | x :: os, [], a, i, o, _, _, h => by simp at h
  | x :: os, m :: ms, a, 0, o, hd, hi, hm => by
    obtain rfl : x = o := by simpa using hi
    obtain rfl : m = none := by simpa using hm
    show (putM a os ms).put x.dst v = putM (a.put x.dst v) os ms
    exact putM_put _ _ _ _ _ fun y hy t ht => distinct_head hd y hy t ht
  | x :: os, none :: ms, a, i + 1, o, hd, hi, hm => by
    show (putM a os ms).put o.dst v = putM a os (ms.set i (some v))
    exact putM_set v os ms a i o (distinct_tail hd) (by simpa using hi) (by simpa using hm)
  | x :: os, some u :: ms, a, i + 1, o, hd, hi, hm => by
    show (putM (a.put x.dst u) os ms).put o.dst v = putM (a.put x.dst u) os (ms.set i (some v))
    exact putM_set v os ms _ i o (distinct_tail hd) (by simpa using hi) (by simpa using hm)
theorem put_size (a : Act) (d : Option Tmp) (v : Value) : (a.put d v).tmps.size = a.tmps.size := by cases d <;> simp [Act.put]
theorem putM_size : ∀ (L : List Oper) (ms : List (Option Value)) (a : Act), (putM a L ms).tmps.size = a.tmps.size
  | [], ms, a => by cases ms <;> rfl
  | o :: os, [], a => rfl
  | o :: os, none :: ms, a => putM_size os ms a
  | o :: os, some u :: ms, a => (putM_size os ms _).trans (put_size _ _ _)
theorem putM_far {t : Nat} : ∀ (L : List Oper) (ms : List (Option Value)) (a : Act), (∀ o ∈ L, o.dst ≠ some t) → (putM a L ms).tmps[t]? = a.tmps[t]?
  | [], ms, a, _ => by cases ms <;> rfl
  | o :: os, [], a, _ => rfl
  | o :: os, none :: ms, a, h => putM_far os ms a fun x hx => h x (by simp [hx])
  | o :: os, some u :: ms, a, h => by
    show (putM (a.put o.dst u) os ms).tmps[t]? = _
    rw [putM_far os ms _ fun x hx => h x (by simp [hx])]
    have h1 := h o (by simp)
    cases hd : o.dst with
    | none => rfl
    | some d =>
      have : d ≠ t := fun e => h1 (by rw [hd, e])
      simp [Act.put, Array.getElem?_setIfInBounds_ne this]
theorem putM_at {d : Nat} {v : Value} : ∀ (L : List Oper) (ms : List (Option Value)) (a : Act) (i : Nat) (o : Oper), distinctB L = true → L[i]? = some o → o.dst = some d → ms[i]? = some (some v) → d < a.tmps.size → (putM a L ms).tmps[d]? = some v
  | [], ms, a, i, o, _, h, _, _, _ => by simp at h
  | x :: os, [], a, i, o, _, _, _, h, _ => by simp at h
  | x :: os, m :: ms, a, 0, o, hd, hi, ho, hm, hs => by
    obtain rfl : x = o := by simpa using hi
    obtain rfl : m = some v := by simpa using hm
    show (putM (a.put x.dst v) os ms).tmps[d]? = some v
    rw [putM_far os ms _ fun y hy => distinct_head hd y hy d ho, ho]
    simp [Act.put, hs]
  | x :: os, none :: ms, a, i + 1, o, hd, hi, ho, hm, hs => putM_at os ms a i o (distinct_tail hd) (by simpa using hi) ho (by simpa using hm) hs
  | x :: os, some u :: ms, a, i + 1, o, hd, hi, ho, hm, hs => putM_at os ms _ i o (distinct_tail hd) (by simpa using hi) ho (by simpa using hm) (by rw [put_size]; exact hs)

/-- A word about a value in memory, which whatever makes new memory alone keeps. -/
structure Pd where
  p : World → Value → Prop
  up : ∀ {w w' : World} {v : Value}, p w v → Below w.heap.size w w' → p w' v
/-- It is this value. -/
def Pd.eq (v : Value) : Pd := ⟨fun _ u => u = v, fun h _ => h⟩
def Pd.any : Pd := ⟨fun _ _ => True, fun h _ => h⟩
/-- The word for operation i. -/
def ph (Φ : List Pd) (i : Nat) : Pd := Φ.getD i Pd.any
/-- Does it make a variable? -/
def isA (o : Oper) : Bool := match o.op with | .alloc _ => true | _ => false

/-- The state at which an operation comes up: the values of those before it are as told. -/
structure St (L : List Oper) (Φ : List Pd) (w0 : World) (o : Oper) (ms : List (Option Value)) (w : World) : Prop where
  len : ms.length = L.length
  below : Below w0.heap.size w0 w
  ty : ∀ (i : Nat) (v : Value), ms[i]? = some (some v) → (ph Φ i).p w v
  deps : ∀ e ∈ o.after, Region.binds .any e = true → ∃ v, ms[e.on]? = some (some v)
/-- What operation i owes: in each such state it yields a value as told, and makes new memory alone. -/
def Ob (P : Program) (Q : Exit → Act → World → Prop) (ops : Array Oper) (L : List Oper) (Φ : List Pd) (w0 : World) (a0 : Act) (i : Nat) (o : Oper) : Prop :=
  ∀ ms w, St L Φ w0 o ms w →
    if Region.wanted o (yielded ops (putM a0 L ms).tmps) = true then
      o.wp P (putM a0 L ms) w (fun a' w' => ∃ v, a' = (putM a0 L ms).put o.dst v ∧ Below w.heap.size w w' ∧ (ph Φ i).p w' v ∧ (isA o = true → ∃ g, v = .pointer (some ⟨g, 0, none⟩) ∧ w.heap.size ≤ g ∧ g < w'.heap.size)) Q
    else (ph Φ i).p w undef ∧ isA o = false
/-- All of them. -/
def Obs (P : Program) (Q : Exit → Act → World → Prop) (ops : Array Oper) (L : List Oper) (Φ : List Pd) (w0 : World) (a0 : Act) : Nat → List Oper → Prop
  | _, [] => True
  | i, o :: os => Ob P Q ops L Φ w0 a0 i o ∧ Obs P Q ops L Φ w0 a0 (i + 1) os
theorem Obs.at_ {P : Program} {Q : Exit → Act → World → Prop} {ops : Array Oper} {L : List Oper} {Φ : List Pd} {w0 : World} {a0 : Act} : ∀ (M : List Oper) (k i : Nat) (o : Oper), Obs P Q ops L Φ w0 a0 k M → M[i]? = some o → Ob P Q ops L Φ w0 a0 (k + i) o
  | [], k, i, o, _, h => by simp at h
  | x :: M, k, 0, o, h, hi => by
    obtain rfl : x = o := by simpa using hi
    exact h.1
  | x :: M, k, i + 1, o, h, hi => by
    have := Obs.at_ M (k + 1) i o h.2 (by simpa using hi)
    rwa [show k + 1 + i = k + (i + 1) from by omega] at this

/-- Whom an operation waits for. -/
def onsOf (o : Oper) : List Nat := (o.after.toList.filter fun e => Region.binds .any e).map (·.on)
theorem mem_onsOf {o : Oper} {j : Nat} : j ∈ onsOf o ↔ ∃ e ∈ o.after, Region.binds .any e = true ∧ e.on = j := by
  simp [onsOf, and_assoc]
/-- Each waits for earlier ones alone. -/
def backB : Nat → List Oper → Bool
  | _, [] => true
  | i, o :: os => ((onsOf o).all fun j => decide (j < i)) && backB (i + 1) os
theorem backB_at : ∀ (L : List Oper) (k i : Nat) (o : Oper), backB k L = true → L[i]? = some o → ∀ e ∈ o.after, Region.binds .any e = true → e.on < k + i
  | [], k, i, o, _, h => by simp at h
  | x :: L, k, 0, o, h, hi => by
    obtain rfl : x = o := by simpa using hi
    simp only [backB, Bool.and_eq_true] at h
    intro e he hb
    have := List.all_eq_true.1 h.1 e.on (mem_onsOf.2 ⟨e, he, hb, rfl⟩)
    simpa using this
  | x :: L, k, i + 1, o, h, hi => by
    simp only [backB, Bool.and_eq_true] at h
    intro e he hb
    have := backB_at L (k + 1) i o h.2 (by simpa using hi) e he hb
    omega
/-- Each of the first n is waited for: by this operation, or by a later one of them. -/
def covB (L : List Oper) (n : Nat) (o : Oper) : Bool :=
  (onsOf o).any (fun j => decide (n ≤ j)) || (List.range n).all fun i => (onsOf o).contains i || (List.range n).any fun k => decide (i < k) && ((L[k]?).map fun x => (onsOf x).contains i).getD false
theorem covB_all {L : List Oper} {o : Oper} {ms : List (Option Value)} (hlen : ms.length = L.length) (h : covB L L.length o = true) (hdone : ∀ e ∈ o.after, Region.binds .any e = true → ∃ v, ms[e.on]? = some (some v))
    (hdc : ∀ (j : Nat) (x : Oper) (v : Value), L[j]? = some x → ms[j]? = some (some v) → ∀ e ∈ x.after, Region.binds .any e = true → ∃ v, ms[e.on]? = some (some v)) : ∀ i, i < L.length → ∃ v, ms[i]? = some (some v) := by
  unfold covB at h
  rw [Bool.or_eq_true] at h
  rcases h with h | h
  · obtain ⟨j, hj, hn⟩ := List.any_eq_true.1 h
    obtain ⟨e, he, hb, rfl⟩ := mem_onsOf.1 hj
    obtain ⟨v, hv⟩ := hdone e he hb
    have := (List.getElem?_eq_some_iff.1 hv).1
    simp at hn
    omega
  · have key : ∀ k i, i + k = L.length → i < L.length → ∃ v, ms[i]? = some (some v) := by
      intro k
      induction k using Nat.strongRecOn with
      | ind k ih =>
        intro i hik hi
        have h1 := List.all_eq_true.1 h i (by simp [hi])
        rw [Bool.or_eq_true] at h1
        rcases h1 with h1 | h1
        · obtain ⟨e, he, hb, rfl⟩ := mem_onsOf.1 (by simpa using h1)
          exact hdone e he hb
        · obtain ⟨m, hm, h2⟩ := List.any_eq_true.1 h1
          rw [Bool.and_eq_true] at h2
          have hm2 : m < L.length := by simpa using hm
          have him : i < m := by simpa using h2.1
          obtain ⟨v, hv⟩ := ih (L.length - m) (by omega) m (by omega) hm2
          have h3 := h2.2
          rw [List.getElem?_eq_getElem hm2] at h3
          obtain ⟨e, he, hb, rfl⟩ := mem_onsOf.1 (by simpa using h3)
          exact hdc m _ v (List.getElem?_eq_getElem hm2) hv e he hb
    intro i hi
    exact key (L.length - i) i (by omega) hi

/-- Who has come up. -/
def lst (ms : List (Option Value)) (m : Nat) : Array Bool := (ms.map Option.isSome ++ List.replicate m false).toArray
theorem lst_lt {ms : List (Option Value)} {m i : Nat} (h : i < ms.length) (d : Bool) : (lst ms m).getD i d = (ms[i]).isSome := by
  unfold lst
  rw [Array.getD_eq_getD_getElem?, List.getElem?_toArray, List.getElem?_append_left (by simpa using h)]
  simp [h]
theorem lst_ge {ms : List (Option Value)} {m i : Nat} (h : ms.length ≤ i) : (lst ms m).getD i false = false := by
  unfold lst
  rw [Array.getD_eq_getD_getElem?, List.getElem?_toArray, List.getElem?_append_right (by simpa using h)]
  rw [List.getElem?_replicate]
  split <;> rfl
theorem lst_set {ms : List (Option Value)} {m i : Nat} (v : Value) (h : i < ms.length) : (lst ms m).setIfInBounds i true = lst (ms.set i (some v)) m := by
  unfold lst
  rw [List.setIfInBounds_toArray, List.set_append_left _ _ (by simpa using h), List.map_set]
  rfl
/-- No two variables are one. -/
def Sep (L : List Oper) (ms : List (Option Value)) : Prop := ∀ (i j : Nat) (oi oj : Oper) (u v : Value), i ≠ j → L[i]? = some oi → L[j]? = some oj → isA oi = true → isA oj = true → ms[i]? = some (some u) → ms[j]? = some (some v) → u ≠ v
/-- Variables that have been made lie in memory. -/
def Ptr (L : List Oper) (ms : List (Option Value)) (w : World) : Prop := ∀ (i : Nat) (oi : Oper) (u : Value), L[i]? = some oi → isA oi = true → ms[i]? = some (some u) → ∃ g, u = .pointer (some ⟨g, 0, none⟩) ∧ g < w.heap.size
/-- The whole state. -/
structure Inv (L : List Oper) (Φ : List Pd) (w0 : World) (ms : List (Option Value)) (w : World) : Prop where
  len : ms.length = L.length
  below : Below w0.heap.size w0 w
  ty : ∀ (i : Nat) (v : Value), ms[i]? = some (some v) → (ph Φ i).p w v
  dc : ∀ (j : Nat) (x : Oper) (v : Value), L[j]? = some x → ms[j]? = some (some v) → ∀ e ∈ x.after, Region.binds .any e = true → ∃ v, ms[e.on]? = some (some v)
  sep : Sep L ms
  ptr : Ptr L ms w
theorem set_cases {ms : List (Option Value)} {i j : Nat} {v u : Value} (h : (ms.set i (some v))[j]? = some (some u)) : (j = i ∧ u = v) ∨ (j ≠ i ∧ ms[j]? = some (some u)) := by
  rw [List.getElem?_set] at h
  by_cases hij : i = j
  · subst hij
    rw [if_pos rfl] at h
    split at h
    · left; simp at h; exact ⟨rfl, h.symm⟩
    · cases h
  · rw [if_neg hij] at h
    exact .inr ⟨fun e => hij e.symm, h⟩
theorem set_more {ms : List (Option Value)} {i j : Nat} {v : Value} (h : ∃ u, ms[j]? = some (some u)) : ∃ u, (ms.set i (some v))[j]? = some (some u) := by
  obtain ⟨u, hu⟩ := h
  by_cases hij : i = j
  · subst hij
    exact ⟨v, by rw [List.getElem?_set_self (List.getElem?_eq_some_iff.1 hu).1]⟩
  · exact ⟨u, by rw [List.getElem?_set_ne hij]; exact hu⟩
theorem Inv.step {L : List Oper} {Φ : List Pd} {w0 : World} {ms : List (Option Value)} {w w' : World} {i : Nat} {o : Oper} {v : Value} (h : Inv L Φ w0 ms w) (hi : L[i]? = some o) (hm : ms[i]? = some none)
    (hdeps : ∀ e ∈ o.after, Region.binds .any e = true → ∃ v, ms[e.on]? = some (some v)) (hb : Below w.heap.size w w') (hv : (ph Φ i).p w' v) (ha : isA o = true → ∃ g, v = .pointer (some ⟨g, 0, none⟩) ∧ w.heap.size ≤ g ∧ g < w'.heap.size) : Inv L Φ w0 (ms.set i (some v)) w' where
  len := by rw [List.length_set]; exact h.len
  below := h.below.trans (hb.mono h.below.size)
  ty := fun j u hu => by
    rcases set_cases hu with ⟨rfl, rfl⟩ | ⟨_, h1⟩
    · exact hv
    · exact (ph Φ j).up (h.ty j u h1) hb
  dc := fun j x u hx hu e he hbi => by
    rcases set_cases hu with ⟨rfl, rfl⟩ | ⟨_, h1⟩
    · obtain rfl : o = x := by rw [hi] at hx; exact Option.some.inj hx
      exact set_more (hdeps e he hbi)
    · exact set_more (h.dc j x u hx h1 e he hbi)
  sep := by
    intro a b oa ob u x hab ha1 hb1 hA hB hu hx
    rcases set_cases hu with ⟨rfl, rfl⟩ | ⟨_, h1⟩
    · rcases set_cases hx with ⟨rfl, rfl⟩ | ⟨_, h2⟩
      · exact absurd rfl hab
      · obtain rfl : o = oa := by rw [hi] at ha1; exact Option.some.inj ha1
        obtain ⟨g, rfl, hg, _⟩ := ha hA
        obtain ⟨g', rfl, hg'⟩ := h.ptr _ _ _ hb1 hB h2
        intro e
        injection e with e; injection e with e; injection e with e _ _
        omega
    · rcases set_cases hx with ⟨rfl, rfl⟩ | ⟨_, h2⟩
      · obtain rfl : o = ob := by rw [hi] at hb1; exact Option.some.inj hb1
        obtain ⟨g, rfl, hg, _⟩ := ha hB
        obtain ⟨g', rfl, hg'⟩ := h.ptr _ _ _ ha1 hA h1
        intro e
        injection e with e; injection e with e; injection e with e _ _
        omega
      · exact h.sep a b oa ob u x hab ha1 hb1 hA hB h1 h2
  ptr := by
    intro j oj u hj hA hu
    rcases set_cases hu with ⟨rfl, rfl⟩ | ⟨_, h1⟩
    · obtain rfl : o = oj := by rw [hi] at hj; exact Option.some.inj hj
      obtain ⟨g, e, _, hg⟩ := ha hA
      exact ⟨g, e, hg⟩
    · obtain ⟨g, e, hg⟩ := h.ptr j oj u hj hA h1
      exact ⟨g, e, Nat.lt_of_lt_of_le hg hb.size⟩
theorem not_some {m : Option (Option Value)} (h : m = some none ∨ m = none) : ¬ ∃ v, m = some (some v) := by
  rintro ⟨v, hv⟩
  rcases h with h | h <;> rw [h] at hv <;> cases hv

/-- ALL ORDERS AT ONCE: the first operations L, whose values are told; what is left is behind all of them. -/
theorem flow_main {P : Program} {Q : Exit → Act → World → Prop} {ops : Array Oper} {L L2 : List Oper} {Φ : List Pd} {w0 : World} {a0 : Act} (hop : ops.toList = L ++ L2) (hd : distinctB L = true) (hback : backB 0 L = true) (hcov : (L2.all fun o => covB L L.length o) = true)
    (ob : Obs P Q ops L Φ w0 a0 0 L)
    (done : ∀ ms w, (∀ i, i < L.length → ∃ v, ms[i]? = some (some v)) → Inv L Φ w0 ms w → wpAny P .any ops Q L2.length (lst ms L2.length) (putM a0 L ms) w) :
    ∀ (k : Nat) (ms : List (Option Value)) (w : World), (ms.filter Option.isNone).length = k → Inv L Φ w0 ms w → wpAny P .any ops Q (k + L2.length) (lst ms L2.length) (putM a0 L ms) w := by
  have hsz : ops.size = L.length + L2.length := by
    have := congrArg List.length hop
    simpa using this
  have hat : ∀ i, ops[i]? = (L ++ L2)[i]? := fun i => by rw [← hop, Array.getElem?_toList]
  intro k
  induction k with
  | zero =>
    intro ms w hk hI
    rw [Nat.zero_add]
    refine done ms w (fun i hi => ?_) hI
    have hi2 : i < ms.length := by rw [hI.len]; exact hi
    rcases hm : ms[i] with _ | v
    · exfalso
      have h1 : ms[i] ∈ ms.filter Option.isNone := List.mem_filter.2 ⟨List.getElem_mem hi2, by rw [hm]; rfl⟩
      rw [List.length_eq_zero_iff.1 hk] at h1
      simp at h1
    · exact ⟨v, by rw [List.getElem?_eq_getElem hi2, hm]⟩
  | succ k ih =>
    intro ms w hk hI
    -- some operation of L has not come up
    have hnot : ¬ ∀ i, i < L.length → ∃ v, ms[i]? = some (some v) := by
      intro hall
      have h0 : ms.filter Option.isNone = [] := by
        rw [List.filter_eq_nil_iff]
        intro m hm
        obtain ⟨i, hi, rfl⟩ := List.mem_iff_getElem.1 hm
        obtain ⟨v, hv⟩ := hall i (by rw [← hI.len]; exact hi)
        rw [List.getElem?_eq_getElem hi] at hv
        rw [Option.some.inj hv]; simp
      rw [h0] at hk; simp at hk
    -- the least one that has not may come up
    have least : ∀ n i, i ≤ n → i < L.length → Region.ready .any ops (lst ms L2.length) = [] → ∃ v, ms[i]? = some (some v) := by
      intro n
      induction n with
      | zero =>
        intro i hin hi hr
        obtain rfl : i = 0 := by omega
        have hi2 : 0 < ms.length := by rw [hI.len]; exact hi
        rcases hm : ms[0] with _ | v
        · exfalso
          have : 0 ∈ Region.ready .any ops (lst ms L2.length) := by
            rw [mem_ready]
            refine ⟨by rw [lst_lt hi2, hm]; rfl, L[0], by rw [hat, List.getElem?_append_left hi, List.getElem?_eq_getElem hi], ?_⟩
            intro e he hb
            have := backB_at L 0 0 _ hback (List.getElem?_eq_getElem hi) e he hb
            omega
          rw [hr] at this; simp at this
        · exact ⟨v, by rw [List.getElem?_eq_getElem hi2, hm]⟩
      | succ n ihn =>
        intro i hin hi hr
        have hi2 : i < ms.length := by rw [hI.len]; exact hi
        rcases hm : ms[i] with _ | v
        · exfalso
          have : i ∈ Region.ready .any ops (lst ms L2.length) := by
            rw [mem_ready]
            refine ⟨by rw [lst_lt hi2, hm]; rfl, L[i], by rw [hat, List.getElem?_append_left hi, List.getElem?_eq_getElem hi], ?_⟩
            intro e he hb
            have h1 := backB_at L 0 i _ hback (List.getElem?_eq_getElem hi) e he hb
            have h3 : e.on < ms.length := by rw [hI.len]; omega
            obtain ⟨v, hv⟩ := ihn e.on (by omega) (by omega) hr
            rw [lst_lt h3]
            rw [List.getElem?_eq_getElem h3] at hv
            rw [Option.some.inj hv]; rfl
          rw [hr] at this; simp at this
        · exact ⟨v, by rw [List.getElem?_eq_getElem hi2, hm]⟩
    rw [show k + 1 + L2.length = (k + L2.length) + 1 from by omega]
    refine ⟨fun hr => absurd (fun i hi => least i i (Nat.le_refl _) hi hr) hnot, fun i hi => ?_⟩
    obtain ⟨h1, o, ho, haft⟩ := mem_ready.1 hi
    have hdeps : ∀ e ∈ o.after, Region.binds .any e = true → ∃ v, ms[e.on]? = some (some v) := by
      intro e he hb
      have h2 := haft e he hb
      by_cases h3 : e.on < ms.length
      · rw [lst_lt h3] at h2
        obtain ⟨v, hv⟩ := Option.isSome_iff_exists.1 h2
        exact ⟨v, by rw [List.getElem?_eq_getElem h3, hv]⟩
      · rw [lst_ge (by omega)] at h2; cases h2
    by_cases hiL : i < L.length
    · have hi2 : i < ms.length := by rw [hI.len]; exact hiL
      rw [lst_lt hi2] at h1
      have hmi : ms[i]? = some none := by
        rw [List.getElem?_eq_getElem hi2]
        rcases hm : ms[i] with _ | v
        · rfl
        · rw [hm] at h1; cases h1
      have hoL : L[i]? = some o := by rw [hat, List.getElem?_append_left hiL] at ho; exact ho
      have hob := ob.at_ L 0 i o hoL
      rw [Nat.zero_add] at hob
      have hst := hob ms w ⟨hI.len, hI.below, hI.ty, hdeps⟩
      have hcount : ∀ v : Value, ((ms.set i (some v)).filter Option.isNone).length = k := by
        intro v
        have key : ∀ (l : List (Option Value)) (i : Nat), l[i]? = some none → ((l.set i (some v)).filter Option.isNone).length + 1 = (l.filter Option.isNone).length := by
          intro l
          induction l with
          | nil => intro i h; simp at h
          | cons m l ihl =>
            intro i h
            cases i with
            | zero =>
              obtain rfl : m = none := by simpa using h
              simp
            | succ i =>
              have := ihl i (by simpa using h)
              rw [List.set_cons_succ, List.filter_cons, List.filter_cons]
              split
              · simp only [List.length_cons]; omega
              · exact this
        have := key ms i hmi
        omega
      unfold wpOp
      rw [ho]
      simp only []
      by_cases hw : Region.wanted o (yielded ops (putM a0 L ms).tmps) = true
      · rw [if_pos hw] at hst ⊢
        refine .inl (Oper.wp_mono ?_ hst)
        rintro a' w' ⟨v, rfl, hb, hv, ha⟩
        rw [lst_set v hi2, putM_set v L ms a0 i o hd hoL hmi]
        exact ih _ w' (hcount v) (hI.step hoL hmi hdeps hb hv ha)
      · rw [if_neg hw] at hst ⊢
        rw [lst_set undef hi2, putM_set undef L ms a0 i o hd hoL hmi]
        exact ih _ w (hcount undef) (hI.step hoL hmi hdeps (Below.refl _ _) hst.1 (fun h => by rw [hst.2] at h; cases h))
    · exfalso
      have ho2 : o ∈ L2 := by
        rw [hat, List.getElem?_append_right (by omega)] at ho
        exact List.mem_of_getElem? ho
      have hc := List.all_eq_true.1 hcov o ho2
      exact hnot (covB_all hI.len hc hdeps hI.dc)

/-- What stands behind the operations, for whatever values they may have yielded. -/
def Done (K : Act → World → Prop) (Φ : List Pd) (w : World) : Nat → List Oper → List Value → Act → Prop
  | _, [], _, a => ∀ b, a = b → K b w
  | i, o :: os, ps, a => ∀ v, (ph Φ i).p w v → match isA o with
    | true => (∀ u ∈ ps, u ≠ v) → Done K Φ w (i + 1) os (v :: ps) (a.put o.dst v)
    | false => Done K Φ w (i + 1) os ps (a.put o.dst v)
theorem done_all {K : Act → World → Prop} {L : List Oper} {Φ : List Pd} {w0 w : World} {ms : List (Option Value)} (hI : Inv L Φ w0 ms w) (hall : ∀ i, i < L.length → ∃ v, ms[i]? = some (some v)) :
    ∀ (M : List Oper) (k : Nat) (a : Act) (ps : List Value), L.drop k = M → k ≤ L.length → (∀ u ∈ ps, ∃ j oj, j < k ∧ L[j]? = some oj ∧ isA oj = true ∧ ms[j]? = some (some u)) → Done K Φ w k M ps a → K (putM a M (ms.drop k)) w
  | [], k, a, ps, hM, hk, hps, h => by
    have e : putM a [] (ms.drop k) = a := by cases ms.drop k <;> rfl
    rw [e]; exact h a rfl
  | o :: M, k, a, ps, hM, hk, hps, h => by
    have hk2 : k < L.length := by
      rcases Nat.lt_or_ge k L.length with h1 | h1
      · exact h1
      · rw [List.drop_of_length_le h1] at hM; cases hM
    have e1 : L.drop k = L[k] :: L.drop (k + 1) := (List.getElem_cons_drop hk2).symm
    rw [hM] at e1
    injection e1 with e2 e3
    obtain ⟨v, hv⟩ := hall k hk2
    have hk3 : k < ms.length := (List.getElem?_eq_some_iff.1 hv).1
    have e4 : ms.drop k = some v :: ms.drop (k + 1) := by
      rw [← List.getElem_cons_drop hk3, (List.getElem?_eq_some_iff.1 hv).2]
    rw [e4]
    have hL : L[k]? = some o := by rw [List.getElem?_eq_getElem hk2, e2]
    show K (putM (a.put o.dst v) M (ms.drop (k + 1))) w
    have hd := h v (hI.ty k v hv)
    cases ha : isA o with
    | true =>
      rw [ha] at hd
      refine done_all hI hall M (k + 1) _ (v :: ps) e3.symm (by omega) ?_ (hd fun u hu => ?_)
      · intro u hu
        rcases List.mem_cons.1 hu with rfl | hu
        · exact ⟨k, o, by omega, hL, ha, hv⟩
        · obtain ⟨j, oj, hj, h1⟩ := hps u hu
          exact ⟨j, oj, by omega, h1⟩
      · obtain ⟨j, oj, hj, h1, h2, h3⟩ := hps u hu
        exact hI.sep j k oj o u v (by omega) h1 hL h2 ha h3 hv
    | false =>
      rw [ha] at hd
      refine done_all hI hall M (k + 1) _ ps e3.symm (by omega) (fun u hu => ?_) hd
      obtain ⟨j, oj, hj, h1⟩ := hps u hu
      exact ⟨j, oj, by omega, h1⟩
theorem putM_none (a : Act) : ∀ (L : List Oper), putM a L (List.replicate L.length none) = a
  | [] => rfl
  | o :: os => putM_none a os
theorem lst_start (n m : Nat) : lst (List.replicate n none) m = Array.replicate (n + m) false := by
  unfold lst
  rw [List.map_replicate]
  show (List.replicate n false ++ List.replicate m false).toArray = _
  rw [List.replicate_append_replicate, List.toArray_replicate]
theorem lst_end {ms : List (Option Value)} {n : Nat} (m : Nat) (hn : ms.length = n) (hall : ∀ i, i < n → ∃ v, ms[i]? = some (some v)) : lst ms m = (List.replicate n true ++ List.replicate m false).toArray := by
  unfold lst
  congr 2
  refine List.ext_getElem (by simp [hn]) fun i h1 h2 => ?_
  obtain ⟨v, hv⟩ := hall i (by simpa using h2)
  have h3 : i < ms.length := by simpa using h1
  rw [List.getElem?_eq_getElem h3] at hv
  simp [Option.some.inj hv]
/-- Each operation's word once; then what stands behind, for whatever values. -/
theorem flow_core {P : Program} {Q : Exit → Act → World → Prop} {ops : Array Oper} (n : Nat) (Φ : List Pd) {w : World} {a0 : Act}
    (h1 : distinctB (ops.toList.take n) = true) (h2 : backB 0 (ops.toList.take n) = true) (h3 : ((ops.toList.drop n).all fun o => covB (ops.toList.take n) (ops.toList.take n).length o) = true)
    (ob : Obs P Q ops (ops.toList.take n) Φ w a0 0 (ops.toList.take n))
    (done : ∀ w', Below w.heap.size w w' → Done (fun a w' => wpAny P .any ops Q (ops.toList.drop n).length (List.replicate (ops.toList.take n).length true ++ List.replicate (ops.toList.drop n).length false).toArray a w') Φ w' 0 (ops.toList.take n) [] a0) : wpAny P .any ops Q ops.size (Array.replicate ops.size false) a0 w := by
  have hop : ops.toList = ops.toList.take n ++ ops.toList.drop n := (List.take_append_drop n _).symm
  generalize ops.toList.take n = L at *
  generalize ops.toList.drop n = L2 at *
  have hsz : ops.size = L.length + L2.length := by
    have := congrArg List.length hop
    simpa using this
  have none_ : ∀ (i : Nat) (v : Value), ¬ (List.replicate L.length (none : Option Value))[i]? = some (some v) := by
    intro i v h
    rw [List.getElem?_replicate] at h
    split at h <;> cases h
  have hI0 : Inv L Φ w (List.replicate L.length none) w := ⟨by simp, Below.refl _ _, fun i v h => absurd h (none_ i v), fun j x v _ h => absurd h (none_ j v), fun i j oi oj u v _ _ _ _ _ h _ => absurd h (none_ i u), fun i oi u _ _ h => absurd h (none_ i u)⟩
  have hmain := flow_main (P := P) (Q := Q) (ops := ops) (L := L) (L2 := L2) (Φ := Φ) (w0 := w) (a0 := a0) hop h1 h2 h3 ob (fun ms w' hall hI => by
    rw [lst_end L2.length hI.len hall]
    have := done_all (K := fun a w' => wpAny P .any ops Q L2.length (List.replicate L.length true ++ List.replicate L2.length false).toArray a w') hI hall L 0 a0 [] (by simp) (by omega) (by simp) (done w' hI.below)
    simpa using this) L.length (List.replicate L.length none) w (by simp) hI0
  rw [putM_none, lst_start, ← hsz] at hmain
  exact hmain

/-- A region that draws its order: each operation's word once; then what stands behind, for whatever values. -/
theorem flow {P : Program} {Q : Exit → Act → World → Prop} {id : Nat} {ops : Array Oper} (n : Nat) (Φ : List Pd) {w : World} {a0 : Act} (hm : P.follows .mixedOrders = true)
    (hB : (distinctB (ops.toList.take n) && backB 0 (ops.toList.take n) && (ops.toList.drop n).all (fun o => covB (ops.toList.take n) (ops.toList.take n).length o)) = true)
    (ob : Obs P Q ops (ops.toList.take n) Φ w.drew a0 0 (ops.toList.take n))
    (done : ∀ w', Below w.heap.size w w' → Done (fun a w' => wpAny P .any ops Q (ops.toList.drop n).length (List.replicate (ops.toList.take n).length true ++ List.replicate (ops.toList.drop n).length false).toArray a w') Φ w' 0 (ops.toList.take n) [] a0) : (Code.region id ops true).wp P Q a0 w := by
  simp only [Bool.and_eq_true] at hB
  obtain ⟨⟨h1, h2⟩, h3⟩ := hB
  exact wp_region_any hm (flow_core n Φ (w := w.drew) h1 h2 h3 ob fun w' hb => done w' ((Below.refl _ w).drew.trans hb))
/-- In the order of the text. -/
def upto (n i : Nat) : Array Bool := (List.replicate i true ++ List.replicate (n - i) false).toArray
theorem upto_get {n i j : Nat} (h : j < n) (hi : i ≤ n) (d : Bool) : (upto n i).getD j d = decide (j < i) := by
  unfold upto
  rw [Array.getD_eq_getD_getElem?, List.getElem?_toArray]
  by_cases hj : j < i
  · rw [List.getElem?_append_left (by simpa using hj), List.getElem?_replicate, if_pos hj, decide_eq_true hj]; rfl
  · rw [List.getElem?_append_right (by simp; omega), List.getElem?_replicate, if_pos (by simp; omega), decide_eq_false hj]; rfl
theorem upto_set {n i : Nat} (h : i < n) : (upto n i).setIfInBounds i true = upto n (i + 1) := by
  unfold upto
  rw [List.setIfInBounds_toArray, List.set_append_right _ _ (by simp)]
  congr 1
  simp only [List.length_replicate, Nat.sub_self]
  obtain ⟨m, hm⟩ : ∃ m, n - i = m + 1 := ⟨n - i - 1, by omega⟩
  rw [hm, List.replicate_succ, List.set_cons_zero, show n - (i + 1) = m from by omega, List.replicate_succ', List.append_assoc]
  rfl
theorem ready_upto {ops : Array Oper} (hb : backB 0 ops.toList = true) {i : Nat} (hi : i < ops.size) : ∃ r, Region.ready .any ops (upto ops.size i) = i :: r := by
  have hmem : i ∈ Region.ready .any ops (upto ops.size i) := by
    rw [mem_ready]
    refine ⟨by rw [upto_get hi (by omega)]; simp, ops[i], Array.getElem?_eq_getElem hi, fun e he hbi => ?_⟩
    have := backB_at ops.toList 0 i ops[i] hb (by rw [Array.getElem?_toList, Array.getElem?_eq_getElem hi]) e he hbi
    rw [upto_get (by omega) (by omega)]
    simpa using this
  have hsort : (Region.ready .any ops (upto ops.size i)).Pairwise (· < ·) := by
    unfold Region.ready
    exact List.pairwise_lt_range.filter _
  rcases hr : Region.ready .any ops (upto ops.size i) with _ | ⟨j, r⟩
  · rw [hr] at hmem; simp at hmem
  · rw [hr] at hmem hsort
    have hj : j ∈ Region.ready .any ops (upto ops.size i) := by rw [hr]; simp
    have hjs : j < ops.size := by
      obtain ⟨_, o, ho, _⟩ := mem_ready.1 hj
      exact (Array.getElem?_eq_some_iff.1 ho).1
    have h1 := (mem_ready.1 hj).1
    rw [upto_get hjs (by omega)] at h1
    have h2 : ¬ j < i := by simpa using h1
    rcases List.mem_cons.1 hmem with rfl | hm
    · exact ⟨r, rfl⟩
    · have := (List.pairwise_cons.1 hsort).1 i hm
      omega
theorem go_range {ops : Array Oper} (hb : backB 0 ops.toList = true) : ∀ (fuel i : Nat), i + fuel = ops.size → Region.linearise.go .any ops fuel 0 (upto ops.size i) [] = List.range' i fuel
  | 0, i, _ => by simp [Region.linearise.go]
  | fuel + 1, i, h => by
    obtain ⟨r, hr⟩ := ready_upto hb (show i < ops.size by omega)
    unfold Region.linearise.go
    change (match (Region.ready .any ops (upto ops.size i))[0 % (Region.ready .any ops (upto ops.size i)).length]? with
      | some i_1 => Region.linearise.go .any ops fuel (0 / (Region.ready .any ops (upto ops.size i)).length) ((upto ops.size i).setIfInBounds i_1 true) [i_1]
      | none => [].reverse) = _
    rw [hr]
    simp only [Nat.zero_mod, Nat.zero_div, List.getElem?_cons_zero]
    rw [upto_set (by omega), linearise_go_acc, go_range hb fuel (i + 1) (by omega)]
    rfl
theorem plain_main {P : Program} {Q : Exit → Act → World → Prop} {ops : Array Oper} {L L2 : List Oper} {Φ : List Pd} {w0 : World} {a0 : Act} {rest : List Nat} (hop : ops.toList = L ++ L2) (hd : distinctB L = true) (hback : backB 0 L = true)
    (ob : Obs P Q ops L Φ w0 a0 0 L) (done : ∀ ms w, (∀ i, i < L.length → ∃ v, ms[i]? = some (some v)) → Inv L Φ w0 ms w → wpOps P ops Q rest (putM a0 L ms) w) :
    ∀ (k i : Nat) (ms : List (Option Value)) (w : World), i + k = L.length → (∀ j, j < i → ∃ v, ms[j]? = some (some v)) → (∀ j, i ≤ j → j < L.length → ms[j]? = some none) → Inv L Φ w0 ms w → wpOps P ops Q (List.range' i k ++ rest) (putM a0 L ms) w
  | 0, i, ms, w, hk, h1, _, hI => done ms w (fun j hj => h1 j (by omega)) hI
  | k + 1, i, ms, w, hk, h1, h2, hI => by
    have hiL : i < L.length := by omega
    have hat : ops[i]? = some L[i] := by
      rw [← Array.getElem?_toList, hop, List.getElem?_append_left hiL, List.getElem?_eq_getElem hiL]
    have hoL : L[i]? = some L[i] := List.getElem?_eq_getElem hiL
    have hdeps : ∀ e ∈ L[i].after, Region.binds .any e = true → ∃ v, ms[e.on]? = some (some v) := fun e he hb => by
      have := backB_at L 0 i _ hback hoL e he hb
      exact h1 e.on (by omega)
    have hob := ob.at_ L 0 i _ hoL
    rw [Nat.zero_add] at hob
    have hst := hob ms w ⟨hI.len, hI.below, hI.ty, hdeps⟩
    have hmi := h2 i (Nat.le_refl _) hiL
    have next : ∀ v w', Inv L Φ w0 (ms.set i (some v)) w' → wpOps P ops Q (List.range' (i + 1) k ++ rest) (putM a0 L (ms.set i (some v))) w' := fun v w' hI' =>
      plain_main hop hd hback ob done k (i + 1) _ w' (by omega) (fun j hj => by
        by_cases hji : j = i
        · subst hji; exact ⟨v, by rw [List.getElem?_set_self (by rw [hI.len]; exact hiL)]⟩
        · exact set_more (h1 j (by omega))) (fun j hj hj2 => by rw [List.getElem?_set_ne (by omega)]; exact h2 j (by omega) hj2) hI'
    show wpOps P ops Q (i :: (List.range' (i + 1) k ++ rest)) (putM a0 L ms) w
    rw [wpOps_cons]
    unfold wpOp
    rw [hat]
    simp only []
    by_cases hw : Region.wanted L[i] (yielded ops (putM a0 L ms).tmps) = true
    · rw [if_pos hw] at hst ⊢
      refine .inl (Oper.wp_mono ?_ hst)
      rintro a' w' ⟨v, rfl, hb, hv, ha⟩
      rw [putM_set v L ms a0 i _ hd hoL hmi]
      exact next v w' (hI.step hoL hmi hdeps hb hv ha)
    · rw [if_neg hw] at hst ⊢
      rw [putM_set undef L ms a0 i _ hd hoL hmi]
      exact next undef w (hI.step hoL hmi hdeps (Below.refl _ _) hst.1 (fun h => by rw [hst.2] at h; cases h))
/-- The same of a region in the order of its text. -/
theorem flowp {P : Program} {Q : Exit → Act → World → Prop} {id : Nat} {ops : Array Oper} (n : Nat) (Φ : List Pd) {w : World} {a0 : Act}
    (hB : (distinctB (ops.toList.take n) && backB 0 (ops.toList.take n)) = true)
    (ob : Obs P Q ops (ops.toList.take n) Φ w a0 0 (ops.toList.take n))
    (done : ∀ w', Below w.heap.size w w' → Done (fun a w' => wpOps P ops Q (List.range' (ops.toList.take n).length (ops.toList.drop n).length) a w') Φ w' 0 (ops.toList.take n) [] a0) : (Code.region id ops false).wp P Q a0 w := by
  simp only [Bool.and_eq_true] at hB
  obtain ⟨h1, h2⟩ := hB
  refine wp_region ?_
  have hop : ops.toList = ops.toList.take n ++ ops.toList.drop n := (List.take_append_drop n _).symm
  generalize ops.toList.take n = L at *
  generalize ops.toList.drop n = L2 at *
  have hsz : ops.size = L.length + L2.length := by
    have := congrArg List.length hop
    simpa using this
  have none_ : ∀ (i : Nat) (v : Value), ¬ (List.replicate L.length (none : Option Value))[i]? = some (some v) := by
    intro i v h
    rw [List.getElem?_replicate] at h
    split at h <;> cases h
  have hI0 : Inv L Φ w (List.replicate L.length none) w := ⟨by simp, Below.refl _ _, fun i v h => absurd h (none_ i v), fun j x v _ h => absurd h (none_ j v), fun i j oi oj u v _ _ _ _ _ h _ => absurd h (none_ i u), fun i oi u _ _ h => absurd h (none_ i u)⟩
  have hmain := plain_main (P := P) (Q := Q) (ops := ops) (L := L) (L2 := L2) (Φ := Φ) (w0 := w) (a0 := a0) (rest := List.range' L.length L2.length) hop h1 h2 ob (fun ms w' hall hI => by
    have := done_all (K := fun a w' => wpOps P ops Q (List.range' L.length L2.length) a w') hI hall L 0 a0 [] (by simp) (by omega) (by simp) (done w' hI.below)
    simpa using this) L.length 0 (List.replicate L.length none) w (by simp) (fun j hj => absurd hj (by omega)) (fun j _ hj => by rw [List.getElem?_replicate, if_pos hj]) hI0
  rw [putM_none] at hmain
  rw [hsz, List.range_eq_range', ← List.range'_append_1]
  simpa using hmain

/-! What the operations owe, kind by kind. -/
section
variable {P : Program} {Q : Exit → Act → World → Prop} {ops : Array Oper} {L : List Oper} {Φ : List Pd} {w0 : World} {a0 : Act} {i : Nat} {o : Oper}
/-- What an operand is, when the operation comes up. -/
def Ev (L : List Oper) (Φ : List Pd) (w0 : World) (a0 : Act) (o : Oper) (x : Operand) (F : World → Value → Prop) : Prop := ∀ ms w, St L Φ w0 o ms w → F w ((putM a0 L ms).eval x)
theorem ev_const (v : Value) : Ev L Φ w0 a0 o (.const v) (fun _ u => u = v) := fun _ _ _ => rfl
theorem ev_far {t : Nat} {v : Value} (h : (L.all fun x => x.dst != some t) = true) (ha : a0.tmps[t]? = some v) : Ev L Φ w0 a0 o (.tmp t) (fun _ u => u = v) := by
  intro ms w _
  show (putM a0 L ms).tmps.getD t undef = v
  rw [Array.getD_eq_getD_getElem?, putM_far L ms a0 (fun x hx => by have := List.all_eq_true.1 h x hx; simpa using this), ha]; rfl
theorem st_dep {ms : List (Option Value)} {w : World} (h : St L Φ w0 o ms w) {j t : Nat} {oj : Oper} (hB : ((onsOf o).contains j && decide (t < a0.tmps.size) && distinctB L) = true) (hj : L[j]? = some oj) (hd : oj.dst = some t) : ∃ v, (putM a0 L ms).tmps[t]? = some v ∧ (ph Φ j).p w v := by
  simp only [Bool.and_eq_true] at hB
  obtain ⟨⟨h1, h2⟩, h3⟩ := hB
  obtain ⟨e, he, hb, rfl⟩ := mem_onsOf.1 (by simpa using h1)
  obtain ⟨v, hv⟩ := h.deps e he hb
  exact ⟨v, putM_at L ms a0 _ _ h3 hj hd hv (by simpa using h2), h.ty _ v hv⟩
theorem ev_dep {j t : Nat} {oj : Oper} (hB : ((onsOf o).contains j && decide (t < a0.tmps.size) && distinctB L) = true) (hj : L[j]? = some oj) (hd : oj.dst = some t) : Ev L Φ w0 a0 o (.tmp t) (ph Φ j).p := by
  intro ms w h
  obtain ⟨v, h1, h2⟩ := st_dep h hB hj hd
  have e : (putM a0 L ms).eval (.tmp t) = v := by
    show (putM a0 L ms).tmps.getD t undef = v
    rw [Array.getD_eq_getD_getElem?, h1]; rfl
  rw [e]; exact h2
/-- The guard says yes. -/
def Wt (ops : Array Oper) (L : List Oper) (Φ : List Pd) (w0 : World) (a0 : Act) (o : Oper) (b : Bool) : Prop := ∀ ms w, St L Φ w0 o ms w → Region.wanted o (yielded ops (putM a0 L ms).tmps) = b
theorem wt_none (h : o.guard = none) : Wt ops L Φ w0 a0 o true := fun ms w _ => by unfold Region.wanted; rw [h]
theorem wt_dep {g t : Nat} {b c : Bool} {og : Oper} (h : o.guard = some (g, b)) (hB : ((onsOf o).contains g && decide (t < a0.tmps.size) && distinctB L) = true) (hg : L[g]? = some og) (hg2 : ops[g]? = some og) (hd : og.dst = some t) (hF : ∀ w v, (ph Φ g).p w v → v = .bool c) : Wt ops L Φ w0 a0 o (c == b) := by
  intro ms w hS
  obtain ⟨v, h1, h2⟩ := st_dep hS hB hg hd
  obtain rfl := hF w v h2
  unfold Region.wanted
  rw [h]
  simp only [yielded, hg2, Option.bind_some, hd, h1]
  cases b <;> cases c <;> rfl
theorem ob_not (hw : Wt ops L Φ w0 a0 o false) (hu : ∀ w, (ph Φ i).p w undef) (ha : isA o = false) : Ob P Q ops L Φ w0 a0 i o := by
  intro ms w hS
  rw [if_neg (by rw [hw ms w hS]; simp)]
  exact ⟨hu w, ha⟩
theorem ob_val (hw : Wt ops L Φ w0 a0 o true) (ha : isA o = false) (h : ∀ ms w, St L Φ w0 o ms w → ∃ v, (execOp (putM a0 L ms).eval o).run P w = .ok (.value v) w ∧ (ph Φ i).p w v) : Ob P Q ops L Φ w0 a0 i o := by
  intro ms w hS
  rw [if_pos (hw ms w hS)]
  obtain ⟨v, h1, h2⟩ := h ms w hS
  unfold Oper.wp
  rw [h1]
  exact ⟨v, rfl, Below.refl _ _, h2, fun h => by rw [ha] at h; cases h⟩
theorem ob_move {x : Operand} {F : World → Value → Prop} (hop : o.op = .move x) (hw : Wt ops L Φ w0 a0 o true) (hx : Ev L Φ w0 a0 o x F) (hF : ∀ w v, F w v → (ph Φ i).p w v) : Ob P Q ops L Φ w0 a0 i o :=
  ob_val hw (by unfold isA; rw [hop]) fun ms w hS => ⟨_, by unfold execOp; simp only [hop]; rfl, hF w _ (hx ms w hS)⟩
theorem ob_assign {x : Operand} {F : World → Value → Prop} (hop : o.op = .assign x) (hw : Wt ops L Φ w0 a0 o true) (hx : Ev L Φ w0 a0 o x F) (hF : ∀ w v, F w v → (ph Φ i).p w v) : Ob P Q ops L Φ w0 a0 i o :=
  ob_val hw (by unfold isA; rw [hop]) fun ms w hS => ⟨_, by unfold execOp; simp only [hop]; rfl, hF w _ (hx ms w hS)⟩
theorem ob_pick {c x y : Operand} {b : Bool} {F : World → Value → Prop} (hop : o.op = .pick c x y) (hw : Wt ops L Φ w0 a0 o true) (hc : Ev L Φ w0 a0 o c (fun _ u => u = .bool b)) (hx : Ev L Φ w0 a0 o (if b = true then x else y) F) (hF : ∀ w v, F w v → (ph Φ i).p w v) : Ob P Q ops L Φ w0 a0 i o :=
  ob_val hw (by unfold isA; rw [hop]) fun ms w hS => ⟨(putM a0 L ms).eval (if b = true then x else y), by
    unfold execOp; simp only [hop]; rw [hc ms w hS]; cases b <;> rfl, hF w _ (hx ms w hS)⟩
theorem ob_fieldAddr {s : TypeId} {x : Operand} {k : Nat} {u v : Value} (hop : o.op = .fieldAddr s x k) (hw : Wt ops L Φ w0 a0 o true) (hx : Ev L Φ w0 a0 o x (fun _ y => y = u)) (hr : ∀ w, (Instr.fieldAt s u k).run P w = .ok v w) (hF : ∀ w, (ph Φ i).p w v) : Ob P Q ops L Φ w0 a0 i o :=
  ob_val hw (by unfold isA; rw [hop]) fun ms w hS => ⟨v, by unfold execOp; simp only [hop]; rw [hx ms w hS, Sem.run_bind, hr]; rfl, hF w⟩
theorem ob_load {t : TypeId} {x : Operand} {u v : Value} (hop : o.op = .load t x) (hw : Wt ops L Φ w0 a0 o true) (hx : Ev L Φ w0 a0 o x (fun _ y => y = u)) (hr : ∀ w, Below w0.heap.size w0 w → (Instr.loadAt t u).run P w = .ok v w) (hF : ∀ w, Below w0.heap.size w0 w → (ph Φ i).p w v) : Ob P Q ops L Φ w0 a0 i o :=
  ob_val hw (by unfold isA; rw [hop]) fun ms w hS => ⟨v, by unfold execOp; simp only [hop]; rw [hx ms w hS, Sem.run_bind, hr w hS.below]; rfl, hF w hS.below⟩
theorem ob_bin {op : BinOp} {t t' : TypeId} {x y : Operand} {F G : World → Value → Prop} (hop : o.op = .binOp op t x y t') (hw : Wt ops L Φ w0 a0 o true) (hx : Ev L Φ w0 a0 o x F) (hy : Ev L Φ w0 a0 o y G)
    (hr : ∀ w u u', F w u → G w u' → ∃ v, (do eqGuard op t x y u u'; binOp op t u u').run P w = .ok v w ∧ (ph Φ i).p w v) : Ob P Q ops L Φ w0 a0 i o :=
  ob_val hw (by unfold isA; rw [hop]) fun ms w hS => by
    obtain ⟨v, h1, h2⟩ := hr w _ _ (hx ms w hS) (hy ms w hS)
    exact ⟨v, by unfold execOp; simp only [hop]; rw [Sem.run_bind, h1]; rfl, h2⟩
theorem ob_un {op : UnOp} {t : TypeId} {x : Operand} {u v : Value} (hop : o.op = .unOp op t x) (hw : Wt ops L Φ w0 a0 o true) (hx : Ev L Φ w0 a0 o x (fun _ y => y = u)) (hr : ∀ w, (Op.unary op u).run P w = .ok v w) (hF : ∀ w, (ph Φ i).p w v) : Ob P Q ops L Φ w0 a0 i o :=
  ob_val hw (by unfold isA; rw [hop]) fun ms w hS => ⟨v, by unfold execOp; simp only [hop]; rw [hx ms w hS, Sem.run_bind, hr]; rfl, hF w⟩
theorem ob_extract {x : Operand} {k : Nat} {F : World → Value → Prop} (hop : o.op = .extract x k) (hw : Wt ops L Φ w0 a0 o true) (hx : Ev L Φ w0 a0 o x F) (hr : ∀ w u, F w u → ∃ v, (Instr.extract u k).run P w = .ok v w ∧ (ph Φ i).p w v) : Ob P Q ops L Φ w0 a0 i o :=
  ob_val hw (by unfold isA; rw [hop]) fun ms w hS => by
    obtain ⟨v, h1, h2⟩ := hr w _ (hx ms w hS)
    exact ⟨v, by unfold execOp; simp only [hop]; rw [Sem.run_bind, h1]; rfl, h2⟩
theorem ob_len {x : Operand} {at_ : Array TypeId} {F : World → Value → Prop} (hop : o.op = .call { callee := .builtin .len, args := #[x], argTypes := at_ }) (hw : Wt ops L Φ w0 a0 o true) (hx : Ev L Φ w0 a0 o x F) (hr : ∀ w u, F w u → ∃ v, (Builtin.len_ at_ o.type #[u]).run P w = .ok v w ∧ (ph Φ i).p w v) : Ob P Q ops L Φ w0 a0 i o :=
  ob_val hw (by unfold isA; rw [hop]) fun ms w hS => by
    obtain ⟨v, h1, h2⟩ := hr w _ (hx ms w hS)
    exact ⟨v, by unfold execOp; simp only [hop, resolve, invoke, builtin, Sem.run_bind, Sem.run_pure, Result.andThen_ok, List.map_toArray, List.map_cons, List.map_nil, h1], h2⟩
theorem ob_build2 {t : TypeId} {k l : Nat} {x y : Operand} {F G : World → Value → Prop} (hop : o.op = .build t #[(k, x), (l, y)]) (hw : Wt ops L Φ w0 a0 o true) (hx : Ev L Φ w0 a0 o x F) (hy : Ev L Φ w0 a0 o y G)
    (hr : ∀ w u u', F w u → G w u' → ∃ v, (Instr.build t #[(k, u), (l, u')]).run P w = .ok v w ∧ (ph Φ i).p w v) : Ob P Q ops L Φ w0 a0 i o :=
  ob_val hw (by unfold isA; rw [hop]) fun ms w hS => by
    obtain ⟨v, h1, h2⟩ := hr w _ _ (hx ms w hS) (hy ms w hS)
    exact ⟨v, by unfold execOp; simp only [hop, Sem.run_bind, List.map_toArray, List.map_cons, List.map_nil, h1]; rfl, h2⟩

theorem ob_build0 {t : TypeId} {v : Value} (hop : o.op = .build t #[]) (hw : Wt ops L Φ w0 a0 o true) (hr : ∀ w, (Instr.build t #[]).run P w = .ok v w) (hF : ∀ w, (ph Φ i).p w v) : Ob P Q ops L Φ w0 a0 i o :=
  ob_val hw (by unfold isA; rw [hop]) fun ms w hS => ⟨v, by unfold execOp; simp only [hop, Sem.run_bind, List.map_toArray, List.map_nil, hr]; rfl, hF w⟩
/-- The call ends with a value as told; what was there is as it was. -/
def RetPd (F : Pd) (w : World) (e : Ending) (w' : World) : Prop := ∃ v, e = .returned v ∧ F.p w' v ∧ Below w.heap.size w w'
theorem callee_enter {f : FuncId} {fn : Func} (hf : P.funcs[f]? = some fn) (hB : (!(fn.name == "runtime.NumGoroutine") && fn.body.isSome) = true) (args : Array Value) (w : World) : (callFunc f args).run P w = .ok (.enter f args) w := by
  simp only [Bool.and_eq_true, Bool.not_eq_true'] at hB
  have h1 : fn.name ≠ "runtime.NumGoroutine" := by simpa using hB.1
  obtain ⟨c, hc⟩ := Option.isSome_iff_exists.1 hB.2
  simp [callFunc, hf, h1, hc]
theorem ob_enter {f : FuncId} {fn : Func} (hf : P.funcs[f]? = some fn) (hB : (!(fn.name == "runtime.NumGoroutine") && fn.body.isSome) = true) (hw : Wt ops L Φ w0 a0 o true) (ha : isA o = false)
    (h : ∀ ms w, St L Φ w0 o ms w → ∃ args, (execOp (putM a0 L ms).eval o).run P w = (callFunc f args).run P w ∧ Calls P f args w (RetPd (ph Φ i) w)) : Ob P Q ops L Φ w0 a0 i o := by
  intro ms w hS
  rw [if_pos (hw ms w hS)]
  obtain ⟨args, h1, h2⟩ := h ms w hS
  unfold Oper.wp
  rw [h1, callee_enter hf hB, Oper.upon_enter]
  refine h2.mono fun e w' ⟨v, he, hv, hb⟩ => ?_
  subst he
  exact ⟨v, rfl, hb, hv, fun h => by rw [ha] at h; cases h⟩
theorem exec_call {ρ : Operand → Value} {f : FuncId} {xs : Array Operand} {at_ : Array TypeId} {w : World} (hop : o.op = .call { callee := .value (.func f), args := xs, argTypes := at_ }) (hρ : ρ (.func f) = .func (.func f) #[] #[]) {args : Array Value} (ha : xs.map ρ = args) : (execOp ρ o).run P w = (callFunc f args).run P w := by
  subst ha
  unfold execOp
  simp [hop, resolve, hρ, Deferred.ofValue, invoke]
theorem ob_call0 {f : FuncId} {fn : Func} {at_ : Array TypeId} (hop : o.op = .call { callee := .value (.func f), args := #[], argTypes := at_ }) (hf : P.funcs[f]? = some fn) (hB : (!(fn.name == "runtime.NumGoroutine") && fn.body.isSome) = true) (hw : Wt ops L Φ w0 a0 o true)
    (hc : ∀ w, Below w0.heap.size w0 w → Calls P f #[] w (RetPd (ph Φ i) w)) : Ob P Q ops L Φ w0 a0 i o :=
  ob_enter hf hB hw (by unfold isA; rw [hop]) fun ms w hS => ⟨#[], exec_call hop rfl (by simp), hc w hS.below⟩
theorem ob_call1 {f : FuncId} {fn : Func} {x : Operand} {at_ : Array TypeId} {F : World → Value → Prop} (hop : o.op = .call { callee := .value (.func f), args := #[x], argTypes := at_ }) (hf : P.funcs[f]? = some fn) (hB : (!(fn.name == "runtime.NumGoroutine") && fn.body.isSome) = true) (hw : Wt ops L Φ w0 a0 o true)
    (hx : Ev L Φ w0 a0 o x F) (hc : ∀ w u, Below w0.heap.size w0 w → F w u → Calls P f #[u] w (RetPd (ph Φ i) w)) : Ob P Q ops L Φ w0 a0 i o :=
  ob_enter hf hB hw (by unfold isA; rw [hop]) fun ms w hS => ⟨#[(putM a0 L ms).eval x], exec_call hop rfl (by simp), hc w _ hS.below (hx ms w hS)⟩
theorem ob_call2 {f : FuncId} {fn : Func} {x y : Operand} {at_ : Array TypeId} {F G : World → Value → Prop} (hop : o.op = .call { callee := .value (.func f), args := #[x, y], argTypes := at_ }) (hf : P.funcs[f]? = some fn) (hB : (!(fn.name == "runtime.NumGoroutine") && fn.body.isSome) = true) (hw : Wt ops L Φ w0 a0 o true)
    (hx : Ev L Φ w0 a0 o x F) (hy : Ev L Φ w0 a0 o y G) (hc : ∀ w u v, Below w0.heap.size w0 w → F w u → G w v → Calls P f #[u, v] w (RetPd (ph Φ i) w)) : Ob P Q ops L Φ w0 a0 i o :=
  ob_enter hf hB hw (by unfold isA; rw [hop]) fun ms w hS => ⟨#[(putM a0 L ms).eval x, (putM a0 L ms).eval y], exec_call hop rfl (by simp), hc w _ _ hS.below (hx ms w hS) (hy ms w hS)⟩
theorem ob_call3 {f : FuncId} {fn : Func} {x y z : Operand} {at_ : Array TypeId} {F G H : World → Value → Prop} (hop : o.op = .call { callee := .value (.func f), args := #[x, y, z], argTypes := at_ }) (hf : P.funcs[f]? = some fn) (hB : (!(fn.name == "runtime.NumGoroutine") && fn.body.isSome) = true) (hw : Wt ops L Φ w0 a0 o true)
    (hx : Ev L Φ w0 a0 o x F) (hy : Ev L Φ w0 a0 o y G) (hz : Ev L Φ w0 a0 o z H) (hc : ∀ w u v t, Below w0.heap.size w0 w → F w u → G w v → H w t → Calls P f #[u, v, t] w (RetPd (ph Φ i) w)) : Ob P Q ops L Φ w0 a0 i o :=
  ob_enter hf hB hw (by unfold isA; rw [hop]) fun ms w hS => ⟨#[(putM a0 L ms).eval x, (putM a0 L ms).eval y, (putM a0 L ms).eval z], exec_call hop rfl (by simp), hc w _ _ _ hS.below (hx ms w hS) (hy ms w hS) (hz ms w hS)⟩
/-- A variable is made. -/
theorem ob_alloc {t : TypeId} {z : Value} (hop : o.op = .alloc t) (hg : o.guard = none) (hz : ∀ w, (zeroValue t).run P w = .ok z w) (hF : ∀ w g, w0.heap.size ≤ g → w.heap[g]? = some (.cells z.cells t (0, 0)) → (ph Φ i).p w (.pointer (some ⟨g, 0, none⟩))) : Ob P Q ops L Φ w0 a0 i o := by
  intro ms w hS
  rw [if_pos (wt_none (ops := ops) (L := L) (Φ := Φ) (w0 := w0) (a0 := a0) hg ms w hS)]
  have hr : (execOp (putM a0 L ms).eval o).run P w = .ok (.value (.pointer (some ⟨w.heap.size, 0, none⟩))) (w.alloc (.cells z.cells t)) := by
    unfold execOp
    simp [hop, Instr.alloc, Sem.run_bind, hz, newVar, newRow, go_sem]
  unfold Oper.wp
  rw [hr]
  exact ⟨_, rfl, below_alloc (Nat.le_refl _) _, hF _ _ hS.below.size (heap_alloc_new w _), fun _ => ⟨_, rfl, Nat.le_refl _, by simp⟩⟩
/-! What the operations themselves do. -/
theorem run_load1 {t : TypeId} {A : Addr} {v : Value} {d : TypeDesc} (hu : P.underlying t = some d) (hd : d.isRow = false) {w : World} (hc : w.cell? A = some v) : (Instr.loadAt t (.pointer (some A))).run P w = .ok v w := by
  have hagg : (isAgg t).run P w = .ok false w := by
    unfold isAgg
    rw [Sem.run_bind, run_underlying hu w]
    cases d <;> simp_all
  simp [Instr.loadAt, Instr.sureAddr, loadVar, Sem.run_bind, hagg, go_sem, hc]
theorem run_loadAll {t : TypeId} {g : Nat} {cs : List Value} {e : TypeId} {d : TypeDesc} {w : World} (hu : P.underlying t = some d) (hd : d.isRow = true) (hi : (P.info? t).map (·.size) = some cs.length) (hB : w.heap[g]? = some (.cells cs.toArray e (0, 0))) : (Instr.loadAt t (.pointer (some ⟨g, 0, none⟩))).run P w = .ok (.agg cs.toArray) w :=
  run_loadAt_mid w g 0 t cs d (fun j v hj => by rw [Nat.zero_add, cell_of_row w g j cs.toArray e (0, 0) hB]; simpa using hj) hu hd hi
theorem bin_neq_bool {t : TypeId} (x y : Operand) (a b : Bool) (hu : P.underlying t = some .bool) (w : World) : (do eqGuard .neq t x y (.bool a) (.bool b); binOp .neq t (.bool a) (.bool b)).run P w = .ok (.bool (!(a == b))) w := by
  have h : (eqGuard .neq t x y (.bool a) (.bool b)).run P w = .ok () w := by simp [eqGuard]
  rw [Sem.run_bind, h, Result.andThen_ok, run_neq_bool _ t a b hu]
theorem bin_eql_bool {t : TypeId} (x y : Operand) (a b : Bool) (hu : P.underlying t = some .bool) (w : World) : (do eqGuard .eql t x y (.bool a) (.bool b); binOp .eql t (.bool a) (.bool b)).run P w = .ok (.bool (a == b)) w := by
  have h : (eqGuard .eql t x y (.bool a) (.bool b)).run P w = .ok () w := by simp [eqGuard]
  rw [Sem.run_bind, h, Result.andThen_ok, run_eql_bool _ t a b hu]
theorem bin_eql_int {t : TypeId} {k : IntKind} (x y : Operand) (a b : Int) (w : World) : (do eqGuard .eql t x y (.int k a) (.int k b); binOp .eql t (.int k a) (.int k b)).run P w = .ok (.bool (a == b)) w := by
  have h : (eqGuard .eql t x y (.int k a) (.int k b)).run P w = .ok () w := by simp [eqGuard]
  rw [Sem.run_bind, h, Result.andThen_ok]
  simp [binOp, Op.intCmp, go_sem]
theorem bin_neq_int {t : TypeId} {k : IntKind} (x y : Operand) (a b : Int) (w : World) : (do eqGuard .neq t x y (.int k a) (.int k b); binOp .neq t (.int k a) (.int k b)).run P w = .ok (.bool (a != b)) w := by
  have h : (eqGuard .neq t x y (.int k a) (.int k b)).run P w = .ok () w := by simp [eqGuard]
  rw [Sem.run_bind, h, Result.andThen_ok]
  simp [binOp, Op.intCmp, go_sem]
theorem bin_lss_int {t : TypeId} {k : IntKind} (x y : Operand) (a b : Int) (w : World) : (do eqGuard .lss t x y (.int k a) (.int k b); binOp .lss t (.int k a) (.int k b)).run P w = .ok (.bool (decide (a < b))) w := by
  have h : (eqGuard .lss t x y (.int k a) (.int k b)).run P w = .ok () w := by simp [eqGuard]
  rw [Sem.run_bind, h, Result.andThen_ok]
  simp [binOp, Op.intCmp, go_sem]
theorem bin_gtr_int {t : TypeId} {k : IntKind} (x y : Operand) (a b : Int) (w : World) : (do eqGuard .gtr t x y (.int k a) (.int k b); binOp .gtr t (.int k a) (.int k b)).run P w = .ok (.bool (decide (b < a))) w := by
  have h : (eqGuard .gtr t x y (.int k a) (.int k b)).run P w = .ok () w := by simp [eqGuard]
  rw [Sem.run_bind, h, Result.andThen_ok]
  simp [binOp, Op.intCmp, go_sem]
theorem bin_geq_int {t : TypeId} {k : IntKind} (x y : Operand) (a b : Int) (w : World) : (do eqGuard .geq t x y (.int k a) (.int k b); binOp .geq t (.int k a) (.int k b)).run P w = .ok (.bool (decide (b ≤ a))) w := by
  have h : (eqGuard .geq t x y (.int k a) (.int k b)).run P w = .ok () w := by simp [eqGuard]
  rw [Sem.run_bind, h, Result.andThen_ok]
  simp [binOp, Op.intCmp, go_sem]
theorem bin_mul_int {t : TypeId} {k : IntKind} (x y : Operand) (a b : Int) (w : World) : (do eqGuard .mul t x y (.int k a) (.int k b); binOp .mul t (.int k a) (.int k b)).run P w = .ok (.int k (k.wrap (a * b))) w := by
  have h : (eqGuard .mul t x y (.int k a) (.int k b)).run P w = .ok () w := by simp [eqGuard]
  rw [Sem.run_bind, h, Result.andThen_ok]
  simp [binOp, Op.intArith, go_sem]
theorem bin_eql_str {t : TypeId} (x y : Operand) (a b : ByteArray) (w : World) : (do eqGuard .eql t x y (.string a) (.string b); binOp .eql t (.string a) (.string b)).run P w = .ok (.bool (a.toList == b.toList)) w := by
  have h : (eqGuard .eql t x y (.string a) (.string b)).run P w = .ok () w := by simp [eqGuard]
  rw [Sem.run_bind, h, Result.andThen_ok]
  simp [binOp, Op.stringOp, go_sem]
theorem un_not (b : Bool) (w : World) : (Op.unary .not (.bool b)).run P w = .ok (.bool (!b)) w := by simp [Op.unary]
theorem un_neg (a : Int) (w : World) (h : -9223372036854775807 ≤ a ∧ a ≤ 9223372036854775807) : (Op.unary .neg (.int .i64 a)).run P w = .ok (.int .i64 (-a)) w := by
  have e : IntKind.i64.wrap (0 - a) = -a := by rw [IntKind.wrap_i64]; omega
  simp [Op.unary, Op.intArith, go_sem]
  simpa using e
theorem len_slice {t ty : TypeId} {e : TypeId} (hu : P.underlying t = some (.slice e)) (A : Option Addr) (n c : Nat) (w : World) : (Builtin.len_ #[t] ty #[.slice A n c]).run P w = .ok (.int .i64 (n : Int)) w := by
  simp [Builtin.len_, go_sem, run_underlying hu]
/-! Behind the flow: what stands in one row, one by one. -/
theorem any_done {fuel : Nat} {listed : Array Bool} {a : Act} {w : World} (hr : Region.ready .any ops listed = []) (h : Q .normal a w) : wpAny P .any ops Q fuel listed a w := wpAny_done hr h fuel
theorem any_one {fuel i : Nat} {listed : Array Bool} {a : Act} {w : World} (hr : Region.ready .any ops listed = [i]) (ho : ops[i]? = some o) (hg : o.guard = none) (h : o.wp P a w (wpAny P .any ops Q fuel (listed.setIfInBounds i true)) Q) : wpAny P .any ops Q (fuel + 1) listed a w := by
  refine wpAny_all (rs := [i]) hr (by simp) ?_
  intro j hj
  obtain rfl := List.mem_singleton.1 hj
  unfold wpOp
  rw [ho]
  simp only []
  rw [if_pos (by unfold Region.wanted; rw [hg])]
  exact .inl h
theorem wp_assign_ {a : Act} {w : World} {x : Operand} {K : Act → World → Prop} (v : Value) (hop : o.op = .assign x) (hv : a.eval x = v) {d : Tmp} (hd : o.dst = some d) (h : ∀ b, a.put (some d) v = b → K b w) : o.wp P a w K Q := by
  unfold Oper.wp execOp
  simp only [hop]
  rw [hv]
  have h2 := h _ rfl
  rw [← hd] at h2
  exact h2
/-- A variable of the call's own, written as a whole: it holds this now; all else is as it was. -/
theorem wp_store_ {a : Act} {w : World} {K : Act → World → Prop} {ty : TypeId} {x y : Operand} {g : Nat} {v : Value} {cells : List Value} {cs : Array Value} {e : TypeId} (hd : o.dst = none) (hop : o.op = .store ty x y)
    (hx : a.eval x = .pointer (some ⟨g, 0, none⟩)) (hy : a.eval y = v) (hv : v.cells = cells.toArray) (hB : w.heap[g]? = some (.cells cs e (0, 0))) (hs : cs.size = cells.length) (hi : (P.info? ty).map (·.size) = some cells.length) (h1 : ∀ c ∈ cells, c.oneCell' = true)
    (h : ∀ w', w.grownBy w' (some g) → w'.heap[g]? = some (.cells cells.toArray e (0, 0)) → K a w') : o.wp P a w K Q := by
  have hc : ∀ j, j < cells.length → (w.cell? ⟨g, 0 + j, none⟩).isSome = true := by
    intro j hj
    rw [Nat.zero_add, cell_of_row w g j cs e (0, 0) hB, Array.getElem?_eq_getElem (by omega)]; rfl
  have hf : ∀ j, j < cells.length → w.frozen? ⟨g, 0 + j, none⟩ = false := by
    intro j hj
    simp [World.frozen?, hB]
  have hrun := run_storeCells_cells (P := P) g 0 cells 0 w (fun j hj => by simpa using hc j hj) (fun j hj => by simpa using hf j hj) h1
  simp only [Nat.add_zero] at hrun
  have hst : (storeVar ty ⟨g, 0, none⟩ v).run P w = .ok () (w.setCells g 0 cells) := by
    cases hq : P.info? ty with
    | none => simp [hq] at hi
    | some inf =>
      have hsz : cells.length = inf.size := by simp [hq] at hi; omega
      simp [storeVar, sizeOf, typeInfo, hq, hv, hsz, hrun]
  unfold Oper.wp execOp
  simp only [hop, hx, hy, Instr.storeAt, Instr.sureAddr, Sem.run_bind, Sem.run_pure, Result.andThen_ok, hst, Oper.upon_skip, hd]
  refine h _ ?_ ?_
  · have key : ∀ (vs : List Value) (o : Nat) (w : World), w.grownBy (w.setCells g o vs) (some g) := by
      intro vs
      induction vs with
      | nil => intro o w; exact World.grownBy.refl _ _
      | cons v vs ih =>
        intro o w
        rw [World.setCells]
        have h0 : w.grownBy (w.setCell ⟨g, o, none⟩ v) (some g) := ⟨rfl, rfl, rfl, by simp [World.setCell], fun k _ hk => Below.heap_setCell w ⟨g, o, none⟩ v k (fun e => hk (by rw [e]))⟩
        exact grown_trans h0 (ih (o + 1) _)
    exact key cells 0 w
  · have key : ∀ (vs : List Value) (o : Nat) (w : World) (A : Array Value), w.heap[g]? = some (.cells A e (0, 0)) → o + vs.length ≤ A.size → (w.setCells g o vs).heap[g]? = some (.cells (A.toList.take o ++ vs ++ A.toList.drop (o + vs.length)).toArray e (0, 0)) := by
      intro vs
      induction vs with
      | nil => intro o w A hA _; rw [World.setCells]; simpa using hA
      | cons v vs ih =>
        intro o w A hA hl
        rw [World.setCells]
        simp only [List.length_cons] at hl
        have h2 : (w.setCell ⟨g, o, none⟩ v).heap[g]? = some (.cells (A.setIfInBounds o v) e (0, 0)) := by
          simp [World.setCell, Array.getElem?_modify, hA]
        rw [ih (o + 1) _ (A.setIfInBounds o v) h2 (by simp; omega)]
        have ho : o < A.toList.length := by simp; omega
        congr 2
        simp only [Array.toList_setIfInBounds]
        rw [List.take_add_one, List.getElem?_set_self ho, List.take_set_of_le (Nat.le_refl _), List.drop_set_of_lt (by omega)]
        simp [Nat.add_assoc, Nat.add_comm 1]
    have := key cells 0 w cs hB (by omega)
    rw [this]
    simp [List.drop_of_length_le, ← hs]
theorem any_assign {fuel i : Nat} {listed : Array Bool} {a : Act} {w : World} {x : Operand} (v : Value) (hr : Region.ready .any ops listed = [i]) (ho : ops[i]? = some o) (hg : o.guard = none) (hop : o.op = .assign x) (hv : a.eval x = v) {d : Tmp} (hd : o.dst = some d) (h : ∀ b, a.put (some d) v = b → wpAny P .any ops Q fuel (listed.setIfInBounds i true) b w) : wpAny P .any ops Q (fuel + 1) listed a w :=
  any_one hr ho hg (wp_assign_ v hop hv hd h)
theorem any_store {fuel i : Nat} {listed : Array Bool} {a : Act} {w : World} {ty : TypeId} {x y : Operand} {g : Nat} {v : Value} {cells : List Value} {cs : Array Value} {e : TypeId} (hr : Region.ready .any ops listed = [i]) (ho : ops[i]? = some o) (hg : o.guard = none) (hd : o.dst = none) (hop : o.op = .store ty x y)
    (hx : a.eval x = .pointer (some ⟨g, 0, none⟩)) (hy : a.eval y = v) (hv : v.cells = cells.toArray) (hB : w.heap[g]? = some (.cells cs e (0, 0))) (hs : cs.size = cells.length) (hi : (P.info? ty).map (·.size) = some cells.length) (h1 : ∀ c ∈ cells, c.oneCell' = true)
    (h : ∀ w', w.grownBy w' (some g) → w'.heap[g]? = some (.cells cells.toArray e (0, 0)) → wpAny P .any ops Q fuel (listed.setIfInBounds i true) a w') : wpAny P .any ops Q (fuel + 1) listed a w :=
  any_one hr ho hg (wp_store_ hd hop hx hy hv hB hs hi h1 h)
/-! The same in the order of the text. -/
theorem ops_one {i : Nat} {rest : List Nat} {a : Act} {w : World} (ho : ops[i]? = some o) (hg : o.guard = none) (h : o.wp P a w (wpOps P ops Q rest) Q) : wpOps P ops Q (i :: rest) a w := by
  rw [wpOps_cons]
  unfold wpOp
  rw [ho]
  simp only []
  rw [if_pos (by unfold Region.wanted; rw [hg])]
  exact .inl h
theorem ops_done {a : Act} {w : World} (h : Q .normal a w) : wpOps P ops Q [] a w := h
theorem ops_assign {i : Nat} {rest : List Nat} {a : Act} {w : World} {x : Operand} (v : Value) (ho : ops[i]? = some o) (hg : o.guard = none) (hop : o.op = .assign x) (hv : a.eval x = v) {d : Tmp} (hd : o.dst = some d) (h : ∀ b, a.put (some d) v = b → wpOps P ops Q rest b w) : wpOps P ops Q (i :: rest) a w :=
  ops_one ho hg (wp_assign_ v hop hv hd h)
theorem ops_store {i : Nat} {rest : List Nat} {a : Act} {w : World} {ty : TypeId} {x y : Operand} {g : Nat} {v : Value} {cells : List Value} {cs : Array Value} {e : TypeId} (ho : ops[i]? = some o) (hg : o.guard = none) (hd : o.dst = none) (hop : o.op = .store ty x y)
    (hx : a.eval x = .pointer (some ⟨g, 0, none⟩)) (hy : a.eval y = v) (hv : v.cells = cells.toArray) (hB : w.heap[g]? = some (.cells cs e (0, 0))) (hs : cs.size = cells.length) (hi : (P.info? ty).map (·.size) = some cells.length) (h1 : ∀ c ∈ cells, c.oneCell' = true)
    (h : ∀ w', w.grownBy w' (some g) → w'.heap[g]? = some (.cells cells.toArray e (0, 0)) → wpOps P ops Q rest a w') : wpOps P ops Q (i :: rest) a w :=
  ops_one ho hg (wp_store_ hd hop hx hy hv hB hs hi h1 h)
end
theorem one2 {x y : Value} (hx : x.oneCell' = true) (hy : y.oneCell' = true) : ∀ c ∈ [x, y], c.oneCell' = true := by
  intro c hc
  rcases List.mem_cons.1 hc with rfl | hc
  · exact hx
  · obtain rfl := List.mem_singleton.1 hc; exact hy
theorem no_ints2 {k : IntKind} {b : Bool} {A : Option Addr} {n m : Nat} : ∀ c ∈ (#[.bool b, .slice A n m] : Array Value), ∀ i, c ≠ .int k i := by
  intro c hc i
  simp at hc
  rcases hc with rfl | rfl <;> simp
/-- A list of numbers lies elsewhere than in a variable that holds none. -/
theorem off {w w' : World} {k : IntKind} {v : Value} {l : List Nat} {g : Nat} {e : TypeId} {cs : Array Value} (h : IsS w k v l) (hB : w.heap[g]? = some (.cells cs e (0, 0))) (hno : ∀ c ∈ cs, ∀ n, c ≠ .int k n) (hg : w.grownBy w' (some g)) : IsS w' k v l := by
  obtain ⟨A, c, rfl, h1, h2, h3⟩ := h
  refine ⟨A, c, rfl, h1, h2, ?_⟩
  intro i d hd
  obtain ⟨ad, rfl, hc⟩ := h3 i d hd
  refine ⟨ad, rfl, hg.cell hc ?_⟩
  intro e1
  injection e1 with e1
  have hcell : ∀ p : Addr, p.block = g → w.cell? p = some (.int k (d : Int)) → False := by
    intro p hp hpc
    unfold World.cell? at hpc
    rw [hp, hB] at hpc
    simp only [] at hpc
    split at hpc
    · cases hpc
    · exact hno _ (Array.mem_of_getElem? hpc) _ rfl
  exact hcell _ e1 hc
end Go.Proofs.YtbfflcpmagjlnaaDoor.flow
