/- A region that draws its order, a chain of whose operations may come behind the first store (len, min and a cut of what was loaded): when all others are up, the rest of the chain is taken, for it yields in whatever world. No program stands here. -/
import Derived.Test.YtbebmknfecehnaaGreatFlowS
namespace Go.Proofs.YtbebmknfecehnaaGreat.flow
open Go.RowKit Go.Proofs.YtbebmknfecehnaaGreat.num Go.Proofs.YtbebmknfecehnaaGreat.mem
set_option linter.unusedVariables false

/-- All but the chain S are waited for. -/
def covC (L : List Oper) (S : List Nat) (n : Nat) (o : Oper) : Bool :=
  (List.range n).all fun i => S.contains i || (onsOf o).contains i || (List.range n).any fun k => decide (i < k) && (!(S.contains k) && ((L[k]?).map fun x => (onsOf x).contains i).getD false)
theorem covC_all {L : List Oper} {S : List Nat} {o : Oper} {ms : List (Option Value)} (hlen : ms.length = L.length) (h : covC L S L.length o = true) (hdone : ∀ e ∈ o.after, Region.binds .any e = true → ∃ v, ms[e.on]? = some (some v))
    (hdc : ∀ (j : Nat) (x : Oper) (v : Value), L[j]? = some x → ms[j]? = some (some v) → ∀ e ∈ x.after, Region.binds .any e = true → ∃ v, ms[e.on]? = some (some v)) : ∀ i, i < L.length → i ∉ S → ∃ v, ms[i]? = some (some v) := by
  unfold covC at h
  have key : ∀ k i, i + k = L.length → i < L.length → i ∉ S → ∃ v, ms[i]? = some (some v) := by
    intro k
    induction k using Nat.strongRecOn with
    | ind k ih =>
      intro i hik hi hiq
      have h1 := List.all_eq_true.1 h i (by simp [hi])
      rw [Bool.or_eq_true, Bool.or_eq_true] at h1
      rcases h1 with (h1 | h1) | h1
      · exact absurd (by simpa using h1) hiq
      · obtain ⟨e, he, hb, rfl⟩ := mem_onsOf.1 (by simpa using h1)
        exact hdone e he hb
      · obtain ⟨m, hm, h2⟩ := List.any_eq_true.1 h1
        rw [Bool.and_eq_true, Bool.and_eq_true] at h2
        have hm2 : m < L.length := by simpa using hm
        have him : i < m := by simpa using h2.1
        have hmq : m ∉ S := by simpa using h2.2.1
        obtain ⟨v, hv⟩ := ih (L.length - m) (by omega) m (by omega) hm2 hmq
        have h3 := h2.2.2
        rw [List.getElem?_eq_getElem hm2] at h3
        obtain ⟨e, he, hb, rfl⟩ := mem_onsOf.1 (by simpa using h3)
        exact hdc m _ v (List.getElem?_eq_getElem hm2) hv e he hb
  intro i hi hiq
  exact key (L.length - i) i (by omega) hi hiq
/-- Each of the chain waits for the one ahead of it. -/
def chainB (L : List Oper) : List Nat → Bool
  | [] => true
  | [a] => decide (a < L.length)
  | a :: b :: r => decide (a < L.length) && ((L[b]?).map fun x => (onsOf x).contains a).getD false && chainB L (b :: r)
theorem not_up {L : List Oper} {ms : List (Option Value)} (hlen : ms.length = L.length) {i : Nat} (hi : i < L.length) (h : ¬ ∃ v, ms[i]? = some (some v)) : ms[i]? = some none := by
  have h2 : i < ms.length := by omega
  rw [List.getElem?_eq_getElem h2] at h ⊢
  rcases hm : ms[i] with _ | v
  · rfl
  · exact absurd ⟨v, by rw [hm]⟩ h
theorem chain_all {L : List Oper} {ms : List (Option Value)} (hlen : ms.length = L.length) (hdc : ∀ (j : Nat) (x : Oper) (v : Value), L[j]? = some x → ms[j]? = some (some v) → ∀ e ∈ x.after, Region.binds .any e = true → ∃ v, ms[e.on]? = some (some v)) :
    ∀ (r : List Nat) (q : Nat), chainB L (q :: r) = true → ms[q]? = some none → ∀ i ∈ q :: r, ms[i]? = some none
  | [], q, _, hq, i, hi => by
    obtain rfl := List.mem_singleton.1 hi
    exact hq
  | b :: r, q, h, hq, i, hi => by
    rcases List.mem_cons.1 hi with rfl | hi
    · exact hq
    · simp only [chainB, Bool.and_eq_true] at h
      have hbL : b < L.length := by
        have := h.2
        cases r with
        | nil => simpa [chainB] using this
        | cons c r => simp only [chainB, Bool.and_eq_true] at this; simpa using this.1.1
      refine chain_all hlen hdc r b h.2 (not_up hlen hbL ?_) i hi
      rintro ⟨v, hv⟩
      have h3 := h.1.2
      rw [List.getElem?_eq_getElem hbL] at h3
      obtain ⟨e, he, hb, rfl⟩ := mem_onsOf.1 (by simpa using h3)
      obtain ⟨u, hu⟩ := hdc b _ v (List.getElem?_eq_getElem hbL) hv e he hb
      rw [hq] at hu; cases hu
theorem chain_down {L : List Oper} {ms : List (Option Value)} (hlen : ms.length = L.length) (hdc : ∀ (j : Nat) (x : Oper) (v : Value), L[j]? = some x → ms[j]? = some (some v) → ∀ e ∈ x.after, Region.binds .any e = true → ∃ v, ms[e.on]? = some (some v)) :
    ∀ (S : List Nat), chainB L S = true → (∀ i, i < L.length → i ∉ S → ∃ v, ms[i]? = some (some v)) → (¬ ∀ i, i < L.length → ∃ v, ms[i]? = some (some v)) →
      ∃ pre q rest, S = pre ++ q :: rest ∧ (∀ i, i < L.length → i ∉ q :: rest → ∃ v, ms[i]? = some (some v)) ∧ (∀ i ∈ q :: rest, ms[i]? = some none)
  | [], _, hbut, hnot => absurd (fun i hi => hbut i hi (by simp)) hnot
  | q :: S, hch, hbut, hnot => by
    by_cases hq : ∃ v, ms[q]? = some (some v)
    · have hch2 : chainB L S = true := by
        cases S with
        | nil => rfl
        | cons b r => simp only [chainB, Bool.and_eq_true] at hch; exact hch.2
      obtain ⟨pre, a, rest, rfl, h1, h2⟩ := chain_down hlen hdc S hch2 (fun i hi hS => by
        by_cases e : i = q
        · subst e; exact hq
        · exact hbut i hi (by simp [e, hS])) hnot
      exact ⟨q :: pre, a, rest, rfl, h1, h2⟩
    · have hqL : q < L.length := by
        cases S with
        | nil => simpa [chainB] using hch
        | cons b r => simp only [chainB, Bool.and_eq_true] at hch; simpa using hch.1.1
      exact ⟨[], q, S, rfl, hbut, chain_all hlen hdc S q hch (not_up hlen hqL hq)⟩
/-- All of the first n are up but these. -/
def lstS (n m : Nat) (miss : List Nat) : Array Bool := ((List.range n).map (fun i => !(miss.contains i)) ++ List.replicate m false).toArray
theorem lst_chain {L : List Oper} {m : Nat} {ms : List (Option Value)} {miss : List Nat} (hlen : ms.length = L.length) (hup : ∀ i, i < L.length → i ∉ miss → ∃ v, ms[i]? = some (some v)) (hdown : ∀ i ∈ miss, ms[i]? = some none) : lst ms m = lstS L.length m miss := by
  unfold lst lstS
  congr 2
  refine List.ext_getElem (by simp [hlen]) fun i h1 h2 => ?_
  have h3 : i < ms.length := by simpa using h1
  rw [List.getElem_map, List.getElem_map, List.getElem_range]
  by_cases e : i ∈ miss
  · have := hdown i e
    rw [List.getElem?_eq_getElem h3] at this
    rw [Option.some.inj this]
    simp [e]
  · obtain ⟨v, hv⟩ := hup i (by omega) e
    rw [List.getElem?_eq_getElem h3] at hv
    rw [Option.some.inj hv]
    simp [e]
/-- What is left of the chain may be taken, however much of it is up. -/
def lateB (ops : Array Oper) (L : List Oper) (m : Nat) : List Nat → Bool
  | [] => true
  | q :: r => Region.free .any ops (lstS L.length m (q :: r)) q && (Region.ready .any ops (lstS L.length m (q :: r))).contains q && ((L[q]?).map fun x => !isA x).getD false && lateB ops L m r
theorem lateB_at {ops : Array Oper} {L : List Oper} {m : Nat} : ∀ (pre : List Nat) (q : Nat) (rest : List Nat), lateB ops L m (pre ++ q :: rest) = true → Region.free .any ops (lstS L.length m (q :: rest)) q = true ∧ (Region.ready .any ops (lstS L.length m (q :: rest))).contains q = true ∧ ((L[q]?).map fun x => !isA x).getD false = true
  | [], q, rest, h => by
    have h' : (Region.free .any ops (lstS L.length m (q :: rest)) q && (Region.ready .any ops (lstS L.length m (q :: rest))).contains q && ((L[q]?).map fun x => !isA x).getD false && lateB ops L m rest) = true := h
    rw [Bool.and_eq_true, Bool.and_eq_true, Bool.and_eq_true] at h'
    exact ⟨h'.1.1.1, h'.1.1.2, h'.1.2⟩
  | a :: pre, q, rest, h => by
    have h' : (Region.free .any ops (lstS L.length m (a :: (pre ++ q :: rest))) a && (Region.ready .any ops (lstS L.length m (a :: (pre ++ q :: rest)))).contains a && ((L[a]?).map fun x => !isA x).getD false && lateB ops L m (pre ++ q :: rest)) = true := h
    rw [Bool.and_eq_true] at h'
    exact lateB_at pre q rest h'.2
theorem Lates.at_ {P : Program} {ops : Array Oper} {L : List Oper} {Φ : List Pd} {w0 : World} {a0 : Act} : ∀ (pre : List Nat) (q : Nat) (rest : List Nat), Lates P ops L Φ w0 a0 (pre ++ q :: rest) → ∃ oq, L[q]? = some oq ∧ ∀ ms w1, St L Φ w0 oq ms w1 → ∃ v, Yields P ops oq v (putM a0 L ms) ∧ (ph Φ q).p w1 v
  | [], q, rest, h => h.1
  | a :: pre, q, rest, h => Lates.at_ pre q rest h.2

/-- All orders at once; the chain S is taken when all others are up. -/
theorem chain_main {P : Program} {Q : Exit → Act → World → Prop} {ops : Array Oper} {L L2 : List Oper} {Φ : List Pd} {w0 : World} {a0 : Act} {S : List Nat} (hop : ops.toList = L ++ L2) (hd : distinctB L = true) (hback : backB 0 L = true) (hcov : (L2.all fun o => covC L S L.length o) = true) (hch : chainB L S = true) (hsel : Region.noSelect ops = true) (hlate : lateB ops L L2.length S = true) (hQ : ∀ c a w d v, Q (.panic c) (a.put d v) w → Q (.panic c) a w) (lates : Lates P ops L Φ w0 a0 S)
    (ob : Obs P Q ops L Φ w0 a0 0 L)
    (done : ∀ ms w, (∀ i, i < L.length → ∃ v, ms[i]? = some (some v)) → Inv L Φ w0 ms w → wpAny P .any ops Q L2.length (lst ms L2.length) (putM a0 L ms) w) :
    ∀ (k : Nat) (ms : List (Option Value)) (w : World), (ms.filter Option.isNone).length = k → Inv L Φ w0 ms w → wpAny P .any ops Q (k + L2.length) (lst ms L2.length) (putM a0 L ms) w := by
  have hsz : ops.size = L.length + L2.length := by
    have := congrArg List.length hop
    simpa using this
  have hat : ∀ i, ops[i]? = (L ++ L2)[i]? := fun i => by rw [← hop, Array.getElem?_toList]
  intro k
  induction k with
  | zero =>
    intro ms w hk hI
    rw [Nat.zero_add]
    refine done ms w (fun i hi => ?_) hI
    have hi2 : i < ms.length := by rw [hI.len]; exact hi
    rcases hm : ms[i] with _ | v
    · exfalso
      have h1 : ms[i] ∈ ms.filter Option.isNone := List.mem_filter.2 ⟨List.getElem_mem hi2, by rw [hm]; rfl⟩
      rw [List.length_eq_zero_iff.1 hk] at h1
      simp at h1
    · exact ⟨v, by rw [List.getElem?_eq_getElem hi2, hm]⟩
  | succ k ih =>
    intro ms w hk hI
    -- some operation of L has not come up
    have hnot : ¬ ∀ i, i < L.length → ∃ v, ms[i]? = some (some v) := by
      intro hall
      have h0 : ms.filter Option.isNone = [] := by
        rw [List.filter_eq_nil_iff]
        intro m hm
        obtain ⟨i, hi, rfl⟩ := List.mem_iff_getElem.1 hm
        obtain ⟨v, hv⟩ := hall i (by rw [← hI.len]; exact hi)
        rw [List.getElem?_eq_getElem hi] at hv
        rw [Option.some.inj hv]; simp
      rw [h0] at hk; simp at hk
    -- the least one that has not may come up
    have least : ∀ n i, i ≤ n → i < L.length → Region.ready .any ops (lst ms L2.length) = [] → ∃ v, ms[i]? = some (some v) := by
      intro n
      induction n with
      | zero =>
        intro i hin hi hr
        obtain rfl : i = 0 := by omega
        have hi2 : 0 < ms.length := by rw [hI.len]; exact hi
        rcases hm : ms[0] with _ | v
        · exfalso
          have : 0 ∈ Region.ready .any ops (lst ms L2.length) := by
            rw [mem_ready]
            refine ⟨by rw [lst_lt hi2, hm]; rfl, L[0], by rw [hat, List.getElem?_append_left hi, List.getElem?_eq_getElem hi], ?_⟩
            intro e he hb
            have := backB_at L 0 0 _ hback (List.getElem?_eq_getElem hi) e he hb
            omega
          rw [hr] at this; simp at this
        · exact ⟨v, by rw [List.getElem?_eq_getElem hi2, hm]⟩
      | succ n ihn =>
        intro i hin hi hr
        have hi2 : i < ms.length := by rw [hI.len]; exact hi
        rcases hm : ms[i] with _ | v
        · exfalso
          have : i ∈ Region.ready .any ops (lst ms L2.length) := by
            rw [mem_ready]
            refine ⟨by rw [lst_lt hi2, hm]; rfl, L[i], by rw [hat, List.getElem?_append_left hi, List.getElem?_eq_getElem hi], ?_⟩
            intro e he hb
            have h1 := backB_at L 0 i _ hback (List.getElem?_eq_getElem hi) e he hb
            have h3 : e.on < ms.length := by rw [hI.len]; omega
            obtain ⟨v, hv⟩ := ihn e.on (by omega) (by omega) hr
            rw [lst_lt h3]
            rw [List.getElem?_eq_getElem h3] at hv
            rw [Option.some.inj hv]; rfl
          rw [hr] at this; simp at this
        · exact ⟨v, by rw [List.getElem?_eq_getElem hi2, hm]⟩
    rw [show k + 1 + L2.length = (k + L2.length) + 1 from by omega]
    by_cases hbut : ∀ i, i < L.length → i ∉ S → ∃ v, ms[i]? = some (some v)
    · obtain ⟨pre, q, rest, hS, hup, hdown⟩ := chain_down (L := L) hI.len hI.dc S hch hbut hnot
      obtain ⟨h1, h2, h3⟩ := lateB_at pre q rest (hS ▸ hlate)
      obtain ⟨oq, hq, late⟩ := Lates.at_ pre q rest (hS ▸ lates)
      have hqL : q < L.length := (List.getElem?_eq_some_iff.1 hq).1
      have hA : isA oq = false := by rw [hq] at h3; simpa using h3
      have hq2 : q < ms.length := by rw [hI.len]; exact hqL
      have hmq : ms[q]? = some none := hdown q (by simp)
      have el : lst ms L2.length = lstS L.length L2.length (q :: rest) := lst_chain hI.len hup hdown
      rw [← el] at h1 h2
      obtain ⟨hl1, o, ho, haft⟩ := mem_ready.1 (List.contains_iff_mem.1 h2)
      have hoq : ops[q]? = some oq := by rw [hat, List.getElem?_append_left hqL]; exact hq
      obtain rfl : oq = o := by rw [hoq] at ho; exact Option.some.inj ho
      have hdeps : ∀ e ∈ oq.after, Region.binds .any e = true → ∃ v, ms[e.on]? = some (some v) := by
        intro e he hb
        have h2 := haft e he hb
        by_cases h3 : e.on < ms.length
        · rw [lst_lt h3] at h2
          obtain ⟨v, hv⟩ := Option.isSome_iff_exists.1 h2
          exact ⟨v, by rw [List.getElem?_eq_getElem h3, hv]⟩
        · rw [lst_ge (by omega)] at h2; cases h2
      obtain ⟨v, hy, hp⟩ := late ms w ⟨hI.len, hI.below, hI.ty, hdeps⟩
      have hcnt : ((ms.set q (some v)).filter Option.isNone).length + 1 = (ms.filter Option.isNone).length := by
        have key : ∀ (l : List (Option Value)) (i : Nat), l[i]? = some none → ((l.set i (some v)).filter Option.isNone).length + 1 = (l.filter Option.isNone).length := by
          intro l
          induction l with
          | nil => intro i h; simp at h
          | cons m l ihl =>
            intro i h
            cases i with
            | zero =>
              obtain rfl : m = none := by simpa using h
              simp
            | succ i =>
              have := ihl i (by simpa using h)
              rw [List.set_cons_succ, List.filter_cons, List.filter_cons]
              split
              · simp only [List.length_cons]; omega
              · exact this
        exact key ms q hmq
      have hnext := ih (ms.set q (some v)) w (by omega) (hI.step hq hmq hdeps (Below.refl _ _) hp (fun h => by rw [hA] at h; cases h))
      rw [← lst_set v hq2, ← putM_set v L ms a0 q oq hd hq hmq] at hnext
      exact wpAny_take hoq hsel h1 h2 (fun c a w h => hQ c a w _ v h) hy hnext
    refine ⟨fun hr => absurd (fun i hi => least i i (Nat.le_refl _) hi hr) hnot, fun i hi => ?_⟩
    obtain ⟨h1, o, ho, haft⟩ := mem_ready.1 hi
    have hdeps : ∀ e ∈ o.after, Region.binds .any e = true → ∃ v, ms[e.on]? = some (some v) := by
      intro e he hb
      have h2 := haft e he hb
      by_cases h3 : e.on < ms.length
      · rw [lst_lt h3] at h2
        obtain ⟨v, hv⟩ := Option.isSome_iff_exists.1 h2
        exact ⟨v, by rw [List.getElem?_eq_getElem h3, hv]⟩
      · rw [lst_ge (by omega)] at h2; cases h2
    by_cases hiL : i < L.length
    · have hi2 : i < ms.length := by rw [hI.len]; exact hiL
      rw [lst_lt hi2] at h1
      have hmi : ms[i]? = some none := by
        rw [List.getElem?_eq_getElem hi2]
        rcases hm : ms[i] with _ | v
        · rfl
        · rw [hm] at h1; cases h1
      have hoL : L[i]? = some o := by rw [hat, List.getElem?_append_left hiL] at ho; exact ho
      have hob := ob.at_ L 0 i o hoL
      rw [Nat.zero_add] at hob
      have hst := hob ms w ⟨hI.len, hI.below, hI.ty, hdeps⟩
      have hcount : ∀ v : Value, ((ms.set i (some v)).filter Option.isNone).length = k := by
        intro v
        have key : ∀ (l : List (Option Value)) (i : Nat), l[i]? = some none → ((l.set i (some v)).filter Option.isNone).length + 1 = (l.filter Option.isNone).length := by
          intro l
          induction l with
          | nil => intro i h; simp at h
          | cons m l ihl =>
            intro i h
            cases i with
            | zero =>
              obtain rfl : m = none := by simpa using h
              simp
            | succ i =>
              have := ihl i (by simpa using h)
              rw [List.set_cons_succ, List.filter_cons, List.filter_cons]
              split
              · simp only [List.length_cons]; omega
              · exact this
        have := key ms i hmi
        omega
      unfold wpOp
      rw [ho]
      simp only []
      by_cases hw : Region.wanted o (yielded ops (putM a0 L ms).tmps) = true
      · rw [if_pos hw] at hst ⊢
        refine .inl (Oper.wp_mono ?_ hst)
        rintro a' w' ⟨v, rfl, hb, hv, ha⟩
        rw [lst_set v hi2, putM_set v L ms a0 i o hd hoL hmi]
        exact ih _ w' (hcount v) (hI.step hoL hmi hdeps hb hv ha)
      · rw [if_neg hw] at hst ⊢
        rw [lst_set undef hi2, putM_set undef L ms a0 i o hd hoL hmi]
        exact ih _ w (hcount undef) (hI.step hoL hmi hdeps (Below.refl _ _) hst.1 (fun h => by rw [hst.2] at h; cases h))
    · exfalso
      have ho2 : o ∈ L2 := by
        rw [hat, List.getElem?_append_right (by omega)] at ho
        exact List.mem_of_getElem? ho
      have hc := List.all_eq_true.1 hcov o ho2
      exact hbut (covC_all hI.len hc hdeps hI.dc)

theorem flowc_core {P : Program} {Q : Exit → Act → World → Prop} {ops : Array Oper} (n : Nat) (Φ : List Pd) {w : World} {a0 : Act} (S : List Nat)
    (h1 : distinctB (ops.toList.take n) = true) (h2 : backB 0 (ops.toList.take n) = true) (h3 : ((ops.toList.drop n).all fun o => covC (ops.toList.take n) S (ops.toList.take n).length o) = true) (h4 : Region.noSelect ops = true) (h5 : chainB (ops.toList.take n) S = true) (h6 : lateB ops (ops.toList.take n) (ops.toList.drop n).length S = true) (hQ : ∀ c a w d v, Q (.panic c) (a.put d v) w → Q (.panic c) a w)
    (lates : Lates P ops (ops.toList.take n) Φ w a0 S)
    (ob : Obs P Q ops (ops.toList.take n) Φ w a0 0 (ops.toList.take n))
    (done : ∀ w', Below w.heap.size w w' → Done (fun a w' => wpAny P .any ops Q (ops.toList.drop n).length (List.replicate (ops.toList.take n).length true ++ List.replicate (ops.toList.drop n).length false).toArray a w') Φ w' 0 (ops.toList.take n) [] a0) : wpAny P .any ops Q ops.size (Array.replicate ops.size false) a0 w := by
  have hop : ops.toList = ops.toList.take n ++ ops.toList.drop n := (List.take_append_drop n _).symm
  generalize ops.toList.take n = L at *
  generalize ops.toList.drop n = L2 at *
  have hsz : ops.size = L.length + L2.length := by
    have := congrArg List.length hop
    simpa using this
  have none_ : ∀ (i : Nat) (v : Value), ¬ (List.replicate L.length (none : Option Value))[i]? = some (some v) := by
    intro i v h
    rw [List.getElem?_replicate] at h
    split at h <;> cases h
  have hI0 : Inv L Φ w (List.replicate L.length none) w := ⟨by simp, Below.refl _ _, fun i v h => absurd h (none_ i v), fun j x v _ h => absurd h (none_ j v), fun i j oi oj u v _ _ _ _ _ h _ => absurd h (none_ i u), fun i oi u _ _ h => absurd h (none_ i u)⟩
  have hmain := chain_main (P := P) (Q := Q) (ops := ops) (L := L) (L2 := L2) (Φ := Φ) (w0 := w) (a0 := a0) (S := S) hop h1 h2 h3 h5 h4 h6 hQ lates ob (fun ms w' hall hI => by
      rw [lst_end L2.length hI.len hall]
      have := done_all (K := fun a w' => wpAny P .any ops Q L2.length (List.replicate L.length true ++ List.replicate L2.length false).toArray a w') hI hall L 0 a0 [] (by simp) (by omega) (by simp) (done w' hI.below)
      simpa using this) L.length (List.replicate L.length none) w (by simp) hI0
  rw [putM_none, lst_start, ← hsz] at hmain
  exact hmain
/-- A region that draws its order; the chain S is taken last. -/
theorem flowc {P : Program} {Q : Exit → Act → World → Prop} {id : Nat} {ops : Array Oper} (n : Nat) (Φ : List Pd) {w : World} {a0 : Act} (hm : P.follows .mixedOrders = true) (S : List Nat)
    (hB : (distinctB (ops.toList.take n) && backB 0 (ops.toList.take n) && (ops.toList.drop n).all (fun o => covC (ops.toList.take n) S (ops.toList.take n).length o) && Region.noSelect ops && chainB (ops.toList.take n) S && lateB ops (ops.toList.take n) (ops.toList.drop n).length S) = true) (hQ : ∀ c a w d v, Q (.panic c) (a.put d v) w → Q (.panic c) a w)
    (lates : Lates P ops (ops.toList.take n) Φ w.drew a0 S)
    (ob : Obs P Q ops (ops.toList.take n) Φ w.drew a0 0 (ops.toList.take n))
    (done : ∀ w', Below w.heap.size w w' → Done (fun a w' => wpAny P .any ops Q (ops.toList.drop n).length (List.replicate (ops.toList.take n).length true ++ List.replicate (ops.toList.drop n).length false).toArray a w') Φ w' 0 (ops.toList.take n) [] a0) : (Code.region id ops true).wp P Q a0 w := by
  simp only [Bool.and_eq_true] at hB
  obtain ⟨⟨⟨⟨⟨h1, h2⟩, h3⟩, h4⟩, h5⟩, h6⟩ := hB
  exact wp_region_any hm (flowc_core n Φ (w := w.drew) S h1 h2 h3 h4 h5 h6 hQ lates ob fun w' hb => done w' ((Below.refl _ w).drew.trans hb))

section
variable {P : Program} {Q : Exit → Act → World → Prop} {ops : Array Oper} {o : Oper}
/-- One cell of a variable is written. -/
theorem wp_store_at {a : Act} {w : World} {K : Act → World → Prop} {ty : TypeId} {x y : Operand} {g p : Nat} {v : Value} {cs : Array Value} {e : TypeId} (hd : o.dst = none) (hop : o.op = .store ty x y)
    (hx : a.eval x = .pointer (some ⟨g, p, none⟩)) (hy : a.eval y = v) (hv : v.cells = #[v]) (h1 : v.oneCell' = true) (hB : w.heap[g]? = some (.cells cs e (0, 0))) (hp : p < cs.size) (hi : (P.info? ty).map (·.size) = some 1)
    (h : ∀ w', w.grownBy w' (some g) → w'.heap[g]? = some (.cells (cs.setIfInBounds p v) e (0, 0)) → K a w') : o.wp P a w K Q := by
  have hc : (w.cell? ⟨g, p, none⟩).isSome = true := by
    rw [cell_of_row w g p cs e (0, 0) hB, Array.getElem?_eq_getElem hp]; rfl
  have hf : w.frozen? ⟨g, p, none⟩ = false := by simp [World.frozen?, hB]
  have hrun := run_storeCells_cells (P := P) g p [v] 0 w (fun j hj => by obtain rfl : j = 0 := (by simpa using hj); simpa using hc) (fun j hj => by obtain rfl : j = 0 := (by simpa using hj); simpa using hf) (fun u hu => by obtain rfl := List.mem_singleton.1 hu; exact h1)
  simp only [Nat.add_zero] at hrun
  have hst : (storeVar ty ⟨g, p, none⟩ v).run P w = .ok () (w.setCells g p [v]) := by
    cases hq : P.info? ty with
    | none => simp [hq] at hi
    | some inf =>
      have hsz : 1 = inf.size := by simp [hq] at hi; omega
      simp [storeVar, sizeOf, typeInfo, hq, hv, ← hsz, hrun]
  have hset : w.setCells g p [v] = w.setCell ⟨g, p, none⟩ v := rfl
  rw [hset] at hst
  unfold Oper.wp execOp
  simp only [hop, hx, hy, Instr.storeAt, Instr.sureAddr, Sem.run_bind, Sem.run_pure, Result.andThen_ok, hst, Oper.upon_skip, hd]
  refine h _ ⟨rfl, rfl, rfl, by simp [World.setCell], fun k _ hk => Below.heap_setCell w ⟨g, p, none⟩ v k (fun e => hk (by rw [e]))⟩ ?_
  simp [World.setCell, Array.getElem?_modify, hB]
theorem any_store_at {fuel i : Nat} {listed : Array Bool} {a : Act} {w : World} {ty : TypeId} {x y : Operand} {g p : Nat} {v : Value} {cs : Array Value} {e : TypeId} (hr : Region.ready .any ops listed = [i]) (ho : ops[i]? = some o) (hg : o.guard = none) (hd : o.dst = none) (hop : o.op = .store ty x y)
    (hx : a.eval x = .pointer (some ⟨g, p, none⟩)) (hy : a.eval y = v) (hv : v.cells = #[v]) (h1 : v.oneCell' = true) (hB : w.heap[g]? = some (.cells cs e (0, 0))) (hp : p < cs.size) (hi : (P.info? ty).map (·.size) = some 1)
    (h : ∀ w', w.grownBy w' (some g) → w'.heap[g]? = some (.cells (cs.setIfInBounds p v) e (0, 0)) → wpAny P .any ops Q fuel (listed.setIfInBounds i true) a w') : wpAny P .any ops Q (fuel + 1) listed a w :=
  any_one hr ho hg (wp_store_at hd hop hx hy hv h1 hB hp hi h)
theorem wp_fieldAddr_ {a : Act} {w : World} {K : Act → World → Prop} {s : TypeId} {x : Operand} {k : Nat} {u v : Value} (hop : o.op = .fieldAddr s x k) (hx : a.eval x = u) (hr : ∀ w, (Instr.fieldAt s u k).run P w = .ok v w) {d : Tmp} (hd : o.dst = some d) (h : ∀ b, a.put (some d) v = b → K b w) : o.wp P a w K Q := by
  unfold Oper.wp execOp
  simp only [hop, hx, Sem.run_bind, hr, Result.andThen_ok]
  have := h _ rfl
  rw [← hd] at this
  exact this
theorem any_fieldAddr {fuel i : Nat} {listed : Array Bool} {a : Act} {w : World} {s : TypeId} {x : Operand} {k : Nat} {u : Value} (v : Value) (hr : Region.ready .any ops listed = [i]) (ho : ops[i]? = some o) (hg : o.guard = none) (hop : o.op = .fieldAddr s x k) (hx : a.eval x = u) (hrun : ∀ w, (Instr.fieldAt s u k).run P w = .ok v w) {d : Tmp} (hd : o.dst = some d) (h : ∀ b, a.put (some d) v = b → wpAny P .any ops Q fuel (listed.setIfInBounds i true) b w) : wpAny P .any ops Q (fuel + 1) listed a w :=
  any_one hr ho hg (wp_fieldAddr_ hop hx hrun hd h)
/-- The guard itself did not come up. -/
theorem wt_undef {L : List Oper} {Φ : List Pd} {w0 : World} {a0 : Act} {g t : Nat} {b : Bool} {og : Oper} (h : o.guard = some (g, b)) (hB : ((onsOf o).contains g && decide (t < a0.tmps.size) && distinctB L) = true) (hg : L[g]? = some og) (hg2 : ops[g]? = some og) (hd : og.dst = some t) (hF : ∀ w v, (ph Φ g).p w v → v = undef) : Wt ops L Φ w0 a0 o false := by
  intro ms w hS
  obtain ⟨v, h1, h2⟩ := st_dep hS hB hg hd
  obtain rfl := hF w v h2
  unfold Region.wanted
  rw [h]
  simp only [yielded, hg2, Option.bind_some, hd, h1]
  cases b <;> rfl
theorem ob_field {L : List Oper} {Φ : List Pd} {w0 : World} {a0 : Act} {i : Nat} {t : TypeId} {x : Operand} {k : Nat} {F : World → Value → Prop} (hop : o.op = .field t x k) (hw : Wt ops L Φ w0 a0 o true) (hx : Ev L Φ w0 a0 o x F) (hr : ∀ w u, F w u → ∃ v, (Instr.field t u k).run P w = .ok v w ∧ (ph Φ i).p w v) : Ob P Q ops L Φ w0 a0 i o :=
  ob_val hw (by unfold isA; rw [hop]) fun ms w hS => by
    obtain ⟨v, h1, h2⟩ := hr w _ (hx ms w hS)
    exact ⟨v, by unfold execOp; simp only [hop, Sem.run_bind, h1]; rfl, h2⟩
end
end Go.Proofs.YtbebmknfecehnaaGreat.flow
