/- Regions that draw their order: of some operations, that yield in every world that holds what was there, each may come behind a store, whatever the others do.
Package fold: Running, Bounds. Condition: as each says.
The chapter's example of layer 10. -/
import Derived.Test.YtlnmoledijlemaaGreatKS5
namespace Go.Proofs.YtlnmoledijlemaaGreat.flow
open Go.RowKit Go.Proofs.YtlnmoledijlemaaGreat.num Go.Proofs.YtlnmoledijlemaaGreat.mem
set_option linter.unusedVariables false
/-- All parts of a list. -/
def subs : List Nat → List (List Nat)
  | [] => [[]]
  | a :: r => subs r ++ (subs r).map (a :: ·)
theorem filter_subs (p : Nat → Bool) : ∀ S : List Nat, S.filter p ∈ subs S
  | [] => by simp [subs]
  | a :: r => by
    rw [List.filter_cons, subs]
    split
    · exact List.mem_append_right _ (List.mem_map.2 ⟨_, filter_subs p r, rfl⟩)
    · exact List.mem_append_left _ (filter_subs p r)
theorem subs_mem : ∀ {S T : List Nat}, T ∈ subs S → ∀ q ∈ T, q ∈ S
  | [], T, h, q, hq => by
    obtain rfl : T = [] := by simpa [subs] using h
    exact hq
  | a :: r, T, h, q, hq => by
    rw [subs] at h
    rcases List.mem_append.1 h with h | h
    · exact List.mem_cons_of_mem _ (subs_mem h q hq)
    · obtain ⟨T', h', rfl⟩ := List.mem_map.1 h
      rcases List.mem_cons.1 hq with rfl | hq
      · exact List.mem_cons_self ..
      · exact List.mem_cons_of_mem _ (subs_mem h' q hq)
/-- Whatever is left of them, its first one may be taken. -/
def lateT (ops : Array Oper) (L : List Oper) (m : Nat) : List Nat → Bool
  | [] => true
  | q :: r => Region.free .any ops (lstS L.length m (q :: r)) q && (Region.ready .any ops (lstS L.length m (q :: r))).contains q && ((L[q]?).map fun x => !isA x).getD false
def lateA (ops : Array Oper) (L : List Oper) (m : Nat) (S : List Nat) : Bool := (subs S).all (lateT ops L m)
theorem lateA_at {ops : Array Oper} {L : List Oper} {m q : Nat} {rest S : List Nat} (h : lateA ops L m S = true) (hS : q :: rest ∈ subs S) : Region.free .any ops (lstS L.length m (q :: rest)) q = true ∧ (Region.ready .any ops (lstS L.length m (q :: rest))).contains q = true ∧ ((L[q]?).map fun x => !isA x).getD false = true := by
  have h' := List.all_eq_true.1 h _ hS
  simp only [lateT, Bool.and_eq_true] at h'
  exact ⟨h'.1.1, h'.1.2, h'.2⟩
/-- What each of them owes: in each such state it yields a value as told, in every world that keeps what HW says. -/
def LatesI (P : Program) (ops : Array Oper) (L : List Oper) (Φ : List Pd) (HW : World → Prop) (w0 : World) (a0 : Act) : List Nat → Prop
  | [] => True
  | q :: qs => (∃ oq, L[q]? = some oq ∧ ∀ ms w1, St L Φ w0 oq ms w1 → ∃ v, YieldsIf P ops HW oq v (putM a0 L ms) ∧ (ph Φ q).p w1 v) ∧ LatesI P ops L Φ HW w0 a0 qs
theorem LatesI.mem {P : Program} {ops : Array Oper} {L : List Oper} {Φ : List Pd} {HW : World → Prop} {w0 : World} {a0 : Act} {q : Nat} : ∀ {S : List Nat}, LatesI P ops L Φ HW w0 a0 S → q ∈ S → ∃ oq, L[q]? = some oq ∧ ∀ ms w1, St L Φ w0 oq ms w1 → ∃ v, YieldsIf P ops HW oq v (putM a0 L ms) ∧ (ph Φ q).p w1 v
  | a :: S, h, hq => by
    rcases List.mem_cons.1 hq with rfl | hq
    · exact h.1
    · exact LatesI.mem h.2 hq
theorem any_down {L : List Oper} {ms : List (Option Value)} (hlen : ms.length = L.length) (S : List Nat) (hS : (S.all fun q => decide (q < L.length)) = true) (hbut : ∀ i, i < L.length → i ∉ S → ∃ v, ms[i]? = some (some v)) (hnot : ¬ ∀ i, i < L.length → ∃ v, ms[i]? = some (some v)) :
    ∃ q rest, q :: rest ∈ subs S ∧ (∀ i, i < L.length → i ∉ q :: rest → ∃ v, ms[i]? = some (some v)) ∧ (∀ i ∈ q :: rest, ms[i]? = some none) := by
  have hmem := filter_subs (fun i => (ms[i]?.getD none).isNone) S
  have hup : ∀ i, i < L.length → i ∉ S.filter (fun i => (ms[i]?.getD none).isNone) → ∃ v, ms[i]? = some (some v) := by
    intro i hi h
    by_cases e : i ∈ S
    · have h2 : i < ms.length := by omega
      rcases hm : ms[i] with _ | v
      · exact absurd (List.mem_filter.2 ⟨e, by rw [List.getElem?_eq_getElem h2, hm]; rfl⟩) h
      · exact ⟨v, by rw [List.getElem?_eq_getElem h2, hm]⟩
    · exact hbut i hi e
  have hdown : ∀ i ∈ S.filter (fun i => (ms[i]?.getD none).isNone), ms[i]? = some none := by
    intro i h
    obtain ⟨h1, h2⟩ := List.mem_filter.1 h
    have h3 : i < ms.length := by have := List.all_eq_true.1 hS i h1; have := of_decide_eq_true this; omega
    rw [List.getElem?_eq_getElem h3] at h2 ⊢
    rcases hm : ms[i] with _ | v
    · rfl
    · rw [hm] at h2; simp at h2
  rcases hT : S.filter (fun i => (ms[i]?.getD none).isNone) with _ | ⟨q, rest⟩
  · rw [hT] at hup
    exact absurd (fun i hi => hup i hi (by simp)) hnot
  · rw [hT] at hmem hup hdown
    exact ⟨q, rest, hmem, hup, hdown⟩
/-- All orders at once; those of S are taken when all others are up. -/
theorem any_main {P : Program} {Q : Exit → Act → World → Prop} {ops : Array Oper} {L L2 : List Oper} {Φ : List Pd} {w0 : World} {a0 : Act} {S : List Nat} (hop : ops.toList = L ++ L2) (hd : distinctB L = true) (hback : backB 0 L = true) (hcov : (L2.all fun o => covC L S L.length o) = true) (hch : (S.all fun q => decide (q < L.length)) = true) (hsel : Region.noSelect ops = true) (hlate : lateA ops L L2.length S = true) (hQ : ∀ c a w d v, Q (.panic c) (a.put d v) w → Q (.panic c) a w) {HW : World → Prop} (hS0 : ∀ w2, Below w0.heap.size w0 w2 → HW w2) (lates : LatesI P ops L Φ HW w0 a0 S)
    (ob : Obs P Q ops L Φ w0 a0 0 L)
    (done : ∀ ms w, (∀ i, i < L.length → ∃ v, ms[i]? = some (some v)) → Inv L Φ w0 ms w → wpAnyH P .any ops Q HW L2.length (lst ms L2.length) (putM a0 L ms) w) :
    ∀ (k : Nat) (ms : List (Option Value)) (w : World), (ms.filter Option.isNone).length = k → Inv L Φ w0 ms w → wpAnyH P .any ops Q HW (k + L2.length) (lst ms L2.length) (putM a0 L ms) w := by
  have hsz : ops.size = L.length + L2.length := by
    have := congrArg List.length hop
    simpa using this
  have hat : ∀ i, ops[i]? = (L ++ L2)[i]? := fun i => by rw [← hop, Array.getElem?_toList]
  intro k
  induction k with
  | zero =>
    intro ms w hk hI
    rw [Nat.zero_add]
    refine done ms w (fun i hi => ?_) hI
    have hi2 : i < ms.length := by rw [hI.len]; exact hi
    rcases hm : ms[i] with _ | v
    · exfalso
      have h1 : ms[i] ∈ ms.filter Option.isNone := List.mem_filter.2 ⟨List.getElem_mem hi2, by rw [hm]; rfl⟩
      rw [List.length_eq_zero_iff.1 hk] at h1
      simp at h1
    · exact ⟨v, by rw [List.getElem?_eq_getElem hi2, hm]⟩
  | succ k ih =>
    intro ms w hk hI
    -- some operation of L has not come up
    have hnot : ¬ ∀ i, i < L.length → ∃ v, ms[i]? = some (some v) := by
      intro hall
      have h0 : ms.filter Option.isNone = [] := by
        rw [List.filter_eq_nil_iff]
        intro m hm
        obtain ⟨i, hi, rfl⟩ := List.mem_iff_getElem.1 hm
        obtain ⟨v, hv⟩ := hall i (by rw [← hI.len]; exact hi)
        rw [List.getElem?_eq_getElem hi] at hv
        rw [Option.some.inj hv]; simp
      rw [h0] at hk; simp at hk
    -- the least one that has not may come up
    have least : ∀ n i, i ≤ n → i < L.length → Region.ready .any ops (lst ms L2.length) = [] → ∃ v, ms[i]? = some (some v) := by
      intro n
      induction n with
      | zero =>
        intro i hin hi hr
        obtain rfl : i = 0 := by omega
        have hi2 : 0 < ms.length := by rw [hI.len]; exact hi
        rcases hm : ms[0] with _ | v
        · exfalso
          have : 0 ∈ Region.ready .any ops (lst ms L2.length) := by
            rw [mem_ready]
            refine ⟨by rw [lst_lt hi2, hm]; rfl, L[0], by rw [hat, List.getElem?_append_left hi, List.getElem?_eq_getElem hi], ?_⟩
            intro e he hb
            have := backB_at L 0 0 _ hback (List.getElem?_eq_getElem hi) e he hb
            omega
          rw [hr] at this; simp at this
        · exact ⟨v, by rw [List.getElem?_eq_getElem hi2, hm]⟩
      | succ n ihn =>
        intro i hin hi hr
        have hi2 : i < ms.length := by rw [hI.len]; exact hi
        rcases hm : ms[i] with _ | v
        · exfalso
          have : i ∈ Region.ready .any ops (lst ms L2.length) := by
            rw [mem_ready]
            refine ⟨by rw [lst_lt hi2, hm]; rfl, L[i], by rw [hat, List.getElem?_append_left hi, List.getElem?_eq_getElem hi], ?_⟩
            intro e he hb
            have h1 := backB_at L 0 i _ hback (List.getElem?_eq_getElem hi) e he hb
            have h3 : e.on < ms.length := by rw [hI.len]; omega
            obtain ⟨v, hv⟩ := ihn e.on (by omega) (by omega) hr
            rw [lst_lt h3]
            rw [List.getElem?_eq_getElem h3] at hv
            rw [Option.some.inj hv]; rfl
          rw [hr] at this; simp at this
        · exact ⟨v, by rw [List.getElem?_eq_getElem hi2, hm]⟩
    rw [show k + 1 + L2.length = (k + L2.length) + 1 from by omega]
    by_cases hbut : ∀ i, i < L.length → i ∉ S → ∃ v, ms[i]? = some (some v)
    · obtain ⟨q, rest, hS, hup, hdown⟩ := any_down (L := L) hI.len S hch hbut hnot
      obtain ⟨h1, h2, h3⟩ := lateA_at hlate hS
      obtain ⟨oq, hq, late⟩ := LatesI.mem lates (subs_mem hS q (List.mem_cons_self ..))
      have hqL : q < L.length := (List.getElem?_eq_some_iff.1 hq).1
      have hA : isA oq = false := by rw [hq] at h3; simpa using h3
      have hq2 : q < ms.length := by rw [hI.len]; exact hqL
      have hmq : ms[q]? = some none := hdown q (by simp)
      have el : lst ms L2.length = lstS L.length L2.length (q :: rest) := lst_chain hI.len hup hdown
      rw [← el] at h1 h2
      obtain ⟨hl1, o, ho, haft⟩ := mem_ready.1 (List.contains_iff_mem.1 h2)
      have hoq : ops[q]? = some oq := by rw [hat, List.getElem?_append_left hqL]; exact hq
      obtain rfl : oq = o := by rw [hoq] at ho; exact Option.some.inj ho
      have hdeps : ∀ e ∈ oq.after, Region.binds .any e = true → ∃ v, ms[e.on]? = some (some v) := by
        intro e he hb
        have h2 := haft e he hb
        by_cases h3 : e.on < ms.length
        · rw [lst_lt h3] at h2
          obtain ⟨v, hv⟩ := Option.isSome_iff_exists.1 h2
          exact ⟨v, by rw [List.getElem?_eq_getElem h3, hv]⟩
        · rw [lst_ge (by omega)] at h2; cases h2
      obtain ⟨v, hy, hp⟩ := late ms w ⟨hI.len, hI.below, hI.ty, hdeps⟩
      have hcnt : ((ms.set q (some v)).filter Option.isNone).length + 1 = (ms.filter Option.isNone).length := by
        have key : ∀ (l : List (Option Value)) (i : Nat), l[i]? = some none → ((l.set i (some v)).filter Option.isNone).length + 1 = (l.filter Option.isNone).length := by
          intro l
          induction l with
          | nil => intro i h; simp at h
          | cons m l ihl =>
            intro i h
            cases i with
            | zero =>
              obtain rfl : m = none := by simpa using h
              simp
            | succ i =>
              have := ihl i (by simpa using h)
              rw [List.set_cons_succ, List.filter_cons, List.filter_cons]
              split
              · simp only [List.length_cons]; omega
              · exact this
        exact key ms q hmq
      have hnext := ih (ms.set q (some v)) w (by omega) (hI.step hq hmq hdeps (Below.refl _ _) hp (fun h => by rw [hA] at h; cases h))
      rw [← lst_set v hq2, ← putM_set v L ms a0 q oq hd hq hmq] at hnext
      exact wpAnyH_take hoq hsel h1 h2 (fun c a w h => hQ c a w _ v h) hy (hS0 _ hI.below) hnext
    refine ⟨fun hr => absurd (fun i hi => least i i (Nat.le_refl _) hi hr) hnot, fun i hi => ?_⟩
    obtain ⟨h1, o, ho, haft⟩ := mem_ready.1 hi
    have hdeps : ∀ e ∈ o.after, Region.binds .any e = true → ∃ v, ms[e.on]? = some (some v) := by
      intro e he hb
      have h2 := haft e he hb
      by_cases h3 : e.on < ms.length
      · rw [lst_lt h3] at h2
        obtain ⟨v, hv⟩ := Option.isSome_iff_exists.1 h2
        exact ⟨v, by rw [List.getElem?_eq_getElem h3, hv]⟩
      · rw [lst_ge (by omega)] at h2; cases h2
    by_cases hiL : i < L.length
    · have hi2 : i < ms.length := by rw [hI.len]; exact hiL
      rw [lst_lt hi2] at h1
      have hmi : ms[i]? = some none := by
        rw [List.getElem?_eq_getElem hi2]
        rcases hm : ms[i] with _ | v
        · rfl
        · rw [hm] at h1; cases h1
      have hoL : L[i]? = some o := by rw [hat, List.getElem?_append_left hiL] at ho; exact ho
      have hob := ob.at_ L 0 i o hoL
      rw [Nat.zero_add] at hob
      have hst := hob ms w ⟨hI.len, hI.below, hI.ty, hdeps⟩
      have hcount : ∀ v : Value, ((ms.set i (some v)).filter Option.isNone).length = k := by
        intro v
        have key : ∀ (l : List (Option Value)) (i : Nat), l[i]? = some none → ((l.set i (some v)).filter Option.isNone).length + 1 = (l.filter Option.isNone).length := by
          intro l
          induction l with
          | nil => intro i h; simp at h
          | cons m l ihl =>
            intro i h
            cases i with
            | zero =>
              obtain rfl : m = none := by simpa using h
              simp
            | succ i =>
              have := ihl i (by simpa using h)
              rw [List.set_cons_succ, List.filter_cons, List.filter_cons]
              split
              · simp only [List.length_cons]; omega
              · exact this
        have := key ms i hmi
        omega
      unfold wpOp
      rw [ho]
      simp only []
      by_cases hw : Region.wanted o (yielded ops (putM a0 L ms).tmps) = true
      · rw [if_pos hw] at hst ⊢
        refine .inl (Oper.wp_mono ?_ hst)
        rintro a' w' ⟨v, rfl, hb, hv, ha⟩
        rw [lst_set v hi2, putM_set v L ms a0 i o hd hoL hmi]
        exact ⟨hS0 _ (hI.step hoL hmi hdeps hb hv ha).below, ih _ w' (hcount v) (hI.step hoL hmi hdeps hb hv ha)⟩
      · rw [if_neg hw] at hst ⊢
        rw [lst_set undef hi2, putM_set undef L ms a0 i o hd hoL hmi]
        exact ⟨hS0 _ hI.below, ih _ w (hcount undef) (hI.step hoL hmi hdeps (Below.refl _ _) hst.1 (fun h => by rw [hst.2] at h; cases h))⟩
    · exfalso
      have ho2 : o ∈ L2 := by
        rw [hat, List.getElem?_append_right (by omega)] at ho
        exact List.mem_of_getElem? ho
      have hc := List.all_eq_true.1 hcov o ho2
      exact hbut (covC_all hI.len hc hdeps hI.dc)
theorem flowi_core {P : Program} {Q : Exit → Act → World → Prop} {ops : Array Oper} (n : Nat) (Φ : List Pd) {w : World} {a0 : Act} (S : List Nat)
    (h1 : distinctB (ops.toList.take n) = true) (h2 : backB 0 (ops.toList.take n) = true) (h3 : ((ops.toList.drop n).all fun o => covC (ops.toList.take n) S (ops.toList.take n).length o) = true) (h4 : Region.noSelect ops = true) (h5 : (S.all fun q => decide (q < (ops.toList.take n).length)) = true) (h6 : lateA ops (ops.toList.take n) (ops.toList.drop n).length S = true) (hQ : ∀ c a w d v, Q (.panic c) (a.put d v) w → Q (.panic c) a w)
    {HW : World → Prop} (hS0 : ∀ w2, Below w.heap.size w w2 → HW w2) (lates : LatesI P ops (ops.toList.take n) Φ HW w a0 S)
    (ob : Obs P Q ops (ops.toList.take n) Φ w a0 0 (ops.toList.take n))
    (done : ∀ w', Below w.heap.size w w' → Done (fun a w' => wpAnyH P .any ops Q HW (ops.toList.drop n).length (List.replicate (ops.toList.take n).length true ++ List.replicate (ops.toList.drop n).length false).toArray a w') Φ w' 0 (ops.toList.take n) [] a0) : wpAnyH P .any ops Q HW ops.size (Array.replicate ops.size false) a0 w := by
  have hop : ops.toList = ops.toList.take n ++ ops.toList.drop n := (List.take_append_drop n _).symm
  generalize ops.toList.take n = L at *
  generalize ops.toList.drop n = L2 at *
  have hsz : ops.size = L.length + L2.length := by
    have := congrArg List.length hop
    simpa using this
  have none_ : ∀ (i : Nat) (v : Value), ¬ (List.replicate L.length (none : Option Value))[i]? = some (some v) := by
    intro i v h
    rw [List.getElem?_replicate] at h
    split at h <;> cases h
  have hI0 : Inv L Φ w (List.replicate L.length none) w := ⟨by simp, Below.refl _ _, fun i v h => absurd h (none_ i v), fun j x v _ h => absurd h (none_ j v), fun i j oi oj u v _ _ _ _ _ h _ => absurd h (none_ i u), fun i oi u _ _ h => absurd h (none_ i u)⟩
  have hmain := any_main (P := P) (Q := Q) (ops := ops) (L := L) (L2 := L2) (Φ := Φ) (w0 := w) (a0 := a0) (S := S) hop h1 h2 h3 h5 h4 h6 hQ hS0 lates ob (fun ms w' hall hI => by
      rw [lst_end L2.length hI.len hall]
      have := done_all (K := fun a w' => wpAnyH P .any ops Q HW L2.length (List.replicate L.length true ++ List.replicate L2.length false).toArray a w') hI hall L 0 a0 [] (by simp) (by omega) (by simp) (done w' hI.below)
      simpa using this) L.length (List.replicate L.length none) w (by simp) hI0
  rw [putM_none, lst_start, ← hsz] at hmain
  exact hmain
/-- A region that draws its order; those of S are taken last, however much of them is up. -/
theorem flowi {P : Program} {Q : Exit → Act → World → Prop} {id : Nat} {ops : Array Oper} (n : Nat) (Φ : List Pd) {w : World} {a0 : Act} (hm : P.follows .mixedOrders = true) (S : List Nat)
    (hB : (distinctB (ops.toList.take n) && backB 0 (ops.toList.take n) && (ops.toList.drop n).all (fun o => covC (ops.toList.take n) S (ops.toList.take n).length o) && Region.noSelect ops && (S.all fun q => decide (q < (ops.toList.take n).length)) && lateA ops (ops.toList.take n) (ops.toList.drop n).length S) = true) (hQ : ∀ c a w d v, Q (.panic c) (a.put d v) w → Q (.panic c) a w)
    {HW : World → Prop} (hS0 : ∀ w2, Below w.heap.size w w2 → HW w2) (lates : LatesI P ops (ops.toList.take n) Φ HW w.drew a0 S)
    (ob : Obs P Q ops (ops.toList.take n) Φ w.drew a0 0 (ops.toList.take n))
    (done : ∀ w', Below w.heap.size w w' → Done (fun a w' => wpAnyH P .any ops Q HW (ops.toList.drop n).length (List.replicate (ops.toList.take n).length true ++ List.replicate (ops.toList.drop n).length false).toArray a w') Φ w' 0 (ops.toList.take n) [] a0) : (Code.region id ops true).wp P Q a0 w := by
  simp only [Bool.and_eq_true] at hB
  obtain ⟨⟨⟨⟨⟨h1, h2⟩, h3⟩, h4⟩, h5⟩, h6⟩ := hB
  exact wp_region_held hm (flowi_core n Φ (w := w.drew) S h1 h2 h3 h4 h5 h6 hQ (fun w2 hb => hS0 w2 ((Below.refl _ w).drew.trans hb)) lates ob fun w' hb => done w' ((Below.refl _ w).drew.trans hb))
section
variable {P : Program} {ops : Array Oper} {L : List Oper} {Φ : List Pd} {HW : World → Prop} {w0 : World} {a0 : Act} {o : Oper} {G : Pd} {Q : Exit → Act → World → Prop}
theorem latei_val (hw : Wt ops L Φ w0 a0 o true) (h : ∀ ms w1, St L Φ w0 o ms w1 → ∃ v, (∀ w, HW w → (execOp (putM a0 L ms).eval o).run P w = .ok (.value v) w) ∧ G.p w1 v) : ∀ ms w1, St L Φ w0 o ms w1 → ∃ v, YieldsIf P ops HW o v (putM a0 L ms) ∧ G.p w1 v := by
  intro ms w1 hS
  obtain ⟨v, h1, h2⟩ := h ms w1 hS
  exact ⟨v, .inl ⟨hw ms w1 hS, h1⟩, h2⟩
theorem latei_move {x : Operand} {F : World → Value → Prop} (hop : o.op = .move x) (hw : Wt ops L Φ w0 a0 o true) (hx : Ev L Φ w0 a0 o x F) (hF : ∀ w v, F w v → G.p w v) : ∀ ms w1, St L Φ w0 o ms w1 → ∃ v, YieldsIf P ops HW o v (putM a0 L ms) ∧ G.p w1 v :=
  latei_val hw fun ms w1 hS => ⟨_, fun w _ => by unfold execOp; simp only [hop]; rfl, hF w1 _ (hx ms w1 hS)⟩
theorem latei_load {t : TypeId} {x : Operand} {u v : Value} (hop : o.op = .load t x) (hw : Wt ops L Φ w0 a0 o true) (hx : Ev L Φ w0 a0 o x (fun _ y => y = u)) (hr : ∀ w, HW w → (Instr.loadAt t u).run P w = .ok v w) (hF : ∀ w, Below w0.heap.size w0 w → G.p w v) : ∀ ms w1, St L Φ w0 o ms w1 → ∃ v, YieldsIf P ops HW o v (putM a0 L ms) ∧ G.p w1 v :=
  latei_val hw fun ms w1 hS => ⟨v, fun w hb => by unfold execOp; simp only [hop]; rw [hx ms w1 hS, Sem.run_bind, hr w hb]; rfl, hF w1 hS.below⟩
theorem anyi_store {fuel i : Nat} {listed : Array Bool} {a : Act} {w : World} {ty : TypeId} {x y : Operand} {g : Nat} {v : Value} {cells : List Value} {cs : Array Value} {e : TypeId} (hW : ∀ w', w.grownBy w' (some g) → HW w') (hr : Region.ready .any ops listed = [i]) (ho : ops[i]? = some o) (hg : o.guard = none) (hd : o.dst = none) (hop : o.op = .store ty x y)
    (hx : a.eval x = .pointer (some ⟨g, 0, none⟩)) (hy : a.eval y = v) (hv : v.cells = cells.toArray) (hB : w.heap[g]? = some (.cells cs e (0, 0))) (hs : cs.size = cells.length) (hi : (P.info? ty).map (·.size) = some cells.length) (h1 : ∀ c ∈ cells, c.oneCell' = true)
    (h : ∀ w', w.grownBy w' (some g) → w'.heap[g]? = some (.cells cells.toArray e (0, 0)) → wpAnyH P .any ops Q HW fuel (listed.setIfInBounds i true) a w') : wpAnyH P .any ops Q HW (fuel + 1) listed a w :=
  anyh_one hr ho hg (wp_store_ hd hop hx hy hv hB hs hi h1 fun w' h2 h3 => ⟨hW w' h2, h w' h2 h3⟩)
theorem anyi_assign {fuel i : Nat} {listed : Array Bool} {a : Act} {w : World} {x : Operand} (v : Value) (hW : HW w) (hr : Region.ready .any ops listed = [i]) (ho : ops[i]? = some o) (hg : o.guard = none) (hop : o.op = .assign x) (hv : a.eval x = v) {d : Tmp} (hd : o.dst = some d) (h : ∀ b, a.put (some d) v = b → wpAnyH P .any ops Q HW fuel (listed.setIfInBounds i true) b w) : wpAnyH P .any ops Q HW (fuel + 1) listed a w :=
  anyh_one hr ho hg (wp_assign_ v hop hv hd fun b hb => ⟨hW, h b hb⟩)
end
end Go.Proofs.YtlnmoledijlemaaGreat.flow
namespace Go.Proofs.YtlnmoledijlemaaGreat.rat
open Go.RowKit Go.Proofs.YtlnmoledijlemaaGreat.num Go.Proofs.YtlnmoledijlemaaGreat.mem Go.Proofs.YtlnmoledijlemaaGreat.nat Go.Proofs.YtlnmoledijlemaaGreat.txt Go.Proofs.YtlnmoledijlemaaGreat.str Go.Proofs.YtlnmoledijlemaaGreat.flow Go.Proofs.YtlnmoledijlemaaGreat.whl
set_option linter.unusedVariables false
set_option linter.unusedSimpArgs false
set_option maxHeartbeats 3200000 in
set_option maxRecDepth 100000 in
theorem frun_any (a0 : Value) (qs : List Rat) (w : World) (h0 : SlF .u64 4294967296 w a0 qs) (hl : qs.length ≤ 8 ∧ ∀ q ∈ qs, lenQ q 2) :
    Calls Tryz.prog 36 #[a0] w (RetSl (runq qs) w) := by
  have bb : Below w.heap.size w w := Below.refl _ _
  have sl0 := h0
  obtain ⟨A0, c0, rfl, hc0, hm0⟩ := h0.shape
  unfold maxLen at hm0
  have HLE := Lib.hid hl
  have hl8 : qs.length ≤ 8 := hl.1
  have HRU : Hid ((runq qs).length = qs.length) := runq_len qs
  clear hl
  go_enter Tryz.func36, Tryz.ntmps36
  go_upto_region 1 with (fail)
  have hsz0 := bb.size
  have sB := bb.size
  refine flow 6 [Pd.eq (.slice A0 qs.length c0), Pd.eq (.int .i64 ((qs.length : Nat) : Int)), pro qs.length [] w.heap.size, pq ((0 : Rat)) w.heap.size, pn 28 #[.bool false, .slice none 0 0, .slice none 0 0] w.heap.size, pro qs.length [] w.heap.size] (by kernel_rfl) (by kernel_rfl) ?ob1 ?done1
  case ob1 =>
    refine And.intro (ob_move rfl (wt_none rfl) (ev_far rfl rfl) (fun _ _ h => h)) ?_
    refine And.intro (ob_len rfl (wt_none rfl) (ev_dep (j := 0) (by kernel_rfl) rfl rfl) (fun _ _ hx => ⟨_, by rw [hx]; exact len_slice Tryz.underlying22 _ _ _ _, rfl⟩)) ?_
    refine And.intro (ob_make_q qs.length rfl rfl (ev_dep (j := 1) (by kernel_rfl) rfl rfl) (ev_dep (j := 1) (by kernel_rfl) rfl rfl) Tryz.underlying22 info_rat (by omega) (fun _ _ h => h)) ?_
    refine And.intro (ob_call1 rfl Tryz.func45 (by kernel_rfl) (wt_none rfl) (ev_const _) (fun w2 u0 hb h0 => by obtain rfl := h0; exact (RatP_of0 _).mono fun e w3 h => RetQ.pd h hb.size)) ?_
    refine And.intro (ob_alloc (z := .agg #[.bool false, .slice none 0 0, .slice none 0 0]) rfl rfl (fun _ => by kernel_rfl) (fun _ _ hB h => ⟨_, rfl, hB, h⟩)) ?_
    refine And.intro (ob_assign rfl (wt_none rfl) (ev_dep (j := 2) (by kernel_rfl) rfl rfl) (fun _ _ h => h)) ?_
    trivial
  case done1 =>
    refine fun w1 hb1 v0 h0 v1 h1 v2 h2 v3 h3 v4 h4 d4 v5 h5 b hbf => ?_
    obtain rfl := h0; obtain rfl := h1
    obtain ⟨gr, rfl, RN, hgr⟩ := h2
    obtain ⟨q3, f3⟩ := h3
    obtain ⟨g1_4, rfl, hg4, B4⟩ := h4
    obtain ⟨gr, rfl, RN, hgr⟩ := h5
    simp only [Act.put, List.setIfInBounds_toArray, List.set_cons_zero, List.set_cons_succ] at hbf
    subst hbf
    replace bb := bb.trans (hb1.mono bb.size)
    have hsz1 := bb.size
    have s_3 := sB
    have BA4 := B4
    obtain ⟨u3, t3, rfl, q3, d3⟩ := q3
    obtain ⟨Ai, ci, rfl, _⟩ := id q3
    obtain ⟨Di, ei, rfl, _⟩ := id d3
    refine any_store (i := 6) (by kernel_rfl) rfl rfl rfl rfl rfl rfl (cells := [.bool (ngB ((0 : Rat)).num), .slice Ai (digs 4294967296 ((0 : Rat)).num.natAbs).length ci, .slice Di (digs 4294967296 ((0 : Rat)).den).length ei]) rfl BA4 rfl (by kernel_rfl) (one3 rfl rfl rfl) fun w2 hg2 BN2 => ?_
    replace q3 := off q3 BA4 no_ints3 hg2
    replace d3 := off d3 BA4 no_ints3 hg2
    replace bb := bb.trans ((Below.refl _ _).grown hg2 bb.size (fun g hg => by injection hg with hg; omega))
    have hsz2 := bb.size
    have Bi : Blk w2 (g1_4) _ _ := BN2
    have kis := q3
    have kid := d3
    have kiz : IsZ w2 (.agg #[.bool (ngB ((0 : Rat)).num), .slice Ai (digs 4294967296 ((0 : Rat)).num.natAbs).length ci]) (((0 : Rat)).num) := ⟨_, rfl, kis⟩
    have ki : IsQ w2 (.agg #[.bool (ngB ((0 : Rat)).num), .slice Ai (digs 4294967296 ((0 : Rat)).num.natAbs).length ci, .slice Di (digs 4294967296 ((0 : Rat)).den).length ei]) ((0 : Rat)) := ⟨_, _, rfl, kis, kid⟩
    refine any_done (by kernel_rfl) ?_
    have RN2 := RowN.sq RN BA4 no_ints3 hg2 Bi (IsS.sl3 kis) (IsS.sl3 kid) (fun _ => rfl)
    clear RN
    have RN := RN2
    clear RN2
    have hgw : w.heap.size ≤ gr := by omega
    have hGw : w.heap.size ≤ g1_4 := by omega
    have RN0 : RowN w2 gr qs.length ((runq qs).take 0) := RN
    go_wp2
    go_loopw [13] (fun v13 wr => ∃ k : Nat, k ≤ qs.length ∧ RowN wr gr qs.length ((runq qs).take k) ∧ HoldQ wr g1_4 (sumq (qs.take k)) ∧ Below w.heap.size w wr ∧ v13 = .int .i64 (k : Int)) (fun v13 _ => qs.length - (intOf v13).toNat)
    case atStart => exact ⟨0, by omega, RN0, ⟨_, _, Bi, kis, kid⟩, bb, rfl⟩
    case round =>
      obtain ⟨k, hk, hR, hH, hbw, rfl⟩ := hrel
      clear RN RN0 bb Bi kis kid kiz ki
      have RN := hR
      have bb := hbw
      clear hR hbw
      obtain ⟨s, hs⟩ : ∃ s, s = sumq (qs.take k) := ⟨_, rfl⟩
      rw [← hs] at hH
      have HS := Lib.hid hs
      clear hs
      have hszr := bb.size
      have hgl := RN.lt
      obtain ⟨up, tp, Bp, kps, kpd⟩ := hH
      obtain ⟨Ap, cp, rfl, _⟩ := id kps
      obtain ⟨Dp, ep, rfl, _⟩ := id kpd
      have kpz : IsZ wr (.agg #[.bool (ngB (s).num), .slice Ap (digs 4294967296 (s).num.natAbs).length cp]) (s).num := ⟨_, rfl, kps⟩
      have kp : IsQ wr (.agg #[.bool (ngB (s).num), .slice Ap (digs 4294967296 (s).num.natAbs).length cp, .slice Dp (digs 4294967296 (s).den).length ep]) (s) := ⟨_, _, rfl, kps, kpd⟩
      have hGl := Bp.lt
      by_cases hlt : k < qs.length
      · obtain ⟨q, hq0_⟩ : ∃ q, qs[k]? = some q := ⟨_, List.getElem?_eq_getElem hlt⟩
        obtain ⟨g0_, o0_, ue0, te0, hA0_, _, e00, e01, e02, es0, ed0⟩ := (sl0.below bb).at_ hq0_
        subst hA0_
        have HQ0 := Lib.hid hq0_
        clear hq0_
        obtain ⟨Ae0, ce0, rfl, _⟩ := id es0
        obtain ⟨De0, ee0, rfl, _⟩ := id ed0
        have ke0 : IsQ wr (.agg #[.bool (ngB q.num), .slice Ae0 (digs 4294967296 q.num.natAbs).length ce0, .slice De0 (digs 4294967296 q.den).length ee0]) q := ⟨_, _, rfl, es0, ed0⟩
        have ls : lenQ s 25 := by
          rw [HS.out]
          refine (lenQ_sumq (fun q hq => HLE.out.2 q (List.mem_of_mem_take hq))).mono ?_
          rw [List.length_take]
          omega
        have lq : lenQ q 2 := HLE.out.2 q (List.mem_of_getElem? HQ0.out)
        have HN : Hid (s + q = sumq (qs.take (k + 1))) := by show _ = _; rw [take_snoc HQ0.out, sumq_snoc, HS.out]
        have HTK : Hid ((runq qs).take (k + 1) = (runq qs).take k ++ [s + q]) := by show _ = _; rw [HN.out]; exact take_snoc (runq_at hlt)
        have HLK : Hid (k = ((runq qs).take k).length) := by show _ = _; rw [List.length_take, HRU.out]; omega
        have HK1 : Hid (qs.length = 1 → (runq qs).take k = []) := fun h => by rw [show k = 0 by omega]; rfl
        have sB := bb.size
        go_upto_region 4 with (fail)
        have lt3_4 := Blk.lt Bp
        refine flowp 5 [Pd.eq (.int .i64 (k : Int)), Pd.eq (.pointer (some ⟨g0_, o0_ + k * 3, none⟩)), Pd.eq (.agg #[.bool (ngB q.num), .slice Ae0 (digs 4294967296 q.num.natAbs).length ce0, .slice De0 (digs 4294967296 q.den).length ee0]), pn 28 #[.bool false, .slice none 0 0, .slice none 0 0] wr.heap.size, Pd.eq (.int .i64 (k : Int))] (by kernel_rfl) ?ob2 ?done2
        case ob2 =>
          refine And.intro (ob_move rfl (wt_none rfl) (ev_far rfl rfl) (fun _ _ h => h)) ?_
          refine And.intro (ob_indexAddr rfl (wt_none rfl) (ev_far rfl rfl) (ev_far rfl rfl) (fun _ _ _ hx hy => ⟨_, by rw [hx, hy]; exact index3 Tryz.underlying22 (by kernel_rfl) hlt _, rfl⟩)) ?_
          refine And.intro (ob_load rfl (wt_none rfl) (ev_dep (j := 1) (by kernel_rfl) rfl rfl) (fun w2 hb => load3 Tryz.underlying28 rfl (by kernel_rfl) ((hb.cell (World.block_lt_of_cell? wr _ e00)).trans e00) ((hb.cell (World.block_lt_of_cell? wr _ e01)).trans e01) ((hb.cell (World.block_lt_of_cell? wr _ e02)).trans e02)) (fun _ _ => rfl)) ?_
          refine And.intro (ob_alloc (z := .agg #[.bool false, .slice none 0 0, .slice none 0 0]) rfl rfl (fun _ => by kernel_rfl) (fun _ _ hB h => ⟨_, rfl, hB, h⟩)) ?_
          refine And.intro (ob_assign rfl (wt_none rfl) (ev_dep (j := 0) (by kernel_rfl) rfl rfl) (fun _ _ h => h)) ?_
          trivial
        case done2 =>
          refine fun w4 hb4 v0 h0 v1 h1 v2 h2 v3 h3 d3 v4 h4 b hbf => ?_
          obtain rfl := h0; obtain rfl := h1; obtain rfl := h2; obtain rfl := h4
          obtain ⟨g2_3, rfl, hg3, B3⟩ := h3
          simp only [Act.put, List.setIfInBounds_toArray, List.set_cons_zero, List.set_cons_succ] at hbf
          subst hbf
          replace Bp := Bp.below hb4
          replace kps := kps.below hb4
          replace kpd := kpd.below hb4
          replace kpz := kpz.below hb4
          replace kp := kp.below hb4
          replace RN := RN.below hb4
          replace es0 := es0.below hb4
          replace ed0 := ed0.below hb4
          replace bb := bb.trans (hb4.mono bb.size)
          have hsz4 := bb.size
          have BA6 := B3
          have q2 := es0
          have d2 := ed0
          refine ops_store (i := 5) rfl rfl rfl rfl rfl rfl (cells := [.bool (ngB (q).num), .slice Ae0 (digs 4294967296 (q).num.natAbs).length ce0, .slice De0 (digs 4294967296 (q).den).length ee0]) rfl BA6 rfl (by kernel_rfl) (one3 rfl rfl rfl) fun w5 hg5 BN5 => ?_
          replace q2 := off q2 BA6 no_ints3 hg5
          replace d2 := off d2 BA6 no_ints3 hg5
          replace RN := RowN.offb RN BA6 no_ints3 hg5 (by omega)
          replace kps := off kps BA6 no_ints3 hg5
          replace kpd := off kpd BA6 no_ints3 hg5
          replace kpz : IsZ w5 (.agg #[.bool (ngB (s).num), .slice Ap (digs 4294967296 (s).num.natAbs).length cp]) ((s).num) := ⟨_, rfl, kps⟩
          replace kp : IsQ w5 (.agg #[.bool (ngB (s).num), .slice Ap (digs 4294967296 (s).num.natAbs).length cp, .slice Dp (digs 4294967296 (s).den).length ep]) (s) := ⟨_, _, rfl, kps, kpd⟩
          replace Bp := Bp.grown hg5 (by omega)
          replace bb := bb.trans ((Below.refl _ _).grown hg5 bb.size (fun g hg => by injection hg with hg; omega))
          have hsz5 := bb.size
          have Be0 : Blk w5 (g2_3) _ _ := BN5
          have ke0s := q2
          have ke0d := d2
          have ke0z : IsZ w5 (.agg #[.bool (ngB (q).num), .slice Ae0 (digs 4294967296 (q).num.natAbs).length ce0]) ((q).num) := ⟨_, rfl, ke0s⟩
          have ke0 : IsQ w5 (.agg #[.bool (ngB (q).num), .slice Ae0 (digs 4294967296 (q).num.natAbs).length ce0, .slice De0 (digs 4294967296 (q).den).length ee0]) (q) := ⟨_, _, rfl, ke0s, ke0d⟩
          refine ops_done ?_
          have sB := bb.size
          go_upto_region 5 with (fail)
          refine flowp 3 [Pd.eq (.agg #[.bool (ngB (s).num), .slice Ap (digs 4294967296 (s).num.natAbs).length cp, .slice Dp (digs 4294967296 (s).den).length ep]), Pd.eq (.agg #[.bool (ngB (q).num), .slice Ae0 (digs 4294967296 (q).num.natAbs).length ce0, .slice De0 (digs 4294967296 (q).den).length ee0]), pq ((s + q)) w5.heap.size] (by kernel_rfl) ?ob3 ?done3
          case ob3 =>
            refine And.intro (ob_load rfl (wt_none rfl) (ev_far rfl rfl) (fun w2 hb => run_loadAll Tryz.underlying28 rfl (by kernel_rfl) (Bp.below hb)) (fun _ _ => rfl)) ?_
            refine And.intro (ob_load rfl (wt_none rfl) (ev_far rfl rfl) (fun w2 hb => run_loadAll Tryz.underlying28 rfl (by kernel_rfl) (Be0.below hb)) (fun _ _ => rfl)) ?_
            refine And.intro (ob_call2 rfl Tryz.func46 (by kernel_rfl) (wt_none rfl) (ev_dep (j := 0) (by kernel_rfl) rfl rfl) (ev_dep (j := 1) (by kernel_rfl) rfl rfl) (fun w2 u0 u1 hb h0 h1 => by obtain rfl := h0; obtain rfl := h1; exact (add8_any _ s _ q _ (kp.below hb) (ke0.below hb) (ls.mono (by decide)) (lq.mono (by decide))).mono fun e w3 h => RetQ.pd h hb.size)) ?_
            trivial
          case done3 =>
            refine fun w6 hb6 v0 h0 v1 h1 v2 h2 b hbf => ?_
            obtain rfl := h0; obtain rfl := h1
            obtain ⟨q2, f2⟩ := h2
            simp only [Act.put, List.setIfInBounds_toArray, List.set_cons_zero, List.set_cons_succ] at hbf
            subst hbf
            replace Bp := Bp.below hb6
            replace kps := kps.below hb6
            replace kpd := kpd.below hb6
            replace kpz := kpz.below hb6
            replace kp := kp.below hb6
            replace Be0 := Be0.below hb6
            replace ke0s := ke0s.below hb6
            replace ke0d := ke0d.below hb6
            replace ke0z := ke0z.below hb6
            replace ke0 := ke0.below hb6
            replace RN := RN.below hb6
            replace bb := bb.trans (hb6.mono bb.size)
            have hsz6 := bb.size
            have s_2 := sB
            obtain ⟨u2, t2, rfl, q2, d2⟩ := q2
            obtain ⟨A4, c4, rfl, _⟩ := id q2
            obtain ⟨D4, e4, rfl, _⟩ := id d2
            refine ops_store (i := 3) rfl rfl rfl rfl rfl rfl (cells := [.bool (ngB ((s + q)).num), .slice A4 (digs 4294967296 ((s + q)).num.natAbs).length c4, .slice D4 (digs 4294967296 ((s + q)).den).length e4]) rfl Bp rfl (by kernel_rfl) (one3 rfl rfl rfl) fun w7 hg7 BN7 => ?_
            replace q2 := off q2 Bp no_ints3 hg7
            replace d2 := off d2 Bp no_ints3 hg7
            replace ke0s := off ke0s Bp no_ints3 hg7
            replace ke0d := off ke0d Bp no_ints3 hg7
            replace ke0z : IsZ w7 (.agg #[.bool (ngB (q).num), .slice Ae0 (digs 4294967296 (q).num.natAbs).length ce0]) ((q).num) := ⟨_, rfl, ke0s⟩
            replace ke0 : IsQ w7 (.agg #[.bool (ngB (q).num), .slice Ae0 (digs 4294967296 (q).num.natAbs).length ce0, .slice De0 (digs 4294967296 (q).den).length ee0]) (q) := ⟨_, _, rfl, ke0s, ke0d⟩
            replace Be0 := Be0.grown hg7 (by omega)
            replace bb := bb.trans ((Below.refl _ _).grown hg7 bb.size (fun g hg => by injection hg with hg; omega))
            have hsz7 := bb.size
            have B4 : Blk w7 (g1_4) _ _ := BN7
            have k4s := q2
            have k4d := d2
            have k4z : IsZ w7 (.agg #[.bool (ngB ((s + q)).num), .slice A4 (digs 4294967296 ((s + q)).num.natAbs).length c4]) (((s + q)).num) := ⟨_, rfl, k4s⟩
            have k4 : IsQ w7 (.agg #[.bool (ngB ((s + q)).num), .slice A4 (digs 4294967296 ((s + q)).num.natAbs).length c4, .slice D4 (digs 4294967296 ((s + q)).den).length e4]) ((s + q)) := ⟨_, _, rfl, k4s, k4d⟩
            refine ops_done ?_
            have RN2 := RowN.sq RN Bp no_ints3 hg7 B4 (IsS.sl3 k4s) (IsS.sl3 k4d) HK1.out
            clear RN
            have RN := RN2
            clear RN2 Bp
            have hH4 : HoldQ w7 g1_4 (s + q) := ⟨_, _, B4, k4s, k4d⟩
            have sB := bb.size
            go_upto_region 6 with (fail)
            refine flowp 4 [Pd.eq (.slice (some ⟨gr, 0, none⟩) qs.length qs.length), Pd.eq (.int .i64 (k : Int)), Pd.eq (.agg #[.bool (ngB ((s + q)).num), .slice A4 (digs 4294967296 ((s + q)).num.natAbs).length c4, .slice D4 (digs 4294967296 ((s + q)).den).length e4]), Pd.eq (.pointer (some ⟨gr, 0 + k * 3, none⟩))] (by kernel_rfl) ?ob4 ?done4
            case ob4 =>
              refine And.intro (ob_move rfl (wt_none rfl) (ev_far rfl rfl) (fun _ _ h => h)) ?_
              refine And.intro (ob_move rfl (wt_none rfl) (ev_far rfl rfl) (fun _ _ h => h)) ?_
              refine And.intro (ob_load rfl (wt_none rfl) (ev_far rfl rfl) (fun w2 hb => run_loadAll Tryz.underlying28 rfl (by kernel_rfl) (B4.below hb)) (fun _ _ => rfl)) ?_
              refine And.intro (ob_indexAddr rfl (wt_none rfl) (ev_dep (j := 0) (by kernel_rfl) rfl rfl) (ev_dep (j := 1) (by kernel_rfl) rfl rfl) (fun _ _ _ hx hy => ⟨_, by rw [hx, hy]; exact index3 (k := k) Tryz.underlying22 (by kernel_rfl) hlt _, rfl⟩)) ?_
              trivial
            case done4 =>
              refine fun w8 hb8 v0 h0 v1 h1 v2 h2 v3 h3 b hbf => ?_
              obtain rfl := h0; obtain rfl := h1; obtain rfl := h2; obtain rfl := h3
              simp only [Act.put, List.setIfInBounds_toArray, List.set_cons_zero, List.set_cons_succ] at hbf
              subst hbf
              replace B4 := B4.below hb8
              replace k4s := k4s.below hb8
              replace k4d := k4d.below hb8
              replace k4z := k4z.below hb8
              replace k4 := k4.below hb8
              replace Be0 := Be0.below hb8
              replace ke0s := ke0s.below hb8
              replace ke0d := ke0d.below hb8
              replace ke0z := ke0z.below hb8
              replace ke0 := ke0.below hb8
              replace RN := RN.below hb8
              replace hH4 := hH4.below hb8
              replace bb := bb.trans (hb8.mono bb.size)
              have hsz8 := bb.size
              have q2 := k4s
              have d2 := k4d
              have RNo := RN
              refine ops_store_q (j := 4) rfl rfl rfl rfl (g := gr) (i := k) (q := (s + q)) rfl rfl (by kernel_rfl) RN hlt q2 d2 fun w9 hg9 hP9 => ?_
              replace bb := bb.trans ((Below.refl _ _).grown hg9 bb.size (fun g hg => by injection hg with hg; omega))
              have hsz9 := bb.size
              replace RN := hP9.1 HLK.out
              clear hP9
              have hH5 := hH4.row RNo hg9 RN
              clear RNo
              refine ops_done ?_
              rw [← HTK.out] at RN
              rw [HN.out] at hH5
              have hsk : qs.length - (k + 1) < qs.length - k := by omega
              go_wp2
              go_roundw
              case rel => exact ⟨k + 1, by omega, RN, hH5, bb, by go_num⟩
              case measure => simp [intOf]; omega
      · rw [List.take_of_length_le (by rw [HRU.out]; omega)] at RN
        have hS := RN.sl HRU.out (by omega)
        clear RN
        go_wp2
        go_ret
        exact ⟨_, rfl, hS, bb⟩
set_option maxHeartbeats 3200000 in
set_option maxRecDepth 100000 in
theorem fbounds_none (a0 : Value) (w : World) (h0 : SlF .u64 4294967296 w a0 []) :
    Calls Tryz.prog 37 #[a0] w (RetV (.tuple #[.agg #[.bool false, .slice none 0 0, .slice none 0 0], .agg #[.bool false, .slice none 0 0, .slice none 0 0], .int .i64 9]) w) := by
  have sl0 := h0
  obtain ⟨A0, c0, rfl, hc0, hm0⟩ := h0.shape
  unfold maxLen at hm0
  have HV0 := Lib.hid sl0
  go_enter Tryz.func37, Tryz.ntmps37
  go_upto_region 1 with (fail)
  obtain ⟨wx, hwx, bb, BR0, BR1, hsz⟩ := vars2 w 28 28 #[.bool false, .slice none 0 0, .slice none 0 0] #[.bool false, .slice none 0 0, .slice none 0 0]
  rw [hwx]
  clear hwx
  have hsz0 := bb.size
  have k0 := sl0.below bb
  have sB := bb.size
  have lt0_2 := Blk.lt BR0
  have lt0_3 := Blk.lt BR1
  refine flowp 6 [Pd.eq (.slice A0 ([] : List Rat).length c0), Pd.eq (.tuple #[.agg #[.bool false, .slice none 0 0, .slice none 0 0], .int .i64 9]), Pd.eq (.tuple #[.agg #[.bool false, .slice none 0 0, .slice none 0 0], .int .i64 9]), Pd.eq (.agg #[.bool false, .slice none 0 0, .slice none 0 0]), Pd.eq (.int .i64 9), pn 28 #[.bool false, .slice none 0 0, .slice none 0 0] wx.heap.size] (by kernel_rfl) ?ob5 ?done5
  case ob5 =>
    refine And.intro (ob_move rfl (wt_none rfl) (ev_far rfl rfl) (fun _ _ h => h)) ?_
    refine And.intro (ob_call1 rfl Tryz.func24 (by kernel_rfl) (wt_none rfl) (ev_dep (j := 0) (by kernel_rfl) rfl rfl) (fun w2 u0 hb h0 => by obtain rfl := h0; exact (fleast_none _ _ HV0.out.any).mono fun e w3 h => RetQN.pd h)) ?_
    refine And.intro (ob_move rfl (wt_none rfl) (ev_dep (j := 1) (by kernel_rfl) rfl rfl) (fun _ _ h => h)) ?_
    refine And.intro (ob_extract rfl (wt_none rfl) (ev_dep (j := 2) (by kernel_rfl) rfl rfl) (fun w2 u hu => by obtain rfl := hu; exact ⟨_, rfl, rfl⟩)) ?_
    refine And.intro (ob_extract rfl (wt_none rfl) (ev_dep (j := 2) (by kernel_rfl) rfl rfl) (fun w2 u hu => by obtain rfl := hu; exact ⟨_, rfl, rfl⟩)) ?_
    refine And.intro (ob_alloc (z := .agg #[.bool false, .slice none 0 0, .slice none 0 0]) rfl rfl (fun _ => by kernel_rfl) (fun _ _ hB h => ⟨_, rfl, hB, h⟩)) ?_
    trivial
  case done5 =>
    refine fun w1 hb1 v0 h0 v1 h1 v2 h2 v3 h3 v4 h4 v5 h5 d5 b hbf => ?_
    obtain rfl := h0; obtain rfl := h1; obtain rfl := h2; obtain rfl := h3; obtain rfl := h4
    obtain ⟨g5_5, rfl, hg5, B5⟩ := h5
    simp only [Act.put, List.setIfInBounds_toArray, List.set_cons_zero, List.set_cons_succ] at hbf
    subst hbf
    replace BR0 := BR0.below hb1
    replace BR1 := BR1.below hb1
    replace bb := bb.trans (hb1.mono bb.size)
    have hsz1 := bb.size
    have BA5 := B5
    refine ops_store (i := 6) rfl rfl rfl rfl rfl rfl (cells := [.bool false, .slice none 0 0, .slice none 0 0]) rfl BA5 rfl (by kernel_rfl) (one3 rfl rfl rfl) fun w2 hg2 BN2 => ?_
    replace BR0 := BR0.grown hg2 (by omega)
    replace BR1 := BR1.grown hg2 (by omega)
    replace bb := bb.trans ((Below.refl _ _).grown hg2 bb.size (fun g hg => by injection hg with hg; omega))
    have hsz2 := bb.size
    replace BA5 : Blk w2 (g5_5) _ #[.bool false, .slice none 0 0, .slice none 0 0] := BN2
    refine ops_assign (i := 7) (.int .i64 9) rfl rfl rfl rfl rfl fun b hbf => ?_
    simp only [Act.put, List.setIfInBounds_toArray, List.set_cons_zero, List.set_cons_succ] at hbf
    subst hbf
    refine ops_done ?_
    clear k0
    have sB := bb.size
    go_upto_region 2 with (fail)
    have lt2_2 := Blk.lt BR0
    have lt2_3 := Blk.lt BR1
    have lt2_5 := Blk.lt BA5
    refine flowp 6 [Pd.eq (.slice A0 ([] : List Rat).length c0), Pd.eq (.tuple #[.agg #[.bool false, .slice none 0 0, .slice none 0 0], .int .i64 9]), Pd.eq (.tuple #[.agg #[.bool false, .slice none 0 0, .slice none 0 0], .int .i64 9]), Pd.eq (.agg #[.bool false, .slice none 0 0, .slice none 0 0]), Pd.eq (.int .i64 9), pn 28 #[.bool false, .slice none 0 0, .slice none 0 0] w2.heap.size] (by kernel_rfl) ?ob6 ?done6
    case ob6 =>
      refine And.intro (ob_move rfl (wt_none rfl) (ev_far rfl rfl) (fun _ _ h => h)) ?_
      refine And.intro (ob_call1 rfl Tryz.func25 (by kernel_rfl) (wt_none rfl) (ev_dep (j := 0) (by kernel_rfl) rfl rfl) (fun w2 u0 hb h0 => by obtain rfl := h0; exact (fgreat_none _ _ HV0.out.any).mono fun e w3 h => RetQN.pd h)) ?_
      refine And.intro (ob_move rfl (wt_none rfl) (ev_dep (j := 1) (by kernel_rfl) rfl rfl) (fun _ _ h => h)) ?_
      refine And.intro (ob_extract rfl (wt_none rfl) (ev_dep (j := 2) (by kernel_rfl) rfl rfl) (fun w2 u hu => by obtain rfl := hu; exact ⟨_, rfl, rfl⟩)) ?_
      refine And.intro (ob_extract rfl (wt_none rfl) (ev_dep (j := 2) (by kernel_rfl) rfl rfl) (fun w2 u hu => by obtain rfl := hu; exact ⟨_, rfl, rfl⟩)) ?_
      refine And.intro (ob_alloc (z := .agg #[.bool false, .slice none 0 0, .slice none 0 0]) rfl rfl (fun _ => by kernel_rfl) (fun _ _ hB h => ⟨_, rfl, hB, h⟩)) ?_
      trivial
    case done6 =>
      refine fun w3 hb3 v0 h0 v1 h1 v2 h2 v3 h3 v4 h4 v5 h5 d5 b hbf => ?_
      obtain rfl := h0; obtain rfl := h1; obtain rfl := h2; obtain rfl := h3; obtain rfl := h4
      obtain ⟨g6_5, rfl, hg5, B5⟩ := h5
      simp only [Act.put, List.setIfInBounds_toArray, List.set_cons_zero, List.set_cons_succ] at hbf
      subst hbf
      replace BR0 := BR0.below hb3
      replace BR1 := BR1.below hb3
      replace BA5 := BA5.below hb3
      replace bb := bb.trans (hb3.mono bb.size)
      have hsz3 := bb.size
      have BA7 := B5
      refine ops_store (i := 6) rfl rfl rfl rfl rfl rfl (cells := [.bool false, .slice none 0 0, .slice none 0 0]) rfl BA7 rfl (by kernel_rfl) (one3 rfl rfl rfl) fun w4 hg4 BN4 => ?_
      replace BR0 := BR0.grown hg4 (by omega)
      replace BR1 := BR1.grown hg4 (by omega)
      replace BA5 := BA5.grown hg4 (by omega)
      replace bb := bb.trans ((Below.refl _ _).grown hg4 bb.size (fun g hg => by injection hg with hg; omega))
      have hsz4 := bb.size
      replace BA7 : Blk w4 (g6_5) _ #[.bool false, .slice none 0 0, .slice none 0 0] := BN4
      refine ops_assign (i := 7) (.int .i64 9) rfl rfl rfl rfl rfl fun b hbf => ?_
      simp only [Act.put, List.setIfInBounds_toArray, List.set_cons_zero, List.set_cons_succ] at hbf
      subst hbf
      refine ops_done ?_
      have hlR0 := BR0.lt
      have hlR1 := BR1.lt
      go_upto_region 3 with (fail)
      refine flowi 3 [Pd.eq (.agg #[.bool false, .slice none 0 0, .slice none 0 0]), Pd.eq (.agg #[.bool false, .slice none 0 0, .slice none 0 0]), Pd.eq (.int .i64 9)] (by kernel_rfl) [1, 2] (by kernel_rfl) (fun _ _ _ d _ h => by cases d <;> exact h) (HW := fun w2 => Blk w2 g6_5 28 #[.bool false, .slice none 0 0, .slice none 0 0]) (fun w2 hb => BA7.below hb) ⟨⟨_, rfl, latei_load rfl (wt_none rfl) (ev_far rfl rfl) (fun w2 hb => run_loadAll Tryz.underlying28 rfl (by kernel_rfl) hb) (fun _ _ => rfl)⟩, ⟨_, rfl, latei_move rfl (wt_none rfl) (ev_far rfl rfl) (fun _ _ h => h)⟩, trivial⟩ ?ob7 ?done7
      case ob7 =>
        refine And.intro (ob_load rfl (wt_none rfl) (ev_far rfl rfl) (fun w2 hb => run_loadAll Tryz.underlying28 rfl (by kernel_rfl) (BA5.drew.below hb)) (fun _ _ => rfl)) ?_
        refine And.intro (ob_load rfl (wt_none rfl) (ev_far rfl rfl) (fun w2 hb => run_loadAll Tryz.underlying28 rfl (by kernel_rfl) (BA7.drew.below hb)) (fun _ _ => rfl)) ?_
        refine And.intro (ob_move rfl (wt_none rfl) (ev_far rfl rfl) (fun _ _ h => h)) ?_
        trivial
      case done7 =>
        refine fun w5 hb5 v0 h0 v1 h1 v2 h2 b hbf => ?_
        obtain rfl := h0; obtain rfl := h1; obtain rfl := h2
        simp only [Act.put, List.setIfInBounds_toArray, List.set_cons_zero, List.set_cons_succ] at hbf
        subst hbf
        replace BR0 := BR0.below hb5
        replace BR1 := BR1.below hb5
        replace BA5 := BA5.below hb5
        replace BA7 := BA7.below hb5
        replace bb := bb.trans (hb5.mono bb.size)
        have hsz5 := bb.size
        refine anyi_store (i := 3) (fun w' hg' => BA7.grown hg' (by omega)) (by kernel_rfl) rfl rfl rfl rfl rfl rfl (cells := [.bool false, .slice none 0 0, .slice none 0 0]) rfl BR0 rfl (by kernel_rfl) (one3 rfl rfl rfl) fun w8 hg8 B8 => ?_
        replace BA7 := BA7.grown hg8 (by omega)
        replace BR1 := BR1.grown hg8 (by omega)
        replace bb := bb.trans ((Below.refl _ _).grown hg8 bb.size (fun g hg => by injection hg with hg; omega))
        refine anyi_store (i := 4) (fun w' hg' => BA7.grown hg' (by omega)) (by kernel_rfl) rfl rfl rfl rfl rfl rfl (cells := [.bool false, .slice none 0 0, .slice none 0 0]) rfl BR1 rfl (by kernel_rfl) (one3 rfl rfl rfl) fun w9 hg9 B9 => ?_
        replace BA7 := BA7.grown hg9 (by omega)
        have B8' : Blk w8 w.heap.size _ _ := B8
        replace B8' := B8'.grown hg9 (by omega)
        replace bb := bb.trans ((Below.refl _ _).grown hg9 bb.size (fun g hg => by injection hg with hg; omega))
        obtain ⟨C0, C1, C2, _, _, _⟩ := three B8'
        obtain ⟨E0, E1, E2, _, _, _⟩ := three B9
        refine anyi_assign (i := 5) (.int .i64 9) BA7 (by kernel_rfl) rfl rfl rfl rfl rfl fun b hbf => ?_
        simp only [Act.put, List.setIfInBounds_toArray, List.set_cons_zero, List.set_cons_succ] at hbf
        subst hbf
        refine anyh_done (by kernel_rfl) ?_
        go_wp2
        exact bodyPost_ret (v := .tuple #[.agg #[.bool false, .slice none 0 0, .slice none 0 0], .agg #[.bool false, .slice none 0 0, .slice none 0 0], .int .i64 9]) (by simp [results, Tryz.results37, go_sem, C0, C1, C2, E0, E1, E2]) rfl ⟨rfl, bb⟩
set_option maxHeartbeats 3200000 in
set_option maxRecDepth 100000 in
theorem fbounds_ok (a0 : Value) (qs : List Rat) (w : World) (h0 : SlF .u64 4294967296 w a0 qs) (hne : qs ≠ []) (hl : qs.length ≤ 8 ∧ ∀ q ∈ qs, lenQ q 2) :
    Calls Tryz.prog 37 #[a0] w (RetQ2 (leastq qs) (greatq qs) 0 w) := by
  have sl0 := h0
  obtain ⟨A0, c0, rfl, hc0, hm0⟩ := h0.shape
  unfold maxLen at hm0
  have HL := Lib.hid hl
  clear hl
  go_enter Tryz.func37, Tryz.ntmps37
  go_upto_region 1 with (fail)
  obtain ⟨wx, hwx, bb, BR0, BR1, hsz⟩ := vars2 w 28 28 #[.bool false, .slice none 0 0, .slice none 0 0] #[.bool false, .slice none 0 0, .slice none 0 0]
  rw [hwx]
  clear hwx
  have hsz0 := bb.size
  have k0 := sl0.below bb
  have sB := bb.size
  have lt0_2 := Blk.lt BR0
  have lt0_3 := Blk.lt BR1
  refine flowp 6 [Pd.eq (.slice A0 qs.length c0), pqe ((leastq qs)) 0, pqe ((leastq qs)) 0, pqn ((leastq qs)), Pd.eq (.int .i64 0), pn 28 #[.bool false, .slice none 0 0, .slice none 0 0] wx.heap.size] (by kernel_rfl) ?ob8 ?done8
  case ob8 =>
    refine And.intro (ob_move rfl (wt_none rfl) (ev_far rfl rfl) (fun _ _ h => h)) ?_
    refine And.intro (ob_call1 rfl Tryz.func24 (by kernel_rfl) (wt_none rfl) (ev_dep (j := 0) (by kernel_rfl) rfl rfl) (fun w2 u0 hb h0 => by obtain rfl := h0; exact (fleast_ok _ qs _ (k0.below hb) hne HL.out).mono fun e w3 h => RetQE.pd h)) ?_
    refine And.intro (ob_move rfl (wt_none rfl) (ev_dep (j := 1) (by kernel_rfl) rfl rfl) (fun _ _ h => h)) ?_
    refine And.intro (ob_extract rfl (wt_none rfl) (ev_dep (j := 2) (by kernel_rfl) rfl rfl) (fun w2 u hu => by obtain ⟨v, rfl, q1⟩ := hu; exact ⟨v, rfl, q1⟩)) ?_
    refine And.intro (ob_extract rfl (wt_none rfl) (ev_dep (j := 2) (by kernel_rfl) rfl rfl) (fun w2 u hu => by obtain ⟨v, rfl, q1⟩ := hu; exact ⟨_, rfl, rfl⟩)) ?_
    refine And.intro (ob_alloc (z := .agg #[.bool false, .slice none 0 0, .slice none 0 0]) rfl rfl (fun _ => by kernel_rfl) (fun _ _ hB h => ⟨_, rfl, hB, h⟩)) ?_
    trivial
  case done8 =>
    refine fun w1 hb1 v0 h0 v1 h1 v2 h2 v3 h3 v4 h4 v5 h5 d5 b hbf => ?_
    obtain rfl := h0; obtain rfl := h4
    clear h1
    clear h2
    have q3 := h3
    obtain ⟨g8_5, rfl, hg5, B5⟩ := h5
    simp only [Act.put, List.setIfInBounds_toArray, List.set_cons_zero, List.set_cons_succ] at hbf
    subst hbf
    replace BR0 := BR0.below hb1
    replace BR1 := BR1.below hb1
    replace bb := bb.trans (hb1.mono bb.size)
    have hsz1 := bb.size
    have BA5 := B5
    obtain ⟨u3, t3, rfl, q3, d3⟩ := q3
    obtain ⟨Alo, clo, rfl, _⟩ := id q3
    obtain ⟨Dlo, elo, rfl, _⟩ := id d3
    refine ops_store (i := 6) rfl rfl rfl rfl rfl rfl (cells := [.bool (ngB ((leastq qs)).num), .slice Alo (digs 4294967296 ((leastq qs)).num.natAbs).length clo, .slice Dlo (digs 4294967296 ((leastq qs)).den).length elo]) rfl BA5 rfl (by kernel_rfl) (one3 rfl rfl rfl) fun w2 hg2 BN2 => ?_
    replace q3 := off q3 BA5 no_ints3 hg2
    replace d3 := off d3 BA5 no_ints3 hg2
    replace BR0 := BR0.grown hg2 (by omega)
    replace BR1 := BR1.grown hg2 (by omega)
    replace bb := bb.trans ((Below.refl _ _).grown hg2 bb.size (fun g hg => by injection hg with hg; omega))
    have hsz2 := bb.size
    have Blo : Blk w2 (g8_5) _ _ := BN2
    have klos := q3
    have klod := d3
    have kloz : IsZ w2 (.agg #[.bool (ngB ((leastq qs)).num), .slice Alo (digs 4294967296 ((leastq qs)).num.natAbs).length clo]) (((leastq qs)).num) := ⟨_, rfl, klos⟩
    have klo : IsQ w2 (.agg #[.bool (ngB ((leastq qs)).num), .slice Alo (digs 4294967296 ((leastq qs)).num.natAbs).length clo, .slice Dlo (digs 4294967296 ((leastq qs)).den).length elo]) ((leastq qs)) := ⟨_, _, rfl, klos, klod⟩
    refine ops_assign (i := 7) (.int .i64 0) rfl rfl rfl rfl rfl fun b hbf => ?_
    simp only [Act.put, List.setIfInBounds_toArray, List.set_cons_zero, List.set_cons_succ] at hbf
    subst hbf
    refine ops_done ?_
    clear k0
    have k0 := sl0.below bb
    have sB := bb.size
    go_upto_region 2 with (fail)
    have lt2_2 := Blk.lt BR0
    have lt2_3 := Blk.lt BR1
    have lt2_5 := Blk.lt Blo
    refine flowp 6 [Pd.eq (.slice A0 qs.length c0), pqe ((greatq qs)) 0, pqe ((greatq qs)) 0, pqn ((greatq qs)), Pd.eq (.int .i64 0), pn 28 #[.bool false, .slice none 0 0, .slice none 0 0] w2.heap.size] (by kernel_rfl) ?ob9 ?done9
    case ob9 =>
      refine And.intro (ob_move rfl (wt_none rfl) (ev_far rfl rfl) (fun _ _ h => h)) ?_
      refine And.intro (ob_call1 rfl Tryz.func25 (by kernel_rfl) (wt_none rfl) (ev_dep (j := 0) (by kernel_rfl) rfl rfl) (fun w2 u0 hb h0 => by obtain rfl := h0; exact (fgreat_ok _ qs _ (k0.below hb) hne HL.out).mono fun e w3 h => RetQE.pd h)) ?_
      refine And.intro (ob_move rfl (wt_none rfl) (ev_dep (j := 1) (by kernel_rfl) rfl rfl) (fun _ _ h => h)) ?_
      refine And.intro (ob_extract rfl (wt_none rfl) (ev_dep (j := 2) (by kernel_rfl) rfl rfl) (fun w2 u hu => by obtain ⟨v, rfl, q1⟩ := hu; exact ⟨v, rfl, q1⟩)) ?_
      refine And.intro (ob_extract rfl (wt_none rfl) (ev_dep (j := 2) (by kernel_rfl) rfl rfl) (fun w2 u hu => by obtain ⟨v, rfl, q1⟩ := hu; exact ⟨_, rfl, rfl⟩)) ?_
      refine And.intro (ob_alloc (z := .agg #[.bool false, .slice none 0 0, .slice none 0 0]) rfl rfl (fun _ => by kernel_rfl) (fun _ _ hB h => ⟨_, rfl, hB, h⟩)) ?_
      trivial
    case done9 =>
      refine fun w3 hb3 v0 h0 v1 h1 v2 h2 v3 h3 v4 h4 v5 h5 d5 b hbf => ?_
      obtain rfl := h0; obtain rfl := h4
      clear h1
      clear h2
      have q3 := h3
      obtain ⟨g9_5, rfl, hg5, B5⟩ := h5
      simp only [Act.put, List.setIfInBounds_toArray, List.set_cons_zero, List.set_cons_succ] at hbf
      subst hbf
      replace BR0 := BR0.below hb3
      replace BR1 := BR1.below hb3
      replace Blo := Blo.below hb3
      replace klos := klos.below hb3
      replace klod := klod.below hb3
      replace kloz := kloz.below hb3
      replace klo := klo.below hb3
      replace bb := bb.trans (hb3.mono bb.size)
      have hsz3 := bb.size
      have BA7 := B5
      obtain ⟨u3, t3, rfl, q3, d3⟩ := q3
      obtain ⟨Ahi, chi, rfl, _⟩ := id q3
      obtain ⟨Dhi, ehi, rfl, _⟩ := id d3
      refine ops_store (i := 6) rfl rfl rfl rfl rfl rfl (cells := [.bool (ngB ((greatq qs)).num), .slice Ahi (digs 4294967296 ((greatq qs)).num.natAbs).length chi, .slice Dhi (digs 4294967296 ((greatq qs)).den).length ehi]) rfl BA7 rfl (by kernel_rfl) (one3 rfl rfl rfl) fun w4 hg4 BN4 => ?_
      replace q3 := off q3 BA7 no_ints3 hg4
      replace d3 := off d3 BA7 no_ints3 hg4
      replace BR0 := BR0.grown hg4 (by omega)
      replace BR1 := BR1.grown hg4 (by omega)
      replace klos := off klos BA7 no_ints3 hg4
      replace klod := off klod BA7 no_ints3 hg4
      replace kloz : IsZ w4 (.agg #[.bool (ngB ((leastq qs)).num), .slice Alo (digs 4294967296 ((leastq qs)).num.natAbs).length clo]) (((leastq qs)).num) := ⟨_, rfl, klos⟩
      replace klo : IsQ w4 (.agg #[.bool (ngB ((leastq qs)).num), .slice Alo (digs 4294967296 ((leastq qs)).num.natAbs).length clo, .slice Dlo (digs 4294967296 ((leastq qs)).den).length elo]) ((leastq qs)) := ⟨_, _, rfl, klos, klod⟩
      replace Blo := Blo.grown hg4 (by omega)
      replace bb := bb.trans ((Below.refl _ _).grown hg4 bb.size (fun g hg => by injection hg with hg; omega))
      have hsz4 := bb.size
      have Bhi : Blk w4 (g9_5) _ _ := BN4
      have khis := q3
      have khid := d3
      have khiz : IsZ w4 (.agg #[.bool (ngB ((greatq qs)).num), .slice Ahi (digs 4294967296 ((greatq qs)).num.natAbs).length chi]) (((greatq qs)).num) := ⟨_, rfl, khis⟩
      have khi : IsQ w4 (.agg #[.bool (ngB ((greatq qs)).num), .slice Ahi (digs 4294967296 ((greatq qs)).num.natAbs).length chi, .slice Dhi (digs 4294967296 ((greatq qs)).den).length ehi]) ((greatq qs)) := ⟨_, _, rfl, khis, khid⟩
      refine ops_assign (i := 7) (.int .i64 0) rfl rfl rfl rfl rfl fun b hbf => ?_
      simp only [Act.put, List.setIfInBounds_toArray, List.set_cons_zero, List.set_cons_succ] at hbf
      subst hbf
      refine ops_done ?_
      have hlR0 := BR0.lt
      have hlR1 := BR1.lt
      go_upto_region 3 with (fail)
      refine flowi 3 [Pd.eq (.agg #[.bool (ngB ((leastq qs)).num), .slice Alo (digs 4294967296 ((leastq qs)).num.natAbs).length clo, .slice Dlo (digs 4294967296 ((leastq qs)).den).length elo]), Pd.eq (.agg #[.bool (ngB ((greatq qs)).num), .slice Ahi (digs 4294967296 ((greatq qs)).num.natAbs).length chi, .slice Dhi (digs 4294967296 ((greatq qs)).den).length ehi]), Pd.eq (.int .i64 0)] (by kernel_rfl) [1, 2] (by kernel_rfl) (fun _ _ _ d _ h => by cases d <;> exact h) (HW := fun w2 => Blk w2 g9_5 28 #[.bool (ngB ((greatq qs)).num), .slice Ahi (digs 4294967296 ((greatq qs)).num.natAbs).length chi, .slice Dhi (digs 4294967296 ((greatq qs)).den).length ehi]) (fun w2 hb => Bhi.below hb) ⟨⟨_, rfl, latei_load rfl (wt_none rfl) (ev_far rfl rfl) (fun w2 hb => run_loadAll Tryz.underlying28 rfl (by kernel_rfl) hb) (fun _ _ => rfl)⟩, ⟨_, rfl, latei_move rfl (wt_none rfl) (ev_far rfl rfl) (fun _ _ h => h)⟩, trivial⟩ ?ob10 ?done10
      case ob10 =>
        refine And.intro (ob_load rfl (wt_none rfl) (ev_far rfl rfl) (fun w2 hb => run_loadAll Tryz.underlying28 rfl (by kernel_rfl) (Blo.drew.below hb)) (fun _ _ => rfl)) ?_
        refine And.intro (ob_load rfl (wt_none rfl) (ev_far rfl rfl) (fun w2 hb => run_loadAll Tryz.underlying28 rfl (by kernel_rfl) (Bhi.drew.below hb)) (fun _ _ => rfl)) ?_
        refine And.intro (ob_move rfl (wt_none rfl) (ev_far rfl rfl) (fun _ _ h => h)) ?_
        trivial
      case done10 =>
        refine fun w5 hb5 v0 h0 v1 h1 v2 h2 b hbf => ?_
        obtain rfl := h0; obtain rfl := h1; obtain rfl := h2
        simp only [Act.put, List.setIfInBounds_toArray, List.set_cons_zero, List.set_cons_succ] at hbf
        subst hbf
        replace BR0 := BR0.below hb5
        replace BR1 := BR1.below hb5
        replace Blo := Blo.below hb5
        replace klos := klos.below hb5
        replace klod := klod.below hb5
        replace kloz := kloz.below hb5
        replace klo := klo.below hb5
        replace Bhi := Bhi.below hb5
        replace khis := khis.below hb5
        replace khid := khid.below hb5
        replace khiz := khiz.below hb5
        replace khi := khi.below hb5
        replace bb := bb.trans (hb5.mono bb.size)
        have hsz5 := bb.size
        refine anyi_store (i := 3) (fun w' hg' => Bhi.grown hg' (by omega)) (by kernel_rfl) rfl rfl rfl rfl rfl rfl (cells := [.bool (ngB ((leastq qs)).num), .slice Alo (digs 4294967296 ((leastq qs)).num.natAbs).length clo, .slice Dlo (digs 4294967296 ((leastq qs)).den).length elo]) rfl BR0 rfl (by kernel_rfl) (one3 rfl rfl rfl) fun w8 hg8 B8 => ?_
        replace klos := off klos BR0 no_ints3 hg8
        replace klod := off klod BR0 no_ints3 hg8
        replace khis := off khis BR0 no_ints3 hg8
        replace khid := off khid BR0 no_ints3 hg8
        replace Bhi := Bhi.grown hg8 (by omega)
        replace BR1 := BR1.grown hg8 (by omega)
        replace bb := bb.trans ((Below.refl _ _).grown hg8 bb.size (fun g hg => by injection hg with hg; omega))
        refine anyi_store (i := 4) (fun w' hg' => Bhi.grown hg' (by omega)) (by kernel_rfl) rfl rfl rfl rfl rfl rfl (cells := [.bool (ngB ((greatq qs)).num), .slice Ahi (digs 4294967296 ((greatq qs)).num.natAbs).length chi, .slice Dhi (digs 4294967296 ((greatq qs)).den).length ehi]) rfl BR1 rfl (by kernel_rfl) (one3 rfl rfl rfl) fun w9 hg9 B9 => ?_
        replace klos := off klos BR1 no_ints3 hg9
        replace klod := off klod BR1 no_ints3 hg9
        replace khis := off khis BR1 no_ints3 hg9
        replace khid := off khid BR1 no_ints3 hg9
        replace Bhi := Bhi.grown hg9 (by omega)
        have B8' : Blk w8 w.heap.size _ _ := B8
        replace B8' := B8'.grown hg9 (by omega)
        replace bb := bb.trans ((Below.refl _ _).grown hg9 bb.size (fun g hg => by injection hg with hg; omega))
        obtain ⟨C0, C1, C2, _, _, _⟩ := three B8'
        obtain ⟨E0, E1, E2, _, _, _⟩ := three B9
        refine anyi_assign (i := 5) (.int .i64 0) Bhi (by kernel_rfl) rfl rfl rfl rfl rfl fun b hbf => ?_
        simp only [Act.put, List.setIfInBounds_toArray, List.set_cons_zero, List.set_cons_succ] at hbf
        subst hbf
        refine anyh_done (by kernel_rfl) ?_
        go_wp2
        exact bodyPost_ret (v := .tuple #[.agg #[.bool (ngB ((leastq qs)).num), .slice Alo (digs 4294967296 ((leastq qs)).num.natAbs).length clo, .slice Dlo (digs 4294967296 ((leastq qs)).den).length elo], .agg #[.bool (ngB ((greatq qs)).num), .slice Ahi (digs 4294967296 ((greatq qs)).num.natAbs).length chi, .slice Dhi (digs 4294967296 ((greatq qs)).den).length ehi], .int .i64 0]) (by simp [results, Tryz.results37, go_sem, C0, C1, C2, E0, E1, E2]) rfl ⟨_, _, rfl, ⟨_, _, rfl, klos, klod⟩, ⟨_, _, rfl, khis, khid⟩, bb⟩
set_option maxHeartbeats 1600000 in
set_option maxRecDepth 100000 in
theorem works10_any (w : World) :
    Calls Tryz.prog 23 #[] w (RetV (.bool true) w) := by
  have hE : sharesE [1, 3] = 0 := by decide +kernel
  have hL : sharesL [1, 3] = [mkRat 1 4, mkRat 3 4] := by decide +kernel
  have HWB : Hid (true = decide (wholeQ [mkRat 1 4, mkRat 3 4])) := by show _ = _; decide +kernel
  have lA : lenQ (mkRat 1 4) 2 := lenQ_mk (by omega) (dig32 (by decide)) (dig32 (by decide))
  have lB : lenQ (mkRat 3 4) 2 := lenQ_mk (by omega) (dig32 (by decide)) (dig32 (by decide))
  have HLS : Hid ((∀ q ∈ [mkRat 1 4, mkRat 3 4], lenQ q 2) ∧ (2 + 1) * [mkRat 1 4, mkRat 3 4].length + 1 ≤ 1000) := ⟨fun q hq => by rcases List.mem_cons.1 hq with rfl | hq; exact lA; obtain rfl := List.mem_singleton.1 hq; exact lB, by decide⟩
  obtain ⟨x0, x1, _, _⟩ := Blk.two (Blk.new w 3 #[.int .i64 1, .int .i64 3])
  have hI : IsI (w.alloc (.cells #[.int .i64 1, .int .i64 3] 3)) (.slice (some ⟨w.heap.size, 0, none⟩) 2 2) [1, 3] := ⟨_, 2, rfl, by decide, by decide, by decide, fun i z hz => by
    match i, hz with
    | 0, hz => obtain rfl : (1 : Int) = z := by simpa using hz
               exact ⟨_, rfl, x0⟩
    | 1, hz => obtain rfl : (3 : Int) = z := by simpa using hz
               exact ⟨_, rfl, x1⟩
    | i + 2, hz => simp at hz⟩
  have con := fshares_any _ [1, 3] _ hI (by decide)
  rw [hE, hL] at con
  have b0 := below_alloc (w := w) (Nat.le_refl _) (.cells #[.int .i64 1, .int .i64 3] 3)
  clear x0 x1 hI hE hL
  go_enter Tryz.func23, Tryz.ntmps23
  go_wp2_with fail
  refine con.mono ?_
  rintro e w1 ⟨V, rfl, hV0, hb1⟩
  clear con
  rw [if_pos rfl] at hV0
  have hV : SlF .u64 4294967296 w1 V [mkRat 1 4, mkRat 3 4] := hV0
  clear hV0
  have bb := b0.trans (hb1.mono b0.size)
  have hsz1 := bb.size
  obtain ⟨A_, c_, rfl, _, _⟩ := hV.shape
  obtain ⟨g_, o_, ua, ta, hA_, lt0, e0, e1, e2, es, ed⟩ := hV.at_ (i := 0) (q := mkRat 1 4) rfl
  subst hA_
  obtain ⟨g2, o2, ub, tb, hA_, lt1, y0, y1, y2, ys, yd⟩ := hV.at_ (i := 1) (q := mkRat 3 4) rfl
  injection hA_ with hA_
  injection hA_ with hg_ ho_ _
  subst hg_
  subst ho_
  obtain ⟨Aa, ca, rfl, _⟩ := id es
  obtain ⟨Da, da, rfl, _⟩ := id ed
  obtain ⟨Ab, cb, rfl, _⟩ := id ys
  obtain ⟨Db, db, rfl, _⟩ := id yd
  have ka : IsQ w1 (.agg #[.bool (ngB (mkRat 1 4).num), .slice Aa (digs 4294967296 (mkRat 1 4).num.natAbs).length ca, .slice Da (digs 4294967296 (mkRat 1 4).den).length da]) (mkRat 1 4) := ⟨_, _, rfl, es, ed⟩
  have kb : IsQ w1 (.agg #[.bool (ngB (mkRat 3 4).num), .slice Ab (digs 4294967296 (mkRat 3 4).num.natAbs).length cb, .slice Db (digs 4294967296 (mkRat 3 4).den).length db]) (mkRat 3 4) := ⟨_, _, rfl, ys, yd⟩
  clear b0 hb1
  go_upto_region 2 with (fail)
  refine flow 28 [Pd.eq (.int .i64 0), Pd.eq (.bool true), Pd.eq (.bool true), Pd.eq (.slice (some ⟨g_, o_, none⟩) [mkRat 1 4, mkRat 3 4].length c_), Pd.eq (.int .i64 ((2 : Nat) : Int)), Pd.eq (.bool true), Pd.eq (.bool true), Pd.eq (.bool true), Pd.eq (.slice (some ⟨g_, o_, none⟩) [mkRat 1 4, mkRat 3 4].length c_), Pd.eq (.pointer (some ⟨g_, o_ + 0 * 3, none⟩)), Pd.eq (.agg #[.bool (ngB (mkRat 1 4).num), .slice Aa (digs 4294967296 (mkRat 1 4).num.natAbs).length ca, .slice Da (digs 4294967296 (mkRat 1 4).den).length da]), pp ((mkRat 1 4)), pqn ((mkRat 1 4)), Pd.eq (.bool true), Pd.eq (.bool true), Pd.eq (.bool true), Pd.eq (.slice (some ⟨g_, o_, none⟩) [mkRat 1 4, mkRat 3 4].length c_), Pd.eq (.pointer (some ⟨g_, o_ + 1 * 3, none⟩)), Pd.eq (.agg #[.bool (ngB (mkRat 3 4).num), .slice Ab (digs 4294967296 (mkRat 3 4).num.natAbs).length cb, .slice Db (digs 4294967296 (mkRat 3 4).den).length db]), pp ((mkRat 3 4)), pqn ((mkRat 3 4)), Pd.eq (.bool true), Pd.eq (.bool true), Pd.eq (.bool true), Pd.eq (.slice (some ⟨g_, o_, none⟩) [mkRat 1 4, mkRat 3 4].length c_), Pd.eq (.bool true), Pd.eq (.bool true), Pd.eq (.bool true)] (by kernel_rfl) (by kernel_rfl) ?ob1 ?done1
  case ob1 =>
    refine And.intro (ob_move rfl (wt_none rfl) (ev_far rfl rfl) (fun _ _ h => h)) ?_
    refine And.intro (ob_bin rfl (wt_none rfl) (ev_dep (j := 0) (by kernel_rfl) rfl rfl) (ev_const _) (fun _ _ _ hx hy => ⟨.bool ((0 : Int) == 0), by rw [hx, hy]; exact bin_eql_int _ _ _ _ _, congrArg Value.bool (by decide)⟩)) ?_
    refine And.intro (ob_move rfl (wt_none rfl) (ev_dep (j := 1) (by kernel_rfl) rfl rfl) (fun _ _ h => h)) ?_
    refine And.intro (ob_move rfl (wt_dep (c := true) (b := true) (g := 2) rfl (by kernel_rfl) rfl rfl rfl (by exact fun _ _ h => h)) (ev_far rfl rfl) (fun _ _ h => h)) ?_
    refine And.intro (ob_len rfl (wt_dep (c := true) (b := true) (g := 2) rfl (by kernel_rfl) rfl rfl rfl (by exact fun _ _ h => h)) (ev_dep (j := 3) (by kernel_rfl) rfl rfl) (fun _ _ hx => ⟨_, by rw [hx]; exact len_slice Tryz.underlying22 _ _ _ _, rfl⟩)) ?_
    refine And.intro (ob_bin rfl (wt_dep (c := true) (b := true) (g := 2) rfl (by kernel_rfl) rfl rfl rfl (by exact fun _ _ h => h)) (ev_dep (j := 4) (by kernel_rfl) rfl rfl) (ev_const _) (fun _ _ _ hx hy => ⟨.bool true, by rw [hx, hy, bin_eql_int]; rfl, rfl⟩)) ?_
    refine And.intro (ob_pick (b := true) rfl (wt_none rfl) (ev_dep (j := 2) (by kernel_rfl) rfl rfl) (ev_dep (j := 5) (by kernel_rfl) rfl rfl) (fun _ _ h => h)) ?_
    refine And.intro (ob_move rfl (wt_none rfl) (ev_dep (j := 6) (by kernel_rfl) rfl rfl) (fun _ _ h => h)) ?_
    refine And.intro (ob_move rfl (wt_dep (c := true) (b := true) (g := 7) rfl (by kernel_rfl) rfl rfl rfl (by exact fun _ _ h => h)) (ev_far rfl rfl) (fun _ _ h => h)) ?_
    refine And.intro (ob_indexAddr rfl (wt_dep (c := true) (b := true) (g := 7) rfl (by kernel_rfl) rfl rfl rfl (by exact fun _ _ h => h)) (ev_dep (j := 8) (by kernel_rfl) rfl rfl) (ev_const _) (fun _ _ _ hx hy => ⟨_, by rw [hx, hy]; exact index3 (k := 0) Tryz.underlying22 (by kernel_rfl) lt0 _, rfl⟩)) ?_
    refine And.intro (ob_load rfl (wt_dep (c := true) (b := true) (g := 7) rfl (by kernel_rfl) rfl rfl rfl (by exact fun _ _ h => h)) (ev_dep (j := 9) (by kernel_rfl) rfl rfl) (fun w2 hb => load3 Tryz.underlying28 rfl (by kernel_rfl) ((hb.cell (World.block_lt_of_cell? w1 _ e0)).trans e0) ((hb.cell (World.block_lt_of_cell? w1 _ e1)).trans e1) ((hb.cell (World.block_lt_of_cell? w1 _ e2)).trans e2)) (fun _ _ => rfl)) ?_
    refine And.intro (ob_call2 rfl Tryz.func21 (by kernel_rfl) (wt_dep (c := true) (b := true) (g := 7) rfl (by kernel_rfl) rfl rfl rfl (by exact fun _ _ h => h)) (ev_const _) (ev_const _) (fun w2 u0 u1 hb h0 h1 => by obtain rfl := h0; obtain rfl := h1; exact (qnum_any 1 4 _ 4 rfl (by omega) (by omega) (by omega) (by omega)).mono fun e w3 h => RetPF.pd h)) ?_
    refine And.intro (ob_call1 rfl Tryz.func13 (by kernel_rfl) (wt_dep (c := true) (b := true) (g := 7) rfl (by kernel_rfl) rfl rfl rfl (by exact fun _ _ h => h)) (ev_dep (j := 11) (by kernel_rfl) rfl rfl) (fun w2 u0 hb h0 => by exact (qback_any _ _ _ h0 (lA.mono (by decide))).mono fun e w3 h => RetQn.pd (RetQ.n h))) ?_
    refine And.intro (ob_call2 rfl Tryz.func11 (by kernel_rfl) (wt_dep (c := true) (b := true) (g := 7) rfl (by kernel_rfl) rfl rfl rfl (by exact fun _ _ h => h)) (ev_dep (j := 10) (by kernel_rfl) rfl rfl) (ev_dep (j := 12) (by kernel_rfl) rfl rfl) (fun w2 u0 u1 hb h0 h1 => by obtain rfl := h0; exact (qsame_eq _ _ ((mkRat 1 4)) ((mkRat 1 4)) _ (ka.drew.below hb) h1 rfl).mono fun e w3 h => RetV.pd h)) ?_
    refine And.intro (ob_pick (b := true) rfl (wt_none rfl) (ev_dep (j := 7) (by kernel_rfl) rfl rfl) (ev_dep (j := 13) (by kernel_rfl) rfl rfl) (fun _ _ h => h)) ?_
    refine And.intro (ob_move rfl (wt_none rfl) (ev_dep (j := 14) (by kernel_rfl) rfl rfl) (fun _ _ h => h)) ?_
    refine And.intro (ob_move rfl (wt_dep (c := true) (b := true) (g := 15) rfl (by kernel_rfl) rfl rfl rfl (by exact fun _ _ h => h)) (ev_far rfl rfl) (fun _ _ h => h)) ?_
    refine And.intro (ob_indexAddr rfl (wt_dep (c := true) (b := true) (g := 15) rfl (by kernel_rfl) rfl rfl rfl (by exact fun _ _ h => h)) (ev_dep (j := 16) (by kernel_rfl) rfl rfl) (ev_const _) (fun _ _ _ hx hy => ⟨_, by rw [hx, hy]; exact index3 (k := 1) Tryz.underlying22 (by kernel_rfl) lt1 _, rfl⟩)) ?_
    refine And.intro (ob_load rfl (wt_dep (c := true) (b := true) (g := 15) rfl (by kernel_rfl) rfl rfl rfl (by exact fun _ _ h => h)) (ev_dep (j := 17) (by kernel_rfl) rfl rfl) (fun w2 hb => load3 Tryz.underlying28 rfl (by kernel_rfl) ((hb.cell (World.block_lt_of_cell? w1 _ y0)).trans y0) ((hb.cell (World.block_lt_of_cell? w1 _ y1)).trans y1) ((hb.cell (World.block_lt_of_cell? w1 _ y2)).trans y2)) (fun _ _ => rfl)) ?_
    refine And.intro (ob_call2 rfl Tryz.func21 (by kernel_rfl) (wt_dep (c := true) (b := true) (g := 15) rfl (by kernel_rfl) rfl rfl rfl (by exact fun _ _ h => h)) (ev_const _) (ev_const _) (fun w2 u0 u1 hb h0 h1 => by obtain rfl := h0; obtain rfl := h1; exact (qnum_any 3 4 _ 4 rfl (by omega) (by omega) (by omega) (by omega)).mono fun e w3 h => RetPF.pd h)) ?_
    refine And.intro (ob_call1 rfl Tryz.func13 (by kernel_rfl) (wt_dep (c := true) (b := true) (g := 15) rfl (by kernel_rfl) rfl rfl rfl (by exact fun _ _ h => h)) (ev_dep (j := 19) (by kernel_rfl) rfl rfl) (fun w2 u0 hb h0 => by exact (qback_any _ _ _ h0 (lB.mono (by decide))).mono fun e w3 h => RetQn.pd (RetQ.n h))) ?_
    refine And.intro (ob_call2 rfl Tryz.func11 (by kernel_rfl) (wt_dep (c := true) (b := true) (g := 15) rfl (by kernel_rfl) rfl rfl rfl (by exact fun _ _ h => h)) (ev_dep (j := 18) (by kernel_rfl) rfl rfl) (ev_dep (j := 20) (by kernel_rfl) rfl rfl) (fun w2 u0 u1 hb h0 h1 => by obtain rfl := h0; exact (qsame_eq _ _ ((mkRat 3 4)) ((mkRat 3 4)) _ (kb.drew.below hb) h1 rfl).mono fun e w3 h => RetV.pd h)) ?_
    refine And.intro (ob_pick (b := true) rfl (wt_none rfl) (ev_dep (j := 15) (by kernel_rfl) rfl rfl) (ev_dep (j := 21) (by kernel_rfl) rfl rfl) (fun _ _ h => h)) ?_
    refine And.intro (ob_move rfl (wt_none rfl) (ev_dep (j := 22) (by kernel_rfl) rfl rfl) (fun _ _ h => h)) ?_
    refine And.intro (ob_move rfl (wt_dep (c := true) (b := true) (g := 23) rfl (by kernel_rfl) rfl rfl rfl (by exact fun _ _ h => h)) (ev_far rfl rfl) (fun _ _ h => h)) ?_
    refine And.intro (ob_call1 rfl Tryz.func17 (by kernel_rfl) (wt_dep (c := true) (b := true) (g := 23) rfl (by kernel_rfl) rfl rfl rfl (by exact fun _ _ h => h)) (ev_dep (j := 24) (by kernel_rfl) rfl rfl) (fun w2 u0 hb h0 => by obtain rfl := h0; exact (fwhole_any _ [mkRat 1 4, mkRat 3 4] 2 true _ (hV.drew.below hb) HLS.out HWB.out).mono fun e w3 h => RetV.pd h)) ?_
    refine And.intro (ob_pick (b := true) rfl (wt_none rfl) (ev_dep (j := 23) (by kernel_rfl) rfl rfl) (ev_dep (j := 25) (by kernel_rfl) rfl rfl) (fun _ _ h => h)) ?_
    refine And.intro (ob_assign rfl (wt_none rfl) (ev_dep (j := 26) (by kernel_rfl) rfl rfl) (fun _ _ h => h)) ?_
    trivial
  case done1 =>
    refine fun w2 hb2 v0 h0 v1 h1 v2 h2 v3 h3 v4 h4 v5 h5 v6 h6 v7 h7 v8 h8 v9 h9 v10 h10 v11 h11 v12 h12 v13 h13 v14 h14 v15 h15 v16 h16 v17 h17 v18 h18 v19 h19 v20 h20 v21 h21 v22 h22 v23 h23 v24 h24 v25 h25 v26 h26 v27 h27 b hbf => ?_
    obtain rfl := h0; obtain rfl := h1; obtain rfl := h2; obtain rfl := h3; obtain rfl := h4; obtain rfl := h5; obtain rfl := h6; obtain rfl := h7; obtain rfl := h8; obtain rfl := h9; obtain rfl := h10; obtain rfl := h13; obtain rfl := h14; obtain rfl := h15; obtain rfl := h16; obtain rfl := h17; obtain rfl := h18; obtain rfl := h21; obtain rfl := h22; obtain rfl := h23; obtain rfl := h24; obtain rfl := h25; obtain rfl := h26; obtain rfl := h27
    have q11 := h11
    have q12 := h12
    have q19 := h19
    have q20 := h20
    simp only [Act.put, List.setIfInBounds_toArray, List.set_cons_zero, List.set_cons_succ] at hbf
    subst hbf
    replace bb := bb.trans (hb2.mono bb.size)
    have hsz2 := bb.size
    refine any_done (by kernel_rfl) ?_
    go_wp2
    go_ret
    exact ⟨rfl, bb⟩
end Go.Proofs.YtlnmoledijlemaaGreat.rat
