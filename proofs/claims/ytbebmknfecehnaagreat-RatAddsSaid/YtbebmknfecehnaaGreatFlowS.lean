/- A region that draws its order, some of whose operations may come behind the first store (moves of what stands ahead, len, min): they are taken first, for they yield in whatever world. No program stands here. -/
import Derived.Test.YtbebmknfecehnaaGreatFlowL
namespace Go.Proofs.YtbebmknfecehnaaGreat.flow
open Go.RowKit Go.Proofs.YtbebmknfecehnaaGreat.num Go.Proofs.YtbebmknfecehnaaGreat.mem
set_option linter.unusedVariables false

/-- All but the operations S are waited for. -/
def covS (L : List Oper) (S : List Nat) (n : Nat) (o : Oper) : Bool :=
  (onsOf o).any (fun j => decide (n ≤ j)) || (List.range n).all fun i => S.contains i || (onsOf o).contains i || (List.range n).any fun k => decide (i < k) && ((L[k]?).map fun x => (onsOf x).contains i).getD false
theorem covS_all {L : List Oper} {S : List Nat} {o : Oper} {ms : List (Option Value)} (hlen : ms.length = L.length) (hS : ∀ q ∈ S, ∃ v, ms[q]? = some (some v)) (h : covS L S L.length o = true) (hdone : ∀ e ∈ o.after, Region.binds .any e = true → ∃ v, ms[e.on]? = some (some v))
    (hdc : ∀ (j : Nat) (x : Oper) (v : Value), L[j]? = some x → ms[j]? = some (some v) → ∀ e ∈ x.after, Region.binds .any e = true → ∃ v, ms[e.on]? = some (some v)) : ∀ i, i < L.length → ∃ v, ms[i]? = some (some v) := by
  unfold covS at h
  rw [Bool.or_eq_true] at h
  rcases h with h | h
  · obtain ⟨j, hj, hn⟩ := List.any_eq_true.1 h
    obtain ⟨e, he, hb, rfl⟩ := mem_onsOf.1 hj
    obtain ⟨v, hv⟩ := hdone e he hb
    have := (List.getElem?_eq_some_iff.1 hv).1
    simp at hn
    omega
  · have key : ∀ k i, i + k = L.length → i < L.length → ∃ v, ms[i]? = some (some v) := by
      intro k
      induction k using Nat.strongRecOn with
      | ind k ih =>
        intro i hik hi
        have h1 := List.all_eq_true.1 h i (by simp [hi])
        rw [Bool.or_eq_true, Bool.or_eq_true] at h1
        rcases h1 with (h1 | h1) | h1
        · exact hS i (by simpa using h1)
        · obtain ⟨e, he, hb, rfl⟩ := mem_onsOf.1 (by simpa using h1)
          exact hdone e he hb
        · obtain ⟨m, hm, h2⟩ := List.any_eq_true.1 h1
          rw [Bool.and_eq_true] at h2
          have hm2 : m < L.length := by simpa using hm
          have him : i < m := by simpa using h2.1
          obtain ⟨v, hv⟩ := ih (L.length - m) (by omega) m (by omega) hm2
          have h3 := h2.2
          rw [List.getElem?_eq_getElem hm2] at h3
          obtain ⟨e, he, hb, rfl⟩ := mem_onsOf.1 (by simpa using h3)
          exact hdc m _ v (List.getElem?_eq_getElem hm2) hv e he hb
    intro i hi
    exact key (L.length - i) i (by omega) hi

/-- All orders at once, when the operations S are up. -/
theorem some_main {P : Program} {Q : Exit → Act → World → Prop} {ops : Array Oper} {L L2 : List Oper} {Φ : List Pd} {w0 : World} {a0 : Act} {S : List Nat} (hop : ops.toList = L ++ L2) (hd : distinctB L = true) (hback : backB 0 L = true) (hcov : (L2.all fun o => covS L S L.length o) = true)
    (ob : Obs P Q ops L Φ w0 a0 0 L)
    (done : ∀ ms w, (∀ i, i < L.length → ∃ v, ms[i]? = some (some v)) → Inv L Φ w0 ms w → wpAny P .any ops Q L2.length (lst ms L2.length) (putM a0 L ms) w) :
    ∀ (k : Nat) (ms : List (Option Value)) (w : World), (ms.filter Option.isNone).length = k → Inv L Φ w0 ms w → (∀ q ∈ S, ∃ v, ms[q]? = some (some v)) → wpAny P .any ops Q (k + L2.length) (lst ms L2.length) (putM a0 L ms) w := by
  have hsz : ops.size = L.length + L2.length := by
    have := congrArg List.length hop
    simpa using this
  have hat : ∀ i, ops[i]? = (L ++ L2)[i]? := fun i => by rw [← hop, Array.getElem?_toList]
  intro k
  induction k with
  | zero =>
    intro ms w hk hI hS
    rw [Nat.zero_add]
    refine done ms w (fun i hi => ?_) hI
    have hi2 : i < ms.length := by rw [hI.len]; exact hi
    rcases hm : ms[i] with _ | v
    · exfalso
      have h1 : ms[i] ∈ ms.filter Option.isNone := List.mem_filter.2 ⟨List.getElem_mem hi2, by rw [hm]; rfl⟩
      rw [List.length_eq_zero_iff.1 hk] at h1
      simp at h1
    · exact ⟨v, by rw [List.getElem?_eq_getElem hi2, hm]⟩
  | succ k ih =>
    intro ms w hk hI hS
    -- some operation of L has not come up
    have hnot : ¬ ∀ i, i < L.length → ∃ v, ms[i]? = some (some v) := by
      intro hall
      have h0 : ms.filter Option.isNone = [] := by
        rw [List.filter_eq_nil_iff]
        intro m hm
        obtain ⟨i, hi, rfl⟩ := List.mem_iff_getElem.1 hm
        obtain ⟨v, hv⟩ := hall i (by rw [← hI.len]; exact hi)
        rw [List.getElem?_eq_getElem hi] at hv
        rw [Option.some.inj hv]; simp
      rw [h0] at hk; simp at hk
    -- the least one that has not may come up
    have least : ∀ n i, i ≤ n → i < L.length → Region.ready .any ops (lst ms L2.length) = [] → ∃ v, ms[i]? = some (some v) := by
      intro n
      induction n with
      | zero =>
        intro i hin hi hr
        obtain rfl : i = 0 := by omega
        have hi2 : 0 < ms.length := by rw [hI.len]; exact hi
        rcases hm : ms[0] with _ | v
        · exfalso
          have : 0 ∈ Region.ready .any ops (lst ms L2.length) := by
            rw [mem_ready]
            refine ⟨by rw [lst_lt hi2, hm]; rfl, L[0], by rw [hat, List.getElem?_append_left hi, List.getElem?_eq_getElem hi], ?_⟩
            intro e he hb
            have := backB_at L 0 0 _ hback (List.getElem?_eq_getElem hi) e he hb
            omega
          rw [hr] at this; simp at this
        · exact ⟨v, by rw [List.getElem?_eq_getElem hi2, hm]⟩
      | succ n ihn =>
        intro i hin hi hr
        have hi2 : i < ms.length := by rw [hI.len]; exact hi
        rcases hm : ms[i] with _ | v
        · exfalso
          have : i ∈ Region.ready .any ops (lst ms L2.length) := by
            rw [mem_ready]
            refine ⟨by rw [lst_lt hi2, hm]; rfl, L[i], by rw [hat, List.getElem?_append_left hi, List.getElem?_eq_getElem hi], ?_⟩
            intro e he hb
            have h1 := backB_at L 0 i _ hback (List.getElem?_eq_getElem hi) e he hb
            have h3 : e.on < ms.length := by rw [hI.len]; omega
            obtain ⟨v, hv⟩ := ihn e.on (by omega) (by omega) hr
            rw [lst_lt h3]
            rw [List.getElem?_eq_getElem h3] at hv
            rw [Option.some.inj hv]; rfl
          rw [hr] at this; simp at this
        · exact ⟨v, by rw [List.getElem?_eq_getElem hi2, hm]⟩
    rw [show k + 1 + L2.length = (k + L2.length) + 1 from by omega]
    refine ⟨fun hr => absurd (fun i hi => least i i (Nat.le_refl _) hi hr) hnot, fun i hi => ?_⟩
    obtain ⟨h1, o, ho, haft⟩ := mem_ready.1 hi
    have hdeps : ∀ e ∈ o.after, Region.binds .any e = true → ∃ v, ms[e.on]? = some (some v) := by
      intro e he hb
      have h2 := haft e he hb
      by_cases h3 : e.on < ms.length
      · rw [lst_lt h3] at h2
        obtain ⟨v, hv⟩ := Option.isSome_iff_exists.1 h2
        exact ⟨v, by rw [List.getElem?_eq_getElem h3, hv]⟩
      · rw [lst_ge (by omega)] at h2; cases h2
    by_cases hiL : i < L.length
    · have hi2 : i < ms.length := by rw [hI.len]; exact hiL
      rw [lst_lt hi2] at h1
      have hmi : ms[i]? = some none := by
        rw [List.getElem?_eq_getElem hi2]
        rcases hm : ms[i] with _ | v
        · rfl
        · rw [hm] at h1; cases h1
      have hoL : L[i]? = some o := by rw [hat, List.getElem?_append_left hiL] at ho; exact ho
      have hob := ob.at_ L 0 i o hoL
      rw [Nat.zero_add] at hob
      have hst := hob ms w ⟨hI.len, hI.below, hI.ty, hdeps⟩
      have hcount : ∀ v : Value, ((ms.set i (some v)).filter Option.isNone).length = k := by
        intro v
        have key : ∀ (l : List (Option Value)) (i : Nat), l[i]? = some none → ((l.set i (some v)).filter Option.isNone).length + 1 = (l.filter Option.isNone).length := by
          intro l
          induction l with
          | nil => intro i h; simp at h
          | cons m l ihl =>
            intro i h
            cases i with
            | zero =>
              obtain rfl : m = none := by simpa using h
              simp
            | succ i =>
              have := ihl i (by simpa using h)
              rw [List.set_cons_succ, List.filter_cons, List.filter_cons]
              split
              · simp only [List.length_cons]; omega
              · exact this
        have := key ms i hmi
        omega
      unfold wpOp
      rw [ho]
      simp only []
      by_cases hw : Region.wanted o (yielded ops (putM a0 L ms).tmps) = true
      · rw [if_pos hw] at hst ⊢
        refine .inl (Oper.wp_mono ?_ hst)
        rintro a' w' ⟨v, rfl, hb, hv, ha⟩
        rw [lst_set v hi2, putM_set v L ms a0 i o hd hoL hmi]
        exact ih _ w' (hcount v) (hI.step hoL hmi hdeps hb hv ha) (fun q hq => set_more (hS q hq))
      · rw [if_neg hw] at hst ⊢
        rw [lst_set undef hi2, putM_set undef L ms a0 i o hd hoL hmi]
        exact ih _ w (hcount undef) (hI.step hoL hmi hdeps (Below.refl _ _) hst.1 (fun h => by rw [hst.2] at h; cases h)) (fun q hq => set_more (hS q hq))
    · exfalso
      have ho2 : o ∈ L2 := by
        rw [hat, List.getElem?_append_right (by omega)] at ho
        exact List.mem_of_getElem? ho
      have hc := List.all_eq_true.1 hcov o ho2
      exact hnot (covS_all hI.len hS hc hdeps hI.dc)

/-- They may be taken one after another. -/
def takeB (ops : Array Oper) (L : List Oper) (m : Nat) : List Nat → List Bool → Bool
  | [], _ => true
  | q :: qs, bs => Region.free .any ops (bs ++ List.replicate m false).toArray q && (Region.ready .any ops (bs ++ List.replicate m false).toArray).contains q && ((L[q]?).map fun x => !isA x).getD false && takeB ops L m qs (bs.set q true)
/-- Each yields a value as told, in whatever world. -/
def Lates (P : Program) (ops : Array Oper) (L : List Oper) (Φ : List Pd) (w0 : World) (a0 : Act) : List Nat → Prop
  | [] => True
  | q :: qs => (∃ oq, L[q]? = some oq ∧ ∀ ms w1, St L Φ w0 oq ms w1 → ∃ v, Yields P ops oq v (putM a0 L ms) ∧ (ph Φ q).p w1 v) ∧ Lates P ops L Φ w0 a0 qs
theorem takes {P : Program} {Q : Exit → Act → World → Prop} {ops : Array Oper} {L L2 : List Oper} {Φ : List Pd} {w0 : World} {a0 : Act} (hop : ops.toList = L ++ L2) (hd : distinctB L = true) (hsel : Region.noSelect ops = true) (hQ : ∀ c a w d v, Q (.panic c) (a.put d v) w → Q (.panic c) a w) :
    ∀ (qs : List Nat) (k : Nat) (ms : List (Option Value)) (w : World), takeB ops L L2.length qs (ms.map Option.isSome) = true → Lates P ops L Φ w0 a0 qs → (ms.filter Option.isNone).length = k → Inv L Φ w0 ms w →
      (∀ (k' : Nat) (ms' : List (Option Value)), (ms'.filter Option.isNone).length = k' → Inv L Φ w0 ms' w → (∀ i, (i ∈ qs ∨ ∃ v, ms[i]? = some (some v)) → ∃ v, ms'[i]? = some (some v)) → wpAny P .any ops Q (k' + L2.length) (lst ms' L2.length) (putM a0 L ms') w) →
      wpAny P .any ops Q (k + L2.length) (lst ms L2.length) (putM a0 L ms) w
  | [], k, ms, w, _, _, hk, hI, h => h k ms hk hI fun i hi => by
      rcases hi with hi | hi
      · cases hi
      · exact hi
  | q :: qs, k, ms, w, hB, hl, hk, hI, h => by
    have hat : ∀ i, ops[i]? = (L ++ L2)[i]? := fun i => by rw [← hop, Array.getElem?_toList]
    have hB' : (Region.free .any ops (lst ms L2.length) q && (Region.ready .any ops (lst ms L2.length)).contains q && ((L[q]?).map fun x => !isA x).getD false && takeB ops L L2.length qs ((ms.map Option.isSome).set q true)) = true := hB
    rw [Bool.and_eq_true, Bool.and_eq_true, Bool.and_eq_true] at hB'
    obtain ⟨⟨⟨h1, h2⟩, h3⟩, h4⟩ := hB'
    obtain ⟨⟨oq, hq, late⟩, hl2⟩ := hl
    have hA : isA oq = false := by rw [hq] at h3; simpa using h3
    have hqL : q < L.length := (List.getElem?_eq_some_iff.1 hq).1
    have hq2 : q < ms.length := by rw [hI.len]; exact hqL
    obtain ⟨hl1, o, ho, haft⟩ := mem_ready.1 (List.contains_iff_mem.1 h2)
    have hoq : ops[q]? = some oq := by rw [hat, List.getElem?_append_left hqL]; exact hq
    obtain rfl : oq = o := by rw [hoq] at ho; exact Option.some.inj ho
    have hmq : ms[q]? = some none := by
      rw [lst_lt hq2] at hl1
      rw [List.getElem?_eq_getElem hq2]
      rcases hm : ms[q] with _ | v
      · rfl
      · rw [hm] at hl1; cases hl1
    have hdeps : ∀ e ∈ oq.after, Region.binds .any e = true → ∃ v, ms[e.on]? = some (some v) := by
      intro e he hb
      have h2 := haft e he hb
      by_cases h3 : e.on < ms.length
      · rw [lst_lt h3] at h2
        obtain ⟨v, hv⟩ := Option.isSome_iff_exists.1 h2
        exact ⟨v, by rw [List.getElem?_eq_getElem h3, hv]⟩
      · rw [lst_ge (by omega)] at h2; cases h2
    obtain ⟨v, hy, hp⟩ := late ms w ⟨hI.len, hI.below, hI.ty, hdeps⟩
    have hcnt : ((ms.set q (some v)).filter Option.isNone).length + 1 = (ms.filter Option.isNone).length := by
      have key : ∀ (l : List (Option Value)) (i : Nat), l[i]? = some none → ((l.set i (some v)).filter Option.isNone).length + 1 = (l.filter Option.isNone).length := by
        intro l
        induction l with
        | nil => intro i h; simp at h
        | cons m l ihl =>
          intro i h
          cases i with
          | zero =>
            obtain rfl : m = none := by simpa using h
            simp
          | succ i =>
            have := ihl i (by simpa using h)
            rw [List.set_cons_succ, List.filter_cons, List.filter_cons]
            split
            · simp only [List.length_cons]; omega
            · exact this
      exact key ms q hmq
    have hnext := takes hop hd hsel hQ qs (k - 1) (ms.set q (some v)) w (by rw [List.map_set]; exact h4) hl2 (by omega) (hI.step hq hmq hdeps (Below.refl _ _) hp (fun h => by rw [hA] at h; cases h)) (fun k' ms' hk' hI' hup => h k' ms' hk' hI' fun i hi => hup i (by
      rcases hi with hi | hi
      · rcases List.mem_cons.1 hi with rfl | hi
        · exact .inr ⟨v, by rw [List.getElem?_set_self hq2]⟩
        · exact .inl hi
      · exact .inr (set_more hi)))
    rw [← lst_set v hq2, ← putM_set v L ms a0 q oq hd hq hmq] at hnext
    rw [show k + L2.length = (k - 1 + L2.length) + 1 from by omega]
    exact wpAny_take hoq hsel h1 h2 (fun c a w h => hQ c a w _ v h) hy hnext

theorem flows_core {P : Program} {Q : Exit → Act → World → Prop} {ops : Array Oper} (n : Nat) (Φ : List Pd) {w : World} {a0 : Act} (S : List Nat)
    (h1 : distinctB (ops.toList.take n) = true) (h2 : backB 0 (ops.toList.take n) = true) (h3 : ((ops.toList.drop n).all fun o => covS (ops.toList.take n) S (ops.toList.take n).length o) = true) (h4 : Region.noSelect ops = true) (h5 : takeB ops (ops.toList.take n) (ops.toList.drop n).length S (List.replicate (ops.toList.take n).length false) = true) (hQ : ∀ c a w d v, Q (.panic c) (a.put d v) w → Q (.panic c) a w)
    (lates : Lates P ops (ops.toList.take n) Φ w a0 S)
    (ob : Obs P Q ops (ops.toList.take n) Φ w a0 0 (ops.toList.take n))
    (done : ∀ w', Below w.heap.size w w' → Done (fun a w' => wpAny P .any ops Q (ops.toList.drop n).length (List.replicate (ops.toList.take n).length true ++ List.replicate (ops.toList.drop n).length false).toArray a w') Φ w' 0 (ops.toList.take n) [] a0) : wpAny P .any ops Q ops.size (Array.replicate ops.size false) a0 w := by
  have hop : ops.toList = ops.toList.take n ++ ops.toList.drop n := (List.take_append_drop n _).symm
  generalize ops.toList.take n = L at *
  generalize ops.toList.drop n = L2 at *
  have hsz : ops.size = L.length + L2.length := by
    have := congrArg List.length hop
    simpa using this
  have none_ : ∀ (i : Nat) (v : Value), ¬ (List.replicate L.length (none : Option Value))[i]? = some (some v) := by
    intro i v h
    rw [List.getElem?_replicate] at h
    split at h <;> cases h
  have hI0 : Inv L Φ w (List.replicate L.length none) w := ⟨by simp, Below.refl _ _, fun i v h => absurd h (none_ i v), fun j x v _ h => absurd h (none_ j v), fun i j oi oj u v _ _ _ _ _ h _ => absurd h (none_ i u), fun i oi u _ _ h => absurd h (none_ i u)⟩
  have hmain := takes (P := P) (Q := Q) (ops := ops) (L := L) (L2 := L2) (Φ := Φ) (w0 := w) (a0 := a0) hop h1 h4 hQ S L.length (List.replicate L.length none) w (by rw [List.map_replicate]; exact h5) lates (by simp) hI0 (fun k' ms' hk' hI' hup =>
    some_main (S := S) hop h1 h2 h3 ob (fun ms w' hall hI => by
      rw [lst_end L2.length hI.len hall]
      have := done_all (K := fun a w' => wpAny P .any ops Q L2.length (List.replicate L.length true ++ List.replicate L2.length false).toArray a w') hI hall L 0 a0 [] (by simp) (by omega) (by simp) (done w' hI.below)
      simpa using this) k' ms' w hk' hI' (fun q hq => hup q (.inl hq)))
  rw [putM_none, lst_start, ← hsz] at hmain
  exact hmain
/-- A region that draws its order; the operations S are taken first. -/
theorem flows {P : Program} {Q : Exit → Act → World → Prop} {id : Nat} {ops : Array Oper} (n : Nat) (Φ : List Pd) {w : World} {a0 : Act} (hm : P.follows .mixedOrders = true) (S : List Nat)
    (hB : (distinctB (ops.toList.take n) && backB 0 (ops.toList.take n) && (ops.toList.drop n).all (fun o => covS (ops.toList.take n) S (ops.toList.take n).length o) && Region.noSelect ops && takeB ops (ops.toList.take n) (ops.toList.drop n).length S (List.replicate (ops.toList.take n).length false)) = true) (hQ : ∀ c a w d v, Q (.panic c) (a.put d v) w → Q (.panic c) a w)
    (lates : Lates P ops (ops.toList.take n) Φ w.drew a0 S)
    (ob : Obs P Q ops (ops.toList.take n) Φ w.drew a0 0 (ops.toList.take n))
    (done : ∀ w', Below w.heap.size w w' → Done (fun a w' => wpAny P .any ops Q (ops.toList.drop n).length (List.replicate (ops.toList.take n).length true ++ List.replicate (ops.toList.drop n).length false).toArray a w') Φ w' 0 (ops.toList.take n) [] a0) : (Code.region id ops true).wp P Q a0 w := by
  simp only [Bool.and_eq_true] at hB
  obtain ⟨⟨⟨⟨h1, h2⟩, h3⟩, h4⟩, h5⟩ := hB
  exact wp_region_any hm (flows_core n Φ (w := w.drew) S h1 h2 h3 h4 h5 hQ lates ob fun w' hb => done w' ((Below.refl _ w).drew.trans hb))

section
variable {P : Program} {ops : Array Oper} {L : List Oper} {Φ : List Pd} {w0 : World} {a0 : Act} {o : Oper} {G : Pd}
theorem late_val (hw : Wt ops L Φ w0 a0 o true) (h : ∀ ms w1, St L Φ w0 o ms w1 → ∃ v, (∀ w, (execOp (putM a0 L ms).eval o).run P w = .ok (.value v) w) ∧ G.p w1 v) : ∀ ms w1, St L Φ w0 o ms w1 → ∃ v, Yields P ops o v (putM a0 L ms) ∧ G.p w1 v := by
  intro ms w1 hS
  obtain ⟨v, h1, h2⟩ := h ms w1 hS
  exact ⟨v, .inl ⟨hw ms w1 hS, h1⟩, h2⟩
theorem late_move {x : Operand} {F : World → Value → Prop} (hop : o.op = .move x) (hw : Wt ops L Φ w0 a0 o true) (hx : Ev L Φ w0 a0 o x F) (hF : ∀ w v, F w v → G.p w v) : ∀ ms w1, St L Φ w0 o ms w1 → ∃ v, Yields P ops o v (putM a0 L ms) ∧ G.p w1 v :=
  late_val hw fun ms w1 hS => ⟨_, fun w => by unfold execOp; simp only [hop]; rfl, hF w1 _ (hx ms w1 hS)⟩
theorem late_len {x : Operand} {at_ : Array TypeId} {F : World → Value → Prop} (hop : o.op = .call { callee := .builtin .len, args := #[x], argTypes := at_ }) (hw : Wt ops L Φ w0 a0 o true) (hx : Ev L Φ w0 a0 o x F) (hr : ∀ w1 u, F w1 u → ∃ v, (∀ w, (Builtin.len_ at_ o.type #[u]).run P w = .ok v w) ∧ G.p w1 v) : ∀ ms w1, St L Φ w0 o ms w1 → ∃ v, Yields P ops o v (putM a0 L ms) ∧ G.p w1 v :=
  late_val hw fun ms w1 hS => by
    obtain ⟨v, h1, h2⟩ := hr w1 _ (hx ms w1 hS)
    exact ⟨v, fun w => by unfold execOp; simp only [hop, resolve, invoke, builtin, Sem.run_bind, Sem.run_pure, Result.andThen_ok, List.map_toArray, List.map_cons, List.map_nil, h1], h2⟩
theorem late_min {x y : Operand} {at_ : Array TypeId} {F H : World → Value → Prop} (hop : o.op = .call { callee := .builtin .min, args := #[x, y], argTypes := at_ }) (hw : Wt ops L Φ w0 a0 o true) (hx : Ev L Φ w0 a0 o x F) (hy : Ev L Φ w0 a0 o y H)
    (hr : ∀ w1 u v, F w1 u → H w1 v → ∃ r, (∀ w, (Builtin.min2 u v).run P w = .ok r w) ∧ G.p w1 r) : ∀ ms w1, St L Φ w0 o ms w1 → ∃ v, Yields P ops o v (putM a0 L ms) ∧ G.p w1 v :=
  late_val hw fun ms w1 hS => by
    obtain ⟨v, h1, h2⟩ := hr w1 _ _ (hx ms w1 hS) (hy ms w1 hS)
    exact ⟨v, fun w => by unfold execOp; simp [hop, resolve, invoke, builtin, Builtin.min_, h1], h2⟩
theorem late_slice_to {t : TypeId} {x y : Operand} {F H : World → Value → Prop} (hop : o.op = .slice t x none (some y) none) (hw : Wt ops L Φ w0 a0 o true) (hx : Ev L Φ w0 a0 o x F) (hy : Ev L Φ w0 a0 o y H)
    (hr : ∀ w1 u v, F w1 u → H w1 v → ∃ r, (∀ w, (Instr.sliceAt t u none (some v) none).run P w = .ok r w) ∧ G.p w1 r) : ∀ ms w1, St L Φ w0 o ms w1 → ∃ v, Yields P ops o v (putM a0 L ms) ∧ G.p w1 v :=
  late_val hw fun ms w1 hS => by
    obtain ⟨v, h1, h2⟩ := hr w1 _ _ (hx ms w1 hS) (hy ms w1 hS)
    exact ⟨v, fun w => by unfold execOp; simp only [hop, Sem.run_bind, Option.map_none, Option.map_some, h1]; rfl, h2⟩
end
end Go.Proofs.YtbebmknfecehnaaGreat.flow
