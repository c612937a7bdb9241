/- A region that draws its order, one of whose operations may come behind the first store ('lateStores': the second extract of 'x, y := f(a, b)'): it is taken first all the same, for it yields in whatever world. No program stands here. -/
import Derived.Test.YtbebmknfecehnaaGreatFlow
namespace Go.Proofs.YtbebmknfecehnaaGreat.flow
open Go.RowKit Go.Proofs.YtbebmknfecehnaaGreat.num Go.Proofs.YtbebmknfecehnaaGreat.mem
set_option linter.unusedVariables false

/-- All but operation q are waited for. -/
def covQ (L : List Oper) (q n : Nat) (o : Oper) : Bool :=
  (List.range n).all fun i => i == q || (onsOf o).contains i || (List.range n).any fun k => decide (i < k) && (!(k == q) && ((L[k]?).map fun x => (onsOf x).contains i).getD false)
theorem covQ_all {L : List Oper} {q : Nat} {o : Oper} {ms : List (Option Value)} (hlen : ms.length = L.length) (h : covQ L q L.length o = true) (hdone : ∀ e ∈ o.after, Region.binds .any e = true → ∃ v, ms[e.on]? = some (some v))
    (hdc : ∀ (j : Nat) (x : Oper) (v : Value), L[j]? = some x → ms[j]? = some (some v) → ∀ e ∈ x.after, Region.binds .any e = true → ∃ v, ms[e.on]? = some (some v)) : ∀ i, i < L.length → i ≠ q → ∃ v, ms[i]? = some (some v) := by
  unfold covQ at h
  have key : ∀ k i, i + k = L.length → i < L.length → i ≠ q → ∃ v, ms[i]? = some (some v) := by
    intro k
    induction k using Nat.strongRecOn with
    | ind k ih =>
      intro i hik hi hiq
      have h1 := List.all_eq_true.1 h i (by simp [hi])
      rw [Bool.or_eq_true, Bool.or_eq_true] at h1
      rcases h1 with (h1 | h1) | h1
      · exact absurd (by simpa using h1) hiq
      · obtain ⟨e, he, hb, rfl⟩ := mem_onsOf.1 (by simpa using h1)
        exact hdone e he hb
      · obtain ⟨m, hm, h2⟩ := List.any_eq_true.1 h1
        rw [Bool.and_eq_true, Bool.and_eq_true] at h2
        have hm2 : m < L.length := by simpa using hm
        have him : i < m := by simpa using h2.1
        have hmq : m ≠ q := by simpa using h2.2.1
        obtain ⟨v, hv⟩ := ih (L.length - m) (by omega) m (by omega) hm2 hmq
        have h3 := h2.2.2
        rw [List.getElem?_eq_getElem hm2] at h3
        obtain ⟨e, he, hb, rfl⟩ := mem_onsOf.1 (by simpa using h3)
        exact hdc m _ v (List.getElem?_eq_getElem hm2) hv e he hb
  intro i hi hiq
  exact key (L.length - i) i (by omega) hi hiq
/-- All of the first n are up but q. -/
def lstq (n m q : Nat) : Array Bool := ((List.replicate n true).set q false ++ List.replicate m false).toArray
theorem lst_but {L : List Oper} {q m : Nat} {ms : List (Option Value)} (hlen : ms.length = L.length) (hbut : ∀ i, i < L.length → i ≠ q → ∃ v, ms[i]? = some (some v)) (hmq : ms[q]? = some none) : lst ms m = lstq L.length m q := by
  unfold lst lstq
  congr 2
  refine List.ext_getElem (by simp [hlen]) fun i h1 h2 => ?_
  have h3 : i < ms.length := by simpa using h1
  rw [List.getElem_map, List.getElem_set]
  by_cases e : q = i
  · subst e
    rw [if_pos rfl]
    rw [List.getElem?_eq_getElem h3] at hmq
    rw [Option.some.inj hmq]; rfl
  · rw [if_neg e]
    obtain ⟨v, hv⟩ := hbut i (by omega) (fun h => e h.symm)
    rw [List.getElem?_eq_getElem h3] at hv
    rw [Option.some.inj hv]; simp

theorem late_main {P : Program} {Q : Exit → Act → World → Prop} {ops : Array Oper} {L L2 : List Oper} {Φ : List Pd} {w0 : World} {a0 : Act} (hop : ops.toList = L ++ L2) (hd : distinctB L = true) (hback : backB 0 L = true) {q : Nat} {oq : Oper} (hq : L[q]? = some oq) (hcov : (L2.all fun o => covB L L.length o || covQ L q L.length o) = true) (hsel : Region.noSelect ops = true) (hfree : Region.free .any ops (lstq L.length L2.length q) q = true) (hrdy : (Region.ready .any ops (lstq L.length L2.length q)).contains q = true) (hQ : ∀ c a w v, Q (.panic c) (a.put oq.dst v) w → Q (.panic c) a w)
    (late : ∀ ms w, St L Φ w0 oq ms w → ∃ v, Yields P ops oq v (putM a0 L ms) ∧ (ph Φ q).p w v) (hA : isA oq = false)
    (ob : Obs P Q ops L Φ w0 a0 0 L)
    (done : ∀ ms w, (∀ i, i < L.length → ∃ v, ms[i]? = some (some v)) → Inv L Φ w0 ms w → wpAny P .any ops Q L2.length (lst ms L2.length) (putM a0 L ms) w) :
    ∀ (k : Nat) (ms : List (Option Value)) (w : World), (ms.filter Option.isNone).length = k → Inv L Φ w0 ms w → wpAny P .any ops Q (k + L2.length) (lst ms L2.length) (putM a0 L ms) w := by
  have hsz : ops.size = L.length + L2.length := by
    have := congrArg List.length hop
    simpa using this
  have hat : ∀ i, ops[i]? = (L ++ L2)[i]? := fun i => by rw [← hop, Array.getElem?_toList]
  intro k
  induction k with
  | zero =>
    intro ms w hk hI
    rw [Nat.zero_add]
    refine done ms w (fun i hi => ?_) hI
    have hi2 : i < ms.length := by rw [hI.len]; exact hi
    rcases hm : ms[i] with _ | v
    · exfalso
      have h1 : ms[i] ∈ ms.filter Option.isNone := List.mem_filter.2 ⟨List.getElem_mem hi2, by rw [hm]; rfl⟩
      rw [List.length_eq_zero_iff.1 hk] at h1
      simp at h1
    · exact ⟨v, by rw [List.getElem?_eq_getElem hi2, hm]⟩
  | succ k ih =>
    intro ms w hk hI
    -- some operation of L has not come up
    have hnot : ¬ ∀ i, i < L.length → ∃ v, ms[i]? = some (some v) := by
      intro hall
      have h0 : ms.filter Option.isNone = [] := by
        rw [List.filter_eq_nil_iff]
        intro m hm
        obtain ⟨i, hi, rfl⟩ := List.mem_iff_getElem.1 hm
        obtain ⟨v, hv⟩ := hall i (by rw [← hI.len]; exact hi)
        rw [List.getElem?_eq_getElem hi] at hv
        rw [Option.some.inj hv]; simp
      rw [h0] at hk; simp at hk
    -- the least one that has not may come up
    have least : ∀ n i, i ≤ n → i < L.length → Region.ready .any ops (lst ms L2.length) = [] → ∃ v, ms[i]? = some (some v) := by
      intro n
      induction n with
      | zero =>
        intro i hin hi hr
        obtain rfl : i = 0 := by omega
        have hi2 : 0 < ms.length := by rw [hI.len]; exact hi
        rcases hm : ms[0] with _ | v
        · exfalso
          have : 0 ∈ Region.ready .any ops (lst ms L2.length) := by
            rw [mem_ready]
            refine ⟨by rw [lst_lt hi2, hm]; rfl, L[0], by rw [hat, List.getElem?_append_left hi, List.getElem?_eq_getElem hi], ?_⟩
            intro e he hb
            have := backB_at L 0 0 _ hback (List.getElem?_eq_getElem hi) e he hb
            omega
          rw [hr] at this; simp at this
        · exact ⟨v, by rw [List.getElem?_eq_getElem hi2, hm]⟩
      | succ n ihn =>
        intro i hin hi hr
        have hi2 : i < ms.length := by rw [hI.len]; exact hi
        rcases hm : ms[i] with _ | v
        · exfalso
          have : i ∈ Region.ready .any ops (lst ms L2.length) := by
            rw [mem_ready]
            refine ⟨by rw [lst_lt hi2, hm]; rfl, L[i], by rw [hat, List.getElem?_append_left hi, List.getElem?_eq_getElem hi], ?_⟩
            intro e he hb
            have h1 := backB_at L 0 i _ hback (List.getElem?_eq_getElem hi) e he hb
            have h3 : e.on < ms.length := by rw [hI.len]; omega
            obtain ⟨v, hv⟩ := ihn e.on (by omega) (by omega) hr
            rw [lst_lt h3]
            rw [List.getElem?_eq_getElem h3] at hv
            rw [Option.some.inj hv]; rfl
          rw [hr] at this; simp at this
        · exact ⟨v, by rw [List.getElem?_eq_getElem hi2, hm]⟩
    have hcnt : ∀ (i : Nat) (v : Value), ms[i]? = some none → ((ms.set i (some v)).filter Option.isNone).length = k := by
      intro i v hmi
      have key : ∀ (l : List (Option Value)) (i : Nat), l[i]? = some none → ((l.set i (some v)).filter Option.isNone).length + 1 = (l.filter Option.isNone).length := by
        intro l
        induction l with
        | nil => intro i h; simp at h
        | cons m l ihl =>
          intro i h
          cases i with
          | zero =>
            obtain rfl : m = none := by simpa using h
            simp
          | succ i =>
            have := ihl i (by simpa using h)
            rw [List.set_cons_succ, List.filter_cons, List.filter_cons]
            split
            · simp only [List.length_cons]; omega
            · exact this
      have := key ms i hmi
      omega
    have hqL : q < L.length := (List.getElem?_eq_some_iff.1 hq).1
    by_cases hbut : ∀ i, i < L.length → i ≠ q → ∃ v, ms[i]? = some (some v)
    · have hq2 : q < ms.length := by rw [hI.len]; exact hqL
      have hmq : ms[q]? = some none := by
        rw [List.getElem?_eq_getElem hq2]
        rcases hm : ms[q] with _ | v
        · rfl
        · exact absurd (fun i hi => by
            by_cases e : i = q
            · subst e; exact ⟨v, by rw [List.getElem?_eq_getElem hq2, hm]⟩
            · exact hbut i hi e) hnot
      have hdq : ∀ e ∈ oq.after, Region.binds .any e = true → ∃ v, ms[e.on]? = some (some v) := by
        intro e he hb
        have := backB_at L 0 q _ hback hq e he hb
        exact hbut e.on (by omega) (by omega)
      obtain ⟨v, hy, hp⟩ := late ms w ⟨hI.len, hI.below, hI.ty, hdq⟩
      have el : lst ms L2.length = lstq L.length L2.length q := lst_but hI.len hbut hmq
      have hoq : ops[q]? = some oq := by rw [hat, List.getElem?_append_left hqL]; exact hq
      have hnext := ih (ms.set q (some v)) w (hcnt q v hmq) (hI.step hq hmq hdq (Below.refl _ _) hp (fun h => by rw [hA] at h; cases h))
      rw [← lst_set v hq2, ← putM_set v L ms a0 q oq hd hq hmq] at hnext
      rw [show k + 1 + L2.length = (k + L2.length) + 1 from by omega]
      exact wpAny_take hoq hsel (by rw [el]; exact hfree) (by rw [el]; exact hrdy) (fun c a w h => hQ c a w v h) hy hnext
    rw [show k + 1 + L2.length = (k + L2.length) + 1 from by omega]
    refine ⟨fun hr => absurd (fun i hi => least i i (Nat.le_refl _) hi hr) hnot, fun i hi => ?_⟩
    obtain ⟨h1, o, ho, haft⟩ := mem_ready.1 hi
    have hdeps : ∀ e ∈ o.after, Region.binds .any e = true → ∃ v, ms[e.on]? = some (some v) := by
      intro e he hb
      have h2 := haft e he hb
      by_cases h3 : e.on < ms.length
      · rw [lst_lt h3] at h2
        obtain ⟨v, hv⟩ := Option.isSome_iff_exists.1 h2
        exact ⟨v, by rw [List.getElem?_eq_getElem h3, hv]⟩
      · rw [lst_ge (by omega)] at h2; cases h2
    by_cases hiL : i < L.length
    · have hi2 : i < ms.length := by rw [hI.len]; exact hiL
      rw [lst_lt hi2] at h1
      have hmi : ms[i]? = some none := by
        rw [List.getElem?_eq_getElem hi2]
        rcases hm : ms[i] with _ | v
        · rfl
        · rw [hm] at h1; cases h1
      have hoL : L[i]? = some o := by rw [hat, List.getElem?_append_left hiL] at ho; exact ho
      have hob := ob.at_ L 0 i o hoL
      rw [Nat.zero_add] at hob
      have hst := hob ms w ⟨hI.len, hI.below, hI.ty, hdeps⟩
      have hcount : ∀ v : Value, ((ms.set i (some v)).filter Option.isNone).length = k := by
        intro v
        have key : ∀ (l : List (Option Value)) (i : Nat), l[i]? = some none → ((l.set i (some v)).filter Option.isNone).length + 1 = (l.filter Option.isNone).length := by
          intro l
          induction l with
          | nil => intro i h; simp at h
          | cons m l ihl =>
            intro i h
            cases i with
            | zero =>
              obtain rfl : m = none := by simpa using h
              simp
            | succ i =>
              have := ihl i (by simpa using h)
              rw [List.set_cons_succ, List.filter_cons, List.filter_cons]
              split
              · simp only [List.length_cons]; omega
              · exact this
        have := key ms i hmi
        omega
      unfold wpOp
      rw [ho]
      simp only []
      by_cases hw : Region.wanted o (yielded ops (putM a0 L ms).tmps) = true
      · rw [if_pos hw] at hst ⊢
        refine .inl (Oper.wp_mono ?_ hst)
        rintro a' w' ⟨v, rfl, hb, hv, ha⟩
        rw [lst_set v hi2, putM_set v L ms a0 i o hd hoL hmi]
        exact ih _ w' (hcount v) (hI.step hoL hmi hdeps hb hv ha)
      · rw [if_neg hw] at hst ⊢
        rw [lst_set undef hi2, putM_set undef L ms a0 i o hd hoL hmi]
        exact ih _ w (hcount undef) (hI.step hoL hmi hdeps (Below.refl _ _) hst.1 (fun h => by rw [hst.2] at h; cases h))
    · exfalso
      have ho2 : o ∈ L2 := by
        rw [hat, List.getElem?_append_right (by omega)] at ho
        exact List.mem_of_getElem? ho
      have hc := List.all_eq_true.1 hcov o ho2
      rcases Bool.or_eq_true _ _ ▸ hc with hc | hc
      · exact hnot (covB_all hI.len hc hdeps hI.dc)
      · exact hbut (covQ_all hI.len hc hdeps hI.dc)

/-- Each operation's word once; then what stands behind, for whatever values. -/
theorem late_core {P : Program} {Q : Exit → Act → World → Prop} {ops : Array Oper} (n : Nat) (Φ : List Pd) {w : World} {a0 : Act}
    (h1 : distinctB (ops.toList.take n) = true) (h2 : backB 0 (ops.toList.take n) = true) {q : Nat} {oq : Oper} (hq : (ops.toList.take n)[q]? = some oq) (h3 : ((ops.toList.drop n).all fun o => covB (ops.toList.take n) (ops.toList.take n).length o || covQ (ops.toList.take n) q (ops.toList.take n).length o) = true) (h4 : Region.noSelect ops = true) (h5 : Region.free .any ops (lstq (ops.toList.take n).length (ops.toList.drop n).length q) q = true) (h6 : (Region.ready .any ops (lstq (ops.toList.take n).length (ops.toList.drop n).length q)).contains q = true) (hQ : ∀ c a w v, Q (.panic c) (a.put oq.dst v) w → Q (.panic c) a w)
    (late : ∀ ms w1, St (ops.toList.take n) Φ w oq ms w1 → ∃ v, Yields P ops oq v (putM a0 (ops.toList.take n) ms) ∧ (ph Φ q).p w1 v) (hA : isA oq = false)
    (ob : Obs P Q ops (ops.toList.take n) Φ w a0 0 (ops.toList.take n))
    (done : ∀ w', Below w.heap.size w w' → Done (fun a w' => wpAny P .any ops Q (ops.toList.drop n).length (List.replicate (ops.toList.take n).length true ++ List.replicate (ops.toList.drop n).length false).toArray a w') Φ w' 0 (ops.toList.take n) [] a0) : wpAny P .any ops Q ops.size (Array.replicate ops.size false) a0 w := by
  have hop : ops.toList = ops.toList.take n ++ ops.toList.drop n := (List.take_append_drop n _).symm
  generalize ops.toList.take n = L at *
  generalize ops.toList.drop n = L2 at *
  have hsz : ops.size = L.length + L2.length := by
    have := congrArg List.length hop
    simpa using this
  have none_ : ∀ (i : Nat) (v : Value), ¬ (List.replicate L.length (none : Option Value))[i]? = some (some v) := by
    intro i v h
    rw [List.getElem?_replicate] at h
    split at h <;> cases h
  have hI0 : Inv L Φ w (List.replicate L.length none) w := ⟨by simp, Below.refl _ _, fun i v h => absurd h (none_ i v), fun j x v _ h => absurd h (none_ j v), fun i j oi oj u v _ _ _ _ _ h _ => absurd h (none_ i u), fun i oi u _ _ h => absurd h (none_ i u)⟩
  have hmain := late_main (P := P) (Q := Q) (ops := ops) (L := L) (L2 := L2) (Φ := Φ) (w0 := w) (a0 := a0) hop h1 h2 hq h3 h4 h5 h6 hQ late hA ob (fun ms w' hall hI => by
    rw [lst_end L2.length hI.len hall]
    have := done_all (K := fun a w' => wpAny P .any ops Q L2.length (List.replicate L.length true ++ List.replicate L2.length false).toArray a w') hI hall L 0 a0 [] (by simp) (by omega) (by simp) (done w' hI.below)
    simpa using this) L.length (List.replicate L.length none) w (by simp) hI0
  rw [putM_none, lst_start, ← hsz] at hmain
  exact hmain

/-- A region that draws its order: each operation's word once; then what stands behind, for whatever values. -/
theorem flowl {P : Program} {Q : Exit → Act → World → Prop} {id : Nat} {ops : Array Oper} (n : Nat) (Φ : List Pd) {w : World} {a0 : Act} (hm : P.follows .mixedOrders = true)
    (q : Nat) {oq : Oper} (hq : (ops.toList.take n)[q]? = some oq) (hB : (distinctB (ops.toList.take n) && backB 0 (ops.toList.take n) && (ops.toList.drop n).all (fun o => covB (ops.toList.take n) (ops.toList.take n).length o || covQ (ops.toList.take n) q (ops.toList.take n).length o) && Region.noSelect ops && Region.free .any ops (lstq (ops.toList.take n).length (ops.toList.drop n).length q) q && (Region.ready .any ops (lstq (ops.toList.take n).length (ops.toList.drop n).length q)).contains q && !isA oq) = true) (hQ : ∀ c a w v, Q (.panic c) (a.put oq.dst v) w → Q (.panic c) a w)
    (late : ∀ ms w1, St (ops.toList.take n) Φ w.drew oq ms w1 → ∃ v, Yields P ops oq v (putM a0 (ops.toList.take n) ms) ∧ (ph Φ q).p w1 v)
    (ob : Obs P Q ops (ops.toList.take n) Φ w.drew a0 0 (ops.toList.take n))
    (done : ∀ w', Below w.heap.size w w' → Done (fun a w' => wpAny P .any ops Q (ops.toList.drop n).length (List.replicate (ops.toList.take n).length true ++ List.replicate (ops.toList.drop n).length false).toArray a w') Φ w' 0 (ops.toList.take n) [] a0) : (Code.region id ops true).wp P Q a0 w := by
  simp only [Bool.and_eq_true] at hB
  obtain ⟨⟨⟨⟨⟨⟨h1, h2⟩, h3⟩, h4⟩, h5⟩, h6⟩, hA⟩ := hB
  have hA : isA oq = false := by simpa using hA
  exact wp_region_any hm (late_core n Φ (w := w.drew) h1 h2 hq h3 h4 h5 h6 hQ late hA ob fun w' hb => done w' ((Below.refl _ w).drew.trans hb))
/-- The late operation is an extract. -/
theorem late_extract {P : Program} {ops : Array Oper} {L : List Oper} {Φ : List Pd} {w0 : World} {a0 : Act} {o : Oper} {G : Pd} {x : Operand} {k : Nat} {F : World → Value → Prop} (hop : o.op = .extract x k) (hg : o.guard = none) (hx : Ev L Φ w0 a0 o x F)
    (hr : ∀ w u, F w u → ∃ v, (∀ w, (Instr.extract u k).run P w = .ok v w) ∧ G.p w v) : ∀ ms w1, St L Φ w0 o ms w1 → ∃ v, Yields P ops o v (putM a0 L ms) ∧ G.p w1 v := by
  intro ms w1 hS
  obtain ⟨v, h1, h2⟩ := hr w1 _ (hx ms w1 hS)
  refine ⟨v, .inl ⟨by unfold Region.wanted; rw [hg], fun w => ?_⟩, h2⟩
  unfold execOp; simp only [hop]; rw [Sem.run_bind, h1]; rfl
end Go.Proofs.YtbebmknfecehnaaGreat.flow
