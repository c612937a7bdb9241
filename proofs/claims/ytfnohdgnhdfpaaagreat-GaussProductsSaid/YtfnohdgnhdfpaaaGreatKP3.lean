/- Package whole: Of, Print; the chapter's example. Condition: as each says.
What the laws of layer 7 share: an argument as a whole number, sizes, the document's Same on two that are one. Condition: as each says.
Texts with a sign ahead: strings.CutPrefix of "-", whole.Parse; the document's texts. Condition: as each says.
A region that draws its order, one of whose operations may come behind the first store ('lateStores': the second extract of 'x, y := f(a, b)'): it is taken first all the same, for it yields in whatever world. No program stands here.
What WholeTexts' regions want beside: the obligations of min, of a string's length and cut; one answer of a text; texts of whole numbers, read. Condition: as each says.
Package whole: Sum, over rows of values of two cells; the document's Num of a great number. Condition: as each says.
What WholeMakes wants: an argument as a slice of whole numbers; a row of whole numbers that the call makes by append. Condition: as each says.
The document's own fractions: Low. Condition: as each says.
A region that draws its order, some of whose operations may come behind the first store (moves of what stands ahead, len, min): they are taken first, for they yield in whatever world. No program stands here.
A region that draws its order, a chain of whose operations may come behind the first store (len, min and a cut of what was loaded): when all others are up, the rest of the chain is taken, for it yields in whatever world. No program stands here.
Rows of texts that the call makes by append; a row's cell in a region that draws its order; one cell written in the text's order. Condition: as each says.
Rows of fractions (structs of a struct and a slice: three cells each): a slice that reads as fractions; a row of the call's own that grows by append; an element loaded. Condition: as each says.
The document's own Clean of fractions. Condition: as it says.
What RatMakes wants: a slice cut short, the least of two lengths. No program stands here.
Fractions: what the program reckons (sums over what the lower parts have in common, products put into lowest terms crosswise, the order by products). Mathematics alone.
Package rat: its own contracts, each said of fractions: what its functions stand on, Neg, Sign. Condition: as each says.
The document's own folds of fractions: Sum, Product. Condition: as each says.
The document's product of two rows of fractions. Condition: as it says.
The document's own folds of fractions: Whole, Pow. Condition: as each says.
An argument as a slice of fractions; its elements loaded. Condition: as each says.
Rows of fractions grown in a region that draws its order. Condition: as each says.
The document's Shares. Condition: as it says.
Folds of fractions: the least and the greatest one, shares are a whole, a mean lies between, sums one by one, sorting. Mathematics alone.
Rows of fractions: sums, products with a row, where noughts and units begin. Mathematics alone.
Tables of fractions: products, what is turned, the table that changes nothing. Mathematics alone.
Tables of fractions: what loops over rows and places keep; rows of tables multiplied, laid side by side; how long numbers grow. Mathematics alone.
Tables by row and place: mathematics: what stands at a place, how many are no noughts, one place set. No program stands here.
Tables of fractions as functions: what they make nought, steps and that steps are one; determinants by the first row, and what changes of rows do to them. Mathematics alone: no program stands here.
Tables of fractions as lists under changes of rows; how long their numbers grow; what goes down keeps. Mathematics alone: no program stands here.
What gauss' ways keep: downward, upward, and the document's; that both come to one table. Mathematics alone: no program stands here.
An append of one fraction to a row, in a region that draws its order: the new element's cells as an obligation of the flow, the append behind it. Condition: as each says.
The document's sum of two whole numbers lies in new memory. Condition: sizes are within bounds.
The document's Of of a whole number and of a fraction: the answer lies in new memory. Condition: sizes are within bounds.
few: two rows of fractions out of an argument. Condition: as it says.
Elements of a row of fractions whose place is told.
Rows written out in a region: two fractions, two rows of fractions; as obligations of its flow. Condition: as each says.
An argument as a slice of ints. Condition: it can be read as data. -/
import Derived.Test.YtfnohdgnhdfpaaaGreatKP2
import Derived.Lib.SmallJoins
import Derived.ProofKit
import Derived.OpenShut
import Derived.Deep.SlicePairs
import Derived.Deep.Slices
namespace Go.Proofs.YtfnohdgnhdfpaaaGreat.whl
open Go.RowKit Go.Proofs.YtfnohdgnhdfpaaaGreat.num Go.Proofs.YtfnohdgnhdfpaaaGreat.mem Go.Proofs.YtfnohdgnhdfpaaaGreat.nat Go.Proofs.YtfnohdgnhdfpaaaGreat.txt Go.Proofs.YtfnohdgnhdfpaaaGreat.str Go.Proofs.YtfnohdgnhdfpaaaGreat.flow
set_option linter.unusedVariables false
set_option maxHeartbeats 800000 in
theorem zof_any (n : Int) (w : World) (h1 : -9223372036854775808 ≤ n) (h2 : n ≤ 9223372036854775807) :
    Calls Tryz.prog 79 #[.int .i64 n] w (RetZ n w) := by
  by_cases hn : n < 0
  · have HW : Hid (IntKind.u64.wrap (-IntKind.u64.wrap n) = ((n.natAbs : Nat) : Int)) := by
      show _ = _
      rw [IntKind.wrap_u64, IntKind.wrap_u64]; omega
    have HB : Hid (IntKind.u64.wrap (-IntKind.u64.wrap n) ≤ 18446744073709551615) := by
      show _ ≤ _
      rw [HW.out]; omega
    have HZ : Hid (sg true n.natAbs = n) := by show _ = _; rw [sg_true]; omega
    go_enter Tryz.func79, Tryz.ntmps79
    go_wp2_with fail
    refine (of_any _ n.natAbs _ HW.out HB.out).mono ?_
    rintro e w1 ⟨v1, rfl, k1, f1, b1⟩
    obtain ⟨A1, C1, rfl, _⟩ := id k1
    go_wp2_with fail
    refine (signed_pd true _ n.natAbs n _ k1 f1 HZ.out).mono ?_
    rintro e w2 ⟨v2, rfl, ⟨⟨u2, rfl, k2⟩, f2⟩, b2⟩
    obtain ⟨A2, C2, rfl, _⟩ := id k2
    have B2 := ((Blk.new w 42 #[.bool false, .slice none 0 0]).below b1).below b2
    obtain ⟨c0, c1, g0, g1⟩ := B2.two
    have bb1 := (below_alloc (Nat.le_refl w.heap.size) (.cells #[.bool false, .slice none 0 0] 42)).trans (b1.mono (by simp))
    have bb2 := bb1.trans (b2.mono bb1.size)
    go_wp2
    exact bodyPost_ret (v := .agg #[.bool (ngB n), .slice A2 (digs 4294967296 n.natAbs).length C2]) (by simp [results, Tryz.results79, go_sem, c0, c1]) rfl (endZ bb2 (Nat.le_refl _) (by simp) k2 (f2 _ _ rfl) rfl)
  · have HW : Hid (n = ((n.natAbs : Nat) : Int)) := by show _ = _; omega
    have HZ : Hid (sg false n.natAbs = n) := by show _ = _; rw [sg_false]; omega
    have hn0 : 0 ≤ n := by omega
    go_enter Tryz.func79, Tryz.ntmps79
    go_wp2_with fail
    refine (of_any _ n.natAbs _ HW.out (by omega)).mono ?_
    rintro e w1 ⟨v1, rfl, k1, f1, b1⟩
    obtain ⟨A1, C1, rfl, _⟩ := id k1
    go_wp2_with fail
    refine (signed_pd false _ n.natAbs n _ k1 f1 HZ.out).mono ?_
    rintro e w2 ⟨v2, rfl, ⟨⟨u2, rfl, k2⟩, f2⟩, b2⟩
    obtain ⟨A2, C2, rfl, _⟩ := id k2
    have B2 := ((Blk.new w 42 #[.bool false, .slice none 0 0]).below b1).below b2
    obtain ⟨c0, c1, g0, g1⟩ := B2.two
    have bb1 := (below_alloc (Nat.le_refl w.heap.size) (.cells #[.bool false, .slice none 0 0] 42)).trans (b1.mono (by simp))
    have bb2 := bb1.trans (b2.mono bb1.size)
    go_wp2
    exact bodyPost_ret (v := .agg #[.bool (ngB n), .slice A2 (digs 4294967296 n.natAbs).length C2]) (by simp [results, Tryz.results79, go_sem, c0, c1]) rfl (endZ bb2 (Nat.le_refl _) (by simp) k2 (f2 _ _ rfl) rfl)
end Go.Proofs.YtfnohdgnhdfpaaaGreat.whl
namespace Go.Proofs.YtfnohdgnhdfpaaaGreat.whl
open Go.RowKit Go.ChangeShapes Go.WideShapes Go.ChangeAt Go.Joins Go.Deep Go.Proofs.YtfnohdgnhdfpaaaGreat.num Go.Proofs.YtfnohdgnhdfpaaaGreat.mem Go.Proofs.YtfnohdgnhdfpaaaGreat.nat Go.Proofs.YtfnohdgnhdfpaaaGreat.txt Go.Proofs.YtfnohdgnhdfpaaaGreat.str Go.Proofs.YtfnohdgnhdfpaaaGreat.flow
set_option linter.unusedVariables false
theorem trod_nat {H : Type} {enc : TypeId × Value → H} {P : Program} {W : World} {t e : TypeId} {n : Nat} {v : Value} {y : DataW H × List MemPlace} (ht : P.underlying t = some (.slice e)) (he : P.underlying e = some (.int .u64)) (hc : P.cellsOf e = 1)
    (h : DataW.trod enc P W 0 (fun _ => true) true n t [v] = some y) : ∃ l : List Nat, IsS W .u64 v l ∧ Lt 18446744073709551616 l := by
  rcases open_ints ht he hc h with ⟨hcs, hx⟩ | ⟨a, len, cap, zs, hcs, _, hl, hm, hz, hx, hcell, hwz⟩
  · injection hcs with hcs _
    subst hcs
    exact ⟨[], isNil _ _, Lt.nil _⟩
  · injection hcs with hcs _
    subst hcs
    simp only [if_true] at hz
    have hlen : ((zs.take len).map Int.toNat).length = len := by simp; omega
    refine ⟨(zs.take len).map Int.toNat, ⟨some a, cap, by rw [hlen], by rw [hlen]; exact hl, hm, ?_⟩, ?_⟩
    · intro i d hd
      have hi : i < len := by rw [← hlen]; exact (List.getElem?_eq_some_iff.1 hd).1
      have hi2 : i < zs.length := by omega
      refine ⟨a, rfl, ?_⟩
      rw [hcell i hi2]
      have hb := wf_u64 (hwz _ (List.getElem_mem hi2))
      have hd2 : d = (zs[i]).toNat := by
        rw [List.getElem?_map, List.getElem?_take_of_lt hi, List.getElem?_eq_getElem hi2] at hd
        simpa using hd.symm
      rw [List.getD_eq_getElem?_getD, List.getElem?_eq_getElem hi2, hd2]
      simp only [Option.getD_some]
      rw [Int.toNat_of_nonneg hb.1]
    · intro d hd
      obtain ⟨z, hz1, rfl⟩ := List.mem_map.1 hd
      have hb := wf_u64 (hwz z (List.mem_of_mem_take hz1))
      omega
theorem lenZ_add_le {x y : Int} {m n : Nat} (h : lenZ x ≤ m) (h' : lenZ y ≤ n) : lenZ (x + y) ≤ m + n + 1 := by have := lenZ_add x y; omega
theorem lenZ_mul_le {x y : Int} {m n : Nat} (h : lenZ x ≤ m) (h' : lenZ y ≤ n) : lenZ (x * y) ≤ m + n := by have := lenZ_mul x y; omega
/-- A variable that the region made: it holds its type's zero value. -/
def pn (t : TypeId) (cells : Array Value) (B : Nat) : Pd := ⟨fun w v => ∃ g, v = .pointer (some ⟨g, 0, none⟩) ∧ B ≤ g ∧ Blk w g t cells, fun h hb => by obtain ⟨g, e, h1, h2⟩ := h; exact ⟨g, e, h1, h2.below hb⟩⟩
/-- Two whole numbers, and an error's number. -/
def pzz (x y : Int) (n : Int) (B : Nat) : Pd := ⟨fun w t => ∃ v u, t = .tuple #[v, u, .int .i64 n] ∧ IsZ w v x ∧ IsZ w u y ∧ FreshZ B v ∧ FreshZ B u, fun h hb => by obtain ⟨v, u, e, h1, h2, h3⟩ := h; exact ⟨v, u, e, h1.below hb, h2.below hb, h3⟩⟩
def pze (x : Int) (n : Int) (B : Nat) : Pd := ⟨fun w t => ∃ v, t = .tuple #[v, .int .i64 n] ∧ IsZ w v x ∧ FreshZ B v, fun h hb => by obtain ⟨v, e, h1, h2⟩ := h; exact ⟨v, e, h1.below hb, h2⟩⟩
def prr (x y : Int) : Pd := ⟨fun w t => ∃ v u, t = .tuple #[v, u] ∧ IsR w v x ∧ IsR w u y, fun h hb => by obtain ⟨v, u, e, h1, h2⟩ := h; exact ⟨v, u, e, h1.below hb, h2.below hb⟩⟩
theorem RetZZE.pd {x y : Int} {n : Int} {w : World} {e : Ending} {w' : World} {B : Nat} (h : RetZZE x y n w e w') (hB : B ≤ w.heap.size) : RetPd (pzz x y n B) w e w' := by
  obtain ⟨v, u, rfl, h1, h2, h3, h4, h5⟩ := h
  exact ⟨_, rfl, ⟨v, u, rfl, h1, h2, h3.mono hB, h4.mono hB⟩, h5⟩
theorem RetZE.pd {x : Int} {n : Int} {w : World} {e : Ending} {w' : World} {B : Nat} (h : RetZE x n w e w') (hB : B ≤ w.heap.size) : RetPd (pze x n B) w e w' := by
  obtain ⟨v, rfl, h1, h2, h3⟩ := h
  exact ⟨_, rfl, ⟨v, rfl, h1, h2.mono hB⟩, h3⟩
theorem RetRR.pd {x y : Int} {w : World} {e : Ending} {w' : World} (h : RetRR x y w e w') : RetPd (prr x y) w e w' := by
  obtain ⟨v, u, rfl, h1, h2, h3⟩ := h
  exact ⟨_, rfl, ⟨v, u, rfl, h1, h2⟩, h3⟩
end Go.Proofs.YtfnohdgnhdfpaaaGreat.whl
namespace Go.Proofs.YtfnohdgnhdfpaaaGreat.whl
open Go.RowKit Go.Proofs.YtfnohdgnhdfpaaaGreat.num Go.Proofs.YtfnohdgnhdfpaaaGreat.mem Go.Proofs.YtfnohdgnhdfpaaaGreat.nat Go.Proofs.YtfnohdgnhdfpaaaGreat.txt Go.Proofs.YtfnohdgnhdfpaaaGreat.str Go.Proofs.YtfnohdgnhdfpaaaGreat.flow
set_option linter.unusedVariables false
/-- The text l is a sign (or none), and t. -/
def Cut (b : Bool) (l t : List UInt8) : Prop := (b = true ∧ l = 45 :: t) ∨ (b = false ∧ t = l ∧ l.head? ≠ some 45)
def RetCut (b : Bool) (t : List UInt8) (w : World) (e : Ending) (w' : World) : Prop := ∃ R, e = .returned (.tuple #[.string R, .bool b]) ∧ StrIs R t ∧ Below w.heap.size w w'
end Go.Proofs.YtfnohdgnhdfpaaaGreat.whl
namespace Go.Proofs.YtfnohdgnhdfpaaaGreat.flow
open Go.RowKit Go.Proofs.YtfnohdgnhdfpaaaGreat.num Go.Proofs.YtfnohdgnhdfpaaaGreat.mem
set_option linter.unusedVariables false
/-- All but operation q are waited for. -/
def covQ (L : List Oper) (q n : Nat) (o : Oper) : Bool :=
  (List.range n).all fun i => i == q || (onsOf o).contains i || (List.range n).any fun k => decide (i < k) && (!(k == q) && ((L[k]?).map fun x => (onsOf x).contains i).getD false)
theorem covQ_all {L : List Oper} {q : Nat} {o : Oper} {ms : List (Option Value)} (hlen : ms.length = L.length) (h : covQ L q L.length o = true) (hdone : ∀ e ∈ o.after, Region.binds .any e = true → ∃ v, ms[e.on]? = some (some v))
    (hdc : ∀ (j : Nat) (x : Oper) (v : Value), L[j]? = some x → ms[j]? = some (some v) → ∀ e ∈ x.after, Region.binds .any e = true → ∃ v, ms[e.on]? = some (some v)) : ∀ i, i < L.length → i ≠ q → ∃ v, ms[i]? = some (some v) := by
  unfold covQ at h
  have key : ∀ k i, i + k = L.length → i < L.length → i ≠ q → ∃ v, ms[i]? = some (some v) := by
    intro k
    induction k using Nat.strongRecOn with
    | ind k ih =>
      intro i hik hi hiq
      have h1 := List.all_eq_true.1 h i (by simp [hi])
      rw [Bool.or_eq_true, Bool.or_eq_true] at h1
      rcases h1 with (h1 | h1) | h1
      · exact absurd (by simpa using h1) hiq
      · obtain ⟨e, he, hb, rfl⟩ := mem_onsOf.1 (by simpa using h1)
        exact hdone e he hb
      · obtain ⟨m, hm, h2⟩ := List.any_eq_true.1 h1
        rw [Bool.and_eq_true, Bool.and_eq_true] at h2
        have hm2 : m < L.length := by simpa using hm
        have him : i < m := by simpa using h2.1
        have hmq : m ≠ q := by simpa using h2.2.1
        obtain ⟨v, hv⟩ := ih (L.length - m) (by omega) m (by omega) hm2 hmq
        have h3 := h2.2.2
        rw [List.getElem?_eq_getElem hm2] at h3
        obtain ⟨e, he, hb, rfl⟩ := mem_onsOf.1 (by simpa using h3)
        exact hdc m _ v (List.getElem?_eq_getElem hm2) hv e he hb
  intro i hi hiq
  exact key (L.length - i) i (by omega) hi hiq
/-- All of the first n are up but q. -/
def lstq (n m q : Nat) : Array Bool := ((List.replicate n true).set q false ++ List.replicate m false).toArray
theorem lst_but {L : List Oper} {q m : Nat} {ms : List (Option Value)} (hlen : ms.length = L.length) (hbut : ∀ i, i < L.length → i ≠ q → ∃ v, ms[i]? = some (some v)) (hmq : ms[q]? = some none) : lst ms m = lstq L.length m q := by
  unfold lst lstq
  congr 2
  refine List.ext_getElem (by simp [hlen]) fun i h1 h2 => ?_
  have h3 : i < ms.length := by simpa using h1
  rw [List.getElem_map, List.getElem_set]
  by_cases e : q = i
  · subst e
    rw [if_pos rfl]
    rw [List.getElem?_eq_getElem h3] at hmq
    rw [Option.some.inj hmq]; rfl
  · rw [if_neg e]
    obtain ⟨v, hv⟩ := hbut i (by omega) (fun h => e h.symm)
    rw [List.getElem?_eq_getElem h3] at hv
    rw [Option.some.inj hv]; simp
theorem late_main {P : Program} {Q : Exit → Act → World → Prop} {ops : Array Oper} {L L2 : List Oper} {Φ : List Pd} {w0 : World} {a0 : Act} (hop : ops.toList = L ++ L2) (hd : distinctB L = true) (hback : backB 0 L = true) {q : Nat} {oq : Oper} (hq : L[q]? = some oq) (hcov : (L2.all fun o => covB L L.length o || covQ L q L.length o) = true) (hsel : Region.noSelect ops = true) (hfree : Region.free .any ops (lstq L.length L2.length q) q = true) (hrdy : (Region.ready .any ops (lstq L.length L2.length q)).contains q = true) (hQ : ∀ c a w v, Q (.panic c) (a.put oq.dst v) w → Q (.panic c) a w)
    (late : ∀ ms w, St L Φ w0 oq ms w → ∃ v, Yields P ops oq v (putM a0 L ms) ∧ (ph Φ q).p w v) (hA : isA oq = false)
    (ob : Obs P Q ops L Φ w0 a0 0 L)
    (done : ∀ ms w, (∀ i, i < L.length → ∃ v, ms[i]? = some (some v)) → Inv L Φ w0 ms w → wpAny P .any ops Q L2.length (lst ms L2.length) (putM a0 L ms) w) :
    ∀ (k : Nat) (ms : List (Option Value)) (w : World), (ms.filter Option.isNone).length = k → Inv L Φ w0 ms w → wpAny P .any ops Q (k + L2.length) (lst ms L2.length) (putM a0 L ms) w := by
  have hsz : ops.size = L.length + L2.length := by
    have := congrArg List.length hop
    simpa using this
  have hat : ∀ i, ops[i]? = (L ++ L2)[i]? := fun i => by rw [← hop, Array.getElem?_toList]
  intro k
  induction k with
  | zero =>
    intro ms w hk hI
    rw [Nat.zero_add]
    refine done ms w (fun i hi => ?_) hI
    have hi2 : i < ms.length := by rw [hI.len]; exact hi
    rcases hm : ms[i] with _ | v
    · exfalso
      have h1 : ms[i] ∈ ms.filter Option.isNone := List.mem_filter.2 ⟨List.getElem_mem hi2, by rw [hm]; rfl⟩
      rw [List.length_eq_zero_iff.1 hk] at h1
      simp at h1
    · exact ⟨v, by rw [List.getElem?_eq_getElem hi2, hm]⟩
  | succ k ih =>
    intro ms w hk hI
    -- some operation of L has not come up
    have hnot : ¬ ∀ i, i < L.length → ∃ v, ms[i]? = some (some v) := by
      intro hall
      have h0 : ms.filter Option.isNone = [] := by
        rw [List.filter_eq_nil_iff]
        intro m hm
        obtain ⟨i, hi, rfl⟩ := List.mem_iff_getElem.1 hm
        obtain ⟨v, hv⟩ := hall i (by rw [← hI.len]; exact hi)
        rw [List.getElem?_eq_getElem hi] at hv
        rw [Option.some.inj hv]; simp
      rw [h0] at hk; simp at hk
    -- the least one that has not may come up
    have least : ∀ n i, i ≤ n → i < L.length → Region.ready .any ops (lst ms L2.length) = [] → ∃ v, ms[i]? = some (some v) := by
      intro n
      induction n with
      | zero =>
        intro i hin hi hr
        obtain rfl : i = 0 := by omega
        have hi2 : 0 < ms.length := by rw [hI.len]; exact hi
        rcases hm : ms[0] with _ | v
        · exfalso
          have : 0 ∈ Region.ready .any ops (lst ms L2.length) := by
            rw [mem_ready]
            refine ⟨by rw [lst_lt hi2, hm]; rfl, L[0], by rw [hat, List.getElem?_append_left hi, List.getElem?_eq_getElem hi], ?_⟩
            intro e he hb
            have := backB_at L 0 0 _ hback (List.getElem?_eq_getElem hi) e he hb
            omega
          rw [hr] at this; simp at this
        · exact ⟨v, by rw [List.getElem?_eq_getElem hi2, hm]⟩
      | succ n ihn =>
        intro i hin hi hr
        have hi2 : i < ms.length := by rw [hI.len]; exact hi
        rcases hm : ms[i] with _ | v
        · exfalso
          have : i ∈ Region.ready .any ops (lst ms L2.length) := by
            rw [mem_ready]
            refine ⟨by rw [lst_lt hi2, hm]; rfl, L[i], by rw [hat, List.getElem?_append_left hi, List.getElem?_eq_getElem hi], ?_⟩
            intro e he hb
            have h1 := backB_at L 0 i _ hback (List.getElem?_eq_getElem hi) e he hb
            have h3 : e.on < ms.length := by rw [hI.len]; omega
            obtain ⟨v, hv⟩ := ihn e.on (by omega) (by omega) hr
            rw [lst_lt h3]
            rw [List.getElem?_eq_getElem h3] at hv
            rw [Option.some.inj hv]; rfl
          rw [hr] at this; simp at this
        · exact ⟨v, by rw [List.getElem?_eq_getElem hi2, hm]⟩
    have hcnt : ∀ (i : Nat) (v : Value), ms[i]? = some none → ((ms.set i (some v)).filter Option.isNone).length = k := by
      intro i v hmi
      have key : ∀ (l : List (Option Value)) (i : Nat), l[i]? = some none → ((l.set i (some v)).filter Option.isNone).length + 1 = (l.filter Option.isNone).length := by
        intro l
        induction l with
        | nil => intro i h; simp at h
        | cons m l ihl =>
          intro i h
          cases i with
          | zero =>
            obtain rfl : m = none := by simpa using h
            simp
          | succ i =>
            have := ihl i (by simpa using h)
            rw [List.set_cons_succ, List.filter_cons, List.filter_cons]
            split
            · simp only [List.length_cons]; omega
            · exact this
      have := key ms i hmi
      omega
    have hqL : q < L.length := (List.getElem?_eq_some_iff.1 hq).1
    by_cases hbut : ∀ i, i < L.length → i ≠ q → ∃ v, ms[i]? = some (some v)
    · have hq2 : q < ms.length := by rw [hI.len]; exact hqL
      have hmq : ms[q]? = some none := by
        rw [List.getElem?_eq_getElem hq2]
        rcases hm : ms[q] with _ | v
        · rfl
        · exact absurd (fun i hi => by
            by_cases e : i = q
            · subst e; exact ⟨v, by rw [List.getElem?_eq_getElem hq2, hm]⟩
            · exact hbut i hi e) hnot
      have hdq : ∀ e ∈ oq.after, Region.binds .any e = true → ∃ v, ms[e.on]? = some (some v) := by
        intro e he hb
        have := backB_at L 0 q _ hback hq e he hb
        exact hbut e.on (by omega) (by omega)
      obtain ⟨v, hy, hp⟩ := late ms w ⟨hI.len, hI.below, hI.ty, hdq⟩
      have el : lst ms L2.length = lstq L.length L2.length q := lst_but hI.len hbut hmq
      have hoq : ops[q]? = some oq := by rw [hat, List.getElem?_append_left hqL]; exact hq
      have hnext := ih (ms.set q (some v)) w (hcnt q v hmq) (hI.step hq hmq hdq (Below.refl _ _) hp (fun h => by rw [hA] at h; cases h))
      rw [← lst_set v hq2, ← putM_set v L ms a0 q oq hd hq hmq] at hnext
      rw [show k + 1 + L2.length = (k + L2.length) + 1 from by omega]
      exact wpAny_take hoq hsel (by rw [el]; exact hfree) (by rw [el]; exact hrdy) (fun c a w h => hQ c a w v h) hy hnext
    rw [show k + 1 + L2.length = (k + L2.length) + 1 from by omega]
    refine ⟨fun hr => absurd (fun i hi => least i i (Nat.le_refl _) hi hr) hnot, fun i hi => ?_⟩
    obtain ⟨h1, o, ho, haft⟩ := mem_ready.1 hi
    have hdeps : ∀ e ∈ o.after, Region.binds .any e = true → ∃ v, ms[e.on]? = some (some v) := by
      intro e he hb
      have h2 := haft e he hb
      by_cases h3 : e.on < ms.length
      · rw [lst_lt h3] at h2
        obtain ⟨v, hv⟩ := Option.isSome_iff_exists.1 h2
        exact ⟨v, by rw [List.getElem?_eq_getElem h3, hv]⟩
      · rw [lst_ge (by omega)] at h2; cases h2
    by_cases hiL : i < L.length
    · have hi2 : i < ms.length := by rw [hI.len]; exact hiL
      rw [lst_lt hi2] at h1
      have hmi : ms[i]? = some none := by
        rw [List.getElem?_eq_getElem hi2]
        rcases hm : ms[i] with _ | v
        · rfl
        · rw [hm] at h1; cases h1
      have hoL : L[i]? = some o := by rw [hat, List.getElem?_append_left hiL] at ho; exact ho
      have hob := ob.at_ L 0 i o hoL
      rw [Nat.zero_add] at hob
      have hst := hob ms w ⟨hI.len, hI.below, hI.ty, hdeps⟩
      have hcount : ∀ v : Value, ((ms.set i (some v)).filter Option.isNone).length = k := by
        intro v
        have key : ∀ (l : List (Option Value)) (i : Nat), l[i]? = some none → ((l.set i (some v)).filter Option.isNone).length + 1 = (l.filter Option.isNone).length := by
          intro l
          induction l with
          | nil => intro i h; simp at h
          | cons m l ihl =>
            intro i h
            cases i with
            | zero =>
              obtain rfl : m = none := by simpa using h
              simp
            | succ i =>
              have := ihl i (by simpa using h)
              rw [List.set_cons_succ, List.filter_cons, List.filter_cons]
              split
              · simp only [List.length_cons]; omega
              · exact this
        have := key ms i hmi
        omega
      unfold wpOp
      rw [ho]
      simp only []
      by_cases hw : Region.wanted o (yielded ops (putM a0 L ms).tmps) = true
      · rw [if_pos hw] at hst ⊢
        refine .inl (Oper.wp_mono ?_ hst)
        rintro a' w' ⟨v, rfl, hb, hv, ha⟩
        rw [lst_set v hi2, putM_set v L ms a0 i o hd hoL hmi]
        exact ih _ w' (hcount v) (hI.step hoL hmi hdeps hb hv ha)
      · rw [if_neg hw] at hst ⊢
        rw [lst_set undef hi2, putM_set undef L ms a0 i o hd hoL hmi]
        exact ih _ w (hcount undef) (hI.step hoL hmi hdeps (Below.refl _ _) hst.1 (fun h => by rw [hst.2] at h; cases h))
    · exfalso
      have ho2 : o ∈ L2 := by
        rw [hat, List.getElem?_append_right (by omega)] at ho
        exact List.mem_of_getElem? ho
      have hc := List.all_eq_true.1 hcov o ho2
      rcases Bool.or_eq_true _ _ ▸ hc with hc | hc
      · exact hnot (covB_all hI.len hc hdeps hI.dc)
      · exact hbut (covQ_all hI.len hc hdeps hI.dc)
/-- Each operation's word once; then what stands behind, for whatever values. -/
theorem late_core {P : Program} {Q : Exit → Act → World → Prop} {ops : Array Oper} (n : Nat) (Φ : List Pd) {w : World} {a0 : Act}
    (h1 : distinctB (ops.toList.take n) = true) (h2 : backB 0 (ops.toList.take n) = true) {q : Nat} {oq : Oper} (hq : (ops.toList.take n)[q]? = some oq) (h3 : ((ops.toList.drop n).all fun o => covB (ops.toList.take n) (ops.toList.take n).length o || covQ (ops.toList.take n) q (ops.toList.take n).length o) = true) (h4 : Region.noSelect ops = true) (h5 : Region.free .any ops (lstq (ops.toList.take n).length (ops.toList.drop n).length q) q = true) (h6 : (Region.ready .any ops (lstq (ops.toList.take n).length (ops.toList.drop n).length q)).contains q = true) (hQ : ∀ c a w v, Q (.panic c) (a.put oq.dst v) w → Q (.panic c) a w)
    (late : ∀ ms w1, St (ops.toList.take n) Φ w oq ms w1 → ∃ v, Yields P ops oq v (putM a0 (ops.toList.take n) ms) ∧ (ph Φ q).p w1 v) (hA : isA oq = false)
    (ob : Obs P Q ops (ops.toList.take n) Φ w a0 0 (ops.toList.take n))
    (done : ∀ w', Below w.heap.size w w' → Done (fun a w' => wpAny P .any ops Q (ops.toList.drop n).length (List.replicate (ops.toList.take n).length true ++ List.replicate (ops.toList.drop n).length false).toArray a w') Φ w' 0 (ops.toList.take n) [] a0) : wpAny P .any ops Q ops.size (Array.replicate ops.size false) a0 w := by
  have hop : ops.toList = ops.toList.take n ++ ops.toList.drop n := (List.take_append_drop n _).symm
  generalize ops.toList.take n = L at *
  generalize ops.toList.drop n = L2 at *
  have hsz : ops.size = L.length + L2.length := by
    have := congrArg List.length hop
    simpa using this
  have none_ : ∀ (i : Nat) (v : Value), ¬ (List.replicate L.length (none : Option Value))[i]? = some (some v) := by
    intro i v h
    rw [List.getElem?_replicate] at h
    split at h <;> cases h
  have hI0 : Inv L Φ w (List.replicate L.length none) w := ⟨by simp, Below.refl _ _, fun i v h => absurd h (none_ i v), fun j x v _ h => absurd h (none_ j v), fun i j oi oj u v _ _ _ _ _ h _ => absurd h (none_ i u), fun i oi u _ _ h => absurd h (none_ i u)⟩
  have hmain := late_main (P := P) (Q := Q) (ops := ops) (L := L) (L2 := L2) (Φ := Φ) (w0 := w) (a0 := a0) hop h1 h2 hq h3 h4 h5 h6 hQ late hA ob (fun ms w' hall hI => by
    rw [lst_end L2.length hI.len hall]
    have := done_all (K := fun a w' => wpAny P .any ops Q L2.length (List.replicate L.length true ++ List.replicate L2.length false).toArray a w') hI hall L 0 a0 [] (by simp) (by omega) (by simp) (done w' hI.below)
    simpa using this) L.length (List.replicate L.length none) w (by simp) hI0
  rw [putM_none, lst_start, ← hsz] at hmain
  exact hmain
/-- A region that draws its order: each operation's word once; then what stands behind, for whatever values. -/
theorem flowl {P : Program} {Q : Exit → Act → World → Prop} {id : Nat} {ops : Array Oper} (n : Nat) (Φ : List Pd) {w : World} {a0 : Act} (hm : P.follows .mixedOrders = true)
    (q : Nat) {oq : Oper} (hq : (ops.toList.take n)[q]? = some oq) (hB : (distinctB (ops.toList.take n) && backB 0 (ops.toList.take n) && (ops.toList.drop n).all (fun o => covB (ops.toList.take n) (ops.toList.take n).length o || covQ (ops.toList.take n) q (ops.toList.take n).length o) && Region.noSelect ops && Region.free .any ops (lstq (ops.toList.take n).length (ops.toList.drop n).length q) q && (Region.ready .any ops (lstq (ops.toList.take n).length (ops.toList.drop n).length q)).contains q && !isA oq) = true) (hQ : ∀ c a w v, Q (.panic c) (a.put oq.dst v) w → Q (.panic c) a w)
    (late : ∀ ms w1, St (ops.toList.take n) Φ w.drew oq ms w1 → ∃ v, Yields P ops oq v (putM a0 (ops.toList.take n) ms) ∧ (ph Φ q).p w1 v)
    (ob : Obs P Q ops (ops.toList.take n) Φ w.drew a0 0 (ops.toList.take n))
    (done : ∀ w', Below w.heap.size w w' → Done (fun a w' => wpAny P .any ops Q (ops.toList.drop n).length (List.replicate (ops.toList.take n).length true ++ List.replicate (ops.toList.drop n).length false).toArray a w') Φ w' 0 (ops.toList.take n) [] a0) : (Code.region id ops true).wp P Q a0 w := by
  simp only [Bool.and_eq_true] at hB
  obtain ⟨⟨⟨⟨⟨⟨h1, h2⟩, h3⟩, h4⟩, h5⟩, h6⟩, hA⟩ := hB
  have hA : isA oq = false := by simpa using hA
  exact wp_region_any hm (late_core n Φ (w := w.drew) h1 h2 hq h3 h4 h5 h6 hQ late hA ob fun w' hb => done w' ((Below.refl _ w).drew.trans hb))
/-- The late operation is an extract. -/
theorem late_extract {P : Program} {ops : Array Oper} {L : List Oper} {Φ : List Pd} {w0 : World} {a0 : Act} {o : Oper} {G : Pd} {x : Operand} {k : Nat} {F : World → Value → Prop} (hop : o.op = .extract x k) (hg : o.guard = none) (hx : Ev L Φ w0 a0 o x F)
    (hr : ∀ w u, F w u → ∃ v, (∀ w, (Instr.extract u k).run P w = .ok v w) ∧ G.p w v) : ∀ ms w1, St L Φ w0 o ms w1 → ∃ v, Yields P ops o v (putM a0 L ms) ∧ G.p w1 v := by
  intro ms w1 hS
  obtain ⟨v, h1, h2⟩ := hr w1 _ (hx ms w1 hS)
  refine ⟨v, .inl ⟨by unfold Region.wanted; rw [hg], fun w => ?_⟩, h2⟩
  unfold execOp; simp only [hop]; rw [Sem.run_bind, h1]; rfl
section
variable {P : Program} {Q : Exit → Act → World → Prop} {ops : Array Oper} {L : List Oper} {Φ : List Pd} {w0 : World} {a0 : Act} {i : Nat} {o : Oper}
theorem ob_build2b {t : TypeId} {k l : Nat} {x y : Operand} {F G : World → Value → Prop} (hop : o.op = .build t #[(k, x), (l, y)]) (hw : Wt ops L Φ w0 a0 o true) (hx : Ev L Φ w0 a0 o x F) (hy : Ev L Φ w0 a0 o y G)
    (hr : ∀ w u u', Below w0.heap.size w0 w → F w u → G w u' → ∃ v, (Instr.build t #[(k, u), (l, u')]).run P w = .ok v w ∧ (ph Φ i).p w v) : Ob P Q ops L Φ w0 a0 i o :=
  ob_val hw (by unfold isA; rw [hop]) fun ms w hS => by
    obtain ⟨v, h1, h2⟩ := hr w _ _ hS.below (hx ms w hS) (hy ms w hS)
    exact ⟨v, by unfold execOp; simp only [hop, Sem.run_bind, List.map_toArray, List.map_cons, List.map_nil, h1]; rfl, h2⟩
end
end Go.Proofs.YtfnohdgnhdfpaaaGreat.flow
namespace Go.Proofs.YtfnohdgnhdfpaaaGreat.whl
open Go.RowKit Go.Proofs.YtfnohdgnhdfpaaaGreat.num Go.Proofs.YtfnohdgnhdfpaaaGreat.mem Go.Proofs.YtfnohdgnhdfpaaaGreat.nat Go.Proofs.YtfnohdgnhdfpaaaGreat.txt Go.Proofs.YtfnohdgnhdfpaaaGreat.str Go.Proofs.YtfnohdgnhdfpaaaGreat.flow
set_option linter.unusedVariables false
theorem vars1 (w : World) (t1 : TypeId) (x : Array Value) : ∃ wx, w.alloc (.cells x t1) = wx ∧ Below w.heap.size w wx ∧ Blk wx w.heap.size t1 x ∧ w.heap.size < wx.heap.size := ⟨_, rfl, below_alloc (Nat.le_refl _) _, Blk.new w t1 x, by simp⟩
/-- A printed text is this one string. -/
theorem RetStrB.pd {l : List UInt8} {w : World} {e : Ending} {w' : World} (h : RetStrB l w e w') : RetPd (Pd.eq (.string ⟨l.toArray⟩)) w e w' := by
  obtain ⟨R, rfl, hR, hb⟩ := h
  exact ⟨_, rfl, by rw [hR.is]; rfl, hb⟩
end Go.Proofs.YtfnohdgnhdfpaaaGreat.whl
namespace Go.Proofs.YtfnohdgnhdfpaaaGreat.nat
open Go.RowKit Go.Proofs.YtfnohdgnhdfpaaaGreat.num Go.Proofs.YtfnohdgnhdfpaaaGreat.mem
set_option linter.unusedVariables false
set_option maxHeartbeats 800000 in
theorem mulAdd_zero (v : Value) (c : Nat) (w : World) (h : IsS w .i64 v []) (c1 : c ≤ 9223372036854775807) :
    Calls Tryz.prog 135 #[v, .int .i64 1, .int .i64 (c : Int)] w (RetS .i64 (digs 10000 c) w) := by
  obtain ⟨A, cap, rfl, hcap, hcm, hr⟩ := h
  have h20 : c < 10000 ^ 5 := by
    have : (10000 : Nat) ^ 5 = 100000000000000000000 := by decide
    omega
  have H20 := Lib.hid h20
  clear h20
  go_enter Tryz.func135, Tryz.ntmps135
  go_wp2
  go_loopw [2, 7, 8] (fun vc vo vi wr => Own wr w.heap.size 3 .i64 vo [] ∧ Below w.heap.size w wr ∧ vc = .int .i64 (c : Int) ∧ vi = .int .i64 0) (fun _ _ _ _ => 0)
  case atStart => exact ⟨own_lit0 w _ _ .i64 (Nat.le_refl _), below_alloc (Nat.le_refl _) _, rfl, rfl⟩
  case round =>
    obtain ⟨hown, hb, rfl, rfl⟩ := hrel
    go_wp2
    go_loopw [2, 7] (fun vc vo wr => ∃ (c' j : Nat) (o : List Nat), c' ≤ 9223372036854775807 ∧ Hid (c' < 10000 ^ j) ∧ o.length + j ≤ 5 ∧ MB c c' o ∧ Own wr w.heap.size 3 .i64 vo o ∧ Below w.heap.size w wr ∧ vc = .int .i64 (c' : Int)) (fun vc _ _ => (intOf vc).toNat)
    case atStart => exact ⟨c, 5, [], c1, H20, by simp, by unfold MB; exact ⟨Lt.nil _, by simp [val]⟩, hown, hb, rfl⟩
    case round =>
      clear hown hb
      obtain ⟨c2, j, o2, hc', HJ, hoj, hM, hown, hb, rfl⟩ := hrel
      have hsz := hb.size
      by_cases hp : 0 < c2
      · have HM := Lib.hid hM.step
        clear hM
        obtain ⟨j, rfl⟩ : ∃ i, j = i + 1 := by
          rcases j with _ | j
          · have := HJ.out; simp at this; omega
          · exact ⟨j, rfl⟩
        have HJ2 : Hid (c2 / 10000 < 10000 ^ j) := by
          show _ < _
          have := HJ.out
          rw [Nat.pow_succ] at this
          exact Nat.div_lt_of_lt_mul (by rw [Nat.mul_comm]; exact this)
        go_wp2_with (at_builtin; refine wpList_append_one rfl (.tmp 33) (.tmp 36) rfl sl33 (c2 % 10000) rfl hown rfl (by omega) (by omega) (by omega) ?_; intro v' w1 hown1 hb1 hg1)
        go_roundw
        case rel => exact ⟨_, j, _, by omega, HJ2, by simp; omega, HM.out, hown1, hb.trans hb1, int_eq (by omega)⟩
        case measure => simp [intOf]; omega
      · obtain rfl : c2 = 0 := by omega
        obtain ⟨h1, h2⟩ := hM.done
        have HV := Lib.hid h2
        clear h2 hM
        go_wp2_with fail
        refine (refTrim_any _ _ _ hown.isS h1 (by omega)).mono ?_
        rintro e w' ⟨v', rfl, hv, hf, hb2⟩
        go_wp2
        go_ret
        exact ⟨_, rfl, by rw [HV.out] at hv; exact hv, hf.mono hsz, hb.trans (hb2.mono hsz)⟩
set_option maxHeartbeats 400000 in
/-- Of any number that is an int. -/
theorem refNum_wide (nI : Int) (n : Nat) (w : World) (hn : nI = (n : Int)) (n1 : n ≤ 9223372036854775807) :
    Calls Tryz.prog 110 #[.int .i64 nI] w (RetS .i64 (digs 10000 n) w) := by
  subst hn
  go_enter Tryz.func110, Tryz.ntmps110
  go_wp2_with fail
  refine (mulAdd_zero _ n _ (own_lit0 w w.heap.size _ .i64 (Nat.le_refl _)).isS n1).mono ?_
  rintro e w' ⟨v', rfl, hv, hf, hb⟩
  go_wp2
  go_ret
  exact ⟨_, rfl, hv, hf.mono (by simp), (below_alloc (Nat.le_refl _) _).trans (hb.mono (by simp))⟩
end Go.Proofs.YtfnohdgnhdfpaaaGreat.nat
namespace Go.Proofs.YtfnohdgnhdfpaaaGreat.whl
open Go.RowKit Go.Proofs.YtfnohdgnhdfpaaaGreat.num Go.Proofs.YtfnohdgnhdfpaaaGreat.mem Go.Proofs.YtfnohdgnhdfpaaaGreat.nat Go.Proofs.YtfnohdgnhdfpaaaGreat.txt Go.Proofs.YtfnohdgnhdfpaaaGreat.str Go.Proofs.YtfnohdgnhdfpaaaGreat.flow
set_option linter.unusedVariables false
section
variable {P : Program}
end
/-- A slice of whole numbers: each as its sign and the slice of its limbs. -/
def IsVZ (w : World) (v : Value) (ps : List (Int × Value)) : Prop := ∃ A c, v = .slice A ps.length c ∧ ps.length ≤ c ∧ ∀ i p, ps[i]? = some p → ∃ ad, A = some ad ∧ w.cell? (ad.add (i * 2)) = some (.bool (ngB p.1)) ∧ w.cell? (ad.add (i * 2 + 1)) = some p.2
def NumsZ (w : World) (ps : List (Int × Value)) : Prop := ∀ p ∈ ps, IsS w .u64 p.2 (digs 4294967296 p.1.natAbs)
def abss (ps : List (Int × Value)) : List Nat := ps.map fun p => p.1.natAbs
def hi (ps : List (Int × Value)) : List (Int × Value) := ps.filter fun p => !ngB p.1
def lo (ps : List (Int × Value)) : List (Int × Value) := ps.filter fun p => ngB p.1
def vals (ps : List (Int × Value)) : List Value := ps.map Prod.snd
theorem IsVZ.below {w w' : World} {v : Value} {ps : List (Int × Value)} (h : IsVZ w v ps) (hb : Below w.heap.size w w') : IsVZ w' v ps := by
  obtain ⟨A, c, e, h1, h2⟩ := h
  refine ⟨A, c, e, h1, fun i p hp => ?_⟩
  obtain ⟨ad, ha, hc, hd⟩ := h2 i p hp
  exact ⟨ad, ha, (hb.cell (World.block_lt_of_cell? w _ hc)).trans hc, (hb.cell (World.block_lt_of_cell? w _ hd)).trans hd⟩
theorem NumsZ.below {w w' : World} {ps : List (Int × Value)} (h : NumsZ w ps) (hb : Below w.heap.size w w') : NumsZ w' ps := fun p hp => (h p hp).below hb
theorem NumsZ.sub {w : World} {ps qs : List (Int × Value)} (h : NumsZ w ps) (hs : ∀ p ∈ qs, p ∈ ps) : Nums w (vals qs) (abss qs) := by
  refine ⟨by simp [vals, abss], fun i u x hu hx => ?_⟩
  unfold vals at hu; unfold abss at hx
  rw [List.getElem?_map] at hu hx
  cases hp : qs[i]? with
  | none => rw [hp] at hu; cases hu
  | some p =>
    rw [hp] at hu hx
    obtain rfl : p.2 = u := by simpa using hu
    obtain rfl : p.1.natAbs = x := by simpa using hx
    exact h p (hs p (List.mem_of_getElem? hp))
theorem RowV.other {w w' : World} {base : Nat} {e : TypeId} {v : Value} {vs : List Value} {row : Option Nat} (h : RowV w base e v vs) (hg : w.grownBy w' row) (hne : ∀ g, v.ownBlock = some g → row ≠ some g) : RowV w' base e v vs :=
  World.ownsRow.kept (row := row) h hg (by
    cases hv : v.ownBlock with
    | none => exact .inl rfl
    | some g => exact .inr fun e => hne g hv e.symm)
end Go.Proofs.YtfnohdgnhdfpaaaGreat.whl
namespace Go.Proofs.YtfnohdgnhdfpaaaGreat.whl
open Go.RowKit Go.ChangeShapes Go.WideShapes Go.ChangeAt Go.Joins Go.Deep Go.Proofs.YtfnohdgnhdfpaaaGreat.num Go.Proofs.YtfnohdgnhdfpaaaGreat.mem Go.Proofs.YtfnohdgnhdfpaaaGreat.nat Go.Proofs.YtfnohdgnhdfpaaaGreat.txt Go.Proofs.YtfnohdgnhdfpaaaGreat.str Go.Proofs.YtfnohdgnhdfpaaaGreat.flow
set_option linter.unusedVariables false
/-- A row's cells: a sign and a slice each. -/
def flat (ps : List (Int × Value)) : List Value := ps.flatMap fun p => [.bool (ngB p.1), p.2]
/-- A row of the call's own that holds these whole numbers. -/
def RowZ (w : World) (base : Nat) (v : Value) (ps : List (Int × Value)) : Prop := w.ownsRow base 42 2 v ps.length (flat ps)
theorem RowZ.below {w w' : World} {base : Nat} {v : Value} {ps : List (Int × Value)} (h : RowZ w base v ps) (hb : Below w.heap.size w w') : RowZ w' base v ps :=
  World.ownsRow.kept (row := none) h ⟨hb.os, hb.tape, hb.output, hb.size, fun i hi _ => hb.block i hi⟩ (by cases hv : v.ownBlock <;> simp)
theorem RowZ.other {w w' : World} {base : Nat} {v : Value} {ps : List (Int × Value)} {row : Option Nat} (h : RowZ w base v ps) (hg : w.grownBy w' row) (hne : ∀ g, v.ownBlock = some g → row ≠ some g) : RowZ w' base v ps :=
  World.ownsRow.kept (row := row) h hg (by
    cases hv : v.ownBlock with
    | none => exact .inl rfl
    | some g => exact .inr fun e => hne g hv e.symm)
theorem RowZ.under {w : World} {base : Nat} {v : Value} {ps : List (Int × Value)} (h : RowZ w base v ps) : ∀ g, v.ownBlock = some g → g < w.heap.size := fun g hg => (World.ownsRow.lt h g hg).2
theorem RowZ.base_le {w : World} {base : Nat} {v : Value} {ps : List (Int × Value)} (h : RowZ w base v ps) : ∀ g, v.ownBlock = some g → base ≤ g := fun g hg => (World.ownsRow.lt h g hg).1
theorem info_int : ∃ i, Tryz.prog.info? 42 = some i ∧ i.zero = some (.agg #[.bool false, .slice none 0 0]) ∧ i.size = 2 ∧ i.bytes = 32 := info_parts (P := Tryz.prog) (e := 42) (z := .agg #[.bool false, .slice none 0 0]) (size := 2) (bytes := 32) (by kernel_rfl)
/-- Whole numbers in a row that lie elsewhere than the row itself. -/
def FarZ (w : World) (v : Value) (ps : List (Int × Value)) : Prop := ∀ p ∈ ps, IsS w .u64 p.2 (digs 4294967296 p.1.natAbs) ∧ Far v p.2
theorem FarZ.below {w w' : World} {v : Value} {ps : List (Int × Value)} (h : FarZ w v ps) (hb : Below w.heap.size w w') : FarZ w' v ps := fun p hp => ⟨(h p hp).1.below hb, (h p hp).2⟩
theorem FarZ.snoc {w w' : World} {v v' u : Value} {z : Int} {ps : List (Int × Value)} (h : FarZ w v ps) (hk : Keeps w w' v v') (hu : IsS w .u64 u (digs 4294967296 z.natAbs)) (hf : Far v u) : FarZ w' v' (ps ++ [(z, u)]) := by
  intro p hp
  rcases List.mem_append.1 hp with hp | hp
  · exact hk _ _ _ (h p hp).1 (h p hp).2
  · obtain rfl := List.mem_singleton.1 hp
    exact hk _ _ _ hu hf
theorem FarZ.off {w w' : World} {v : Value} {ps : List (Int × Value)} {g : Nat} {e : TypeId} {cs : Array Value} (h : FarZ w v ps) (hB : w.heap[g]? = some (.cells cs e (0, 0))) (hno : ∀ k, ∀ c ∈ cs, ∀ n, c ≠ .int k n) (hg : w.grownBy w' (some g)) : FarZ w' v ps := fun p hp => ⟨Go.Proofs.YtfnohdgnhdfpaaaGreat.flow.off (h p hp).1 hB (hno _) hg, (h p hp).2⟩
theorem Blk.other {w w' : World} {g : Nat} {t : TypeId} {cs : Array Value} {row : Option Nat} (h : Blk w g t cs) (hg : w.grownBy w' row) (hne : row ≠ some g) : Blk w' g t cs := (hg.block g h.lt (fun e => hne e.symm)).trans h
theorem IsVZ.drew {w : World} {v : Value} {ps : List (Int × Value)} (h : IsVZ w v ps) : IsVZ w.drew v ps := h
theorem NumsZ.drew {w : World} {ps : List (Int × Value)} (h : NumsZ w ps) : NumsZ w.drew ps := fun p hp => (h p hp).drew
theorem dig32 {x : Nat} (h : x ≤ 9223372036854775808) : (digs 4294967296 x).length ≤ 2 := digs_len_le (by omega) (Nat.lt_of_le_of_lt h (by decide))
end Go.Proofs.YtfnohdgnhdfpaaaGreat.whl
namespace Go.Proofs.YtfnohdgnhdfpaaaGreat.rat
open Go.RowKit Go.Proofs.YtfnohdgnhdfpaaaGreat.num Go.Proofs.YtfnohdgnhdfpaaaGreat.mem Go.Proofs.YtfnohdgnhdfpaaaGreat.nat Go.Proofs.YtfnohdgnhdfpaaaGreat.txt Go.Proofs.YtfnohdgnhdfpaaaGreat.str Go.Proofs.YtfnohdgnhdfpaaaGreat.flow Go.Proofs.YtfnohdgnhdfpaaaGreat.whl
set_option linter.unusedVariables false
def psn (k : IntKind) (l : List Nat) : Pd := ⟨fun w v => IsS w k v l, fun h hb => h.below hb⟩
theorem IsQ.drew {w : World} {v : Value} {q : Rat} (h : IsQ w v q) : IsQ w.drew v q := by
  obtain ⟨u, t, e, h1, h2⟩ := h
  exact ⟨u, t, e, h1.drew, h2.drew⟩
theorem IsP.drew {w : World} {v : Value} {q : Rat} (h : IsP w v q) : IsP w.drew v q := by
  obtain ⟨u, t, e, h1, h2⟩ := h
  exact ⟨u, t, e, h1.drew, h2.drew⟩
set_option maxHeartbeats 1600000 in
set_option maxRecDepth 100000 in
theorem rlow_any (a0 : Value) (z : Int) (a1 : Value) (d : Nat) (w : World) (h0 : IsR w a0 z) (h1 : IsS w .i64 a1 (digs 10000 d)) (hd : d ≠ 0) (hl : lenZ z ≤ 30000) (hl2 : (digs 4294967296 d).length ≤ 30000) :
    Calls Tryz.prog 86 #[a0, a1] w (RetPF (mkRat z d) w) := by
  have HL : Hid ((digs 10000 z.natAbs).length ≤ 100000) := Nat.le_trans (lenZ_dec z) (by omega)
  have HL2 : Hid ((digs 10000 d).length ≤ 100000) := Nat.le_trans (dec_le d) (by omega)
  obtain ⟨G, hG⟩ : ∃ G, G = Nat.gcd z.natAbs d := ⟨_, rfl⟩
  obtain ⟨X, hX⟩ : ∃ X, X = z.natAbs / G := ⟨_, rfl⟩
  obtain ⟨Y, hY⟩ : ∃ Y, Y = d / G := ⟨_, rfl⟩
  have hGp : 0 < G := by rw [hG]; exact Nat.gcd_pos_of_pos_right _ (by omega)
  have HGl : Hid ((digs 10000 G).length ≤ 100000) := Nat.le_trans (digs_len_mono (by omega) (by rw [hG]; exact Nat.le_of_dvd (by omega) (Nat.gcd_dvd_right _ _))) HL2.out
  have HQN : Hid ((mkRat z d).num.natAbs = X) := by show _ = _; rw [hX, hG]; exact mk_num z hd
  have HQD : Hid ((mkRat z d).den = Y) := by show _ = _; rw [hY, hG]; exact mk_den z hd
  have HQS := Lib.hid (mk_neg z hd)
  have HXp : z < 0 → 0 < X := by intro hz; rw [hX]; exact Nat.div_pos (Nat.le_of_dvd (by omega) (by rw [hG]; exact Nat.gcd_dvd_left _ _)) hGp
  have HG := Lib.hid hG.symm
  have HX := Lib.hid hX.symm
  have HY := Lib.hid hY.symm
  clear hG hX hY
  rcases hs0 : ngB z with _ | _
  · obtain ⟨u0, rfl, s0⟩ := h0
    obtain ⟨A0, c0, rfl, _⟩ := id s0
    have s1 := h1
    obtain ⟨A1, c1, rfl, _⟩ := id s1
    go_enter Tryz.func86, Tryz.ntmps86
    go_upto_region 1 with (fail)
    obtain ⟨wx, hwx, bb, B0, BR0, hsz⟩ := vars2 w 53 55 #[.bool false, .slice A0 (digs 10000 (z).natAbs).length c0] #[.bool false, .slice none 0 0, .slice none 0 0]
    rw [hwx]
    clear hwx
    have k0s := s0.below bb
    have k0 : IsR wx (.agg #[.bool false, .slice A0 (digs 10000 (z).natAbs).length c0]) (z) := isR_mk k0s rfl hs0.symm
    have k1 := s1.below bb
    have hsz0 := bb.size
    have sB := bb.size
    refine flowp 5 [Pd.eq (.pointer (some ⟨w.heap.size, 1, none⟩)), Pd.eq (.slice A0 (digs 10000 (z).natAbs).length c0), Pd.eq (.slice A1 (digs 10000 d).length c1), psn .i64 (digs 10000 G), psn .i64 (digs 10000 G)] (by kernel_rfl) ?ob1 ?done1
    case ob1 =>
      refine And.intro (ob_fieldAddr rfl (wt_none rfl) (ev_far rfl rfl) (fun _ => by kernel_rfl) (fun _ => rfl)) ?_
      refine And.intro (ob_load rfl (wt_none rfl) (ev_dep (j := 0) (by kernel_rfl) rfl rfl) (fun w2 hb => run_load1 Tryz.underlying51 rfl ((B0.below hb).cell 1)) (fun _ _ => rfl)) ?_
      refine And.intro (ob_move rfl (wt_none rfl) (ev_far rfl rfl) (fun _ _ h => h)) ?_
      refine And.intro (ob_call2 rfl Tryz.func132 (by kernel_rfl) (wt_none rfl) (ev_dep (j := 1) (by kernel_rfl) rfl rfl) (ev_dep (j := 2) (by kernel_rfl) rfl rfl) (fun w2 u0 u1 hb h0 h1 => by obtain rfl := h0; obtain rfl := h1; exact (HG.out ▸ refGcd_any _ _ _ _ _ (k0s.below hb) (k1.below hb) HL.out HL2.out).mono fun e w3 h => h)) ?_
      refine And.intro (ob_assign rfl (wt_none rfl) (ev_dep (j := 3) (by kernel_rfl) rfl rfl) (fun _ _ h => h)) ?_
      trivial
    case done1 =>
      refine fun w11 hb11 v0 h0 v1 h1 v2 h2 v3 h3 v4 h4 b hbf => ?_
      obtain rfl := h0; obtain rfl := h1; obtain rfl := h2
      have q3 := h3
      have q4 := h4
      simp only [Act.put, List.setIfInBounds_toArray, List.set_cons_zero, List.set_cons_succ] at hbf
      subst hbf
      replace B0 := B0.below hb11
      replace k0s := k0s.below hb11
      replace k0 := k0.below hb11
      replace BR0 := BR0.below hb11
      replace k1 := k1.below hb11
      replace bb := bb.trans (hb11.mono bb.size)
      have hsz11 := bb.size
      refine ops_done ?_
      obtain ⟨A5, c5, rfl, _⟩ := id q4
      have kg := q4
      have sB := bb.size
      go_upto_region 2 with (fail)
      refine flowp 9 [Pd.eq (.pointer (some ⟨w.heap.size, 1, none⟩)), Pd.eq (.slice A0 (digs 10000 (z).natAbs).length c0), Pd.eq (.slice A5 (digs 10000 G).length c5), pt2 .i64 (digs 10000 X) (digs 10000 (z.natAbs % G)) w11.heap.size, pt2 .i64 (digs 10000 X) (digs 10000 (z.natAbs % G)) w11.heap.size, ps .i64 (digs 10000 X) w11.heap.size, ps .i64 (digs 10000 (z.natAbs % G)) w11.heap.size, ps .i64 (digs 10000 X) w11.heap.size, ps .i64 (digs 10000 (z.natAbs % G)) w11.heap.size] (by kernel_rfl) ?ob2 ?done2
      case ob2 =>
        refine And.intro (ob_fieldAddr rfl (wt_none rfl) (ev_far rfl rfl) (fun _ => by kernel_rfl) (fun _ => rfl)) ?_
        refine And.intro (ob_load rfl (wt_none rfl) (ev_dep (j := 0) (by kernel_rfl) rfl rfl) (fun w2 hb => run_load1 Tryz.underlying51 rfl ((B0.below hb).cell 1)) (fun _ _ => rfl)) ?_
        refine And.intro (ob_move rfl (wt_none rfl) (ev_far rfl rfl) (fun _ _ h => h)) ?_
        refine And.intro (ob_call2 rfl Tryz.func133 (by kernel_rfl) (wt_none rfl) (ev_dep (j := 1) (by kernel_rfl) rfl rfl) (ev_dep (j := 2) (by kernel_rfl) rfl rfl) (fun w2 u0 u1 hb h0 h1 => by obtain rfl := h0; obtain rfl := h1; exact (HX.out ▸ refDiv_any _ _ z.natAbs G _ (k0s.below hb) (kg.below hb) HL.out HGl.out hGp).mono fun e w3 h => RetSS.pd h hb.size)) ?_
        refine And.intro (ob_move rfl (wt_none rfl) (ev_dep (j := 3) (by kernel_rfl) rfl rfl) (fun _ _ h => h)) ?_
        refine And.intro (ob_extract rfl (wt_none rfl) (ev_dep (j := 4) (by kernel_rfl) rfl rfl) (fun w2 u hu => by obtain ⟨v, u, rfl, q1, q2, q3, q4⟩ := hu; exact ⟨v, rfl, q1, q3⟩)) ?_
        refine And.intro (ob_extract rfl (wt_none rfl) (ev_dep (j := 4) (by kernel_rfl) rfl rfl) (fun w2 u hu => by obtain ⟨v, u, rfl, q1, q2, q3, q4⟩ := hu; exact ⟨u, rfl, q2, q4⟩)) ?_
        refine And.intro (ob_assign rfl (wt_none rfl) (ev_dep (j := 5) (by kernel_rfl) rfl rfl) (fun _ _ h => h)) ?_
        refine And.intro (ob_assign rfl (wt_none rfl) (ev_dep (j := 6) (by kernel_rfl) rfl rfl) (fun _ _ h => h)) ?_
        trivial
      case done2 =>
        refine fun w12 hb12 v0 h0 v1 h1 v2 h2 v3 h3 v4 h4 v5 h5 v6 h6 v7 h7 v8 h8 b hbf => ?_
        obtain rfl := h0; obtain rfl := h1; obtain rfl := h2
        clear h3
        clear h4
        obtain ⟨q5, f5⟩ := h5
        obtain ⟨q6, f6⟩ := h6
        obtain ⟨q7, f7⟩ := h7
        obtain ⟨q8, f8⟩ := h8
        simp only [Act.put, List.setIfInBounds_toArray, List.set_cons_zero, List.set_cons_succ] at hbf
        subst hbf
        replace B0 := B0.below hb12
        replace k0s := k0s.below hb12
        replace k0 := k0.below hb12
        replace BR0 := BR0.below hb12
        replace k1 := k1.below hb12
        replace kg := kg.below hb12
        replace bb := bb.trans (hb12.mono bb.size)
        have hsz12 := bb.size
        have s_5 := sB
        have s_6 := sB
        have s_7 := sB
        have s_8 := sB
        refine ops_done ?_
        obtain ⟨A6, c6, rfl, _⟩ := id q7
        have kx := q7
        have kxf := f7
        have kxz_ := s_7
        have sB := bb.size
        go_upto_region 3 with (fail)
        refine flowp 8 [Pd.eq (.slice A1 (digs 10000 d).length c1), Pd.eq (.slice A5 (digs 10000 G).length c5), pt2 .i64 (digs 10000 Y) (digs 10000 (d % G)) w12.heap.size, pt2 .i64 (digs 10000 Y) (digs 10000 (d % G)) w12.heap.size, ps .i64 (digs 10000 Y) w12.heap.size, ps .i64 (digs 10000 (d % G)) w12.heap.size, ps .i64 (digs 10000 Y) w12.heap.size, ps .i64 (digs 10000 (d % G)) w12.heap.size] (by kernel_rfl) ?ob3 ?done3
        case ob3 =>
          refine And.intro (ob_move rfl (wt_none rfl) (ev_far rfl rfl) (fun _ _ h => h)) ?_
          refine And.intro (ob_move rfl (wt_none rfl) (ev_far rfl rfl) (fun _ _ h => h)) ?_
          refine And.intro (ob_call2 rfl Tryz.func133 (by kernel_rfl) (wt_none rfl) (ev_dep (j := 0) (by kernel_rfl) rfl rfl) (ev_dep (j := 1) (by kernel_rfl) rfl rfl) (fun w2 u0 u1 hb h0 h1 => by obtain rfl := h0; obtain rfl := h1; exact (HY.out ▸ refDiv_any _ _ d G _ (k1.below hb) (kg.below hb) HL2.out HGl.out hGp).mono fun e w3 h => RetSS.pd h hb.size)) ?_
          refine And.intro (ob_move rfl (wt_none rfl) (ev_dep (j := 2) (by kernel_rfl) rfl rfl) (fun _ _ h => h)) ?_
          refine And.intro (ob_extract rfl (wt_none rfl) (ev_dep (j := 3) (by kernel_rfl) rfl rfl) (fun w2 u hu => by obtain ⟨v, u, rfl, q1, q2, q3, q4⟩ := hu; exact ⟨v, rfl, q1, q3⟩)) ?_
          refine And.intro (ob_extract rfl (wt_none rfl) (ev_dep (j := 3) (by kernel_rfl) rfl rfl) (fun w2 u hu => by obtain ⟨v, u, rfl, q1, q2, q3, q4⟩ := hu; exact ⟨u, rfl, q2, q4⟩)) ?_
          refine And.intro (ob_assign rfl (wt_none rfl) (ev_dep (j := 4) (by kernel_rfl) rfl rfl) (fun _ _ h => h)) ?_
          refine And.intro (ob_assign rfl (wt_none rfl) (ev_dep (j := 5) (by kernel_rfl) rfl rfl) (fun _ _ h => h)) ?_
          trivial
        case done3 =>
          refine fun w13 hb13 v0 h0 v1 h1 v2 h2 v3 h3 v4 h4 v5 h5 v6 h6 v7 h7 b hbf => ?_
          obtain rfl := h0; obtain rfl := h1
          clear h2
          clear h3
          obtain ⟨q4, f4⟩ := h4
          obtain ⟨q5, f5⟩ := h5
          obtain ⟨q6, f6⟩ := h6
          obtain ⟨q7, f7⟩ := h7
          simp only [Act.put, List.setIfInBounds_toArray, List.set_cons_zero, List.set_cons_succ] at hbf
          subst hbf
          replace B0 := B0.below hb13
          replace k0s := k0s.below hb13
          replace k0 := k0.below hb13
          replace BR0 := BR0.below hb13
          replace k1 := k1.below hb13
          replace kg := kg.below hb13
          replace kx := kx.below hb13
          replace bb := bb.trans (hb13.mono bb.size)
          have hsz13 := bb.size
          have s_4 := sB
          have s_5 := sB
          have s_6 := sB
          have s_7 := sB
          refine ops_done ?_
          obtain ⟨A8, c8, rfl, _⟩ := id q6
          have ky := q6
          have kyf := f6
          have kyz_ := s_6
          have sB := bb.size
          go_upto_region 4 with (fail)
          refine flowp 11 [Pd.eq (.pointer (some ⟨w.heap.size, 0, none⟩)), Pd.eq (.bool false), Pd.eq (.bool false), Pd.any, Pd.any, Pd.any, Pd.eq (.bool false), Pd.eq (.slice A6 (digs 10000 X).length c6), Pd.eq (.agg #[.bool false, .slice A6 (digs 10000 X).length c6]), Pd.eq (.slice A8 (digs 10000 Y).length c8), Pd.eq (.agg #[.bool false, .slice A6 (digs 10000 X).length c6, .slice A8 (digs 10000 Y).length c8])] (by kernel_rfl) ?ob4 ?done4
          case ob4 =>
            refine And.intro (ob_fieldAddr rfl (wt_none rfl) (ev_far rfl rfl) (fun _ => by kernel_rfl) (fun _ => rfl)) ?_
            refine And.intro (ob_load rfl (wt_none rfl) (ev_dep (j := 0) (by kernel_rfl) rfl rfl) (fun w2 hb => run_load1 Tryz.underlying4 rfl ((B0.below hb).cell 0)) (fun _ _ => rfl)) ?_
            refine And.intro (ob_move rfl (wt_none rfl) (ev_dep (j := 1) (by kernel_rfl) rfl rfl) (fun _ _ h => h)) ?_
            refine And.intro (ob_not (wt_dep (c := false) (b := true) (g := 2) rfl (by kernel_rfl) rfl rfl rfl (by exact fun _ _ h => h)) (fun _ => trivial) rfl) ?_
            refine And.intro (ob_not (wt_dep (c := false) (b := true) (g := 2) rfl (by kernel_rfl) rfl rfl rfl (by exact fun _ _ h => h)) (fun _ => trivial) rfl) ?_
            refine And.intro (ob_not (wt_dep (c := false) (b := true) (g := 2) rfl (by kernel_rfl) rfl rfl rfl (by exact fun _ _ h => h)) (fun _ => trivial) rfl) ?_
            refine And.intro (ob_pick (b := false) rfl (wt_none rfl) (ev_dep (j := 2) (by kernel_rfl) rfl rfl) (ev_const _) (fun _ _ h => h)) ?_
            refine And.intro (ob_move rfl (wt_none rfl) (ev_far rfl rfl) (fun _ _ h => h)) ?_
            refine And.intro (ob_build2b rfl (wt_none rfl) (ev_dep (j := 6) (by kernel_rfl) rfl rfl) (ev_dep (j := 7) (by kernel_rfl) rfl rfl) (fun w2 u v hb hu hv => by obtain rfl := hu; obtain rfl := hv; exact ⟨.agg #[.bool false, .slice A6 (digs 10000 X).length c6], by kernel_rfl, rfl⟩)) ?_
            refine And.intro (ob_move rfl (wt_none rfl) (ev_far rfl rfl) (fun _ _ h => h)) ?_
            refine And.intro (ob_build2b rfl (wt_none rfl) (ev_dep (j := 8) (by kernel_rfl) rfl rfl) (ev_dep (j := 9) (by kernel_rfl) rfl rfl) (fun w2 u v hb hu hv => by obtain rfl := hu; obtain rfl := hv; exact ⟨.agg #[.bool false, .slice A6 (digs 10000 X).length c6, .slice A8 (digs 10000 Y).length c8], by kernel_rfl, rfl⟩)) ?_
            trivial
          case done4 =>
            refine fun w14 hb14 v0 h0 v1 h1 v2 h2 v3 h3 v4 h4 v5 h5 v6 h6 v7 h7 v8 h8 v9 h9 v10 h10 b hbf => ?_
            obtain rfl := h0; obtain rfl := h1; obtain rfl := h2; obtain rfl := h6; obtain rfl := h7; obtain rfl := h8; obtain rfl := h9; obtain rfl := h10
            clear h3
            clear h4
            clear h5
            simp only [Act.put, List.setIfInBounds_toArray, List.set_cons_zero, List.set_cons_succ] at hbf
            subst hbf
            replace B0 := B0.below hb14
            replace k0s := k0s.below hb14
            replace k0 := k0.below hb14
            replace BR0 := BR0.below hb14
            replace k1 := k1.below hb14
            replace kg := kg.below hb14
            replace kx := kx.below hb14
            replace ky := ky.below hb14
            replace bb := bb.trans (hb14.mono bb.size)
            have hsz14 := bb.size
            refine ops_store (i := 11) rfl rfl rfl rfl rfl rfl (cells := [.bool false, .slice A6 (digs 10000 X).length c6, .slice A8 (digs 10000 Y).length c8]) rfl BR0 rfl (by kernel_rfl) (one3 rfl rfl rfl) fun w9 hg9 B9 => ?_
            have k9 := off kx BR0 no_ints3 hg9
            have d9 := off ky BR0 no_ints3 hg9
            have bb9 := bb.trans ((Below.refl _ _).grown hg9 bb.size (fun g hg => by injection hg with hg; omega))
            obtain ⟨C0, C1, C2, _, _, _⟩ := three B9
            refine ops_done ?_
            go_wp2
            exact bodyPost_ret (v := .agg #[.bool false, .slice A6 (digs 10000 X).length c6, .slice A8 (digs 10000 Y).length c8]) (by simp [results, Tryz.results86, go_sem, C0, C1, C2]) rfl ⟨_, rfl, isP_mk k9 d9 (by rw [HQS.out, hs0]) HQN.out HQD.out, freshQ_mk (kxf.mono kxz_) (kyf.mono kyz_), bb9⟩
  · obtain ⟨u0, rfl, s0⟩ := h0
    obtain ⟨A0, c0, rfl, _⟩ := id s0
    have s1 := h1
    obtain ⟨A1, c1, rfl, _⟩ := id s1
    go_enter Tryz.func86, Tryz.ntmps86
    go_upto_region 1 with (fail)
    obtain ⟨wx, hwx, bb, B0, BR0, hsz⟩ := vars2 w 53 55 #[.bool true, .slice A0 (digs 10000 (z).natAbs).length c0] #[.bool false, .slice none 0 0, .slice none 0 0]
    rw [hwx]
    clear hwx
    have k0s := s0.below bb
    have k0 : IsR wx (.agg #[.bool true, .slice A0 (digs 10000 (z).natAbs).length c0]) (z) := isR_mk k0s rfl hs0.symm
    have k1 := s1.below bb
    have hsz0 := bb.size
    have sB := bb.size
    refine flowp 5 [Pd.eq (.pointer (some ⟨w.heap.size, 1, none⟩)), Pd.eq (.slice A0 (digs 10000 (z).natAbs).length c0), Pd.eq (.slice A1 (digs 10000 d).length c1), psn .i64 (digs 10000 G), psn .i64 (digs 10000 G)] (by kernel_rfl) ?ob5 ?done5
    case ob5 =>
      refine And.intro (ob_fieldAddr rfl (wt_none rfl) (ev_far rfl rfl) (fun _ => by kernel_rfl) (fun _ => rfl)) ?_
      refine And.intro (ob_load rfl (wt_none rfl) (ev_dep (j := 0) (by kernel_rfl) rfl rfl) (fun w2 hb => run_load1 Tryz.underlying51 rfl ((B0.below hb).cell 1)) (fun _ _ => rfl)) ?_
      refine And.intro (ob_move rfl (wt_none rfl) (ev_far rfl rfl) (fun _ _ h => h)) ?_
      refine And.intro (ob_call2 rfl Tryz.func132 (by kernel_rfl) (wt_none rfl) (ev_dep (j := 1) (by kernel_rfl) rfl rfl) (ev_dep (j := 2) (by kernel_rfl) rfl rfl) (fun w2 u0 u1 hb h0 h1 => by obtain rfl := h0; obtain rfl := h1; exact (HG.out ▸ refGcd_any _ _ _ _ _ (k0s.below hb) (k1.below hb) HL.out HL2.out).mono fun e w3 h => h)) ?_
      refine And.intro (ob_assign rfl (wt_none rfl) (ev_dep (j := 3) (by kernel_rfl) rfl rfl) (fun _ _ h => h)) ?_
      trivial
    case done5 =>
      refine fun w11 hb11 v0 h0 v1 h1 v2 h2 v3 h3 v4 h4 b hbf => ?_
      obtain rfl := h0; obtain rfl := h1; obtain rfl := h2
      have q3 := h3
      have q4 := h4
      simp only [Act.put, List.setIfInBounds_toArray, List.set_cons_zero, List.set_cons_succ] at hbf
      subst hbf
      replace B0 := B0.below hb11
      replace k0s := k0s.below hb11
      replace k0 := k0.below hb11
      replace BR0 := BR0.below hb11
      replace k1 := k1.below hb11
      replace bb := bb.trans (hb11.mono bb.size)
      have hsz11 := bb.size
      refine ops_done ?_
      obtain ⟨A5, c5, rfl, _⟩ := id q4
      have kg := q4
      have sB := bb.size
      go_upto_region 2 with (fail)
      refine flowp 9 [Pd.eq (.pointer (some ⟨w.heap.size, 1, none⟩)), Pd.eq (.slice A0 (digs 10000 (z).natAbs).length c0), Pd.eq (.slice A5 (digs 10000 G).length c5), pt2 .i64 (digs 10000 X) (digs 10000 (z.natAbs % G)) w11.heap.size, pt2 .i64 (digs 10000 X) (digs 10000 (z.natAbs % G)) w11.heap.size, ps .i64 (digs 10000 X) w11.heap.size, ps .i64 (digs 10000 (z.natAbs % G)) w11.heap.size, ps .i64 (digs 10000 X) w11.heap.size, ps .i64 (digs 10000 (z.natAbs % G)) w11.heap.size] (by kernel_rfl) ?ob6 ?done6
      case ob6 =>
        refine And.intro (ob_fieldAddr rfl (wt_none rfl) (ev_far rfl rfl) (fun _ => by kernel_rfl) (fun _ => rfl)) ?_
        refine And.intro (ob_load rfl (wt_none rfl) (ev_dep (j := 0) (by kernel_rfl) rfl rfl) (fun w2 hb => run_load1 Tryz.underlying51 rfl ((B0.below hb).cell 1)) (fun _ _ => rfl)) ?_
        refine And.intro (ob_move rfl (wt_none rfl) (ev_far rfl rfl) (fun _ _ h => h)) ?_
        refine And.intro (ob_call2 rfl Tryz.func133 (by kernel_rfl) (wt_none rfl) (ev_dep (j := 1) (by kernel_rfl) rfl rfl) (ev_dep (j := 2) (by kernel_rfl) rfl rfl) (fun w2 u0 u1 hb h0 h1 => by obtain rfl := h0; obtain rfl := h1; exact (HX.out ▸ refDiv_any _ _ z.natAbs G _ (k0s.below hb) (kg.below hb) HL.out HGl.out hGp).mono fun e w3 h => RetSS.pd h hb.size)) ?_
        refine And.intro (ob_move rfl (wt_none rfl) (ev_dep (j := 3) (by kernel_rfl) rfl rfl) (fun _ _ h => h)) ?_
        refine And.intro (ob_extract rfl (wt_none rfl) (ev_dep (j := 4) (by kernel_rfl) rfl rfl) (fun w2 u hu => by obtain ⟨v, u, rfl, q1, q2, q3, q4⟩ := hu; exact ⟨v, rfl, q1, q3⟩)) ?_
        refine And.intro (ob_extract rfl (wt_none rfl) (ev_dep (j := 4) (by kernel_rfl) rfl rfl) (fun w2 u hu => by obtain ⟨v, u, rfl, q1, q2, q3, q4⟩ := hu; exact ⟨u, rfl, q2, q4⟩)) ?_
        refine And.intro (ob_assign rfl (wt_none rfl) (ev_dep (j := 5) (by kernel_rfl) rfl rfl) (fun _ _ h => h)) ?_
        refine And.intro (ob_assign rfl (wt_none rfl) (ev_dep (j := 6) (by kernel_rfl) rfl rfl) (fun _ _ h => h)) ?_
        trivial
      case done6 =>
        refine fun w12 hb12 v0 h0 v1 h1 v2 h2 v3 h3 v4 h4 v5 h5 v6 h6 v7 h7 v8 h8 b hbf => ?_
        obtain rfl := h0; obtain rfl := h1; obtain rfl := h2
        clear h3
        clear h4
        obtain ⟨q5, f5⟩ := h5
        obtain ⟨q6, f6⟩ := h6
        obtain ⟨q7, f7⟩ := h7
        obtain ⟨q8, f8⟩ := h8
        simp only [Act.put, List.setIfInBounds_toArray, List.set_cons_zero, List.set_cons_succ] at hbf
        subst hbf
        replace B0 := B0.below hb12
        replace k0s := k0s.below hb12
        replace k0 := k0.below hb12
        replace BR0 := BR0.below hb12
        replace k1 := k1.below hb12
        replace kg := kg.below hb12
        replace bb := bb.trans (hb12.mono bb.size)
        have hsz12 := bb.size
        have s_5 := sB
        have s_6 := sB
        have s_7 := sB
        have s_8 := sB
        refine ops_done ?_
        obtain ⟨A6, c6, rfl, _⟩ := id q7
        have kx := q7
        have kxf := f7
        have kxz_ := s_7
        have sB := bb.size
        go_upto_region 3 with (fail)
        refine flowp 8 [Pd.eq (.slice A1 (digs 10000 d).length c1), Pd.eq (.slice A5 (digs 10000 G).length c5), pt2 .i64 (digs 10000 Y) (digs 10000 (d % G)) w12.heap.size, pt2 .i64 (digs 10000 Y) (digs 10000 (d % G)) w12.heap.size, ps .i64 (digs 10000 Y) w12.heap.size, ps .i64 (digs 10000 (d % G)) w12.heap.size, ps .i64 (digs 10000 Y) w12.heap.size, ps .i64 (digs 10000 (d % G)) w12.heap.size] (by kernel_rfl) ?ob7 ?done7
        case ob7 =>
          refine And.intro (ob_move rfl (wt_none rfl) (ev_far rfl rfl) (fun _ _ h => h)) ?_
          refine And.intro (ob_move rfl (wt_none rfl) (ev_far rfl rfl) (fun _ _ h => h)) ?_
          refine And.intro (ob_call2 rfl Tryz.func133 (by kernel_rfl) (wt_none rfl) (ev_dep (j := 0) (by kernel_rfl) rfl rfl) (ev_dep (j := 1) (by kernel_rfl) rfl rfl) (fun w2 u0 u1 hb h0 h1 => by obtain rfl := h0; obtain rfl := h1; exact (HY.out ▸ refDiv_any _ _ d G _ (k1.below hb) (kg.below hb) HL2.out HGl.out hGp).mono fun e w3 h => RetSS.pd h hb.size)) ?_
          refine And.intro (ob_move rfl (wt_none rfl) (ev_dep (j := 2) (by kernel_rfl) rfl rfl) (fun _ _ h => h)) ?_
          refine And.intro (ob_extract rfl (wt_none rfl) (ev_dep (j := 3) (by kernel_rfl) rfl rfl) (fun w2 u hu => by obtain ⟨v, u, rfl, q1, q2, q3, q4⟩ := hu; exact ⟨v, rfl, q1, q3⟩)) ?_
          refine And.intro (ob_extract rfl (wt_none rfl) (ev_dep (j := 3) (by kernel_rfl) rfl rfl) (fun w2 u hu => by obtain ⟨v, u, rfl, q1, q2, q3, q4⟩ := hu; exact ⟨u, rfl, q2, q4⟩)) ?_
          refine And.intro (ob_assign rfl (wt_none rfl) (ev_dep (j := 4) (by kernel_rfl) rfl rfl) (fun _ _ h => h)) ?_
          refine And.intro (ob_assign rfl (wt_none rfl) (ev_dep (j := 5) (by kernel_rfl) rfl rfl) (fun _ _ h => h)) ?_
          trivial
        case done7 =>
          refine fun w13 hb13 v0 h0 v1 h1 v2 h2 v3 h3 v4 h4 v5 h5 v6 h6 v7 h7 b hbf => ?_
          obtain rfl := h0; obtain rfl := h1
          clear h2
          clear h3
          obtain ⟨q4, f4⟩ := h4
          obtain ⟨q5, f5⟩ := h5
          obtain ⟨q6, f6⟩ := h6
          obtain ⟨q7, f7⟩ := h7
          simp only [Act.put, List.setIfInBounds_toArray, List.set_cons_zero, List.set_cons_succ] at hbf
          subst hbf
          replace B0 := B0.below hb13
          replace k0s := k0s.below hb13
          replace k0 := k0.below hb13
          replace BR0 := BR0.below hb13
          replace k1 := k1.below hb13
          replace kg := kg.below hb13
          replace kx := kx.below hb13
          replace bb := bb.trans (hb13.mono bb.size)
          have hsz13 := bb.size
          have s_4 := sB
          have s_5 := sB
          have s_6 := sB
          have s_7 := sB
          refine ops_done ?_
          obtain ⟨A8, c8, rfl, _⟩ := id q6
          have ky := q6
          have kyf := f6
          have kyz_ := s_6
          have HXl : Hid (decide ((0 : Int) < (((digs 10000 X).length : Nat) : Int)) = true) := by show _ = _; have := (digs_len0 (B := 10000) (by omega) (x := X)).1; have := HXp (ngB_true hs0); exact decide_eq_true (by omega)
          have sB := bb.size
          go_upto_region 4 with (fail)
          refine flowp 11 [Pd.eq (.pointer (some ⟨w.heap.size, 0, none⟩)), Pd.eq (.bool true), Pd.eq (.bool true), Pd.eq (.slice A6 (digs 10000 X).length c6), Pd.eq (.int .i64 (((digs 10000 X).length : Nat) : Int)), Pd.eq (.bool true), Pd.eq (.bool true), Pd.eq (.slice A6 (digs 10000 X).length c6), Pd.eq (.agg #[.bool true, .slice A6 (digs 10000 X).length c6]), Pd.eq (.slice A8 (digs 10000 Y).length c8), Pd.eq (.agg #[.bool true, .slice A6 (digs 10000 X).length c6, .slice A8 (digs 10000 Y).length c8])] (by kernel_rfl) ?ob8 ?done8
          case ob8 =>
            refine And.intro (ob_fieldAddr rfl (wt_none rfl) (ev_far rfl rfl) (fun _ => by kernel_rfl) (fun _ => rfl)) ?_
            refine And.intro (ob_load rfl (wt_none rfl) (ev_dep (j := 0) (by kernel_rfl) rfl rfl) (fun w2 hb => run_load1 Tryz.underlying4 rfl ((B0.below hb).cell 0)) (fun _ _ => rfl)) ?_
            refine And.intro (ob_move rfl (wt_none rfl) (ev_dep (j := 1) (by kernel_rfl) rfl rfl) (fun _ _ h => h)) ?_
            refine And.intro (ob_move rfl (wt_dep (c := true) (b := true) (g := 2) rfl (by kernel_rfl) rfl rfl rfl (by exact fun _ _ h => h)) (ev_far rfl rfl) (fun _ _ h => h)) ?_
            refine And.intro (ob_len rfl (wt_dep (c := true) (b := true) (g := 2) rfl (by kernel_rfl) rfl rfl rfl (by exact fun _ _ h => h)) (ev_dep (j := 3) (by kernel_rfl) rfl rfl) (fun _ _ hx => ⟨_, by rw [hx]; exact len_slice Tryz.underlying51 _ _ _ _, rfl⟩)) ?_
            refine And.intro (ob_bin rfl (wt_dep (c := true) (b := true) (g := 2) rfl (by kernel_rfl) rfl rfl rfl (by exact fun _ _ h => h)) (ev_dep (j := 4) (by kernel_rfl) rfl rfl) (ev_const _) (fun _ _ _ hx hy => ⟨.bool true, by rw [hx, hy, bin_gtr_int, HXl.out], rfl⟩)) ?_
            refine And.intro (ob_pick (b := true) rfl (wt_none rfl) (ev_dep (j := 2) (by kernel_rfl) rfl rfl) (ev_dep (j := 5) (by kernel_rfl) rfl rfl) (fun _ _ h => h)) ?_
            refine And.intro (ob_move rfl (wt_none rfl) (ev_far rfl rfl) (fun _ _ h => h)) ?_
            refine And.intro (ob_build2b rfl (wt_none rfl) (ev_dep (j := 6) (by kernel_rfl) rfl rfl) (ev_dep (j := 7) (by kernel_rfl) rfl rfl) (fun w2 u v hb hu hv => by obtain rfl := hu; obtain rfl := hv; exact ⟨.agg #[.bool true, .slice A6 (digs 10000 X).length c6], by kernel_rfl, rfl⟩)) ?_
            refine And.intro (ob_move rfl (wt_none rfl) (ev_far rfl rfl) (fun _ _ h => h)) ?_
            refine And.intro (ob_build2b rfl (wt_none rfl) (ev_dep (j := 8) (by kernel_rfl) rfl rfl) (ev_dep (j := 9) (by kernel_rfl) rfl rfl) (fun w2 u v hb hu hv => by obtain rfl := hu; obtain rfl := hv; exact ⟨.agg #[.bool true, .slice A6 (digs 10000 X).length c6, .slice A8 (digs 10000 Y).length c8], by kernel_rfl, rfl⟩)) ?_
            trivial
          case done8 =>
            refine fun w14 hb14 v0 h0 v1 h1 v2 h2 v3 h3 v4 h4 v5 h5 v6 h6 v7 h7 v8 h8 v9 h9 v10 h10 b hbf => ?_
            obtain rfl := h0; obtain rfl := h1; obtain rfl := h2; obtain rfl := h3; obtain rfl := h4; obtain rfl := h5; obtain rfl := h6; obtain rfl := h7; obtain rfl := h8; obtain rfl := h9; obtain rfl := h10
            simp only [Act.put, List.setIfInBounds_toArray, List.set_cons_zero, List.set_cons_succ] at hbf
            subst hbf
            replace B0 := B0.below hb14
            replace k0s := k0s.below hb14
            replace k0 := k0.below hb14
            replace BR0 := BR0.below hb14
            replace k1 := k1.below hb14
            replace kg := kg.below hb14
            replace kx := kx.below hb14
            replace ky := ky.below hb14
            replace bb := bb.trans (hb14.mono bb.size)
            have hsz14 := bb.size
            refine ops_store (i := 11) rfl rfl rfl rfl rfl rfl (cells := [.bool true, .slice A6 (digs 10000 X).length c6, .slice A8 (digs 10000 Y).length c8]) rfl BR0 rfl (by kernel_rfl) (one3 rfl rfl rfl) fun w9 hg9 B9 => ?_
            have k9 := off kx BR0 no_ints3 hg9
            have d9 := off ky BR0 no_ints3 hg9
            have bb9 := bb.trans ((Below.refl _ _).grown hg9 bb.size (fun g hg => by injection hg with hg; omega))
            obtain ⟨C0, C1, C2, _, _, _⟩ := three B9
            refine ops_done ?_
            go_wp2
            exact bodyPost_ret (v := .agg #[.bool true, .slice A6 (digs 10000 X).length c6, .slice A8 (digs 10000 Y).length c8]) (by simp [results, Tryz.results86, go_sem, C0, C1, C2]) rfl ⟨_, rfl, isP_mk k9 d9 (by rw [HQS.out, hs0]) HQN.out HQD.out, freshQ_mk (kxf.mono kxz_) (kyf.mono kyz_), bb9⟩
set_option maxHeartbeats 1600000 in
set_option maxRecDepth 100000 in
theorem qback_any (a0 : Value) (q : Rat) (w : World) (h0 : IsP w a0 q) (hl : lenQ q 30000) :
    Calls Tryz.prog 22 #[a0] w (RetQ q w) := by
  obtain ⟨u0, t0, rfl, s0, r0⟩ := h0
  obtain ⟨A0, c0, rfl, _⟩ := id s0
  obtain ⟨D0, e0, rfl, _⟩ := id r0
  go_enter Tryz.func22, Tryz.ntmps22
  go_upto_region 1 with (fail)
  obtain ⟨wx, hwx, bb, B0, BR0, hsz⟩ := vars2 w 55 44 #[.bool (ngB (q).num), .slice A0 (digs 10000 (q).num.natAbs).length c0, .slice D0 (digs 10000 (q).den).length e0] #[.bool false, .slice none 0 0, .slice none 0 0]
  rw [hwx]
  clear hwx
  have k0s := s0.below bb
  have k0d := r0.below bb
  have k0z : IsR wx (.agg #[.bool (ngB (q).num), .slice A0 (digs 10000 (q).num.natAbs).length c0]) (q).num := ⟨_, rfl, k0s⟩
  have k0 : IsP wx (.agg #[.bool (ngB (q).num), .slice A0 (digs 10000 (q).num.natAbs).length c0, .slice D0 (digs 10000 (q).den).length e0]) (q) := ⟨_, _, rfl, k0s, k0d⟩
  have hsz0 := bb.size
  have sB := bb.size
  refine flow 7 [Pd.eq (.pointer (some ⟨w.heap.size, 0, none⟩)), Pd.eq (.agg #[.bool (ngB (q).num), .slice A0 (digs 10000 (q).num.natAbs).length c0]), pz ((q).num) wx.heap.size, Pd.eq (.pointer (some ⟨w.heap.size, 2, none⟩)), Pd.eq (.slice D0 (digs 10000 (q).den).length e0), ps .u64 (digs 4294967296 (q).den) wx.heap.size, pq (q) wx.heap.size] (by kernel_rfl) (by kernel_rfl) ?ob10 ?done10
  case ob10 =>
    refine And.intro (ob_fieldAddr rfl (wt_none rfl) (ev_far rfl rfl) (fun _ => by kernel_rfl) (fun _ => rfl)) ?_
    refine And.intro (ob_load rfl (wt_none rfl) (ev_dep (j := 0) (by kernel_rfl) rfl rfl) (fun w2 hb => run_loadPart Tryz.underlying53 rfl (by kernel_rfl) (B0.drew.below hb) rfl) (fun _ _ => rfl)) ?_
    refine And.intro (ob_call1 rfl Tryz.func65 (by kernel_rfl) (wt_none rfl) (ev_dep (j := 1) (by kernel_rfl) rfl rfl) (fun w2 u0 hb h0 => by obtain rfl := h0; exact (rback_any _ _ _ (k0z.drew.below hb) (Nat.le_trans hl.1 (by decide))).mono fun e w3 h => RetZ.pd h hb.size)) ?_
    refine And.intro (ob_fieldAddr rfl (wt_none rfl) (ev_far rfl rfl) (fun _ => by kernel_rfl) (fun _ => rfl)) ?_
    refine And.intro (ob_load rfl (wt_none rfl) (ev_dep (j := 3) (by kernel_rfl) rfl rfl) (fun w2 hb => run_load1 Tryz.underlying51 rfl ((B0.drew.below hb).cell 2)) (fun _ _ => rfl)) ?_
    refine And.intro (ob_call1 rfl Tryz.func66 (by kernel_rfl) (wt_none rfl) (ev_dep (j := 4) (by kernel_rfl) rfl rfl) (fun w2 u0 hb h0 => by obtain rfl := h0; exact (refBack_any _ _ _ (k0d.drew.below hb) (Nat.le_trans (dec_le _) (by have := hl.2; omega)) (Nat.le_trans hl.2 (by decide))).mono fun e w3 h => RetS.pd h hb.size)) ?_
    refine And.intro (ob_build2b rfl (wt_none rfl) (ev_dep (j := 2) (by kernel_rfl) rfl rfl) (ev_dep (j := 5) (by kernel_rfl) rfl rfl) (fun w2 u v hb hu hv => by obtain ⟨u7, rfl, hu7⟩ := hu.1; obtain ⟨A7, c7, rfl, _⟩ := id hu7; obtain ⟨A8, c8, rfl, _⟩ := id hv.1; exact ⟨.agg #[.bool (ngB (q).num), .slice A7 (digs 4294967296 (q).num.natAbs).length c7, .slice A8 (digs 4294967296 (q).den).length c8], by kernel_rfl, ⟨⟨_, _, rfl, hu7, hv.1⟩, freshQ_mk (hu.2 _ _ rfl) hv.2⟩⟩)) ?_
    trivial
  case done10 =>
    refine fun w11 hb11 v0 h0 v1 h1 v2 h2 v3 h3 v4 h4 v5 h5 v6 h6 b hbf => ?_
    obtain rfl := h0; obtain rfl := h1; obtain rfl := h3; obtain rfl := h4
    obtain ⟨q2, f2⟩ := h2
    obtain ⟨q5, f5⟩ := h5
    obtain ⟨q6, f6⟩ := h6
    simp only [Act.put, List.setIfInBounds_toArray, List.set_cons_zero, List.set_cons_succ] at hbf
    subst hbf
    replace B0 := B0.below hb11
    replace k0s := k0s.below hb11
    replace k0d := k0d.below hb11
    replace k0z := k0z.below hb11
    replace k0 := k0.below hb11
    replace BR0 := BR0.below hb11
    replace bb := bb.trans (hb11.mono bb.size)
    have hsz11 := bb.size
    have s_2 := sB
    have s_5 := sB
    have s_6 := sB
    obtain ⟨u6, t6, rfl, q6, d6⟩ := q6
    obtain ⟨A9, c9, rfl, _⟩ := id q6
    obtain ⟨D9, e9, rfl, _⟩ := id d6
    refine any_store (i := 7) (by kernel_rfl) rfl rfl rfl rfl rfl rfl (cells := [.bool (ngB (q).num), .slice A9 (digs 4294967296 (q).num.natAbs).length c9, .slice D9 (digs 4294967296 (q).den).length e9]) rfl BR0 rfl (by kernel_rfl) (one3 rfl rfl rfl) fun w9 hg9 B9 => ?_
    have k9 := off q6 BR0 no_ints3 hg9
    have d9 := off d6 BR0 no_ints3 hg9
    have f9 := f6.mono (show w.heap.size ≤ _ from s_6)
    have bb9 := bb.trans ((Below.refl _ _).grown hg9 bb.size (fun g hg => by injection hg with hg; omega))
    obtain ⟨C0, C1, C2, _, _, _⟩ := three B9
    refine any_done (by kernel_rfl) ?_
    go_wp2
    exact bodyPost_ret (v := .agg #[.bool (ngB (q).num), .slice A9 (digs 4294967296 (q).num.natAbs).length c9, .slice D9 (digs 4294967296 (q).den).length e9]) (by simp [results, Tryz.results22, go_sem, C0, C1, C2]) rfl ⟨_, rfl, ⟨_, _, rfl, k9, d9⟩, f9, bb9⟩
set_option maxHeartbeats 1600000 in
set_option maxRecDepth 100000 in
theorem rnum7_any (n : Int) (w : World) (h1 : -9223372036854775807 ≤ n) (h2 : n ≤ 9223372036854775807) :
    Calls Tryz.prog 109 #[.int .i64 n] w (RetR n w) := by
  by_cases hn : n < 0
  · have HZ : Hid (sg true n.natAbs = n) := by show _ = _; rw [sg_true]; omega
    go_enter Tryz.func109, Tryz.ntmps109
    go_upto_region 1 with (fail)
    obtain ⟨wx, hwx, bb, BR0, hsz⟩ := vars1 w 53 #[.bool false, .slice none 0 0]
    rw [hwx]
    clear hwx
    go_upto_region 2 with (fail)
    refine flowp 4 [Pd.eq (.int .i64 n), Pd.eq (.int .i64 (-n)), ps .i64 (digs 10000 n.natAbs) wx.heap.size, pr (n)] (by kernel_rfl) ?ob16 ?done16
    case ob16 =>
      refine And.intro (ob_move rfl (wt_none rfl) (ev_far rfl rfl) (fun _ _ h => h)) ?_
      refine And.intro (ob_un rfl (wt_none rfl) (ev_dep (j := 0) (by kernel_rfl) rfl rfl) (fun _ => un_neg _ _ (by omega)) (fun _ => rfl)) ?_
      refine And.intro (ob_call1 rfl Tryz.func110 (by kernel_rfl) (wt_none rfl) (ev_dep (j := 1) (by kernel_rfl) rfl rfl) (fun w2 u0 hb h0 => by obtain rfl := h0; exact (refNum_wide _ n.natAbs _ (by omega) (by omega)).mono fun e w3 h => RetS.pd h hb.size)) ?_
      refine And.intro (ob_call2 rfl Tryz.func134 (by kernel_rfl) (wt_none rfl) (ev_const _) (ev_dep (j := 2) (by kernel_rfl) rfl rfl) (fun w2 u0 u1 hb h0 h1 => by obtain rfl := h0; exact made_pd _ _ _ n _ h1.1 HZ.out)) ?_
      trivial
    case done16 =>
      refine fun w1 hb1 v0 h0 v1 h1 v2 h2 v3 h3 b hbf => ?_
      obtain rfl := h0; obtain rfl := h1
      obtain ⟨q2, f2⟩ := h2
      have q3 := h3
      simp only [Act.put, List.setIfInBounds_toArray, List.set_cons_zero, List.set_cons_succ] at hbf
      subst hbf
      replace BR0 := BR0.below hb1
      replace bb := bb.trans (hb1.mono bb.size)
      have hsz1 := bb.size
      obtain ⟨u3, rfl, q3⟩ := q3
      obtain ⟨A9, c9, rfl, _⟩ := id q3
      refine ops_store (i := 4) rfl rfl rfl rfl rfl rfl (cells := [.bool (ngB n), .slice A9 (digs 10000 n.natAbs).length c9]) rfl BR0 rfl (by kernel_rfl) (one2 rfl rfl) fun w9 hg9 B9 => ?_
      have k9 := off q3 BR0 no_ints2 hg9
      have bb9 := bb.trans ((Below.refl _ _).grown hg9 bb.size (fun g hg => by injection hg with hg; omega))
      obtain ⟨c0, c1, _, _⟩ := Blk.two B9
      refine ops_done ?_
      go_wp2
      exact bodyPost_ret (v := .agg #[.bool (ngB n), .slice A9 (digs 10000 n.natAbs).length c9]) (by simp [results, Tryz.results109, go_sem, c0, c1]) rfl ⟨_, rfl, ⟨_, rfl, k9⟩, bb9⟩
  · have HZ : Hid (sg false n.natAbs = n) := by show _ = _; rw [sg_false]; omega
    go_enter Tryz.func109, Tryz.ntmps109
    go_upto_region 1 with (fail)
    obtain ⟨wx, hwx, bb, BR0, hsz⟩ := vars1 w 53 #[.bool false, .slice none 0 0]
    rw [hwx]
    clear hwx
    go_upto_region 3 with (fail)
    refine flowp 3 [Pd.eq (.int .i64 n), ps .i64 (digs 10000 n.natAbs) wx.heap.size, pr (n)] (by kernel_rfl) ?ob17 ?done17
    case ob17 =>
      refine And.intro (ob_move rfl (wt_none rfl) (ev_far rfl rfl) (fun _ _ h => h)) ?_
      refine And.intro (ob_call1 rfl Tryz.func110 (by kernel_rfl) (wt_none rfl) (ev_dep (j := 0) (by kernel_rfl) rfl rfl) (fun w2 u0 hb h0 => by obtain rfl := h0; exact (refNum_wide _ n.natAbs _ (by omega) (by omega)).mono fun e w3 h => RetS.pd h hb.size)) ?_
      refine And.intro (ob_call2 rfl Tryz.func134 (by kernel_rfl) (wt_none rfl) (ev_const _) (ev_dep (j := 1) (by kernel_rfl) rfl rfl) (fun w2 u0 u1 hb h0 h1 => by obtain rfl := h0; exact made_pd _ _ _ n _ h1.1 HZ.out)) ?_
      trivial
    case done17 =>
      refine fun w1 hb1 v0 h0 v1 h1 v2 h2 b hbf => ?_
      obtain rfl := h0
      obtain ⟨q1, f1⟩ := h1
      have q2 := h2
      simp only [Act.put, List.setIfInBounds_toArray, List.set_cons_zero, List.set_cons_succ] at hbf
      subst hbf
      replace BR0 := BR0.below hb1
      replace bb := bb.trans (hb1.mono bb.size)
      have hsz1 := bb.size
      obtain ⟨u2, rfl, q2⟩ := q2
      obtain ⟨A9, c9, rfl, _⟩ := id q2
      refine ops_store (i := 3) rfl rfl rfl rfl rfl rfl (cells := [.bool (ngB n), .slice A9 (digs 10000 n.natAbs).length c9]) rfl BR0 rfl (by kernel_rfl) (one2 rfl rfl) fun w9 hg9 B9 => ?_
      have k9 := off q2 BR0 no_ints2 hg9
      have bb9 := bb.trans ((Below.refl _ _).grown hg9 bb.size (fun g hg => by injection hg with hg; omega))
      obtain ⟨c0, c1, _, _⟩ := Blk.two B9
      refine ops_done ?_
      go_wp2
      exact bodyPost_ret (v := .agg #[.bool (ngB n), .slice A9 (digs 10000 n.natAbs).length c9]) (by simp [results, Tryz.results109, go_sem, c0, c1]) rfl ⟨_, rfl, ⟨_, rfl, k9⟩, bb9⟩
set_option maxHeartbeats 1600000 in
set_option maxRecDepth 100000 in
theorem qnum_any (n : Int) (d : Int) (w : World)  (dn : Nat) (hd : d = (dn : Int)) (h1 : -9223372036854775807 ≤ n) (h2 : n ≤ 9223372036854775807) (h3 : dn ≠ 0) (h4 : dn ≤ 9223372036854775807) :
    Calls Tryz.prog 59 #[.int .i64 n, .int .i64 d] w (RetPF (mkRat n dn) w) := by
  have HLZ : Hid (lenZ n ≤ 30000) := Nat.le_trans (dig32 (by omega)) (by decide)
  have HLD : Hid ((digs 4294967296 dn).length ≤ 30000) := Nat.le_trans (dig32 (by omega)) (by decide)
  go_enter Tryz.func59, Tryz.ntmps59
  go_upto_region 1 with (fail)
  obtain ⟨wx, hwx, bb, BR0, hsz⟩ := vars1 w 55 #[.bool false, .slice none 0 0, .slice none 0 0]
  rw [hwx]
  clear hwx
  have hsz0 := bb.size
  have sB := bb.size
  refine flowp 5 [Pd.eq (.int .i64 n), pr (n), Pd.eq (.int .i64 d), ps .i64 (digs 10000 dn) wx.heap.size, ppf (mkRat n dn) wx.heap.size] (by kernel_rfl) ?ob18 ?done18
  case ob18 =>
    refine And.intro (ob_move rfl (wt_none rfl) (ev_far rfl rfl) (fun _ _ h => h)) ?_
    refine And.intro (ob_call1 rfl Tryz.func109 (by kernel_rfl) (wt_none rfl) (ev_dep (j := 0) (by kernel_rfl) rfl rfl) (fun w2 u0 hb h0 => by obtain rfl := h0; exact (rnum7_any n _ h1 h2).mono fun e w3 h => RetR.pd h)) ?_
    refine And.intro (ob_move rfl (wt_none rfl) (ev_far rfl rfl) (fun _ _ h => h)) ?_
    refine And.intro (ob_call1 rfl Tryz.func110 (by kernel_rfl) (wt_none rfl) (ev_dep (j := 2) (by kernel_rfl) rfl rfl) (fun w2 u0 hb h0 => by obtain rfl := h0; exact (refNum_wide _ dn _ hd h4).mono fun e w3 h => RetS.pd h hb.size)) ?_
    refine And.intro (ob_call2 rfl Tryz.func86 (by kernel_rfl) (wt_none rfl) (ev_dep (j := 1) (by kernel_rfl) rfl rfl) (ev_dep (j := 3) (by kernel_rfl) rfl rfl) (fun w2 u0 u1 hb h0 h1 => by exact (rlow_any _ n _ dn _ h0 h1.1 h3 HLZ.out HLD.out).mono fun e w3 h => RetPF.pdf h hb.size)) ?_
    trivial
  case done18 =>
    refine fun w11 hb11 v0 h0 v1 h1 v2 h2 v3 h3 v4 h4 b hbf => ?_
    obtain rfl := h0; obtain rfl := h2
    have q1 := h1
    obtain ⟨q3, f3⟩ := h3
    obtain ⟨q4, f4⟩ := h4
    simp only [Act.put, List.setIfInBounds_toArray, List.set_cons_zero, List.set_cons_succ] at hbf
    subst hbf
    replace BR0 := BR0.below hb11
    replace bb := bb.trans (hb11.mono bb.size)
    have hsz11 := bb.size
    have s_3 := sB
    have s_4 := sB
    obtain ⟨u4, t4, rfl, q4, d4⟩ := q4
    obtain ⟨A9, c9, rfl, _⟩ := id q4
    obtain ⟨D9, e9, rfl, _⟩ := id d4
    refine ops_store (i := 5) rfl rfl rfl rfl rfl rfl (cells := [.bool (ngB (mkRat n dn).num), .slice A9 (digs 10000 (mkRat n dn).num.natAbs).length c9, .slice D9 (digs 10000 (mkRat n dn).den).length e9]) rfl BR0 rfl (by kernel_rfl) (one3 rfl rfl rfl) fun w9 hg9 B9 => ?_
    have k9 := off q4 BR0 no_ints3 hg9
    have d9 := off d4 BR0 no_ints3 hg9
    have f9 := f4.mono (show w.heap.size ≤ _ from s_4)
    have bb9 := bb.trans ((Below.refl _ _).grown hg9 bb.size (fun g hg => by injection hg with hg; omega))
    obtain ⟨C0, C1, C2, _, _, _⟩ := three B9
    refine ops_done ?_
    go_wp2
    exact bodyPost_ret (v := .agg #[.bool (ngB (mkRat n dn).num), .slice A9 (digs 10000 (mkRat n dn).num.natAbs).length c9, .slice D9 (digs 10000 (mkRat n dn).den).length e9]) (by simp [results, Tryz.results59, go_sem, C0, C1, C2]) rfl ⟨_, rfl, ⟨_, _, rfl, k9, d9⟩, f9, bb9⟩
end Go.Proofs.YtfnohdgnhdfpaaaGreat.rat
namespace Go.Proofs.YtfnohdgnhdfpaaaGreat.flow
open Go.RowKit Go.Proofs.YtfnohdgnhdfpaaaGreat.num Go.Proofs.YtfnohdgnhdfpaaaGreat.mem
set_option linter.unusedVariables false
/-- Each yields a value as told, in whatever world. -/
def Lates (P : Program) (ops : Array Oper) (L : List Oper) (Φ : List Pd) (w0 : World) (a0 : Act) : List Nat → Prop
  | [] => True
  | q :: qs => (∃ oq, L[q]? = some oq ∧ ∀ ms w1, St L Φ w0 oq ms w1 → ∃ v, Yields P ops oq v (putM a0 L ms) ∧ (ph Φ q).p w1 v) ∧ Lates P ops L Φ w0 a0 qs
section
variable {P : Program} {ops : Array Oper} {L : List Oper} {Φ : List Pd} {w0 : World} {a0 : Act} {o : Oper} {G : Pd}
end
theorem Lates.at_ {P : Program} {ops : Array Oper} {L : List Oper} {Φ : List Pd} {w0 : World} {a0 : Act} : ∀ (pre : List Nat) (q : Nat) (rest : List Nat), Lates P ops L Φ w0 a0 (pre ++ q :: rest) → ∃ oq, L[q]? = some oq ∧ ∀ ms w1, St L Φ w0 oq ms w1 → ∃ v, Yields P ops oq v (putM a0 L ms) ∧ (ph Φ q).p w1 v
  | [], q, rest, h => h.1
  | a :: pre, q, rest, h => Lates.at_ pre q rest h.2
section
variable {P : Program} {Q : Exit → Act → World → Prop} {ops : Array Oper} {o : Oper}
theorem ob_field {L : List Oper} {Φ : List Pd} {w0 : World} {a0 : Act} {i : Nat} {t : TypeId} {x : Operand} {k : Nat} {F : World → Value → Prop} (hop : o.op = .field t x k) (hw : Wt ops L Φ w0 a0 o true) (hx : Ev L Φ w0 a0 o x F) (hr : ∀ w u, F w u → ∃ v, (Instr.field t u k).run P w = .ok v w ∧ (ph Φ i).p w v) : Ob P Q ops L Φ w0 a0 i o :=
  ob_val hw (by unfold isA; rw [hop]) fun ms w hS => by
    obtain ⟨v, h1, h2⟩ := hr w _ (hx ms w hS)
    exact ⟨v, by unfold execOp; simp only [hop, Sem.run_bind, h1]; rfl, h2⟩
end
end Go.Proofs.YtfnohdgnhdfpaaaGreat.flow
namespace Go.Proofs.YtfnohdgnhdfpaaaGreat.flow
open Go.RowKit Go.Proofs.YtfnohdgnhdfpaaaGreat.num Go.Proofs.YtfnohdgnhdfpaaaGreat.mem Go.Proofs.YtfnohdgnhdfpaaaGreat.nat Go.Proofs.YtfnohdgnhdfpaaaGreat.txt Go.Proofs.YtfnohdgnhdfpaaaGreat.str
set_option linter.unusedVariables false
section
variable {P : Program} {Q : Exit → Act → World → Prop} {ops : Array Oper} {o : Oper}
end
section
variable {P : Program} {Q : Exit → Act → World → Prop} {ops : Array Oper} {L : List Oper} {Φ : List Pd} {w0 : World} {a0 : Act} {i : Nat} {o : Oper}
theorem ob_indexAddr {t : TypeId} {x y : Operand} {F G : World → Value → Prop} (hop : o.op = .indexAddr t x y) (hw : Wt ops L Φ w0 a0 o true) (hx : Ev L Φ w0 a0 o x F) (hy : Ev L Φ w0 a0 o y G)
    (hr : ∀ w u v, F w u → G w v → ∃ r, (Instr.indexAt t u v).run P w = .ok r w ∧ (ph Φ i).p w r) : Ob P Q ops L Φ w0 a0 i o :=
  ob_val hw (by unfold isA; rw [hop]) fun ms w hS => by
    obtain ⟨v, h1, h2⟩ := hr w _ _ (hx ms w hS) (hy ms w hS)
    exact ⟨v, by unfold execOp; simp only [hop, Sem.run_bind, h1]; rfl, h2⟩
end
end Go.Proofs.YtfnohdgnhdfpaaaGreat.flow
namespace Go.Proofs.YtfnohdgnhdfpaaaGreat.rat
open Go.RowKit Go.Proofs.YtfnohdgnhdfpaaaGreat.num Go.Proofs.YtfnohdgnhdfpaaaGreat.mem Go.Proofs.YtfnohdgnhdfpaaaGreat.nat Go.Proofs.YtfnohdgnhdfpaaaGreat.txt Go.Proofs.YtfnohdgnhdfpaaaGreat.str Go.Proofs.YtfnohdgnhdfpaaaGreat.flow Go.Proofs.YtfnohdgnhdfpaaaGreat.whl
set_option linter.unusedVariables false
theorem add_len_max {x y m : Nat} (hx : (digs 4294967296 x).length ≤ m) (hy : (digs 4294967296 y).length ≤ m) : (digs 4294967296 (x + y)).length ≤ m + 1 := by
  have h1 := Nat.lt_of_lt_of_le (digs_lt_pow (B := 4294967296) (by omega) x) (Nat.pow_le_pow_right (by omega) hx)
  have h2 := Nat.lt_of_lt_of_le (digs_lt_pow (B := 4294967296) (by omega) y) (Nat.pow_le_pow_right (by omega) hy)
  refine digs_len_le (by omega) ?_
  rw [Nat.pow_succ]
  omega
theorem lenZ_add_max {x y : Int} {m : Nat} (hx : lenZ x ≤ m) (hy : lenZ y ≤ m) : lenZ (x + y) ≤ m + 1 :=
  Nat.le_trans (digs_len_mono (by omega) (show (x + y).natAbs ≤ x.natAbs + y.natAbs by omega)) (add_len_max hx hy)
theorem lenQ_add2 {x y : Rat} {m n : Nat} (h : lenQ x m) (h' : lenQ y n) : lenQ (x + y) (m + n + 1) := by
  rw [Rat.add_def']
  have e1 := lenZ_mul x.num y.den
  have e2 := lenZ_mul y.num x.den
  have e4 := lenZ_mul x.den y.den
  have h1 := h.1; have h2 := h.2; have h3 := h'.1; have h4 := h'.2
  rw [lenD] at e1 e2
  rw [lenD, lenD, ← Int.natCast_mul, lenD] at e4
  have e3 := lenZ_add_max (x := x.num * y.den) (y := y.num * x.den) (m := m + n) (by omega) (by omega)
  exact lenQ_mk (Nat.mul_ne_zero x.den_nz y.den_nz) e3 (by omega)
/-- An element: a fraction, and the slices of its parts. -/
abbrev Elt := Rat × Value × Value
/-- Its parts read as it, with limbs of this kind. -/
def IsE (k : IntKind) (B : Nat) (w : World) (p : Elt) : Prop := IsS w k p.2.1 (digs B p.1.num.natAbs) ∧ IsS w k p.2.2 (digs B p.1.den)
theorem IsE.below {k : IntKind} {B : Nat} {w w' : World} {p : Elt} (h : IsE k B w p) (hb : Below w.heap.size w w') : IsE k B w' p := ⟨h.1.below hb, h.2.below hb⟩
def cells3 (p : Elt) : List Value := [.bool (ngB p.1.num), p.2.1, p.2.2]
def flat3 (ps : List Elt) : List Value := ps.flatMap cells3
theorem flat3_snoc (ps : List Elt) (p : Elt) : flat3 (ps ++ [p]) = flat3 ps ++ cells3 p := by simp [flat3]
theorem flat3_at : ∀ (ps : List Elt) (i : Nat) (p : Elt), ps[i]? = some p → (flat3 ps)[i * 3]? = some (.bool (ngB p.1.num)) ∧ (flat3 ps)[i * 3 + 1]? = some p.2.1 ∧ (flat3 ps)[i * 3 + 2]? = some p.2.2
  | [], i, p, h => by simp at h
  | q :: ps, 0, p, h => by
    obtain rfl : q = p := by simpa using h
    exact ⟨rfl, rfl, rfl⟩
  | q :: ps, i + 1, p, h => by
    have ih := flat3_at ps i p (by simpa using h)
    have e : flat3 (q :: ps) = .bool (ngB q.1.num) :: q.2.1 :: q.2.2 :: flat3 ps := rfl
    rw [e, show (i + 1) * 3 = i * 3 + 1 + 1 + 1 from by omega]
    simpa using ih
/-- The value is a slice of these elements. -/
def IsVF (w : World) (v : Value) (ps : List Elt) : Prop := ∃ A c, v = .slice A ps.length c ∧ ps.length ≤ c ∧ c ≤ maxLen ∧ ∀ i p, ps[i]? = some p → ∃ g o, A = some ⟨g, o, none⟩ ∧ w.cell? ⟨g, o + i * 3, none⟩ = some (.bool (ngB p.1.num)) ∧ w.cell? ⟨g, o + i * 3 + 1, none⟩ = some p.2.1 ∧ w.cell? ⟨g, o + i * 3 + 2, none⟩ = some p.2.2
theorem IsVF.below {w w' : World} {v : Value} {ps : List Elt} (h : IsVF w v ps) (hb : Below w.heap.size w w') : IsVF w' v ps := by
  obtain ⟨A, c, e, h1, h2, h3⟩ := h
  refine ⟨A, c, e, h1, h2, fun i p hp => ?_⟩
  obtain ⟨g, o, e2, c0, c1, c2⟩ := h3 i p hp
  exact ⟨g, o, e2, (hb.cell (World.block_lt_of_cell? w _ c0)).trans c0, (hb.cell (World.block_lt_of_cell? w _ c1)).trans c1, (hb.cell (World.block_lt_of_cell? w _ c2)).trans c2⟩
/-- The value reads as these fractions, with limbs of this kind. -/
def SlF (k : IntKind) (B : Nat) (w : World) (v : Value) (qs : List Rat) : Prop := ∃ ps : List Elt, ps.map (·.1) = qs ∧ IsVF w v ps ∧ ∀ p ∈ ps, IsE k B w p
theorem SlF.below {k : IntKind} {B : Nat} {w w' : World} {v : Value} {qs : List Rat} (h : SlF k B w v qs) (hb : Below w.heap.size w w') : SlF k B w' v qs := by
  obtain ⟨ps, e, h1, h2⟩ := h
  exact ⟨ps, e, h1.below hb, fun p hp => (h2 p hp).below hb⟩
theorem SlF.shape {k : IntKind} {B : Nat} {w : World} {v : Value} {qs : List Rat} (h : SlF k B w v qs) : ∃ A c, v = .slice A qs.length c ∧ qs.length ≤ c ∧ c ≤ maxLen := by
  obtain ⟨ps, rfl, ⟨A, c, e, h1, h2, _⟩, _⟩ := h
  rw [List.length_map]
  exact ⟨A, c, e, h1, h2⟩
/-- One of them. -/
theorem SlF.at_ {k : IntKind} {B : Nat} {w : World} {A : Option Addr} {n c : Nat} {qs : List Rat} {i : Nat} {q : Rat} (h : SlF k B w (.slice A n c) qs) (hq : qs[i]? = some q) : ∃ g o u t, A = some ⟨g, o, none⟩ ∧ i < n ∧ w.cell? ⟨g, o + i * 3, none⟩ = some (.bool (ngB q.num)) ∧ w.cell? ⟨g, o + i * 3 + 1, none⟩ = some u ∧ w.cell? ⟨g, o + i * 3 + 2, none⟩ = some t ∧ IsS w k u (digs B q.num.natAbs) ∧ IsS w k t (digs B q.den) := by
  obtain ⟨ps, rfl, ⟨A', c', e, h1, h2, h3⟩, h4⟩ := h
  injection e with e1 e2 e3
  subst e1; subst e2; subst e3
  rw [List.getElem?_map] at hq
  cases hp : ps[i]? with
  | none => rw [hp] at hq; cases hq
  | some p =>
    rw [hp] at hq
    obtain rfl : p.1 = q := by simpa using hq
    obtain ⟨g, o, e4, c0, c1, c2⟩ := h3 i p hp
    have h5 := h4 p (List.mem_of_getElem? hp)
    exact ⟨g, o, p.2.1, p.2.2, e4, (List.getElem?_eq_some_iff.1 hp).1, c0, c1, c2, h5.1, h5.2⟩
theorem index3 {P : Program} {t e : TypeId} (hu : P.underlying t = some (.slice e)) (hs : (P.info? e).map (·.size) = some 3) {g o n c k : Nat} (hk : k < n) (w : World) : (Instr.indexAt t (.slice (some ⟨g, o, none⟩) n c) (.int .i64 (k : Int))).run P w = .ok (.pointer (some ⟨g, o + k * 3, none⟩)) w := by
  cases hq : P.info? e with
  | none => simp [hq] at hs
  | some inf =>
    have hsz : inf.size = 3 := by simpa [hq] using hs
    simp [Instr.indexAt, asIntOf, go_sem, run_underlying hu, sizeOf, typeInfo, hq, hsz, hk]
theorem load3 {P : Program} {t : TypeId} {g o : Nat} {x y z : Value} {d : TypeDesc} {w : World} (hu : P.underlying t = some d) (hd : d.isRow = true) (hi : (P.info? t).map (·.size) = some 3) (h0 : w.cell? ⟨g, o, none⟩ = some x) (h1 : w.cell? ⟨g, o + 1, none⟩ = some y) (h2 : w.cell? ⟨g, o + 2, none⟩ = some z) : (Instr.loadAt t (.pointer (some ⟨g, o, none⟩))).run P w = .ok (.agg #[x, y, z]) w :=
  run_loadAt_mid w g o t [x, y, z] d (fun j v hj => by
    match j, hj with
    | 0, hj => simp at hj; subst hj; exact h0
    | 1, hj => simp at hj; subst hj; exact h1
    | 2, hj => simp at hj; subst hj; exact h2
    | j + 3, hj => simp at hj) hu hd hi
/-- A row of the call's own that holds these elements. -/
def RowF (T : TypeId) (w : World) (base : Nat) (v : Value) (ps : List Elt) : Prop := w.ownsRow base T 3 v ps.length (flat3 ps)
theorem RowF.below {T : TypeId} {w w' : World} {base : Nat} {v : Value} {ps : List Elt} (h : RowF T w base v ps) (hb : Below w.heap.size w w') : RowF T w' base v ps :=
  World.ownsRow.kept (row := none) h ⟨hb.os, hb.tape, hb.output, hb.size, fun i hi _ => hb.block i hi⟩ (by cases hv : v.ownBlock <;> simp)
theorem RowF.other {T : TypeId} {w w' : World} {base : Nat} {v : Value} {ps : List Elt} {row : Option Nat} (h : RowF T w base v ps) (hg : w.grownBy w' row) (hne : ∀ g, v.ownBlock = some g → row ≠ some g) : RowF T w' base v ps :=
  World.ownsRow.kept (row := row) h hg (by
    cases hv : v.ownBlock with
    | none => exact .inl rfl
    | some g => exact .inr fun e => hne g hv e.symm)
theorem RowF.under {T : TypeId} {w : World} {base : Nat} {v : Value} {ps : List Elt} (h : RowF T w base v ps) : ∀ g, v.ownBlock = some g → g < w.heap.size := fun g hg => (World.ownsRow.lt h g hg).2
theorem RowF.base_le {T : TypeId} {w : World} {base : Nat} {v : Value} {ps : List Elt} (h : RowF T w base v ps) : ∀ g, v.ownBlock = some g → base ≤ g := fun g hg => (World.ownsRow.lt h g hg).1
theorem RowF.isVF {T : TypeId} {w : World} {base : Nat} {v : Value} {ps : List Elt} (h : RowF T w base v ps) : IsVF w v ps := by
  rcases h.2 with ⟨rfl, h0⟩ | ⟨g, cap, cur, rfl, _, hg, hn, hm, _, _⟩
  · obtain rfl : ps = [] := List.length_eq_zero_iff.1 h0
    exact ⟨none, 0, rfl, by simp, by unfold maxLen; omega, fun i u hu => by simp at hu⟩
  · refine ⟨_, cap, rfl, hn, hm, fun i p hp => ⟨g, 0, rfl, ?_⟩⟩
    have e : ∀ j, (⟨g, 0, none⟩ : Addr).add j = ⟨g, 0 + j, none⟩ := by
      intro j
      unfold Addr.add
      by_cases h : j = 0
      · simp [h]
      · simp [h]
    obtain ⟨f0, f1, f2⟩ := flat3_at ps i p hp
    have k0 := World.ownsRow.cells h (g := g) rfl _ _ f0
    have k1 := World.ownsRow.cells h (g := g) rfl _ _ f1
    have k2 := World.ownsRow.cells h (g := g) rfl _ _ f2
    rw [e] at k0 k1 k2
    exact ⟨k0, by rw [Nat.add_assoc]; exact k1, by rw [Nat.add_assoc]; exact k2⟩
theorem rowF_lit0 (T : TypeId) (w : World) (base : Nat) (hb : base ≤ w.heap.size) : RowF T (w.alloc (.cells #[] T)) base (.slice (some ⟨w.heap.size, 0, none⟩) 0 0) [] := by
  have h := World.ownsRow_lit (e := T) (size := 3) w #[] 0 hb (by simp) (by simp)
  simpa [RowF, flat3] using h
theorem rowF_nil (T : TypeId) (w : World) (base : Nat) : RowF T w base (.slice none 0 0) [] := World.ownsRow_nil w base T 3
/-- Elements of a row whose slices lie elsewhere than the row itself. -/
def FarF (k : IntKind) (B : Nat) (w : World) (v : Value) (ps : List Elt) : Prop := ∀ p ∈ ps, IsE k B w p ∧ Far v p.2.1 ∧ Far v p.2.2
theorem FarF.nil (k : IntKind) (B : Nat) (w : World) (v : Value) : FarF k B w v [] := fun p hp => by cases hp
theorem FarF.below {k : IntKind} {B : Nat} {w w' : World} {v : Value} {ps : List Elt} (h : FarF k B w v ps) (hb : Below w.heap.size w w') : FarF k B w' v ps := fun p hp => ⟨(h p hp).1.below hb, (h p hp).2⟩
theorem FarF.snoc {k : IntKind} {B : Nat} {w w' : World} {v v' : Value} {ps : List Elt} {p : Elt} (h : FarF k B w v ps) (hk : Keeps w w' v v') (hp : IsE k B w p) (f1 : Far v p.2.1) (f2 : Far v p.2.2) : FarF k B w' v' (ps ++ [p]) := by
  intro r hr
  rcases List.mem_append.1 hr with hr | hr
  · obtain ⟨⟨a1, a2⟩, b1, b2⟩ := h r hr
    have x1 := hk _ _ _ a1 b1
    have x2 := hk _ _ _ a2 b2
    exact ⟨⟨x1.1, x2.1⟩, x1.2, x2.2⟩
  · obtain rfl := List.mem_singleton.1 hr
    have x1 := hk _ _ _ hp.1 f1
    have x2 := hk _ _ _ hp.2 f2
    exact ⟨⟨x1.1, x2.1⟩, x1.2, x2.2⟩
theorem RowF.sl {T : TypeId} {k : IntKind} {B : Nat} {w : World} {base : Nat} {v : Value} {ps : List Elt} (h : RowF T w base v ps) (hf : FarF k B w v ps) : SlF k B w v (ps.map (·.1)) := ⟨ps, rfl, h.isVF, fun p hp => (hf p hp).1⟩
section
variable {P : Program}
end
theorem info_rat : ∃ i, Tryz.prog.info? 44 = some i ∧ i.zero = some (.agg #[.bool false, .slice none 0 0, .slice none 0 0]) ∧ i.size = 3 ∧ i.bytes = 56 := info_parts (P := Tryz.prog) (e := 44) (z := .agg #[.bool false, .slice none 0 0, .slice none 0 0]) (size := 3) (bytes := 56) (by kernel_rfl)
theorem info_q : ∃ i, Tryz.prog.info? 55 = some i ∧ i.zero = some (.agg #[.bool false, .slice none 0 0, .slice none 0 0]) ∧ i.size = 3 ∧ i.bytes = 56 := info_parts (P := Tryz.prog) (e := 55) (z := .agg #[.bool false, .slice none 0 0, .slice none 0 0]) (size := 3) (bytes := 56) (by kernel_rfl)
/-- The fraction that Clean makes of any. -/
def lowD (d : Nat) : Nat := if d = 0 then 1 else d
theorem lowD_pos (d : Nat) : lowD d ≠ 0 := by unfold lowD; split <;> omega
theorem lowD_len {d m : Nat} (h : (digs 4294967296 d).length ≤ m) (hm : 1 ≤ m) : (digs 4294967296 (lowD d)).length ≤ m := by
  unfold lowD
  split
  · exact Nat.le_trans (digs_len_le (k := 1) (by omega) (by omega)) hm
  · exact h
def cleanQ (b : Bool) (l m : List Nat) (most : Nat) : Rat := mkRat (cleanZ b l most) (lowD (cleaned m most))
theorem cleanQ_len (b : Bool) (l m : List Nat) {most : Nat} (hm : 1 ≤ most) : lenQ (cleanQ b l m most) most := lenQ_mk (lowD_pos _) (cleanZ_len _ _ _) (lowD_len (cleaned_len _ _) hm)
set_option maxHeartbeats 6400000 in
set_option maxRecDepth 100000 in
theorem qclean_any (b : Bool) (v u : Value) (l m : List Nat) (mI : Int) (most : Nat) (w : World) (hmI : mI = (most : Int)) (h0 : IsS w .u64 v l) (u0 : Lt 18446744073709551616 l) (h1 : IsS w .u64 u m) (u1 : Lt 18446744073709551616 m) (hmost : most ≤ 1000) (hm1 : 1 ≤ most) :
    Calls Tryz.prog 39 #[.agg #[.bool b, v, u], .int .i64 mI] w (RetQ (cleanQ b l m most) w) := by
  obtain ⟨A0, c0, rfl, _⟩ := id h0
  obtain ⟨D0, e0, rfl, _⟩ := id h1
  have HM := Lib.hid hmI
  clear hmI
  obtain ⟨y, hy⟩ : ∃ y, y = cleaned m most := ⟨_, rfl⟩
  have my : (digs 4294967296 y).length ≤ most := by rw [hy]; exact cleaned_len _ _
  have HY := Lib.hid hy.symm
  obtain ⟨x, hx⟩ : ∃ x, x = cleanZ b l most := ⟨_, rfl⟩
  have lx : lenZ x ≤ most := by rw [hx]; exact cleanZ_len _ _ _
  have HX := Lib.hid hx.symm
  have HQ : Hid (cleanQ b l m most = mkRat x (lowD y)) := by show _ = _; unfold cleanQ; rw [hx, hy]
  clear hx hy
  go_enter Tryz.func39, Tryz.ntmps39
  go_upto_region 1 with (fail)
  obtain ⟨wx, hwx, bb, B0, B1, hsz⟩ := vars2 w 44 44 #[.bool b, .slice A0 l.length c0, .slice D0 m.length e0] #[.bool false, .slice none 0 0, .slice none 0 0]
  rw [hwx]
  clear hwx
  have k0s := h0.below bb
  have k0d := h1.below bb
  obtain ⟨x00, x01, x02, _, _, _⟩ := three B0
  have hs0 := bb.size
  go_wp2_with fail
  refine (HY.out ▸ clean_any _ m _ most _ HM.out k0d u1 (Nat.le_trans hmost (by decide))).mono ?_
  rintro e w1 ⟨v1, rfl, k1, f1, b1⟩
  obtain ⟨A1, c1, rfl, _⟩ := id k1
  replace B0 := B0.below b1
  replace B1 := B1.below b1
  replace k0s := k0s.below b1
  replace bb := bb.trans (b1.mono bb.size)
  have hs1 := bb.size
  clear x00 x01 x02 k0d
  have HL1 : Hid (lenZ x ≤ 30000) := Nat.le_trans lx (by omega)
  have HL2 : Hid ((digs 4294967296 (lowD y)).length ≤ 30000) := Nat.le_trans (lowD_len my (by omega)) (by omega)
  have HLQ : Hid (lenQ (mkRat x (lowD y)) 30000) := lenQ_mk (lowD_pos y) HL1.out HL2.out
  by_cases hy0 : y = 0
  · have HZ : Hid ((digs 4294967296 y).length = 0) := by show _ = _; rw [hy0, digs_zero]; rfl
    have HO : Hid (digs 4294967296 (lowD y) = [1]) := by show _ = _; rw [hy0]; exact digs_one 1 (by omega) (by omega)
    have hz0 : (digs 4294967296 y).length = 0 := HZ.out
    clear hy0
    have bA := below_alloc (Nat.le_refl w1.heap.size) (.cells #[.int .u64 1] 116)
    have k1o := (own_lit1 w1 w1.heap.size 116 .u64 (show (1 : Int) = ((1 : Nat) : Int) from rfl) (Nat.le_refl _)).isS
    rw [← HO.out] at k1o
    replace k0s := k0s.below bA
    obtain ⟨x10, x11, x12, _, _, _⟩ := three (B0.below bA)
    replace B1 := B1.below bA
    replace bb := bb.trans (bA.mono bb.size)
    have hs2 := bb.size
    clear k1 f1
    go_wp2_with fail
    refine (HX.out ▸ zclean_any b _ l _ most _ HM.out k0s u0 (Nat.le_trans hmost (by decide))).mono ?_
    rintro e w2 ⟨v2, rfl, k2, f2, b2⟩
    replace B1 := B1.below b2
    replace k1o := k1o.below b2
    replace bb := bb.trans (b2.mono bb.size)
    have hs3 := bb.size
    go_wp2_with fail
    refine (rof_any _ x _ k2 HL1.out).mono ?_
    rintro e w3 ⟨v3, rfl, k3, b3⟩
    replace B1 := B1.below b3
    replace k1o := k1o.below b3
    replace bb := bb.trans (b3.mono bb.size)
    have hs4 := bb.size
    go_wp2_with fail
    refine (refOf_any _ (lowD y) _ k1o (Nat.le_trans HL2.out (by decide))).mono ?_
    rintro e w4 ⟨v4, rfl, k4, f4, b4⟩
    replace B1 := B1.below b4
    replace k3 := k3.below b4
    replace bb := bb.trans (b4.mono bb.size)
    have hs5 := bb.size
    go_wp2_with fail
    refine (rlow_any _ x _ (lowD y) _ k3 k4 (lowD_pos y) HL1.out HL2.out).mono ?_
    rintro e w5 ⟨v5, rfl, k5, f5, b5⟩
    replace B1 := B1.below b5
    replace bb := bb.trans (b5.mono bb.size)
    have hs6 := bb.size
    have hg5 := B1.lt
    go_wp2_with fail
    refine (qback_any _ _ _ k5 HLQ.out).mono ?_
    rintro e w6 ⟨v6, rfl, ⟨u6, t6, rfl, k6, d6⟩, f6, b6⟩
    obtain ⟨A6, c6, rfl, _⟩ := id k6
    obtain ⟨D6, e6, rfl, _⟩ := id d6
    replace B1 := B1.below b6
    replace bb := bb.trans (b6.mono bb.size)
    obtain ⟨y0, y1, y2, z0, z1, z2⟩ := three B1
    go_wp2
    exact bodyPost_ret (v := .agg #[.bool (ngB (mkRat x (lowD y)).num), .slice A6 (digs 4294967296 (mkRat x (lowD y)).num.natAbs).length c6, .slice D6 (digs 4294967296 (mkRat x (lowD y)).den).length e6]) (by simp [results, Tryz.results39, go_sem, y0, y1, y2]) rfl (by rw [HQ.out]; exact endQ bb (by omega) hg5 k6 d6 f6)
  · have HZ : 0 < (digs 4294967296 y).length := len_pos (by omega)
    have HO : Hid (lowD y = y) := if_neg hy0
    clear hy0
    obtain ⟨x10, x11, x12, _, _, _⟩ := three B0
    have k1o : IsS w1 .u64 (.slice A1 (digs 4294967296 y).length c1) (digs 4294967296 (lowD y)) := by rw [HO.out]; exact k1
    go_wp2_with fail
    refine (HX.out ▸ zclean_any b _ l _ most _ HM.out k0s u0 (Nat.le_trans hmost (by decide))).mono ?_
    rintro e w2 ⟨v2, rfl, k2, f2, b2⟩
    replace B1 := B1.below b2
    replace k1o := k1o.below b2
    replace bb := bb.trans (b2.mono bb.size)
    have hs3 := bb.size
    go_wp2_with fail
    refine (rof_any _ x _ k2 HL1.out).mono ?_
    rintro e w3 ⟨v3, rfl, k3, b3⟩
    replace B1 := B1.below b3
    replace k1o := k1o.below b3
    replace bb := bb.trans (b3.mono bb.size)
    have hs4 := bb.size
    go_wp2_with fail
    refine (refOf_any _ (lowD y) _ k1o (Nat.le_trans HL2.out (by decide))).mono ?_
    rintro e w4 ⟨v4, rfl, k4, f4, b4⟩
    replace B1 := B1.below b4
    replace k3 := k3.below b4
    replace bb := bb.trans (b4.mono bb.size)
    have hs5 := bb.size
    go_wp2_with fail
    refine (rlow_any _ x _ (lowD y) _ k3 k4 (lowD_pos y) HL1.out HL2.out).mono ?_
    rintro e w5 ⟨v5, rfl, k5, f5, b5⟩
    replace B1 := B1.below b5
    replace bb := bb.trans (b5.mono bb.size)
    have hs6 := bb.size
    have hg5 := B1.lt
    go_wp2_with fail
    refine (qback_any _ _ _ k5 HLQ.out).mono ?_
    rintro e w6 ⟨v6, rfl, ⟨u6, t6, rfl, k6, d6⟩, f6, b6⟩
    obtain ⟨A6, c6, rfl, _⟩ := id k6
    obtain ⟨D6, e6, rfl, _⟩ := id d6
    replace B1 := B1.below b6
    replace bb := bb.trans (b6.mono bb.size)
    obtain ⟨y0, y1, y2, z0, z1, z2⟩ := three B1
    go_wp2
    exact bodyPost_ret (v := .agg #[.bool (ngB (mkRat x (lowD y)).num), .slice A6 (digs 4294967296 (mkRat x (lowD y)).num.natAbs).length c6, .slice D6 (digs 4294967296 (mkRat x (lowD y)).den).length e6]) (by simp [results, Tryz.results39, go_sem, y0, y1, y2]) rfl (by rw [HQ.out]; exact endQ bb (by omega) hg5 k6 d6 f6)
end Go.Proofs.YtfnohdgnhdfpaaaGreat.rat
namespace Go.Proofs.YtfnohdgnhdfpaaaGreat.rat
open Go.RowKit Go.Proofs.YtfnohdgnhdfpaaaGreat.num Go.Proofs.YtfnohdgnhdfpaaaGreat.mem Go.Proofs.YtfnohdgnhdfpaaaGreat.nat Go.Proofs.YtfnohdgnhdfpaaaGreat.flow
set_option linter.unusedVariables false
theorem IsS.cut {w : World} {k : IntKind} {A : Option Addr} {c : Nat} {l : List Nat} (h : IsS w k (.slice A l.length c) l) (m : Nat) : IsS w k (.slice A (min l.length m) c) (l.take m) := by
  obtain ⟨A', c', e, h1, h2, h3⟩ := h
  injection e with e1 e2 e3
  subst e1; subst e3
  refine ⟨A, c, by rw [List.length_take, Nat.min_comm], by rw [List.length_take]; omega, h2, fun i d hd => ?_⟩
  rw [List.getElem?_take] at hd
  split at hd
  · exact h3 i d hd
  · cases hd
end Go.Proofs.YtfnohdgnhdfpaaaGreat.rat
namespace Go.Proofs.YtfnohdgnhdfpaaaGreat.rat
open Go.RowKit Go.Proofs.YtfnohdgnhdfpaaaGreat.num Go.Proofs.YtfnohdgnhdfpaaaGreat.mem Go.Proofs.YtfnohdgnhdfpaaaGreat.nat Go.Proofs.YtfnohdgnhdfpaaaGreat.txt Go.Proofs.YtfnohdgnhdfpaaaGreat.str Go.Proofs.YtfnohdgnhdfpaaaGreat.flow Go.Proofs.YtfnohdgnhdfpaaaGreat.whl
set_option linter.unusedVariables false
theorem mk_num_eq (z : Int) {d : Nat} (hd : d ≠ 0) : (mkRat z d).num = z / ((z.natAbs.gcd d : Nat) : Int) := by
  rw [Rat.num_mkRat, if_neg hd, Nat.gcd_comm]
/-- The upper part, and what it divides. -/
theorem mk_upper (z : Int) {d : Nat} (hd : d ≠ 0) : z = (mkRat z d).num * ((z.natAbs.gcd d : Nat) : Int) := by
  rw [mk_num_eq z hd, Int.ediv_mul_cancel (Int.ofNat_dvd_left.2 (Nat.gcd_dvd_left _ _))]
theorem mk_lower (z : Int) {d : Nat} (hd : d ≠ 0) : d = (mkRat z d).den * (z.natAbs.gcd d) := by
  rw [mk_den z hd, Nat.div_mul_cancel (Nat.gcd_dvd_right _ _)]
/-- A fraction by its own parts, which nothing divides. -/
theorem parts_of {q : Rat} {n : Int} {d : Nat} (hd : d ≠ 0) (h : q = mkRat n d) (hc : Nat.gcd n.natAbs d = 1) : q.num = n ∧ q.den = d := by
  subst h
  constructor
  · rw [mk_num_eq n hd, hc]; exact Int.ediv_one n
  · rw [mk_den n hd, hc, Nat.div_one]
theorem mul_parts (x y : Rat) : (x * y).num = (mkRat x.num y.den).num * (mkRat y.num x.den).num ∧ (x * y).den = (mkRat y.num x.den).den * (mkRat x.num y.den).den := by
  have e1 := mk_upper x.num y.den_nz
  have e2 := mk_lower x.num y.den_nz
  have e3 := mk_upper y.num x.den_nz
  have e4 := mk_lower y.num x.den_nz
  have r1 := (mkRat x.num y.den).reduced
  have r2 := (mkRat y.num x.den).reduced
  have n1 := (mkRat x.num y.den).den_nz
  have n2 := (mkRat y.num x.den).den_nz
  have x1 := x.reduced
  have y1 := y.reduced
  refine parts_of (Nat.mul_ne_zero n2 n1) ?_ ?_
  · rw [Nat.mul_comm, ← Rat.mkRat_mul_mkRat, Rat.mkRat_self, Rat.mkRat_self, Rat.mkRat_mul_mkRat, Nat.mul_comm y.den, Rat.mul_def']
  · have d1 : (mkRat x.num y.den).num.natAbs ∣ x.num.natAbs := Int.natAbs_dvd_natAbs.2 ⟨_, e1⟩
    have d2 : (mkRat y.num x.den).den ∣ x.den := ⟨_, e4⟩
    have d3 : (mkRat y.num x.den).num.natAbs ∣ y.num.natAbs := Int.natAbs_dvd_natAbs.2 ⟨_, e3⟩
    have d4 : (mkRat x.num y.den).den ∣ y.den := ⟨_, e2⟩
    rw [Int.natAbs_mul]
    have c1 : Nat.Coprime (mkRat x.num y.den).num.natAbs (mkRat y.num x.den).den := Nat.Coprime.coprime_dvd_left d1 (Nat.Coprime.coprime_dvd_right d2 x1)
    have c2 : Nat.Coprime (mkRat y.num x.den).num.natAbs (mkRat x.num y.den).den := Nat.Coprime.coprime_dvd_left d3 (Nat.Coprime.coprime_dvd_right d4 y1)
    exact (Nat.Coprime.mul_right c1 r1).mul_left (Nat.Coprime.mul_right r2 c2)
theorem add_parts (x y : Rat) {g a b : Nat} (hg : g = x.den.gcd y.den) (ha : a = x.den / g) (hb : b = y.den / g) : (x + y).num = (mkRat (x.num * (b : Int) + y.num * (a : Int)) g).num ∧ (x + y).den = a * b * (mkRat (x.num * (b : Int) + y.num * (a : Int)) g).den := by
  have gp : 0 < g := by rw [hg]; exact Nat.gcd_pos_of_pos_left _ x.den_pos
  have haux := Rat.add.aux x y hg ha hb
  have e1 : x.den = a * g := by rw [ha, Nat.div_mul_cancel (by rw [hg]; exact Nat.gcd_dvd_left _ _)]
  have e2 : y.den = b * g := by rw [hb, Nat.div_mul_cancel (by rw [hg]; exact Nat.gcd_dvd_right _ _)]
  obtain ⟨S, hS⟩ : ∃ S, S = x.num * (b : Int) + y.num * (a : Int) := ⟨_, rfl⟩
  rw [← hS]
  have haux : S.natAbs.gcd g = S.natAbs.gcd (a * y.den) := by rw [hS]; exact haux
  have e3 : x + y = mkRat S (a * y.den) := by
    rw [Rat.add_def', show x.num * (y.den : Int) + y.num * (x.den : Int) = S * (g : Int) by rw [hS, e1, e2, Int.natCast_mul, Int.natCast_mul, Int.add_mul, Int.mul_assoc, Int.mul_assoc], show x.den * y.den = a * y.den * g by rw [e1]; rw [Nat.mul_assoc, Nat.mul_comm g, ← Nat.mul_assoc], Rat.mkRat_mul_right (by omega)]
  have ne : a * y.den ≠ 0 := Nat.mul_ne_zero (fun e => x.den_nz (by rw [e1, e, Nat.zero_mul])) y.den_nz
  rw [e3]
  constructor
  · rw [mk_num_eq S ne, mk_num_eq S (by omega), haux]
  · rw [mk_den S ne, mk_den S (by omega), ← haux, e2, ← Nat.mul_assoc, Nat.mul_div_assoc _ (Nat.gcd_dvd_right _ _)]
theorem eq_parts {x y : Rat} : x = y ↔ x.num = y.num ∧ x.den = y.den := ⟨fun h => by rw [h]; exact ⟨rfl, rfl⟩, fun h => Rat.ext h.1 h.2⟩
theorem lenQ_of {x : Rat} {m : Nat} (h1 : lenZ x.num ≤ m) (h2 : (digs 4294967296 x.den).length ≤ m) : lenQ x m := ⟨h1, h2⟩
/-- A whole number, and a number, both in new memory. -/
def RetZS (z : Int) (d : Nat) (w : World) (e : Ending) (w' : World) : Prop := ∃ v u, e = .returned (.tuple #[v, u]) ∧ IsZ w' v z ∧ IsS w' .u64 u (digs 4294967296 d) ∧ FreshZ w.heap.size v ∧ Fresh w.heap.size u ∧ Below w.heap.size w w'
def pzs (z : Int) (d : Nat) (B : Nat) : Pd := ⟨fun w t => ∃ v u, t = .tuple #[v, u] ∧ IsZ w v z ∧ IsS w .u64 u (digs 4294967296 d) ∧ FreshZ B v ∧ Fresh B u, fun h hb => by obtain ⟨v, u, e, h1, h2, h3, h4⟩ := h; exact ⟨v, u, e, h1.below hb, h2.below hb, h3, h4⟩⟩
theorem RetZS.pd {z : Int} {d : Nat} {w : World} {e : Ending} {w' : World} {B : Nat} (h : RetZS z d w e w') (hB : B ≤ w.heap.size) : RetPd (pzs z d B) w e w' := by
  obtain ⟨v, u, h1, h2, h3, h4, h5, h6⟩ := h
  exact ⟨_, h1, ⟨v, u, rfl, h2, h3, h4.mono hB, h5.mono hB⟩, h6⟩
/-- A fraction in new memory, and an error's number. -/
def RetQF (q : Rat) (n : Int) (w : World) (e : Ending) (w' : World) : Prop := ∃ v, e = .returned (.tuple #[v, .int .i64 n]) ∧ IsQ w' v q ∧ FreshQ w.heap.size v ∧ Below w.heap.size w w'
def pqf (q : Rat) (n : Int) (B : Nat) : Pd := ⟨fun w t => ∃ v, t = .tuple #[v, .int .i64 n] ∧ IsQ w v q ∧ FreshQ B v, fun h hb => by obtain ⟨v, e, h1, h2⟩ := h; exact ⟨v, e, h1.below hb, h2⟩⟩
theorem RetQF.pd {q : Rat} {n : Int} {w : World} {e : Ending} {w' : World} {B : Nat} (h : RetQF q n w e w') (hB : B ≤ w.heap.size) : RetPd (pqf q n B) w e w' := by
  obtain ⟨v, h1, h2, h3, h4⟩ := h
  exact ⟨_, h1, ⟨v, rfl, h2, h3.mono hB⟩, h4⟩
theorem RetQF.e {q : Rat} {n : Int} {w : World} {e : Ending} {w' : World} (h : RetQF q n w e w') : RetQE q n w e w' := by
  obtain ⟨v, h1, h2, _, h4⟩ := h
  exact ⟨v, h1, h2, h4⟩
theorem RetZ.to {x y : Int} {w : World} {e : Ending} {w' : World} (h : RetZ x w e w') (k : x = y) : RetZ y w e w' := k ▸ h
theorem RetS.to {l m : List Nat} {w : World} {e : Ending} {w' : World} (h : RetS .u64 l w e w') (k : l = m) : RetS .u64 m w e w' := k ▸ h
theorem RetQ.to {x y : Rat} {w : World} {e : Ending} {w' : World} (h : RetQ x w e w') (k : x = y) : RetQ y w e w' := k ▸ h
/-- A struct of a sign, a slice told, and a new number. -/
def pbq (b : Bool) (S : Value) (l : List Nat) (B : Nat) : Pd := ⟨fun w v => ∃ A c, v = .agg #[.bool b, S, .slice A l.length c] ∧ IsS w .u64 (.slice A l.length c) l ∧ Fresh B (.slice A l.length c), fun h hb => by obtain ⟨A, c, e, h1, h2⟩ := h; exact ⟨A, c, e, h1.below hb, h2⟩⟩
set_option maxHeartbeats 1600000 in
set_option maxRecDepth 100000 in
theorem unsigned_any (a0 : Value) (x : Nat) (w : World) (h0 : IsS w .u64 a0 (digs 4294967296 x)) :
    Calls Tryz.prog 129 #[a0] w (RetV (.agg #[.bool false, a0]) w) := by
  have s0 := h0
  obtain ⟨A0, c0, rfl, _⟩ := id s0
  go_enter Tryz.func129, Tryz.ntmps129
  go_upto_region 1 with (fail)
  obtain ⟨wx, hwx, bb, BR0, hsz⟩ := vars1 w 42 #[.bool false, .slice none 0 0]
  rw [hwx]
  clear hwx
  have k0 := s0.below bb
  have hsz0 := bb.size
  have sB := bb.size
  refine flowp 2 [Pd.eq (.slice A0 (digs 4294967296 x).length c0), Pd.eq (.agg #[.bool false, .slice A0 (digs 4294967296 x).length c0])] (by kernel_rfl) ?ob1 ?done1
  case ob1 =>
    refine And.intro (ob_move rfl (wt_none rfl) (ev_far rfl rfl) (fun _ _ h => h)) ?_
    refine And.intro (ob_build1b rfl (wt_none rfl) (ev_dep (j := 0) (by kernel_rfl) rfl rfl) (fun w2 u hb hu => by obtain rfl := hu; exact ⟨.agg #[.bool false, .slice A0 (digs 4294967296 x).length c0], by kernel_rfl, rfl⟩)) ?_
    trivial
  case done1 =>
    refine fun w1 hb1 v0 h0 v1 h1 b hbf => ?_
    obtain rfl := h0; obtain rfl := h1
    simp only [Act.put, List.setIfInBounds_toArray, List.set_cons_zero, List.set_cons_succ] at hbf
    subst hbf
    replace BR0 := BR0.below hb1
    replace k0 := k0.below hb1
    replace bb := bb.trans (hb1.mono bb.size)
    have hsz1 := bb.size
    refine ops_store (i := 2) rfl rfl rfl rfl rfl rfl (cells := [.bool false, .slice A0 (digs 4294967296 x).length c0]) rfl BR0 rfl (by kernel_rfl) (one2 rfl rfl) fun w9 hg9 B9 => ?_
    have bb9 := bb.trans ((Below.refl _ _).grown hg9 bb.size (fun g hg => by injection hg with hg; omega))
    obtain ⟨C0, C1, _, _⟩ := Blk.two B9
    refine ops_done ?_
    go_wp2
    exact bodyPost_ret (v := .agg #[.bool false, .slice A0 (digs 4294967296 x).length c0]) (by simp [results, Tryz.results129, go_sem, C0, C1]) rfl ⟨rfl, bb9⟩
theorem unsigned_pd (a0 : Value) (x : Nat) (w : World) (h0 : IsS w .u64 a0 (digs 4294967296 x)) : Calls Tryz.prog 129 #[a0] w (RetPd (pi ((x : Nat) : Int)) w) :=
  (unsigned_any a0 x w h0).mono fun e w' h => ⟨_, h.1, isZ_mk (h0.below h.2) (Int.natAbs_natCast _) (ngB_of_pos (by omega)).symm, h.2⟩
set_option maxHeartbeats 1600000 in
set_option maxRecDepth 100000 in
theorem times_any (a0 : Value) (x : Nat) (a1 : Value) (y : Nat) (w : World) (h0 : IsS w .u64 a0 (digs 4294967296 x)) (h1 : IsS w .u64 a1 (digs 4294967296 y)) (hl : (digs 4294967296 x).length ≤ 100000) (hl2 : (digs 4294967296 y).length ≤ 100000) :
    Calls Tryz.prog 83 #[a0, a1] w (RetS .u64 (digs 4294967296 (x * y)) w) := by
  have s0 := h0
  obtain ⟨A0, c0, rfl, _⟩ := id s0
  have s1 := h1
  obtain ⟨A1, c1, rfl, _⟩ := id s1
  have bb : Below w.heap.size w w := Below.refl _ _
  have HM : Hid (((x * y : Nat) : Int) = ((x : Nat) : Int) * ((y : Nat) : Int)) := Int.natCast_mul x y
  have HL1 : Hid (lenZ ((x : Nat) : Int) ≤ 100000) := by show _ ≤ _; rw [lenD]; omega
  have HL2 : Hid (lenZ ((y : Nat) : Int) ≤ 100000) := by show _ ≤ _; rw [lenD]; omega
  go_enter Tryz.func83, Tryz.ntmps83
  go_upto_region 1 with (fail)
  have k0 := s0.below bb
  have k1 := s1.below bb
  have hsz0 := bb.size
  have sB := bb.size
  refine flowp 7 [Pd.eq (.slice A0 (digs 4294967296 x).length c0), pi (((x : Nat) : Int)), Pd.eq (.slice A1 (digs 4294967296 y).length c1), pi (((y : Nat) : Int)), pz (((x * y : Nat) : Int)) w.heap.size, ps .u64 (digs 4294967296 (x * y)) w.heap.size, ps .u64 (digs 4294967296 (x * y)) w.heap.size] (by kernel_rfl) ?ob2 ?done2
  case ob2 =>
    refine And.intro (ob_move rfl (wt_none rfl) (ev_far rfl rfl) (fun _ _ h => h)) ?_
    refine And.intro (ob_call1 rfl Tryz.func129 (by kernel_rfl) (wt_none rfl) (ev_dep (j := 0) (by kernel_rfl) rfl rfl) (fun w2 u0 hb h0 => by obtain rfl := h0; exact unsigned_pd _ (x) _ (k0.below hb))) ?_
    refine And.intro (ob_move rfl (wt_none rfl) (ev_far rfl rfl) (fun _ _ h => h)) ?_
    refine And.intro (ob_call1 rfl Tryz.func129 (by kernel_rfl) (wt_none rfl) (ev_dep (j := 2) (by kernel_rfl) rfl rfl) (fun w2 u0 hb h0 => by obtain rfl := h0; exact unsigned_pd _ (y) _ (k1.below hb))) ?_
    refine And.intro (ob_call2 rfl Tryz.func82 (by kernel_rfl) (wt_none rfl) (ev_dep (j := 1) (by kernel_rfl) rfl rfl) (ev_dep (j := 3) (by kernel_rfl) rfl rfl) (fun w2 u0 u1 hb h0 h1 => by exact (zmul_any _ _ _ _ _ _ h0 h1 HL1.out HL2.out HM.out).mono fun e w3 h => RetZ.pd h hb.size)) ?_
    refine And.intro (ob_field rfl (wt_none rfl) (ev_dep (j := 4) (by kernel_rfl) rfl rfl) (fun w2 u hu => by obtain ⟨⟨u', rfl, q'⟩, f'⟩ := hu; exact ⟨u', by kernel_rfl, q', f' _ _ rfl⟩)) ?_
    refine And.intro (ob_assign rfl (wt_none rfl) (ev_dep (j := 5) (by kernel_rfl) rfl rfl) (fun _ _ h => h)) ?_
    trivial
  case done2 =>
    refine fun w1 hb1 v0 h0 v1 h1 v2 h2 v3 h3 v4 h4 v5 h5 v6 h6 b hbf => ?_
    obtain rfl := h0; obtain rfl := h2
    have q1 := h1
    have q3 := h3
    obtain ⟨q4, f4⟩ := h4
    obtain ⟨q5, f5⟩ := h5
    obtain ⟨q6, f6⟩ := h6
    simp only [Act.put, List.setIfInBounds_toArray, List.set_cons_zero, List.set_cons_succ] at hbf
    subst hbf
    replace k0 := k0.below hb1
    replace k1 := k1.below hb1
    replace bb := bb.trans (hb1.mono bb.size)
    have hsz1 := bb.size
    have s_4 := sB
    have s_5 := sB
    have s_6 := sB
    refine ops_done ?_
    go_wp2
    go_ret
    exact ⟨_, rfl, q6, f6.mono s_6, bb⟩
set_option maxHeartbeats 1600000 in
set_option maxRecDepth 100000 in
theorem reduced_any (a0 : Value) (z : Int) (a1 : Value) (d : Nat) (U : Int) (L : Nat) (w : World) (h0 : IsZ w a0 z) (h1 : IsS w .u64 a1 (digs 4294967296 d)) (hd : d ≠ 0) (hl : lenZ z ≤ 20000) (hl2 : (digs 4294967296 d).length ≤ 20000) (hU : U = (mkRat z d).num) (hL : L = (mkRat z d).den) :
    Calls Tryz.prog 81 #[a0, a1] w (RetZS U L w) := by
  obtain ⟨u0, rfl, s0⟩ := h0
  obtain ⟨A0, c0, rfl, _⟩ := id s0
  have s1 := h1
  obtain ⟨A1, c1, rfl, _⟩ := id s1
  obtain ⟨G, hG⟩ : ∃ G, G = Nat.gcd z.natAbs d := ⟨_, rfl⟩
  have hGp : 0 < G := by rw [hG]; exact Nat.gcd_pos_of_pos_right _ (by omega)
  have hGd : G ≤ d := by rw [hG]; exact Nat.le_of_dvd (by omega) (Nat.gcd_dvd_right _ _)
  have HL1 : Hid ((digs 4294967296 z.natAbs).length ≤ 90000) := Nat.le_trans hl (by decide)
  have HL2 : Hid ((digs 4294967296 d).length ≤ 90000) := Nat.le_trans hl2 (by decide)
  have HL3 : Hid (lenZ ((G : Nat) : Int) ≤ 20000) := by show _ ≤ _; rw [lenD]; exact Nat.le_trans (digs_len_mono (by omega) hGd) hl2
  have HL4 : Hid ((digs 4294967296 G).length ≤ 90000) := Nat.le_trans (digs_len_mono (by omega) hGd) HL2.out
  have HG : Hid (gcds [z.natAbs, d] = G) := by show _ = _; rw [hG]; simp [gcds]
  have HU : Hid (z = U * ((G : Nat) : Int)) := by show _ = _; rw [hU, hG]; exact mk_upper z hd
  have HM : Hid (d % G = 0) := by show _ = _; rw [hG]; exact Nat.mod_eq_zero_of_dvd (Nat.gcd_dvd_right _ _)
  have HQ : Hid (L = d / G) := by show _ = _; rw [hL, hG]; exact mk_den z hd
  have HN : Hid (((G : Nat) : Int) ≠ 0) := by show _ ≠ _; omega
  clear hG hU hL hGd
  go_enter Tryz.func81, Tryz.ntmps81
  go_upto_region 1 with (fail)
  obtain ⟨wx, hwx, bb, B0, BR0, hsz⟩ := vars2 w 42 42 #[.bool (ngB z), .slice A0 (digs 4294967296 (z).natAbs).length c0] #[.bool false, .slice none 0 0]
  rw [hwx]
  clear hwx
  have k0s := s0.below bb
  have k0 : IsZ wx (.agg #[.bool (ngB z), .slice A0 (digs 4294967296 (z).natAbs).length c0]) (z) := isZ_mk k0s rfl rfl
  have k1 := s1.below bb
  have hsz0 := bb.size
  obtain ⟨x00, x01, _, _⟩ := Blk.two B0
  go_wp2_with fail
  have hbA := below_alloc (Nat.le_refl wx.heap.size) (.cells #[.slice A0 (digs 4294967296 (z).natAbs).length c0, .slice A1 (digs 4294967296 d).length c1] 40)
  refine (ggcd_any _ [_, _] [z.natAbs, d] _ (isV_lit wx 40 [_, _]) (nums2 (k0s.below hbA) (k1.below hbA)) (by simp) (by intro q hq; simp at hq; rcases hq with rfl | rfl; exact HL1.out; exact HL2.out)).mono ?_
  rintro e w1 ⟨v1, rfl, kg, kgf, b1⟩
  have hb1 := hbA.trans (b1.mono hbA.size)
  rw [HG.out] at kg
  clear x00 x01
  replace B0 := B0.below hb1
  replace k0s := k0s.below hb1
  replace k0 := k0.below hb1
  replace BR0 := BR0.below hb1
  replace k1 := k1.below hb1
  replace bb := bb.trans (hb1.mono bb.size)
  have hsz1 := bb.size
  obtain ⟨Akg, ckg, rfl, _⟩ := id kg
  have sB := bb.size
  go_upto_region 2 with (fail)
  have lt1_2 := Blk.lt B0
  have lt1_4 := Blk.lt BR0
  refine flowl 8 [Pd.eq (.agg #[.bool (ngB z), .slice A0 (digs 4294967296 (z).natAbs).length c0]), Pd.eq (.slice Akg (digs 4294967296 G).length ckg), pi (((G : Nat) : Int)), pze (U) 0 w1.heap.size, pze (U) 0 w1.heap.size, pz (U) w1.heap.size, Pd.eq (.int .i64 0), pn 42 #[.bool false, .slice none 0 0] w1.heap.size] (by kernel_rfl) 6 rfl (by kernel_rfl) (fun _ _ _ _ h => h) (late_extract rfl rfl (ev_dep (j := 4) (by kernel_rfl) rfl rfl) (fun w2 u hu => by obtain ⟨v, rfl, q1, q2⟩ := hu; exact ⟨_, fun _ => rfl, rfl⟩)) ?ob3 ?done3
  case ob3 =>
    refine And.intro (ob_load rfl (wt_none rfl) (ev_far rfl rfl) (fun w2 hb => run_loadAll Tryz.underlying42 rfl (by kernel_rfl) (B0.drew.below hb)) (fun _ _ => rfl)) ?_
    refine And.intro (ob_move rfl (wt_none rfl) (ev_far rfl rfl) (fun _ _ h => h)) ?_
    refine And.intro (ob_call1 rfl Tryz.func129 (by kernel_rfl) (wt_none rfl) (ev_dep (j := 1) (by kernel_rfl) rfl rfl) (fun w2 u0 hb h0 => by obtain rfl := h0; exact unsigned_pd _ (G) _ (kg.drew.below hb))) ?_
    refine And.intro (ob_call2 rfl Tryz.func128 (by kernel_rfl) (wt_none rfl) (ev_dep (j := 0) (by kernel_rfl) rfl rfl) (ev_dep (j := 2) (by kernel_rfl) rfl rfl) (fun w2 u0 u1 hb h0 h1 => by obtain rfl := h0; exact (zexact_ok _ z _ _ U _ (k0.drew.below hb) h1 hl HL3.out HN.out HU.out).mono fun e w3 h => RetZE.pd h hb.size)) ?_
    refine And.intro (ob_move rfl (wt_none rfl) (ev_dep (j := 3) (by kernel_rfl) rfl rfl) (fun _ _ h => h)) ?_
    refine And.intro (ob_extract rfl (wt_none rfl) (ev_dep (j := 4) (by kernel_rfl) rfl rfl) (fun w2 u hu => by obtain ⟨v, rfl, q1, q2⟩ := hu; exact ⟨v, rfl, q1, q2⟩)) ?_
    refine And.intro (ob_extract rfl (wt_none rfl) (ev_dep (j := 4) (by kernel_rfl) rfl rfl) (fun w2 u hu => by obtain ⟨v, rfl, q1, q2⟩ := hu; exact ⟨_, rfl, rfl⟩)) ?_
    refine And.intro (ob_alloc (z := .agg #[.bool false, .slice none 0 0]) rfl rfl (fun _ => by kernel_rfl) (fun _ _ hB h => ⟨_, rfl, hB, h⟩)) ?_
    trivial
  case done3 =>
    refine fun w2 hb2 v0 h0 v1 h1 v2 h2 v3 h3 v4 h4 v5 h5 v6 h6 v7 h7 d7 b hbf => ?_
    obtain rfl := h0; obtain rfl := h1; obtain rfl := h6
    have q2 := h2
    clear h3
    clear h4
    obtain ⟨q5, f5⟩ := h5
    obtain ⟨g3_7, rfl, hg7, B7⟩ := h7
    simp only [Act.put, List.setIfInBounds_toArray, List.set_cons_zero, List.set_cons_succ] at hbf
    subst hbf
    replace B0 := B0.below hb2
    replace k0s := k0s.below hb2
    replace k0 := k0.below hb2
    replace BR0 := BR0.below hb2
    replace k1 := k1.below hb2
    replace kg := kg.below hb2
    replace bb := bb.trans (hb2.mono bb.size)
    have hsz2 := bb.size
    have s_5 := sB
    have BA7 := B7
    obtain ⟨u5, rfl, q5⟩ := q5
    obtain ⟨A7, c7, rfl, _⟩ := id q5
    refine any_store (i := 8) (by kernel_rfl) rfl rfl rfl rfl rfl rfl (cells := [.bool (ngB U), .slice A7 (digs 4294967296 (U).natAbs).length c7]) rfl BA7 rfl (by kernel_rfl) (one2 rfl rfl) fun w3 hg3 BN3 => ?_
    replace q5 := off q5 BA7 no_ints2 hg3
    replace k1 := off k1 BA7 no_ints2 hg3
    replace kg := off kg BA7 no_ints2 hg3
    replace k0s := off k0s BA7 no_ints2 hg3
    replace k0 : IsZ w3 (.agg #[.bool (ngB z), .slice A0 (digs 4294967296 (z).natAbs).length c0]) (z) := ⟨_, rfl, k0s⟩
    replace B0 := B0.grown hg3 (by omega)
    replace BR0 := BR0.grown hg3 (by omega)
    replace bb := bb.trans ((Below.refl _ _).grown hg3 bb.size (fun g hg => by injection hg with hg; omega))
    have hsz3 := bb.size
    have B7 : Blk w3 (g3_7) _ _ := BN3
    have k7s := q5
    have k7 : IsZ w3 (.agg #[.bool (ngB U), .slice A7 (digs 4294967296 (U).natAbs).length c7]) (U) := ⟨_, rfl, k7s⟩
    refine any_assign (i := 9) (.int .i64 0) (by kernel_rfl) rfl rfl rfl rfl rfl fun b hbf => ?_
    simp only [Act.put, List.setIfInBounds_toArray, List.set_cons_zero, List.set_cons_succ] at hbf
    subst hbf
    refine any_done (by kernel_rfl) ?_
    have f7_ := (f5 _ _ rfl).mono s_5
    have sB := bb.size
    go_upto_region 3 with (fail)
    refine flowp 8 [Pd.eq (.slice A1 (digs 4294967296 d).length c1), Pd.eq (.slice Akg (digs 4294967296 G).length ckg), pt .u64 (digs 4294967296 L) 0 w3.heap.size, pt .u64 (digs 4294967296 L) 0 w3.heap.size, ps .u64 (digs 4294967296 L) w3.heap.size, Pd.eq (.int .i64 0), ps .u64 (digs 4294967296 L) w3.heap.size, Pd.eq (.int .i64 0)] (by kernel_rfl) ?ob4 ?done4
    case ob4 =>
      refine And.intro (ob_move rfl (wt_none rfl) (ev_far rfl rfl) (fun _ _ h => h)) ?_
      refine And.intro (ob_move rfl (wt_none rfl) (ev_far rfl rfl) (fun _ _ h => h)) ?_
      refine And.intro (ob_call2 rfl Tryz.func130 (by kernel_rfl) (wt_none rfl) (ev_dep (j := 0) (by kernel_rfl) rfl rfl) (ev_dep (j := 1) (by kernel_rfl) rfl rfl) (fun w2 u0 u1 hb h0 h1 => by obtain rfl := h0; obtain rfl := h1; exact (dexact_ok _ _ d G _ (k1.below hb) (kg.below hb) HL2.out HL4.out hGp L HM.out HQ.out).mono fun e w3 h => RetSI.pd h hb.size)) ?_
      refine And.intro (ob_move rfl (wt_none rfl) (ev_dep (j := 2) (by kernel_rfl) rfl rfl) (fun _ _ h => h)) ?_
      refine And.intro (ob_extract rfl (wt_none rfl) (ev_dep (j := 3) (by kernel_rfl) rfl rfl) (fun w2 u hu => by obtain ⟨v, rfl, q1, q2⟩ := hu; exact ⟨v, rfl, q1, q2⟩)) ?_
      refine And.intro (ob_extract rfl (wt_none rfl) (ev_dep (j := 3) (by kernel_rfl) rfl rfl) (fun w2 u hu => by obtain ⟨v, rfl, q1, q2⟩ := hu; exact ⟨_, rfl, rfl⟩)) ?_
      refine And.intro (ob_assign rfl (wt_none rfl) (ev_dep (j := 4) (by kernel_rfl) rfl rfl) (fun _ _ h => h)) ?_
      refine And.intro (ob_assign rfl (wt_none rfl) (ev_dep (j := 5) (by kernel_rfl) rfl rfl) (fun _ _ h => h)) ?_
      trivial
    case done4 =>
      refine fun w4 hb4 v0 h0 v1 h1 v2 h2 v3 h3 v4 h4 v5 h5 v6 h6 v7 h7 b hbf => ?_
      obtain rfl := h0; obtain rfl := h1; obtain rfl := h5; obtain rfl := h7
      clear h2
      clear h3
      obtain ⟨q4, f4⟩ := h4
      obtain ⟨q6, f6⟩ := h6
      simp only [Act.put, List.setIfInBounds_toArray, List.set_cons_zero, List.set_cons_succ] at hbf
      subst hbf
      replace B0 := B0.below hb4
      replace k0s := k0s.below hb4
      replace k0 := k0.below hb4
      replace BR0 := BR0.below hb4
      replace B7 := B7.below hb4
      replace k7s := k7s.below hb4
      replace k7 := k7.below hb4
      replace k1 := k1.below hb4
      replace kg := kg.below hb4
      replace bb := bb.trans (hb4.mono bb.size)
      have hsz4 := bb.size
      have s_4 := sB
      have s_6 := sB
      refine ops_done ?_
      obtain ⟨A9, c9, rfl, _⟩ := id q6
      have n9 := q6
      have n9f := f6
      have n9z_ := s_6
      have sB := bb.size
      go_upto_region 4 with (fail)
      refine flowp 2 [Pd.eq (.agg #[.bool (ngB U), .slice A7 (digs 4294967296 (U).natAbs).length c7]), Pd.eq (.slice A9 (digs 4294967296 L).length c9)] (by kernel_rfl) ?ob5 ?done5
      case ob5 =>
        refine And.intro (ob_load rfl (wt_none rfl) (ev_far rfl rfl) (fun w2 hb => run_loadAll Tryz.underlying42 rfl (by kernel_rfl) (B7.below hb)) (fun _ _ => rfl)) ?_
        refine And.intro (ob_move rfl (wt_none rfl) (ev_far rfl rfl) (fun _ _ h => h)) ?_
        trivial
      case done5 =>
        refine fun w5 hb5 v0 h0 v1 h1 b hbf => ?_
        obtain rfl := h0; obtain rfl := h1
        simp only [Act.put, List.setIfInBounds_toArray, List.set_cons_zero, List.set_cons_succ] at hbf
        subst hbf
        replace B0 := B0.below hb5
        replace k0s := k0s.below hb5
        replace k0 := k0.below hb5
        replace BR0 := BR0.below hb5
        replace B7 := B7.below hb5
        replace k7s := k7s.below hb5
        replace k7 := k7.below hb5
        replace k1 := k1.below hb5
        replace kg := kg.below hb5
        replace n9 := n9.below hb5
        replace bb := bb.trans (hb5.mono bb.size)
        have hsz5 := bb.size
        refine ops_store (i := 2) rfl rfl rfl rfl rfl rfl (cells := [.bool (ngB U), .slice A7 (digs 4294967296 (U).natAbs).length c7]) rfl BR0 rfl (by kernel_rfl) (one2 rfl rfl) fun wx9 hg9 BX9 => ?_
        have m9 := off k7s BR0 no_ints2 hg9
        have l9 := off n9 BR0 no_ints2 hg9
        have bb9 := bb.trans ((Below.refl _ _).grown hg9 bb.size (fun g hg => by injection hg with hg; omega))
        obtain ⟨C0, C1, _, _⟩ := Blk.two BX9
        refine ops_assign (i := 3) (.slice A9 (digs 4294967296 L).length c9) rfl rfl rfl rfl rfl fun b hbf => ?_
        simp only [Act.put, List.setIfInBounds_toArray, List.set_cons_zero, List.set_cons_succ] at hbf
        subst hbf
        refine ops_done ?_
        go_wp2
        exact bodyPost_ret (v := .tuple #[.agg #[.bool (ngB U), .slice A7 (digs 4294967296 (U).natAbs).length c7], .slice A9 (digs 4294967296 L).length c9]) (by simp [results, Tryz.results81, go_sem, C0, C1]) rfl ⟨_, _, rfl, isZ_mk m9 rfl rfl, l9, freshZ_mk f7_, n9f.mono n9z_, bb9⟩
set_option maxHeartbeats 1600000 in
set_option maxRecDepth 100000 in
theorem neg8_any (a0 : Value) (q : Rat) (w : World) (h0 : IsQ w a0 q) (hl : lenQ q 100000) :
    Calls Tryz.prog 75 #[a0] w (RetQ (-q) w) := by
  obtain ⟨u0, t0, rfl, s0, r0⟩ := h0
  obtain ⟨A0, c0, rfl, _⟩ := id s0
  obtain ⟨D0, e0, rfl, _⟩ := id r0
  have HN : Hid (-q.num = (-q).num) := (neg_parts q).1.symm
  have HD : Hid (q.den = (-q).den) := (neg_parts q).2.symm
  go_enter Tryz.func75, Tryz.ntmps75
  go_upto_region 1 with (fail)
  obtain ⟨wx, hwx, bb, B0, BR0, hsz⟩ := vars2 w 44 44 #[.bool (ngB (q).num), .slice A0 (digs 4294967296 (q).num.natAbs).length c0, .slice D0 (digs 4294967296 (q).den).length e0] #[.bool false, .slice none 0 0, .slice none 0 0]
  rw [hwx]
  clear hwx
  have k0s := s0.below bb
  have k0d := r0.below bb
  have k0z : IsZ wx (.agg #[.bool (ngB (q).num), .slice A0 (digs 4294967296 (q).num.natAbs).length c0]) (q).num := ⟨_, rfl, k0s⟩
  have k0 : IsQ wx (.agg #[.bool (ngB (q).num), .slice A0 (digs 4294967296 (q).num.natAbs).length c0, .slice D0 (digs 4294967296 (q).den).length e0]) (q) := ⟨_, _, rfl, k0s, k0d⟩
  have hsz0 := bb.size
  have sB := bb.size
  refine flow 7 [Pd.eq (.pointer (some ⟨w.heap.size, 0, none⟩)), Pd.eq (.agg #[.bool (ngB (q).num), .slice A0 (digs 4294967296 (q).num.natAbs).length c0]), pz ((-q).num) wx.heap.size, Pd.eq (.pointer (some ⟨w.heap.size, 2, none⟩)), Pd.eq (.slice D0 (digs 4294967296 (q).den).length e0), ps .u64 (digs 4294967296 (-q).den) wx.heap.size, pq (-q) wx.heap.size] (by kernel_rfl) (by kernel_rfl) ?ob6 ?done6
  case ob6 =>
    refine And.intro (ob_fieldAddr rfl (wt_none rfl) (ev_far rfl rfl) (fun _ => by kernel_rfl) (fun _ => rfl)) ?_
    refine And.intro (ob_load rfl (wt_none rfl) (ev_dep (j := 0) (by kernel_rfl) rfl rfl) (fun w2 hb => run_loadPart Tryz.underlying42 rfl (by kernel_rfl) (B0.drew.below hb) rfl) (fun _ _ => rfl)) ?_
    refine And.intro (ob_call1 rfl Tryz.func121 (by kernel_rfl) (wt_none rfl) (ev_dep (j := 1) (by kernel_rfl) rfl rfl) (fun w2 u0 hb h0 => by obtain rfl := h0; exact (zneg_any _ q.num _ (k0z.drew.below hb) (Nat.le_trans hl.1 (by decide))).mono fun e w3 h => RetZ.pd (RetZ.to h HN.out) hb.size)) ?_
    refine And.intro (ob_fieldAddr rfl (wt_none rfl) (ev_far rfl rfl) (fun _ => by kernel_rfl) (fun _ => rfl)) ?_
    refine And.intro (ob_load rfl (wt_none rfl) (ev_dep (j := 3) (by kernel_rfl) rfl rfl) (fun w2 hb => run_load1 Tryz.underlying40 rfl ((B0.drew.below hb).cell 2)) (fun _ _ => rfl)) ?_
    refine And.intro (ob_call1 rfl Tryz.func122 (by kernel_rfl) (wt_none rfl) (ev_dep (j := 4) (by kernel_rfl) rfl rfl) (fun w2 u0 hb h0 => by obtain rfl := h0; exact (clone_any _ _ _ (k0d.drew.below hb) (Nat.le_trans hl.2 (by decide))).mono fun e w3 h => RetS.pd (RetS.to h (congrArg (digs 4294967296) HD.out)) hb.size)) ?_
    refine And.intro (ob_build2b rfl (wt_none rfl) (ev_dep (j := 2) (by kernel_rfl) rfl rfl) (ev_dep (j := 5) (by kernel_rfl) rfl rfl) (fun w2 u v hb hu hv => by obtain ⟨u7, rfl, hu7⟩ := hu.1; obtain ⟨A7, c7, rfl, _⟩ := id hu7; obtain ⟨A8, c8, rfl, _⟩ := id hv.1; exact ⟨.agg #[.bool (ngB (-q).num), .slice A7 (digs 4294967296 (-q).num.natAbs).length c7, .slice A8 (digs 4294967296 (-q).den).length c8], by kernel_rfl, ⟨⟨_, _, rfl, hu7, hv.1⟩, freshQ_mk (hu.2 _ _ rfl) hv.2⟩⟩)) ?_
    trivial
  case done6 =>
    refine fun w11 hb11 v0 h0 v1 h1 v2 h2 v3 h3 v4 h4 v5 h5 v6 h6 b hbf => ?_
    obtain rfl := h0; obtain rfl := h1; obtain rfl := h3; obtain rfl := h4
    obtain ⟨q2, f2⟩ := h2
    obtain ⟨q5, f5⟩ := h5
    obtain ⟨q6, f6⟩ := h6
    simp only [Act.put, List.setIfInBounds_toArray, List.set_cons_zero, List.set_cons_succ] at hbf
    subst hbf
    replace B0 := B0.below hb11
    replace k0s := k0s.below hb11
    replace k0d := k0d.below hb11
    replace k0z := k0z.below hb11
    replace k0 := k0.below hb11
    replace BR0 := BR0.below hb11
    replace bb := bb.trans (hb11.mono bb.size)
    have hsz11 := bb.size
    have s_2 := sB
    have s_5 := sB
    have s_6 := sB
    obtain ⟨u6, t6, rfl, q6, d6⟩ := q6
    obtain ⟨A9, c9, rfl, _⟩ := id q6
    obtain ⟨D9, e9, rfl, _⟩ := id d6
    refine any_store (i := 7) (by kernel_rfl) rfl rfl rfl rfl rfl rfl (cells := [.bool (ngB (-q).num), .slice A9 (digs 4294967296 (-q).num.natAbs).length c9, .slice D9 (digs 4294967296 (-q).den).length e9]) rfl BR0 rfl (by kernel_rfl) (one3 rfl rfl rfl) fun w9 hg9 B9 => ?_
    have k9 := off q6 BR0 no_ints3 hg9
    have d9 := off d6 BR0 no_ints3 hg9
    have f9 := f6.mono (show w.heap.size ≤ _ from s_6)
    have bb9 := bb.trans ((Below.refl _ _).grown hg9 bb.size (fun g hg => by injection hg with hg; omega))
    obtain ⟨C0, C1, C2, _, _, _⟩ := three B9
    refine any_done (by kernel_rfl) ?_
    go_wp2
    exact bodyPost_ret (v := .agg #[.bool (ngB (-q).num), .slice A9 (digs 4294967296 (-q).num.natAbs).length c9, .slice D9 (digs 4294967296 (-q).den).length e9]) (by simp [results, Tryz.results75, go_sem, C0, C1, C2]) rfl ⟨_, rfl, ⟨_, _, rfl, k9, d9⟩, f9, bb9⟩
set_option maxHeartbeats 1600000 in
set_option maxRecDepth 100000 in
theorem fsign0_any (a0 : Value) (x : Rat) (t : Int) (w : World) (h0 : IsQ w a0 x) (ht : t = ordz x.num 0) :
    Calls Tryz.prog 77 #[a0] w (RetV (.int .i64 t) w) := by
  obtain ⟨u0, t0, rfl, s0, r0⟩ := h0
  obtain ⟨A0, c0, rfl, _⟩ := id s0
  obtain ⟨D0, e0, rfl, _⟩ := id r0
  have HT := Lib.hid ht
  clear ht
  go_enter Tryz.func77, Tryz.ntmps77
  go_upto_region 1 with (fail)
  obtain ⟨wx, hwx, bb, B0, hsz⟩ := vars1 w 44 #[.bool (ngB (x).num), .slice A0 (digs 4294967296 (x).num.natAbs).length c0, .slice D0 (digs 4294967296 (x).den).length e0]
  rw [hwx]
  clear hwx
  have k0s := s0.below bb
  have k0d := r0.below bb
  have k0z : IsZ wx (.agg #[.bool (ngB (x).num), .slice A0 (digs 4294967296 (x).num.natAbs).length c0]) (x).num := ⟨_, rfl, k0s⟩
  have k0 : IsQ wx (.agg #[.bool (ngB (x).num), .slice A0 (digs 4294967296 (x).num.natAbs).length c0, .slice D0 (digs 4294967296 (x).den).length e0]) (x) := ⟨_, _, rfl, k0s, k0d⟩
  have hsz0 := bb.size
  have sB := bb.size
  refine flowp 4 [Pd.eq (.pointer (some ⟨w.heap.size, 0, none⟩)), Pd.eq (.agg #[.bool (ngB (x).num), .slice A0 (digs 4294967296 (x).num.natAbs).length c0]), Pd.eq (.int .i64 t), Pd.eq (.int .i64 t)] (by kernel_rfl) ?ob7 ?done7
  case ob7 =>
    refine And.intro (ob_fieldAddr rfl (wt_none rfl) (ev_far rfl rfl) (fun _ => by kernel_rfl) (fun _ => rfl)) ?_
    refine And.intro (ob_load rfl (wt_none rfl) (ev_dep (j := 0) (by kernel_rfl) rfl rfl) (fun w2 hb => run_loadPart Tryz.underlying42 rfl (by kernel_rfl) (B0.below hb) rfl) (fun _ _ => rfl)) ?_
    refine And.intro (ob_call1 rfl Tryz.func124 (by kernel_rfl) (wt_none rfl) (ev_dep (j := 1) (by kernel_rfl) rfl rfl) (fun w2 u0 hb h0 => by obtain rfl := h0; exact (sign_any _ x.num t _ (k0z.below hb) HT.out).mono fun e w3 h => RetV.pd h)) ?_
    refine And.intro (ob_assign rfl (wt_none rfl) (ev_dep (j := 2) (by kernel_rfl) rfl rfl) (fun _ _ h => h)) ?_
    trivial
  case done7 =>
    refine fun w1 hb1 v0 h0 v1 h1 v2 h2 v3 h3 b hbf => ?_
    obtain rfl := h0; obtain rfl := h1; obtain rfl := h2; obtain rfl := h3
    simp only [Act.put, List.setIfInBounds_toArray, List.set_cons_zero, List.set_cons_succ] at hbf
    subst hbf
    replace B0 := B0.below hb1
    replace k0s := k0s.below hb1
    replace k0d := k0d.below hb1
    replace k0z := k0z.below hb1
    replace k0 := k0.below hb1
    replace bb := bb.trans (hb1.mono bb.size)
    have hsz1 := bb.size
    refine ops_done ?_
    go_wp2
    go_ret
    exact ⟨rfl, bb⟩
/-- A variable that holds this fraction (of the document's own, of the program's). -/
def HoldP (w : World) (g : Nat) (q : Rat) : Prop := ∃ u t, Blk w g 55 #[.bool (ngB q.num), u, t] ∧ IsS w .i64 u (digs 10000 q.num.natAbs) ∧ IsS w .i64 t (digs 10000 q.den)
def HoldQ (w : World) (g : Nat) (q : Rat) : Prop := ∃ u t, Blk w g 44 #[.bool (ngB q.num), u, t] ∧ IsS w .u64 u (digs 4294967296 q.num.natAbs) ∧ IsS w .u64 t (digs 4294967296 q.den)
theorem HoldP.below {w w' : World} {g : Nat} {q : Rat} (h : HoldP w g q) (hb : Below w.heap.size w w') : HoldP w' g q := by
  obtain ⟨u, t, h1, h2, h3⟩ := h
  exact ⟨u, t, h1.below hb, h2.below hb, h3.below hb⟩
theorem HoldQ.below {w w' : World} {g : Nat} {q : Rat} (h : HoldQ w g q) (hb : Below w.heap.size w w') : HoldQ w' g q := by
  obtain ⟨u, t, h1, h2, h3⟩ := h
  exact ⟨u, t, h1.below hb, h2.below hb, h3.below hb⟩
/-- The sum, and the product, of these. -/
def sumq (l : List Rat) : Rat := l.foldl (· + ·) 0
theorem sumq_snoc (l : List Rat) (q : Rat) : sumq (l ++ [q]) = sumq l + q := by simp [sumq]
theorem take_snoc {l : List Rat} {k : Nat} {q : Rat} (h : l[k]? = some q) : l.take (k + 1) = l.take k ++ [q] := by rw [List.take_add_one, h]; rfl
theorem lenQ_sumq {l : List Rat} {m : Nat} (h : ∀ q ∈ l, lenQ q m) : lenQ (sumq l) ((m + 1) * l.length + 1) := by
  have key : ∀ k, k ≤ l.length → lenQ (sumq (l.take k)) ((m + 1) * k + 1) := by
    intro k
    induction k with
    | zero => intro _; rw [List.take_zero]; exact ⟨by show lenZ 0 ≤ _; rw [lenZ_zero]; omega, digs_len_le (k := 1) (by omega) (by decide +kernel)⟩
    | succ k ih =>
      intro hk
      have hq : l[k]? = some (l[k]'hk) := List.getElem?_eq_getElem hk
      rw [take_snoc hq, sumq_snoc]
      refine (lenQ_add2 (ih (by omega)) (h _ (List.getElem_mem hk))).mono ?_
      rw [Nat.mul_succ]; omega
  have := key l.length (Nat.le_refl _)
  rwa [List.take_length] at this
/-- What a row of pairs is made of. -/
theorem zip_mem {f : Rat → Rat → Rat} : ∀ {p q : List Rat} {r : Rat}, r ∈ List.zipWith f p q → ∃ x ∈ p, ∃ y ∈ q, r = f x y
  | [], _, _, h => by simp at h
  | _ :: _, [], _, h => by simp at h
  | x :: p, y :: q, r, h => by
    rw [List.zipWith_cons_cons] at h
    rcases List.mem_cons.1 h with h | h
    · exact ⟨x, List.mem_cons_self, y, List.mem_cons_self, h⟩
    · obtain ⟨a, ha, b, hb, e⟩ := zip_mem h
      exact ⟨a, List.mem_cons_of_mem _ ha, b, List.mem_cons_of_mem _ hb, e⟩
theorem zip_at {f : Rat → Rat → Rat} {p q : List Rat} {k : Nat} {x y : Rat} (hx : p[k]? = some x) (hy : q[k]? = some y) : (List.zipWith f p q)[k]? = some (f x y) := by rw [List.getElem?_zipWith, hx, hy]
theorem zip_len {f : Rat → Rat → Rat} {p q : List Rat} (h : p.length = q.length) : (List.zipWith f p q).length = p.length := by rw [List.length_zipWith, h, Nat.min_self]
/-- The sum of the products; a row less another so many times; so many times a row. -/
def prods (p q : List Rat) : List Rat := List.zipWith (fun x y => x * y) p q
def dotq (p q : List Rat) : Rat := sumq (prods p q)
def lessq (p : List Rat) (k : Rat) (q : List Rat) : List Rat := List.zipWith (fun x y => x - k * y) p q
def scaleq (p : List Rat) (k : Rat) : List Rat := p.map (fun x => x * k)
theorem lenQ_prods {p q : List Rat} {m : Nat} (h : ∀ x ∈ p, lenQ x m) (h2 : ∀ x ∈ q, lenQ x m) : ∀ r ∈ prods p q, lenQ r (m + m) := by
  intro r hr
  obtain ⟨x, hx, y, hy, rfl⟩ := zip_mem hr
  exact lenQ_mul (h x hx) (h2 y hy)
theorem lenQ_dotq {p q : List Rat} {m : Nat} (h : ∀ x ∈ p, lenQ x m) (h2 : ∀ x ∈ q, lenQ x m) (he : p.length = q.length) : lenQ (dotq p q) ((m + m + 1) * p.length + 1) := by
  have := lenQ_sumq (lenQ_prods h h2)
  rwa [show (prods p q).length = p.length from zip_len he] at this
/-- All from 0 to 1, and their sum 1. -/
def wholeQ (l : List Rat) : Prop := (∀ q ∈ l, ¬ q < 0 ∧ ¬ 1 < q) ∧ sumq l = 1
instance (l : List Rat) : Decidable (wholeQ l) := by unfold wholeQ; infer_instance
/-- A fraction of the document's own and an error's number; nothing and one. -/
def RetPE (q : Rat) (n : Int) (w : World) (e : Ending) (w' : World) : Prop := ∃ v, e = .returned (.tuple #[v, .int .i64 n]) ∧ IsP w' v q ∧ Below w.heap.size w w'
def ppn (q : Rat) (n : Int) : Pd := ⟨fun w t => ∃ v, t = .tuple #[v, .int .i64 n] ∧ IsP w v q, fun h hb => by obtain ⟨v, e, h1⟩ := h; exact ⟨v, e, h1.below hb⟩⟩
theorem RetPE.pd {q : Rat} {n : Int} {w : World} {e : Ending} {w' : World} (h : RetPE q n w e w') : RetPd (ppn q n) w e w' := by
  obtain ⟨v, h1, h2, h3⟩ := h
  exact ⟨_, h1, ⟨v, rfl, h2⟩, h3⟩
end Go.Proofs.YtfnohdgnhdfpaaaGreat.rat
namespace Go.Proofs.YtfnohdgnhdfpaaaGreat.rat
open Go.RowKit Go.ChangeShapes Go.WideShapes Go.ChangeAt Go.Joins Go.Deep Go.Proofs.YtfnohdgnhdfpaaaGreat.num Go.Proofs.YtfnohdgnhdfpaaaGreat.mem Go.Proofs.YtfnohdgnhdfpaaaGreat.nat Go.Proofs.YtfnohdgnhdfpaaaGreat.txt Go.Proofs.YtfnohdgnhdfpaaaGreat.str Go.Proofs.YtfnohdgnhdfpaaaGreat.flow Go.Proofs.YtfnohdgnhdfpaaaGreat.whl
set_option linter.unusedVariables false
/-- A slice of structs of a sign, limbs, and limbs, as it came in. -/
def ArgQs (w : World) (v : Value) : Prop := ∃ A n c, v = .slice A n c ∧ n ≤ c ∧ c ≤ maxLen ∧ ∀ i, i < n → ∃ ad b u t l m, A = some ad ∧ w.cell? (ad.add (i * 3)) = some (.bool b) ∧ w.cell? (ad.add (i * 3 + 1)) = some u ∧ w.cell? (ad.add (i * 3 + 2)) = some t ∧ IsS w .u64 u l ∧ Lt 18446744073709551616 l ∧ IsS w .u64 t m ∧ Lt 18446744073709551616 m
theorem trod_q {H : Type} {enc : TypeId × Value → H} {P : Program} {W : World} {fuel : Nat} {t e : TypeId} {f0 f1 g0 g1 : Field} {c0 c1 c2 : Value} {x : DataW H × List MemPlace} (hs : P.underlying t = some (.struct #[f0, f1])) (ho : (f0.offset == 0 && f1.offset == 2 && P.cellsOf f0.type == 2 && P.cellsOf f1.type == 1) = true)
    (hs2 : P.underlying f0.type = some (.struct #[g0, g1])) (hone : oneCellFields P #[g0, g1] = true) (hb : P.underlying g0.type = some .bool) (hsl : P.underlying g1.type = some (.slice e)) (hsl2 : P.underlying f1.type = some (.slice e)) (he : P.underlying e = some (.int .u64)) (ce : P.cellsOf e = 1)
    (hf : DataW.trod enc P W 0 (fun _ => true) true fuel t [c0, c1, c2] = some x) : ∃ b l m, c0 = .bool b ∧ IsS W .u64 c1 l ∧ Lt 18446744073709551616 l ∧ IsS W .u64 c2 m ∧ Lt 18446744073709551616 m := by
  simp only [Bool.and_eq_true, beq_iff_eq] at ho
  obtain ⟨⟨⟨o0, o1⟩, k0⟩, k1⟩ := ho
  obtain ⟨xs, n, _, hx, _, hlen, hg⟩ := DataW.trod_struct hs hf
  have h0 := hg 0 f0 rfl
  have h1 := hg 1 f1 rfl
  simp [o0, o1, k0, k1] at h0 h1
  match xs, hlen with
  | [y0, y1], _ =>
    have h0' : DataW.trod enc P W 0 (fun _ => true) true n f0.type [c0, c1] = some y0 := by simpa using h0
    have h1' : DataW.trod enc P W 0 (fun _ => true) true n f1.type [c2] = some y1 := by simpa using h1
    obtain ⟨zs, n2, _, hz, _, hlen2, hg2⟩ := DataW.trod_struct hs2 h0'
    obtain ⟨p0, q0⟩ := hone_of hone 0 g0 rfl
    obtain ⟨p1, q1⟩ := hone_of hone 1 g1 rfl
    have j0 := hg2 0 g0 rfl
    have j1 := hg2 1 g1 rfl
    simp [p0, p1, q0, q1] at j0 j1
    match zs, hlen2 with
    | [z0, z1], _ =>
      have j0' : DataW.trod enc P W 0 (fun _ => true) true n2 g0.type [c0] = some z0 := by simpa using j0
      have j1' : DataW.trod enc P W 0 (fun _ => true) true n2 g1.type [c1] = some z1 := by simpa using j1
      obtain ⟨b, e0, _⟩ := DataW.trod_bool hb j0'
      injection e0 with e0 _
      subst e0
      obtain ⟨l, a1, a2⟩ := trod_nat hsl he ce j1'
      obtain ⟨m, b1, b2⟩ := trod_nat hsl2 he ce h1'
      exact ⟨b, l, m, rfl, a1, a2, b1, b2⟩
theorem index3_any {P : Program} {t e : TypeId} (hu : P.underlying t = some (.slice e)) (hs : (P.info? e).map (·.size) = some 3) (ad : Addr) {n c k : Nat} (hk : k < n) (w : World) : (Instr.indexAt t (.slice (some ad) n c) (.int .i64 (k : Int))).run P w = .ok (.pointer (some (ad.add (k * 3)))) w := by
  cases hq : P.info? e with
  | none => simp [hq] at hs
  | some inf =>
    have hsz : inf.size = 3 := by simpa [hq] using hs
    simp [Instr.indexAt, asIntOf, go_sem, run_underlying hu, sizeOf, typeInfo, hq, hsz, hk]
theorem load3_any {P : Program} {t : TypeId} {p : Addr} {k : Nat} {x y z : Value} {d : TypeDesc} {w : World} (hu : P.underlying t = some d) (hd : d.isRow = true) (hi : (P.info? t).map (·.size) = some 3) (h0 : w.cell? (p.add k) = some x) (h1 : w.cell? (p.add (k + 1)) = some y) (h2 : w.cell? (p.add (k + 2)) = some z) : (Instr.loadAt t (.pointer (some (p.add k)))).run P w = .ok (.agg #[x, y, z]) w := by
  have hl : (loadCells (p.add k) 3).run P w = .ok [x, y, z].toArray w :=
    run_loadCells_list (P := P) w (p.add k) [x, y, z] (fun j v hj => by
      rw [add_add]
      match j, hj with
      | 0, hj => simp at hj; subst hj; exact h0
      | 1, hj => simp at hj; subst hj; exact h1
      | 2, hj => simp at hj; subst hj; exact h2
      | j + 3, hj => simp at hj)
  cases hq : P.info? t with
  | none => simp [hq] at hi
  | some i =>
    have hs : i.size = 3 := by simpa [hq] using hi
    have hagg : (isAgg t).run P w = .ok true w := by
      unfold isAgg
      rw [Sem.run_bind, run_underlying hu w]
      cases d <;> simp_all
    have hv : (loadVar t (p.add k)).run P w = .ok (.agg #[x, y, z]) w := by simp [loadVar, Sem.run_bind, hagg, sizeOf, typeInfo, hq, hs, hl]
    simp only [Instr.loadAt, Instr.sureAddr, Sem.run_bind, Sem.run_pure, Result.andThen_ok, hv]
end Go.Proofs.YtfnohdgnhdfpaaaGreat.rat
namespace Go.Proofs.YtfnohdgnhdfpaaaGreat.rat
open Go.RowKit Go.Proofs.YtfnohdgnhdfpaaaGreat.num Go.Proofs.YtfnohdgnhdfpaaaGreat.mem Go.Proofs.YtfnohdgnhdfpaaaGreat.nat Go.Proofs.YtfnohdgnhdfpaaaGreat.txt Go.Proofs.YtfnohdgnhdfpaaaGreat.str Go.Proofs.YtfnohdgnhdfpaaaGreat.flow Go.Proofs.YtfnohdgnhdfpaaaGreat.whl
set_option linter.unusedVariables false
section
variable {P : Program}
/-- What an append leaves: slices elsewhere, rows and variables elsewhere are kept. -/
def Grew (w w' : World) (v v' : Value) : Prop := Keeps w w' v v' ∧ w.grownBy w' v.ownBlock ∧ ∀ g, g < w.heap.size → v.ownBlock ≠ some g → v'.ownBlock ≠ some g
theorem run_append_q {w : World} {base : Nat} {t ty T : TypeId} (hT : P.underlying t = some (.slice T)) (hI : ∃ i, P.info? T = some i ∧ i.zero = some (.agg #[.bool false, .slice none 0 0, .slice none 0 0]) ∧ i.size = 3 ∧ i.bytes = 56) {v : Value} {p : Elt} {ps : List Elt} (hown : RowF T w base v ps) {ad : Addr} {c : Nat}
    (h0 : w.cell? (ad.add 0) = some (.bool (ngB p.1.num))) (h1 : w.cell? (ad.add 1) = some p.2.1) (h2 : w.cell? (ad.add 2) = some p.2.2) (k1 : p.2.1.oneCell' = true) (k2 : p.2.2.oneCell' = true) (hlen : ps.length ≤ 1000000000) (hbase : base ≤ w.heap.size) :
    ∃ v' w', (Builtin.append_ #[t, t] ty #[v, .slice (some ad) 1 c]).run P w = .ok v' w' ∧ RowF T w' base v' (ps ++ [p]) ∧ Grew w w' v v' := by
  obtain ⟨i, hi, hz, hs, hb⟩ := hI
  obtain ⟨v', w', g1, g2, g3, _, g5⟩ := run_append_own_at (P := P) w base t ty T i (.agg #[.bool false, .slice none 0 0, .slice none 0 0]) 3 56 hT hi hz hs hb rfl (by decide) v ps.length (flat3 ps) hown ad 1 c [.bool (ngB p.1.num), p.2.1, p.2.2] rfl (fun j u hu => by
    match j, hu with
    | 0, hu => simp at hu; subst hu; exact h0
    | 1, hu => simp at hu; subst hu; exact h1
    | 2, hu => simp at hu; subst hu; exact h2
    | j + 3, hu => simp at hu) (one3 rfl k1 k2) (by unfold maxLen; omega) (by omega) hbase
  refine ⟨v', w', g1, by unfold RowF; rw [List.length_append, flat3_snoc]; exact g2, keeps_of g3 g5, g3, fun g hg hne e1 => ?_⟩
  rcases g5 with h | h
  · exact hne (h ▸ e1)
  · rw [h] at e1; injection e1 with e1; omega
theorem wp_append_q {w : World} {o : Oper} {a : Act} {K : Act → World → Prop} {Q : Exit → Act → World → Prop} (s x : Operand) {t : TypeId}
    (ho : o.op = .call { callee := .builtin .append, args := #[s, x], argTypes := #[t, t] })
    {base : Nat} {T : TypeId} (hT : P.underlying t = some (.slice T)) (hI : ∃ i, P.info? T = some i ∧ i.zero = some (.agg #[.bool false, .slice none 0 0, .slice none 0 0]) ∧ i.size = 3 ∧ i.bytes = 56) {v : Value} {p : Elt} {ps : List Elt} (hs : a.eval s = v) (hown : RowF T w base v ps) {ad : Addr} {c : Nat} (hx : a.eval x = .slice (some ad) 1 c)
    (h0 : w.cell? (ad.add 0) = some (.bool (ngB p.1.num))) (h1 : w.cell? (ad.add 1) = some p.2.1) (h2 : w.cell? (ad.add 2) = some p.2.2) (k1 : p.2.1.oneCell' = true) (k2 : p.2.2.oneCell' = true) (hlen : ps.length ≤ 1000000000) (hbase : base ≤ w.heap.size)
    (h : ∀ v' w', RowF T w' base v' (ps ++ [p]) → Below base w w' → Hid (Grew w w' v v') → K (a.put o.dst v') w') : o.wp P a w K Q := by
  obtain ⟨v', w', hrun, g2, g3⟩ := run_append_q (P := P) (ty := o.type) hT hI hown (c := c) h0 h1 h2 k1 k2 hlen hbase
  unfold Oper.wp execOp
  simp only [ho, resolve, invoke, builtin, Sem.run_bind, Sem.run_pure, Result.andThen_ok, List.map_toArray, List.map_cons, List.map_nil, hs, hx, hrun]
  exact h v' w' g2 ((Below.refl base w).grown g3.2.1 hbase hown.base_le) g3
theorem step_append_q {w : World} {ops : Array Oper} {o : Oper} {a : Act} {K : Act → World → Prop} {Q : Exit → Act → World → Prop} {E : Prop} (hgd : o.guard = none) (s x : Operand) {t : TypeId}
    (ho : o.op = .call { callee := .builtin .append, args := #[s, x], argTypes := #[t, t] })
    {base : Nat} {T : TypeId} (hT : P.underlying t = some (.slice T)) (hI : ∃ i, P.info? T = some i ∧ i.zero = some (.agg #[.bool false, .slice none 0 0, .slice none 0 0]) ∧ i.size = 3 ∧ i.bytes = 56) {v : Value} {p : Elt} {ps : List Elt} (hs : a.eval s = v) (hown : RowF T w base v ps) {ad : Addr} {c : Nat} (hx : a.eval x = .slice (some ad) 1 c)
    (h0 : w.cell? (ad.add 0) = some (.bool (ngB p.1.num))) (h1 : w.cell? (ad.add 1) = some p.2.1) (h2 : w.cell? (ad.add 2) = some p.2.2) (k1 : p.2.1.oneCell' = true) (k2 : p.2.2.oneCell' = true) (hlen : ps.length ≤ 1000000000) (hbase : base ≤ w.heap.size)
    (h : ∀ v' w', RowF T w' base v' (ps ++ [p]) → Below base w w' → Hid (Grew w w' v v') → K (a.put o.dst v') w') :
    if Region.wanted o (yielded ops a.tmps) = true then Oper.wp P o a w K Q else E := by
  have hw : Region.wanted o (yielded ops a.tmps) = true := by simp [Region.wanted, hgd]
  rw [if_pos hw]
  exact wp_append_q s x ho hT hI hs hown hx h0 h1 h2 k1 k2 hlen hbase h
end
/-- A new element's cells. -/
theorem new_cells (w : World) (T : TypeId) (x y z : Value) : (w.alloc (.cells #[x, y, z] T)).cell? ((⟨w.heap.size, 0, none⟩ : Addr).add 0) = some x ∧ (w.alloc (.cells #[x, y, z] T)).cell? ((⟨w.heap.size, 0, none⟩ : Addr).add 1) = some y ∧ (w.alloc (.cells #[x, y, z] T)).cell? ((⟨w.heap.size, 0, none⟩ : Addr).add 2) = some z := by
  have h := Blk.new w T #[x, y, z]
  obtain ⟨a, b, c, _, _, _⟩ := three h
  exact ⟨a, b, c⟩
theorem FarF.keep {k : IntKind} {B : Nat} {w w' : World} {v v' : Value} {ps : List Elt} (h : FarF k B w v ps) (hk : Keeps w w' v v') : FarF k B w' v' ps := fun r hr => by
  obtain ⟨⟨a1, a2⟩, b1, b2⟩ := h r hr
  have x1 := hk _ _ _ a1 b1
  have x2 := hk _ _ _ a2 b2
  exact ⟨⟨x1.1, x2.1⟩, x1.2, x2.2⟩
/-- Two rows that grow side by side: each one's elements lie elsewhere than both. -/
def TwoRows (w wr : World) (v4 v5 : Value) (ps rs : List Elt) : Prop := RowF 44 wr w.heap.size v4 ps ∧ RowF 55 wr w.heap.size v5 rs ∧ (FarF .u64 4294967296 wr v4 ps ∧ FarF .u64 4294967296 wr v5 ps) ∧ (FarF .i64 10000 wr v4 rs ∧ FarF .i64 10000 wr v5 rs) ∧ (∀ g, v4.ownBlock = some g → v5.ownBlock ≠ some g) ∧ Below w.heap.size w wr
theorem TwoRows.below {w wr w' : World} {v4 v5 : Value} {ps rs : List Elt} (h : TwoRows w wr v4 v5 ps rs) (hb : Below wr.heap.size wr w') : TwoRows w w' v4 v5 ps rs :=
  ⟨h.1.below hb, h.2.1.below hb, ⟨h.2.2.1.1.below hb, h.2.2.1.2.below hb⟩, ⟨h.2.2.2.1.1.below hb, h.2.2.2.1.2.below hb⟩, h.2.2.2.2.1, h.2.2.2.2.2.trans (hb.mono h.2.2.2.2.2.size)⟩
/-- The first one grows. -/
theorem TwoRows.one {w wr w' : World} {v4 v5 v' : Value} {ps rs : List Elt} {p : Elt} (h : TwoRows w wr v4 v5 ps rs) (hrow : RowF 44 w' w.heap.size v' (ps ++ [p])) (hg : Grew wr w' v4 v') (hb : Below w.heap.size wr w') (hp : IsE .u64 4294967296 wr p) (f4 : Far v4 p.2.1 ∧ Far v4 p.2.2) (f5 : Far v5 p.2.1 ∧ Far v5 p.2.2) : TwoRows w w' v' v5 (ps ++ [p]) rs := by
  obtain ⟨h1, h2, ⟨h3, h4⟩, ⟨h5, h6⟩, h7, h8⟩ := h
  obtain ⟨k1, k2, k3⟩ := hg
  have keep : ∀ {k : IntKind} {B : Nat} {r : Elt}, IsE k B wr r → Far v4 r.2.1 → Far v4 r.2.2 → IsE k B w' r ∧ Far v' r.2.1 ∧ Far v' r.2.2 := fun a b c => by
    have x1 := k1 _ _ _ a.1 b
    have x2 := k1 _ _ _ a.2 c
    exact ⟨⟨x1.1, x2.1⟩, x1.2, x2.2⟩
  refine ⟨hrow, h2.other k2 (fun g hg e => h7 g e hg), ⟨h3.snoc k1 hp f4.1 f4.2, ?_⟩, ⟨h5.keep k1, ?_⟩, ?_, h8.trans hb⟩
  · intro r hr
    rcases List.mem_append.1 hr with hr | hr
    · exact ⟨(keep (h3 r hr).1 (h3 r hr).2.1 (h3 r hr).2.2).1, (h4 r hr).2⟩
    · obtain rfl := List.mem_singleton.1 hr
      exact ⟨(keep hp f4.1 f4.2).1, f5⟩
  · intro r hr
    exact ⟨(keep (h5 r hr).1 (h5 r hr).2.1 (h5 r hr).2.2).1, (h6 r hr).2⟩
  · intro g e4 e5
    have hlt := h2.under g e5
    exact k3 g hlt (fun e => h7 g e e5) e4
/-- The second one grows. -/
theorem TwoRows.two {w wr w' : World} {v4 v5 v' : Value} {ps rs : List Elt} {p : Elt} (h : TwoRows w wr v4 v5 ps rs) (hrow : RowF 55 w' w.heap.size v' (rs ++ [p])) (hg : Grew wr w' v5 v') (hb : Below w.heap.size wr w') (hp : IsE .i64 10000 wr p) (f4 : Far v4 p.2.1 ∧ Far v4 p.2.2) (f5 : Far v5 p.2.1 ∧ Far v5 p.2.2) : TwoRows w w' v4 v' ps (rs ++ [p]) := by
  obtain ⟨h1, h2, ⟨h3, h4⟩, ⟨h5, h6⟩, h7, h8⟩ := h
  obtain ⟨k1, k2, k3⟩ := hg
  have keep : ∀ {k : IntKind} {B : Nat} {r : Elt}, IsE k B wr r → Far v5 r.2.1 → Far v5 r.2.2 → IsE k B w' r ∧ Far v' r.2.1 ∧ Far v' r.2.2 := fun a b c => by
    have x1 := k1 _ _ _ a.1 b
    have x2 := k1 _ _ _ a.2 c
    exact ⟨⟨x1.1, x2.1⟩, x1.2, x2.2⟩
  refine ⟨h1.other k2 (fun g hg e => h7 g hg e), hrow, ⟨?_, h4.keep k1⟩, ⟨?_, h6.snoc k1 hp f5.1 f5.2⟩, ?_, h8.trans hb⟩
  · intro r hr
    exact ⟨(keep (h4 r hr).1 (h4 r hr).2.1 (h4 r hr).2.2).1, (h3 r hr).2⟩
  · intro r hr
    rcases List.mem_append.1 hr with hr | hr
    · exact ⟨(keep (h6 r hr).1 (h6 r hr).2.1 (h6 r hr).2.2).1, (h5 r hr).2⟩
    · obtain rfl := List.mem_singleton.1 hr
      exact ⟨(keep hp f5.1 f5.2).1, f4⟩
  · intro g e4 e5
    have hlt := h1.under g e4
    exact k3 g hlt (fun e => h7 g e4 e) e5
/-- The value is a slice of these ints. -/
def IsI (w : World) (v : Value) (l : List Int) : Prop := ∃ A c, v = .slice A l.length c ∧ l.length ≤ c ∧ c ≤ maxLen ∧ (∀ z ∈ l, -9223372036854775808 ≤ z ∧ z ≤ 9223372036854775807) ∧ ∀ (i : Nat) (z : Int), l[i]? = some z → ∃ ad, A = some ad ∧ w.cell? (ad.add i) = some (.int .i64 z)
theorem IsI.below {w w' : World} {v : Value} {l : List Int} (h : IsI w v l) (hb : Below w.heap.size w w') : IsI w' v l := by
  obtain ⟨A, c, e, h1, h2, hr, h3⟩ := h
  refine ⟨A, c, e, h1, h2, hr, fun i z hz => ?_⟩
  obtain ⟨ad, e2, c0⟩ := h3 i z hz
  exact ⟨ad, e2, (hb.cell (World.block_lt_of_cell? w _ c0)).trans c0⟩
theorem IsI.shape {w : World} {v : Value} {l : List Int} (h : IsI w v l) : ∃ A c, v = .slice A l.length c ∧ l.length ≤ c ∧ c ≤ maxLen := by
  obtain ⟨A, c, e, h1, h2, _⟩ := h
  exact ⟨A, c, e, h1, h2⟩
theorem IsI.at_ {w : World} {A : Option Addr} {n c : Nat} {l : List Int} {i : Nat} {z : Int} (h : IsI w (.slice A n c) l) (hz : l[i]? = some z) : ∃ ad, A = some ad ∧ i < n ∧ w.cell? (ad.add i) = some (.int .i64 z) ∧ -9223372036854775808 ≤ z ∧ z ≤ 9223372036854775807 := by
  obtain ⟨A', c', e, h1, h2, hr, h3⟩ := h
  injection e with e1 e2 e3
  subst e1; subst e2; subst e3
  obtain ⟨ad, e4, c0⟩ := h3 i z hz
  have := hr z (List.mem_of_getElem? hz)
  exact ⟨ad, e4, (List.getElem?_eq_some_iff.1 hz).1, c0, this.1, this.2⟩
/-- Fractions of the document's own, and an error's number. -/
def RetLE (l : List Rat) (n : Int) (w : World) (e : Ending) (w' : World) : Prop := ∃ V, e = .returned (.tuple #[V, .int .i64 n]) ∧ SlF .i64 10000 w' V (if n = 0 then l else []) ∧ Below w.heap.size w w'
theorem slF_nil (k : IntKind) (B : Nat) (w : World) : SlF k B w (.slice none 0 0) [] := ⟨[], rfl, ⟨none, 0, rfl, by simp, by unfold maxLen; omega, fun i p hp => by simp at hp⟩, fun p hp => by cases hp⟩
theorem index1_any {P : Program} {t e : TypeId} (hu : P.underlying t = some (.slice e)) (hs : (P.info? e).map (·.size) = some 1) (ad : Addr) {n c k : Nat} (hk : k < n) (w : World) : (Instr.indexAt t (.slice (some ad) n c) (.int .i64 (k : Int))).run P w = .ok (.pointer (some (ad.add k))) w := by
  cases hq : P.info? e with
  | none => simp [hq] at hs
  | some inf =>
    have hsz : inf.size = 1 := by simpa [hq] using hs
    simp [Instr.indexAt, asIntOf, go_sem, run_underlying hu, sizeOf, typeInfo, hq, hsz, hk]
/-- The lesser, and the greater one. -/
def minq (a b : Rat) : Rat := if b < a then b else a
def maxq (a b : Rat) : Rat := if a < b then b else a
def lowq (a : Rat) (l : List Rat) : Rat := l.foldl minq a
def higq (a : Rat) (l : List Rat) : Rat := l.foldl maxq a
/-- The least, and the greatest one of these (0 of none). -/
def leastq : List Rat → Rat
  | [] => 0
  | q :: l => lowq q l
def greatq : List Rat → Rat
  | [] => 0
  | q :: l => higq q l
theorem minq_le (a b : Rat) : minq a b ≤ a ∧ minq a b ≤ b := by unfold minq; split <;> grind
theorem le_maxq (a b : Rat) : a ≤ maxq a b ∧ b ≤ maxq a b := by unfold maxq; split <;> grind
theorem minq_or (a b : Rat) : minq a b = a ∨ minq a b = b := by unfold minq; split <;> simp
theorem maxq_or (a b : Rat) : maxq a b = a ∨ maxq a b = b := by unfold maxq; split <;> simp
theorem lowq_le (l : List Rat) : ∀ a, lowq a l ≤ a ∧ ∀ q ∈ l, lowq a l ≤ q := by
  induction l with
  | nil => intro a; exact ⟨Rat.le_refl, fun q h => by cases h⟩
  | cons b l ih =>
    intro a
    have h := ih (minq a b)
    have h2 := minq_le a b
    have e : lowq a (b :: l) = lowq (minq a b) l := rfl
    rw [e]
    refine ⟨Rat.le_trans h.1 h2.1, fun q hq => ?_⟩
    rcases List.mem_cons.1 hq with rfl | hq
    · exact Rat.le_trans h.1 h2.2
    · exact h.2 q hq
theorem le_higq (l : List Rat) : ∀ a, a ≤ higq a l ∧ ∀ q ∈ l, q ≤ higq a l := by
  induction l with
  | nil => intro a; exact ⟨Rat.le_refl, fun q h => by cases h⟩
  | cons b l ih =>
    intro a
    have h := ih (maxq a b)
    have h2 := le_maxq a b
    have e : higq a (b :: l) = higq (maxq a b) l := rfl
    rw [e]
    refine ⟨Rat.le_trans h2.1 h.1, fun q hq => ?_⟩
    rcases List.mem_cons.1 hq with rfl | hq
    · exact Rat.le_trans h2.2 h.1
    · exact h.2 q hq
theorem lowq_mem (l : List Rat) : ∀ a, lowq a l ∈ a :: l := by
  induction l with
  | nil => intro a; simp [lowq]
  | cons b l ih =>
    intro a
    have h := ih (minq a b)
    have e : lowq a (b :: l) = lowq (minq a b) l := rfl
    rw [e]
    rcases List.mem_cons.1 h with h | h
    · rw [h]
      rcases minq_or a b with k | k <;> rw [k] <;> simp
    · simp [h]
theorem higq_mem (l : List Rat) : ∀ a, higq a l ∈ a :: l := by
  induction l with
  | nil => intro a; simp [higq]
  | cons b l ih =>
    intro a
    have h := ih (maxq a b)
    have e : higq a (b :: l) = higq (maxq a b) l := rfl
    rw [e]
    rcases List.mem_cons.1 h with h | h
    · rw [h]
      rcases maxq_or a b with k | k <;> rw [k] <;> simp
    · simp [h]
theorem leastq_mem {l : List Rat} (h : l ≠ []) : leastq l ∈ l := by
  cases l with
  | nil => exact absurd rfl h
  | cons a l => exact lowq_mem l a
theorem greatq_mem {l : List Rat} (h : l ≠ []) : greatq l ∈ l := by
  cases l with
  | nil => exact absurd rfl h
  | cons a l => exact higq_mem l a
theorem leastq_le {l : List Rat} {q : Rat} (h : q ∈ l) : leastq l ≤ q := by
  cases l with
  | nil => cases h
  | cons a l =>
    rcases List.mem_cons.1 h with rfl | h
    · exact (lowq_le l _).1
    · exact (lowq_le l a).2 q h
theorem le_greatq {l : List Rat} {q : Rat} (h : q ∈ l) : q ≤ greatq l := by
  cases l with
  | nil => cases h
  | cons a l =>
    rcases List.mem_cons.1 h with rfl | h
    · exact (le_higq l _).1
    · exact (le_higq l a).2 q h
theorem leastq_eq {l : List Rat} {x : Rat} (hx : x ∈ l) (h : ∀ q ∈ l, x ≤ q) : leastq l = x :=
  Rat.le_antisymm (leastq_le hx) (h _ (leastq_mem (List.ne_nil_of_mem hx)))
theorem greatq_eq {l : List Rat} {x : Rat} (hx : x ∈ l) (h : ∀ q ∈ l, q ≤ x) : greatq l = x :=
  Rat.le_antisymm (h _ (greatq_mem (List.ne_nil_of_mem hx))) (le_greatq hx)
theorem foldl_add (l : List Rat) : ∀ a : Rat, l.foldl (· + ·) a = a + l.foldl (· + ·) 0 := by
  induction l with
  | nil => intro a; simp [Rat.add_zero]
  | cons b l ih => intro a; rw [List.foldl_cons, List.foldl_cons, ih (a + b), ih (0 + b)]; grind
theorem sumq_cons (q : Rat) (l : List Rat) : sumq (q :: l) = q + sumq l := by
  unfold sumq
  rw [List.foldl_cons, foldl_add l (0 + q)]; grind
/-- All of these, rising. -/
def Sorts (ss qs : List Rat) : Prop := ss.Perm qs ∧ ss.Pairwise (· ≤ ·)
theorem Sorts.len {ss qs : List Rat} (h : Sorts ss qs) : ss.length = qs.length := h.1.length_eq
theorem Sorts.le {ss qs : List Rat} (h : Sorts ss qs) {i k : Nat} {x y : Rat} (hx : ss[i]? = some x) (hy : ss[k]? = some y) (hik : i < k) : x ≤ y := by
  obtain ⟨h1, rfl⟩ := List.getElem?_eq_some_iff.1 hx
  obtain ⟨h2, rfl⟩ := List.getElem?_eq_some_iff.1 hy
  exact List.pairwise_iff_getElem.1 h.2 i k h1 h2 hik
theorem Sorts.first {ss qs : List Rat} (h : Sorts ss qs) {x : Rat} (hx : ss[0]? = some x) : leastq qs = x := by
  refine leastq_eq (h.1.mem_iff.1 (List.mem_of_getElem? hx)) fun q hq => ?_
  obtain ⟨k, hk⟩ := List.mem_iff_getElem?.1 (h.1.mem_iff.2 hq)
  rcases Nat.eq_zero_or_pos k with rfl | h0
  · rw [hx] at hk; injection hk with hk; rw [hk]; exact Rat.le_refl
  · exact h.le hx hk h0
theorem Sorts.last {ss qs : List Rat} (h : Sorts ss qs) {x : Rat} {n : Nat} (hn : n + 1 = ss.length) (hx : ss[n]? = some x) : greatq qs = x := by
  refine greatq_eq (h.1.mem_iff.1 (List.mem_of_getElem? hx)) fun q hq => ?_
  obtain ⟨k, hk⟩ := List.mem_iff_getElem?.1 (h.1.mem_iff.2 hq)
  have hk2 : k < ss.length := (List.getElem?_eq_some_iff.1 hk).1
  rcases Nat.lt_or_ge k n with h0 | h0
  · exact h.le hk hx h0
  · obtain rfl : k = n := by omega
    rw [hx] at hk; injection hk with hk; rw [hk]; exact Rat.le_refl
theorem Sorts.count {ss qs : List Rat} (h : Sorts ss qs) (q : Rat) : ss.count q = qs.count q := h.1.count_eq q
theorem scaleq_len (p : List Rat) (k : Rat) : (scaleq p k).length = p.length := List.length_map _
theorem lessq_len {p q : List Rat} {k : Rat} (h : p.length = q.length) : (lessq p k q).length = p.length := zip_len h
theorem dotq_cons (x y : Rat) (p q : List Rat) : dotq (x :: p) (y :: q) = x * y + dotq p q := by
  unfold dotq prods
  rw [List.zipWith_cons_cons, sumq_cons]
theorem dotq_nil (q : List Rat) : dotq [] q = 0 := rfl
theorem lenQ_01 {x : Rat} (h : x = 0 ∨ x = 1) : lenQ x 1 := by
  rcases h with rfl | rfl
  · exact ⟨by show lenZ 0 ≤ _; rw [lenZ_zero]; omega, digs_len_le (k := 1) (by omega) (by decide +kernel)⟩
  · exact ⟨digs_len_le (k := 1) (by omega) (by decide +kernel), digs_len_le (k := 1) (by omega) (by decide +kernel)⟩
/-- How many places rows have; whether all have so many; the places of one number; a product; what is turned; the table that changes nothing. -/
def wideq : List (List Rat) → Nat
  | [] => 0
  | r :: _ => r.length
def evenq (t : List (List Rat)) : Prop := ∀ r ∈ t, r.length = wideq t
def colq (t : List (List Rat)) (j : Nat) : List Rat := t.map fun r => r.getD j 0
def rowq (r : List Rat) (b : List (List Rat)) (n : Nat) : List Rat := (List.range n).map fun j => dotq r (colq b j)
def mulq (a b : List (List Rat)) : List (List Rat) := a.map fun r => rowq r b (wideq b)
def turnq (t : List (List Rat)) : List (List Rat) := (List.range (wideq t)).map (colq t)
theorem colq_len (t : List (List Rat)) (j : Nat) : (colq t j).length = t.length := List.length_map _
theorem rowq_len (r : List Rat) (b : List (List Rat)) (n : Nat) : (rowq r b n).length = n := by rw [rowq, List.length_map, List.length_range]
theorem mulq_len (a b : List (List Rat)) : (mulq a b).length = a.length := List.length_map _
theorem turnq_len (t : List (List Rat)) : (turnq t).length = wideq t := by rw [turnq, List.length_map, List.length_range]
theorem rowq_at {r : List Rat} {b : List (List Rat)} {n j : Nat} (h : j < n) : (rowq r b n)[j]? = some (dotq r (colq b j)) := by simp [rowq, h]
theorem mulq_at {a b : List (List Rat)} {i : Nat} {r : List Rat} (h : a[i]? = some r) : (mulq a b)[i]? = some (rowq r b (wideq b)) := by rw [mulq, List.getElem?_map, h]; rfl
theorem wideq_of {t : List (List Rat)} {n : Nat} (hne : t ≠ []) (h : ∀ r ∈ t, r.length = n) : wideq t = n := by
  cases t with
  | nil => exact absurd rfl hne
  | cons r t => exact h r List.mem_cons_self
theorem evenq_of {t : List (List Rat)} {n : Nat} (h : ∀ r ∈ t, r.length = n) : evenq t := by
  intro r hr
  rw [wideq_of (List.ne_nil_of_mem hr) h]
  exact h r hr
theorem mulq_rows {a b : List (List Rat)} : ∀ r ∈ mulq a b, r.length = wideq b := by
  intro r hr
  obtain ⟨s, _, rfl⟩ := List.mem_map.1 hr
  exact rowq_len _ _ _
theorem mulq_even (a b : List (List Rat)) : evenq (mulq a b) := evenq_of mulq_rows
theorem mulq_wide {a b : List (List Rat)} (h : a ≠ []) : wideq (mulq a b) = wideq b := wideq_of (fun e => h (by cases a with | nil => rfl | cons x a => cases e)) mulq_rows
theorem turnq_rows {t : List (List Rat)} : ∀ r ∈ turnq t, r.length = t.length := by
  intro r hr
  obtain ⟨j, _, rfl⟩ := List.mem_map.1 hr
  exact colq_len _ _
theorem getD_at {r : List Rat} {j : Nat} (h : j < r.length) : r[j]? = some (r.getD j 0) := by rw [List.getD_eq_getElem?_getD, List.getElem?_eq_getElem h]; rfl
theorem getD_of {r : List Rat} {j : Nat} {x : Rat} (h : r[j]? = some x) : r.getD j 0 = x := by rw [List.getD_eq_getElem?_getD, h]; rfl
theorem rowq_getD {r : List Rat} {b : List (List Rat)} {n j : Nat} (h : j < n) : (rowq r b n).getD j 0 = dotq r (colq b j) := by rw [List.getD_eq_getElem?_getD, rowq_at h]; rfl
theorem dotq_comm : ∀ (p q : List Rat), dotq p q = dotq q p
  | [], [] => rfl
  | [], _ :: _ => rfl
  | _ :: _, [] => rfl
  | x :: p, y :: q => by rw [dotq_cons, dotq_cons, dotq_comm p q, Rat.mul_comm]
/-- May it be a table: not too many rows and places, all rows of one length. -/
def mayq (t : List (List Rat)) : Prop := t.length ≤ 200 ∧ wideq t ≤ 200 ∧ evenq t
instance (t : List (List Rat)) : Decidable (evenq t) := inferInstanceAs (Decidable (∀ r ∈ t, r.length = wideq t))
instance (t : List (List Rat)) : Decidable (mayq t) := inferInstanceAs (Decidable (_ ∧ _ ∧ _))
/-- What is turned, as far as r rows and i places of the next one are laid. -/
def tst (t : List (List Rat)) (r i : Nat) : List (List Rat) := (List.range (wideq t)).map fun j => colq (t.take (if j < i then r + 1 else r)) j
theorem tst_len (t : List (List Rat)) (r i : Nat) : (tst t r i).length = wideq t := by rw [tst, List.length_map, List.length_range]
theorem tst_zero (t : List (List Rat)) : tst t 0 0 = List.replicate (wideq t) [] := by
  refine List.ext_getElem? fun j => ?_
  by_cases hj : j < wideq t
  · simp [tst, hj, colq]
  · rw [List.getElem?_eq_none (by rw [tst_len]; omega), List.getElem?_eq_none (by simp; omega)]
theorem tst_at {t : List (List Rat)} {r i j : Nat} (h : j < wideq t) : (tst t r i)[j]? = some (colq (t.take (if j < i then r + 1 else r)) j) := by simp [tst, h]
theorem tst_self {t : List (List Rat)} {r i : Nat} (h : i < wideq t) : (tst t r i)[i]? = some (colq (t.take r) i) := by rw [tst_at h, if_neg (by omega)]
theorem colq_snoc {t : List (List Rat)} {r j : Nat} {row : List Rat} {x : Rat} (hr : t[r]? = some row) (hx : row[j]? = some x) : colq (t.take (r + 1)) j = colq (t.take r) j ++ [x] := by
  rw [List.take_add_one, hr]
  unfold colq
  rw [List.map_append]
  exact congrArg (_ ++ [·]) (getD_of hx)
theorem tst_set {t : List (List Rat)} {r i : Nat} {row : List Rat} {x : Rat} (hi : i < wideq t) (hr : t[r]? = some row) (hx : row[i]? = some x) : (tst t r i).set i (colq (t.take r) i ++ [x]) = tst t r (i + 1) := by
  refine List.ext_getElem? fun j => ?_
  by_cases hj : j < wideq t
  · rw [tst_at hj]
    by_cases e : i = j
    · subst e
      rw [List.getElem?_set_self (by rw [tst_len]; exact hj), if_pos (by omega), colq_snoc hr hx]
    · rw [List.getElem?_set_ne e, tst_at hj]
      by_cases e2 : j < i
      · rw [if_pos e2, if_pos (by omega)]
      · rw [if_neg e2, if_neg (by omega)]
  · rw [List.getElem?_eq_none (by rw [List.length_set, tst_len]; omega), List.getElem?_eq_none (by rw [tst_len]; omega)]
theorem tst_next (t : List (List Rat)) (r : Nat) : tst t r (wideq t) = tst t (r + 1) 0 := by
  refine List.ext_getElem? fun j => ?_
  by_cases hj : j < wideq t
  · rw [tst_at hj, tst_at hj, if_pos hj, if_neg (by omega)]
  · rw [List.getElem?_eq_none (by rw [tst_len]; omega), List.getElem?_eq_none (by rw [tst_len]; omega)]
theorem tst_end (t : List (List Rat)) : tst t t.length 0 = turnq t := by
  refine List.map_congr_left fun j hj => ?_
  rw [if_neg (by omega), List.take_of_length_le (Nat.le_refl _)]
/-- Rows with others behind them, as far as so many are laid. -/
def jst {α : Type} (P t : List (List α)) (k : Nat) : List (List α) := List.zipWith (· ++ ·) (P.take k) (t.take k) ++ P.drop k
def joinq {α : Type} (P t : List (List α)) : List (List α) := List.zipWith (· ++ ·) P t
theorem jst_zero {α : Type} (P t : List (List α)) : jst P t 0 = P := by simp [jst]
theorem jst_full {α : Type} {P t : List (List α)} {k : Nat} (h : P.length = t.length) (hk : k = t.length) : jst P t k = joinq P t := by
  subst hk
  unfold jst joinq
  rw [List.take_of_length_le (by omega), List.take_of_length_le (Nat.le_refl _), List.drop_eq_nil_of_le (by omega), List.append_nil]
theorem jst_pre_len {α : Type} {P t : List (List α)} {k : Nat} (h : P.length = t.length) (hk : k ≤ t.length) : (List.zipWith (· ++ ·) (P.take k) (t.take k)).length = k := by
  rw [List.length_zipWith, List.length_take, List.length_take]; omega
theorem jst_at {α : Type} {P t : List (List α)} {k : Nat} {p : List α} (h : P.length = t.length) (hp : P[k]? = some p) : (jst P t k)[k]? = some p := by
  have hk := (List.getElem?_eq_some_iff.1 hp).1
  unfold jst
  rw [List.getElem?_append_right (by rw [jst_pre_len h (by omega)]; exact Nat.le_refl _), jst_pre_len h (by omega), Nat.sub_self, List.getElem?_drop, Nat.add_zero, hp]
theorem jst_set {α : Type} {P t : List (List α)} {k : Nat} {p r : List α} (h : P.length = t.length) (hp : P[k]? = some p) (hr : t[k]? = some r) : (jst P t k).set k (p ++ r) = jst P t (k + 1) := by
  have hk := (List.getElem?_eq_some_iff.1 hp).1
  have hd : P.drop k = p :: P.drop (k + 1) := by
    have e : P[k] = p := by rw [List.getElem?_eq_getElem hk] at hp; exact Option.some.inj hp
    rw [← e]
    exact List.drop_eq_getElem_cons hk
  unfold jst
  rw [List.set_append_right _ _ (by rw [jst_pre_len h (by omega)]; exact Nat.le_refl _), jst_pre_len h (by omega), Nat.sub_self, hd, List.set_cons_zero, List.take_add_one, hp, List.take_add_one, hr, List.zipWith_append (by rw [List.length_take, List.length_take]; omega)]
  simp
theorem joinq_nil {α : Type} (t : List (List α)) : joinq (List.replicate t.length []) t = t := by
  refine List.ext_getElem? fun i => ?_
  unfold joinq
  rw [List.getElem?_zipWith]
  cases ht : t[i]? with
  | none => cases (List.replicate t.length ([] : List α))[i]? <;> rfl
  | some r => rw [List.getElem?_replicate, if_pos (List.getElem?_eq_some_iff.1 ht).1]; rfl
/-- Products of each row with one row. -/
def dotsq (t : List (List Rat)) (v : List Rat) : List Rat := t.map fun r => dotq r v
theorem dotsq_len (t : List (List Rat)) (v : List Rat) : (dotsq t v).length = t.length := List.length_map _
theorem dotsq_at {t : List (List Rat)} {v r : List Rat} {i : Nat} (h : t[i]? = some r) : (dotsq t v)[i]? = some (dotq r v) := by rw [dotsq, List.getElem?_map, h]; rfl
theorem dotsq_turn (r : List Rat) (b : List (List Rat)) : dotsq (turnq b) r = rowq r b (wideq b) := by
  unfold dotsq turnq rowq
  rw [List.map_map]
  exact List.map_congr_left fun j _ => dotq_comm _ _
/-- How long the numbers of a table are. -/
def lenT (t : List (List Rat)) (m : Nat) : Prop := ∀ r ∈ t, ∀ x ∈ r, lenQ x m
theorem lenT.mono {t : List (List Rat)} {m n : Nat} (h : lenT t m) (hmn : m ≤ n) : lenT t n := fun r hr x hx => (h r hr x hx).mono hmn
theorem lenQ_zero (m : Nat) : lenQ (0 : Rat) (m + 1) := lenQ.mono (m := 1) ⟨digs_len_le (k := 1) (by omega) (by decide +kernel), digs_len_le (k := 1) (by omega) (by decide +kernel)⟩ (by omega)
theorem lenQ_getD {r : List Rat} {j m : Nat} (h : ∀ x ∈ r, lenQ x m) (hm : 1 ≤ m) : lenQ (r.getD j 0) m := by
  by_cases hj : j < r.length
  · exact h _ (List.mem_of_getElem? (getD_at hj))
  · rw [List.getD_eq_getElem?_getD, List.getElem?_eq_none (by omega)]
    obtain ⟨n, rfl⟩ : ∃ n, m = n + 1 := ⟨m - 1, by omega⟩
    exact lenQ_zero n
theorem lenT_col {t : List (List Rat)} {j m : Nat} (h : lenT t m) (hm : 1 ≤ m) : ∀ x ∈ colq t j, lenQ x m := by
  intro x hx
  obtain ⟨r, hr, rfl⟩ := List.mem_map.1 hx
  exact lenQ_getD (h r hr) hm
theorem lenT_turn {t : List (List Rat)} {m : Nat} (h : lenT t m) (hm : 1 ≤ m) : lenT (turnq t) m := by
  intro r hr
  obtain ⟨j, _, rfl⟩ := List.mem_map.1 hr
  exact lenT_col h hm
theorem lenT_mul {a b : List (List Rat)} {m n : Nat} (ha : lenT a m) (hb : lenT b m) (hm : 1 ≤ m) (he : ∀ r ∈ a, r.length = b.length) (hn : b.length ≤ n) : lenT (mulq a b) ((m + m + 1) * n + 1) := by
  intro r hr x hx
  obtain ⟨s, hs, rfl⟩ := List.mem_map.1 hr
  obtain ⟨j, _, rfl⟩ := List.mem_map.1 hx
  refine (lenQ_dotq (ha s hs) (lenT_col hb hm) (by rw [colq_len]; exact he s hs)).mono ?_
  rw [he s hs]
  exact Nat.add_le_add_right (Nat.mul_le_mul_left _ hn) _
/-- Tables that fit, from the left: all may be, and each has as many rows as the one ahead has places. -/
def fitsq (ts : List (List (List Rat))) : Prop := ts ≠ [] ∧ ∀ (i : Nat) (t : List (List Rat)), ts[i]? = some t → mayq t ∧ ∀ (s : List (List Rat)), 0 < i → ts[i - 1]? = some s → wideq s = t.length
/-- Their product. -/
def prodT (ts : List (List (List Rat))) : List (List Rat) := ts.tail.foldl mulq (ts.headD [])
/-- All laid side by side. -/
def besideT (n : Nat) (ts : List (List (List Rat))) : List (List Rat) := ts.foldl joinq (List.replicate n [])
/-- What stands in row i, at place j. -/
def cellq (T : List (List Rat)) (i j : Nat) : Option Rat := (T[i]?).bind fun r => r[j]?
/-- One place set. -/
def setq (T : List (List Rat)) (i j : Nat) (v : Rat) : List (List Rat) := T.modify i fun r => r.set j v
def cntR (r : List Rat) : Nat := r.countP fun q => decide (q ≠ 0)
/-- How many are no noughts. -/
def cntT (T : List (List Rat)) : Nat := (T.map cntR).sum
def oneq (q : Rat) : Nat := if q = 0 then 0 else 1
/-- So many rows, each of so many places. -/
def shp (T : List (List Rat)) (R C : Nat) : Prop := T.length = R ∧ ∀ r ∈ T, r.length = C
theorem cellq_of {T : List (List Rat)} {i j : Nat} {r : List Rat} {q : Rat} (h : T[i]? = some r) (hq : r[j]? = some q) : cellq T i j = some q := by unfold cellq; rw [h]; exact hq
theorem cellq_inv {T : List (List Rat)} {i j : Nat} {q : Rat} (h : cellq T i j = some q) : ∃ r, T[i]? = some r ∧ r[j]? = some q := by
  unfold cellq at h
  cases hr : T[i]? with
  | none => rw [hr] at h; cases h
  | some r => rw [hr] at h; exact ⟨r, rfl, h⟩
theorem cellq_lt {T : List (List Rat)} {R C i j : Nat} {q : Rat} (hs : shp T R C) (h : cellq T i j = some q) : i < R ∧ j < C := by
  obtain ⟨r, h1, h2⟩ := cellq_inv h
  have h3 := (List.getElem?_eq_some_iff.1 h1).1
  have h4 := (List.getElem?_eq_some_iff.1 h2).1
  rw [hs.2 r (List.mem_of_getElem? h1)] at h4
  exact ⟨by rw [← hs.1]; exact h3, h4⟩
theorem cellq_ex {T : List (List Rat)} {R C i j : Nat} (hs : shp T R C) (hi : i < R) (hj : j < C) : ∃ q, cellq T i j = some q := by
  have h1 : T[i]? = some (T[i]'(by rw [hs.1]; exact hi)) := List.getElem?_eq_getElem _
  have h2 := hs.2 _ (List.mem_of_getElem? h1)
  exact ⟨_, cellq_of h1 (List.getElem?_eq_getElem (by rw [h2]; exact hj))⟩
theorem row_ex {T : List (List Rat)} {R C i : Nat} (hs : shp T R C) (hi : i < R) : ∃ r, T[i]? = some r ∧ r.length = C := by
  have h1 : T[i]? = some (T[i]'(by rw [hs.1]; exact hi)) := List.getElem?_eq_getElem _
  exact ⟨_, h1, hs.2 _ (List.mem_of_getElem? h1)⟩
theorem cellq_setq {T : List (List Rat)} {R C i j : Nat} (hs : shp T R C) (hi : i < R) (hj : j < C) (v : Rat) (i' j' : Nat) : cellq (setq T i j v) i' j' = if i = i' ∧ j = j' then some v else cellq T i' j' := by
  unfold cellq setq
  rw [List.getElem?_modify]
  cases h : T[i']? with
  | none =>
    have : ¬ (i = i' ∧ j = j') := fun e => by
      have h1 := List.getElem?_eq_none_iff.1 h
      rw [hs.1] at h1
      omega
    rw [if_neg this]; rfl
  | some r =>
    have h0 := hs.2 r (List.mem_of_getElem? h)
    simp only [Option.map_eq_map, Option.map_some, Option.bind_some]
    by_cases e : i = i'
    · rw [if_pos e, List.getElem?_set]
      by_cases e2 : j = j'
      · rw [if_pos e2, if_pos (by omega), if_pos ⟨e, e2⟩]
      · rw [if_neg e2, if_neg (fun h => e2 h.2)]
    · rw [if_neg e, if_neg (fun h => e h.1)]
theorem setq_at {T : List (List Rat)} {i j : Nat} {r : List Rat} (v : Rat) (h : T[i]? = some r) : setq T i j v = T.set i (r.set j v) := by
  unfold setq
  apply List.ext_getElem?
  intro k
  rw [List.getElem?_modify, List.getElem?_set]
  by_cases e : i = k
  · subst e
    rw [if_pos rfl, h, if_pos (List.getElem?_eq_some_iff.1 h).1]; simp
  · rw [if_neg e]
    cases T[k]? <;> simp [e]
theorem cntR_set : ∀ (r : List Rat) (j : Nat) (q v : Rat), r[j]? = some q → cntR (r.set j v) + oneq q = cntR r + oneq v
  | [], j, q, v, h => by simp at h
  | x :: r, 0, q, v, h => by
    obtain rfl : x = q := by simpa using h
    unfold cntR oneq
    rw [List.set_cons_zero, List.countP_cons, List.countP_cons]
    by_cases h1 : x = 0 <;> by_cases h2 : v = 0 <;> simp [h1, h2] <;> omega
  | x :: r, j + 1, q, v, h => by
    have ih := cntR_set r j q v (by simpa using h)
    unfold cntR at ih ⊢
    rw [List.set_cons_succ, List.countP_cons, List.countP_cons]
    omega
theorem sum_set : ∀ (l : List Nat) (i x y : Nat), l[i]? = some x → (l.set i y).sum + x = l.sum + y
  | [], i, x, y, h => by simp at h
  | a :: l, 0, x, y, h => by
    obtain rfl : a = x := by simpa using h
    simp; omega
  | a :: l, i + 1, x, y, h => by
    have ih := sum_set l i x y (by simpa using h)
    simp only [List.set_cons_succ, List.sum_cons]
    omega
theorem cntT_setq {T : List (List Rat)} {i j : Nat} {q : Rat} (h : cellq T i j = some q) (v : Rat) : cntT (setq T i j v) + oneq q = cntT T + oneq v := by
  obtain ⟨r, h1, h2⟩ := cellq_inv h
  rw [setq_at v h1]
  unfold cntT
  rw [List.map_set]
  have h3 := sum_set (T.map cntR) i (cntR r) (cntR (r.set j v)) (by rw [List.getElem?_map, h1]; rfl)
  have h4 := cntR_set r j q v h2
  omega
theorem cntT_le {T : List (List Rat)} {R C : Nat} (hs : shp T R C) : cntT T ≤ R * C := by
  obtain ⟨rfl, h⟩ := hs
  induction T with
  | nil => simp [cntT]
  | cons r T ih =>
    have h1 := ih (fun x hx => h x (List.mem_cons_of_mem _ hx))
    have h2 : cntR r ≤ C := by
      have := List.countP_le_length (p := fun q : Rat => decide (q ≠ 0)) (l := r)
      have h3 := h r List.mem_cons_self
      unfold cntR
      omega
    have e : cntT (r :: T) = cntR r + cntT T := by simp [cntT]
    rw [e, List.length_cons, Nat.succ_mul]
    omega
theorem shp_ext {T U : List (List Rat)} {R C : Nat} (h : shp T R C) (h' : shp U R C) (he : ∀ i j, i < R → j < C → cellq T i j = cellq U i j) : T = U := by
  apply List.ext_getElem?
  intro i
  by_cases hi : i < R
  · obtain ⟨r, h1, h2⟩ := row_ex h hi
    obtain ⟨s, h3, h4⟩ := row_ex h' hi
    rw [h1, h3]
    congr 1
    apply List.ext_getElem?
    intro j
    by_cases hj : j < C
    · have h5 := he i j hi hj
      unfold cellq at h5
      rw [h1, h3] at h5
      exact h5
    · rw [List.getElem?_eq_none (by omega), List.getElem?_eq_none (by omega)]
  · rw [List.getElem?_eq_none (by rw [h.1]; omega), List.getElem?_eq_none (by rw [h'.1]; omega)]
theorem oneq_pos {q : Rat} (h : q ≠ 0) : oneq q = 1 := if_neg h
theorem oneq_zero : oneq 0 = 0 := if_pos rfl
set_option linter.unusedSimpArgs false
/-! Sums over places. -/
def sumN : Nat → (Nat → Rat) → Rat
  | 0, _ => 0
  | n + 1, f => sumN n f + f n
theorem sumN_congr : ∀ {n : Nat} {f g : Nat → Rat}, (∀ i, i < n → f i = g i) → sumN n f = sumN n g
  | 0, _, _, _ => rfl
  | n + 1, f, g, h => by
    show sumN n f + f n = sumN n g + g n
    rw [sumN_congr (fun i hi => h i (by omega)), h n (by omega)]
theorem sumN_add : ∀ (n : Nat) (f g : Nat → Rat), sumN n (fun i => f i + g i) = sumN n f + sumN n g
  | 0, _, _ => by show (0 : Rat) = 0 + 0; grind
  | n + 1, f, g => by
    show sumN n _ + (f n + g n) = (sumN n f + f n) + (sumN n g + g n)
    rw [sumN_add n f g]; grind
theorem sumN_mul : ∀ (n : Nat) (c : Rat) (f : Nat → Rat), sumN n (fun i => c * f i) = c * sumN n f
  | 0, c, _ => by show (0 : Rat) = c * 0; grind
  | n + 1, c, f => by
    show sumN n _ + c * f n = c * (sumN n f + f n)
    rw [sumN_mul n c f]; grind
theorem sumN_zero : ∀ {n : Nat} {f : Nat → Rat}, (∀ i, i < n → f i = 0) → sumN n f = 0
  | 0, _, _ => rfl
  | n + 1, f, h => by
    show sumN n f + f n = 0
    rw [sumN_zero (fun i hi => h i (by omega)), h n (by omega)]; grind
theorem sumN_one : ∀ {n : Nat} {f : Nat → Rat} {a : Nat}, a < n → (∀ i, i < n → i ≠ a → f i = 0) → sumN n f = f a
  | 0, _, _, h, _ => by omega
  | n + 1, f, a, ha, h => by
    show sumN n f + f n = f a
    by_cases e : a = n
    · subst e
      rw [sumN_zero (fun i hi => h i (by omega) (by omega))]; grind
    · rw [sumN_one (a := a) (by omega) (fun i hi hn => h i (by omega) hn), h n (by omega) (fun e' => e e'.symm)]; grind
theorem sumN_two {n : Nat} {f : Nat → Rat} {a b : Nat} (ha : a < n) (hb : b < n) (hab : a ≠ b) (h : ∀ i, i < n → i ≠ a → i ≠ b → f i = 0) : sumN n f = f a + f b := by
  have e : sumN n f = sumN n (fun i => (if i = a then f a else 0) + (if i = b then f b else 0)) := sumN_congr fun i hi => by
    by_cases e1 : i = a
    · subst e1; rw [if_pos rfl, if_neg hab]; grind
    · by_cases e2 : i = b
      · subst e2; rw [if_neg e1, if_pos rfl]; grind
      · rw [if_neg e1, if_neg e2, h i hi e1 e2]; grind
  rw [e, sumN_add, sumN_one (a := a) ha (fun i _ hn => if_neg hn), sumN_one (a := b) hb (fun i _ hn => if_neg hn), if_pos rfl, if_pos rfl]
theorem sumN_swap : ∀ (n m : Nat) (f : Nat → Nat → Rat), sumN n (fun i => sumN m (f i)) = sumN m (fun j => sumN n (fun i => f i j))
  | 0, m, f => (sumN_zero fun _ _ => rfl).symm
  | n + 1, m, f => by
    show sumN n _ + sumN m (f n) = _
    rw [sumN_swap n m f, ← sumN_add]
    rfl
/-! Tables as functions: what they make nought, steps, that steps are one. -/
/-- Each of the n rows makes nought with x. -/
def kerF (n C : Nat) (M : Nat → Nat → Rat) (x : Nat → Rat) : Prop := ∀ i, i < n → sumN C (fun j => M i j * x j) = 0
def KerEq (n C : Nat) (M M' : Nat → Nat → Rat) : Prop := ∀ x, kerF n C M x ↔ kerF n C M' x
theorem KerEq.refl (n C : Nat) (M : Nat → Nat → Rat) : KerEq n C M M := fun _ => Iff.rfl
theorem KerEq.trans {n C : Nat} {M M' M'' : Nat → Nat → Rat} (h : KerEq n C M M') (h' : KerEq n C M' M'') : KerEq n C M M'' := fun x => (h x).trans (h' x)
theorem KerEq.symm {n C : Nat} {M M' : Nat → Nat → Rat} (h : KerEq n C M M') : KerEq n C M' M := fun x => (h x).symm
theorem kerEq_of {n C : Nat} {M M' : Nat → Nat → Rat} (h : ∀ i j, i < n → j < C → M i j = M' i j) : KerEq n C M M' := fun x => by
  have e : ∀ i, i < n → sumN C (fun j => M i j * x j) = sumN C (fun j => M' i j * x j) := fun i hi => sumN_congr fun j hj => by rw [h i j hi hj]
  exact ⟨fun k i hi => (e i hi) ▸ k i hi, fun k i hi => (e i hi).symm ▸ k i hi⟩
/-- Two rows changed about. -/
def swapF (M : Nat → Nat → Rat) (a b : Nat) : Nat → Nat → Rat := fun i => if i = a then M b else if i = b then M a else M i
def scaleF (M : Nat → Nat → Rat) (a : Nat) (c : Rat) : Nat → Nat → Rat := fun i j => if i = a then M i j * c else M i j
/-- Of each row so often row p is taken off. -/
def clearF (M : Nat → Nat → Rat) (p : Nat) (t : Nat → Rat) : Nat → Nat → Rat := fun i j => M i j - t i * M p j
theorem ker_swap {n C : Nat} (M : Nat → Nat → Rat) {a b : Nat} (ha : a < n) (hb : b < n) : KerEq n C M (swapF M a b) := fun x => by
  constructor
  · intro h i hi
    unfold swapF
    by_cases e1 : i = a
    · simp only [if_pos e1]; exact h b hb
    · by_cases e2 : i = b
      · simp only [if_neg e1, if_pos e2]; exact h a ha
      · simp only [if_neg e1, if_neg e2]; exact h i hi
  · intro h i hi
    by_cases e1 : i = a
    · have := h b hb
      unfold swapF at this
      by_cases e : b = a
      · rw [if_pos e] at this; rw [e1, ← e]; exact this
      · rw [if_neg e, if_pos rfl] at this; rw [e1]; exact this
    · by_cases e2 : i = b
      · have := h a ha
        unfold swapF at this
        rw [if_pos rfl] at this; rw [e2]; exact this
      · have := h i hi
        unfold swapF at this
        rw [if_neg e1, if_neg e2] at this; exact this
theorem ker_scale {n C : Nat} (M : Nat → Nat → Rat) {a : Nat} {c : Rat} (hc : c ≠ 0) : KerEq n C M (scaleF M a c) := fun x => by
  have e : ∀ i, sumN C (fun j => scaleF M a c i j * x j) = (if i = a then c else 1) * sumN C (fun j => M i j * x j) := fun i => by
    rw [← sumN_mul]
    refine sumN_congr fun j _ => ?_
    unfold scaleF
    by_cases e1 : i = a
    · rw [if_pos e1, if_pos e1]; grind
    · rw [if_neg e1, if_neg e1]; grind
  constructor
  · intro h i hi
    rw [e i, h i hi]; grind
  · intro h i hi
    have := h i hi
    rw [e i] at this
    by_cases e1 : i = a
    · rw [if_pos e1] at this
      rcases Rat.mul_eq_zero.1 this with h0 | h0
      · exact absurd h0 hc
      · exact h0
    · rw [if_neg e1] at this; grind
theorem clear_sum {C : Nat} (M : Nat → Nat → Rat) (p i : Nat) (t : Nat → Rat) (x : Nat → Rat) : sumN C (fun j => clearF M p t i j * x j) = sumN C (fun j => M i j * x j) - t i * sumN C (fun j => M p j * x j) := by
  have e : sumN C (fun j => M i j * x j) - t i * sumN C (fun j => M p j * x j) = sumN C (fun j => M i j * x j) + (-(t i)) * sumN C (fun j => M p j * x j) := by grind
  rw [e, ← sumN_mul, ← sumN_add]
  refine sumN_congr fun j _ => ?_
  unfold clearF
  grind
theorem ker_clear {n C : Nat} (M : Nat → Nat → Rat) {p : Nat} {t : Nat → Rat} (hp : p < n) (ht : t p = 0) : KerEq n C M (clearF M p t) := fun x => by
  constructor
  · intro h i hi
    rw [clear_sum, h i hi, h p hp]; grind
  · intro h i hi
    have h0 := h p hp
    rw [clear_sum, ht] at h0
    have h1 := h i hi
    rw [clear_sum] at h1
    have h2 : sumN C (fun j => M p j * x j) = 0 := by grind
    rw [h2] at h1; grind
/-- Steps, as far as the places below at: k pivots, at p. -/
structure Ech (n at_ : Nat) (M : Nat → Nat → Rat) (k : Nat) (p : Nat → Nat) : Prop where
  le : k ≤ n
  rise : ∀ i j, i < j → j < k → p i < p j
  lt : ∀ i, i < k → p i < at_
  one : ∀ i, i < k → M i (p i) = 1
  lead : ∀ i, i < k → ∀ j, j < p i → M i j = 0
  rest : ∀ i, k ≤ i → i < n → ∀ j, j < at_ → M i j = 0
/-- From the pivot u on, each is alone in its place. -/
def Red (n : Nat) (M : Nat → Nat → Rat) (k : Nat) (p : Nat → Nat) (u : Nat) : Prop := ∀ m, u ≤ m → m < k → ∀ i, i < n → i ≠ m → M i (p m) = 0
theorem Ech.zero (n : Nat) (M : Nat → Nat → Rat) (p : Nat → Nat) : Ech n 0 M 0 p := ⟨by omega, fun _ _ _ h => by omega, fun _ h => by omega, fun _ h => by omega, fun _ h => by omega, fun _ _ _ _ h => by omega⟩
theorem Ech.skip {n a k : Nat} {M : Nat → Nat → Rat} {p : Nat → Nat} (h : Ech n a M k p) (h0 : ∀ i, k ≤ i → i < n → M i a = 0) : Ech n (a + 1) M k p :=
  ⟨h.le, h.rise, fun i hi => by have := h.lt i hi; omega, h.one, h.lead, fun i h1 h2 j hj => by
    by_cases e : j = a
    · subst e; exact h0 i h1 h2
    · exact h.rest i h1 h2 j (by omega)⟩
theorem Ech.congr {n a k C : Nat} {M M' : Nat → Nat → Rat} {p p' : Nat → Nat} (h : Ech n a M k p) (ha : a ≤ C) (hM : ∀ i j, i < n → j < C → M i j = M' i j) (hp : ∀ i, i < k → p i = p' i) : Ech n a M' k p' := by
  have hle := h.le
  refine ⟨h.le, fun i j hi hj => by rw [← hp i (by omega), ← hp j hj]; exact h.rise i j hi hj, fun i hi => by rw [← hp i hi]; exact h.lt i hi, fun i hi => ?_, fun i hi j hj => ?_, fun i h1 h2 j hj => ?_⟩
  · rw [← hp i hi, ← hM i _ (by omega) (by have := h.lt i hi; omega)]; exact h.one i hi
  · rw [← hp i hi] at hj
    rw [← hM i j (by omega) (by have := h.lt i hi; omega)]; exact h.lead i hi j hj
  · rw [← hM i j h2 (by omega)]; exact h.rest i h1 h2 j hj
theorem Red.congr {n k u C : Nat} {M M' : Nat → Nat → Rat} {p p' : Nat → Nat} (h : Red n M k p u) (hlt : ∀ i, i < k → p i < C) (hM : ∀ i j, i < n → j < C → M i j = M' i j) (hp : ∀ i, i < k → p i = p' i) : Red n M' k p' u := fun m h1 h2 i h3 h4 => by
  rw [← hp m h2, ← hM i _ h3 (hlt m h2)]; exact h m h1 h2 i h3 h4
theorem Ech.swap {n a k f : Nat} {M : Nat → Nat → Rat} {p : Nat → Nat} (h : Ech n a M k p) (hf : k ≤ f) (hn : f < n) : Ech n a (swapF M k f) k p := by
  refine ⟨h.le, h.rise, h.lt, fun i hi => ?_, fun i hi j hj => ?_, fun i h1 h2 j hj => ?_⟩
  · unfold swapF; rw [if_neg (by omega), if_neg (by omega)]; exact h.one i hi
  · unfold swapF; rw [if_neg (by omega), if_neg (by omega)]; exact h.lead i hi j hj
  · unfold swapF
    by_cases e : i = k
    · rw [if_pos e]; exact h.rest f hf hn j hj
    · rw [if_neg e]
      by_cases e2 : i = f
      · rw [if_pos e2]; exact h.rest k (by omega) (by omega) j hj
      · rw [if_neg e2]; exact h.rest i h1 h2 j hj
theorem Ech.scale {n a k : Nat} {M : Nat → Nat → Rat} {p : Nat → Nat} (h : Ech n a M k p) (c : Rat) : Ech n a (scaleF M k c) k p := by
  refine ⟨h.le, h.rise, h.lt, fun i hi => ?_, fun i hi j hj => ?_, fun i h1 h2 j hj => ?_⟩
  · unfold scaleF; rw [if_neg (by omega)]; exact h.one i hi
  · unfold scaleF; rw [if_neg (by omega)]; exact h.lead i hi j hj
  · unfold scaleF
    by_cases e : i = k
    · rw [if_pos e, h.rest i h1 h2 j hj]; grind
    · rw [if_neg e]; exact h.rest i h1 h2 j hj
/-- A row with 1 at the place a is taken off those below (and others), so that they are nought there. -/
theorem Ech.clear {n a k : Nat} {M : Nat → Nat → Rat} {p : Nat → Nat} {t : Nat → Rat} (h : Ech n a M k p) (hk : k < n) (h1 : M k a = 1) (ht : t k = 0) (hb : ∀ i, k < i → i < n → t i = M i a) : Ech n (a + 1) (clearF M k t) (k + 1) (fun i => if i < k then p i else a) := by
  have z : ∀ j, j < a → M k j = 0 := fun j hj => h.rest k (by omega) hk j hj
  refine ⟨by omega, fun i j hi hj => ?_, fun i hi => ?_, fun i hi => ?_, fun i hi j hj => ?_, fun i h2 h3 j hj => ?_⟩
  · by_cases e : j < k
    · rw [if_pos e, if_pos (by omega)]; exact h.rise i j hi e
    · rw [if_neg e, if_pos (by omega)]; exact h.lt i (by omega)
  · by_cases e : i < k
    · simp only [if_pos e]; have := h.lt i e; omega
    · simp only [if_neg e]; omega
  · unfold clearF
    by_cases e : i < k
    · simp only [if_pos e]; rw [h.one i e, z _ (h.lt i e)]; grind
    · simp only [if_neg e]
      obtain rfl : i = k := by omega
      rw [ht, h1]; grind
  · unfold clearF
    by_cases e : i < k
    · simp only [if_pos e] at hj
      rw [h.lead i e j hj, z j (by have := h.lt i e; omega)]; grind
    · simp only [if_neg e] at hj
      obtain rfl : i = k := by omega
      rw [z j hj]; grind
  · unfold clearF
    by_cases e : j = a
    · subst e
      rw [hb i (by omega) h3, h1]; grind
    · rw [h.rest i (by omega) h3 j (by omega), z j (by omega)]; grind
theorem Red.swap {n k f : Nat} {M : Nat → Nat → Rat} {p : Nat → Nat} (h : Red n M k p 0) (hf : k ≤ f) (hn : f < n) : Red n (swapF M k f) k p 0 := fun m h1 h2 i h3 h4 => by
  unfold swapF
  by_cases e : i = k
  · rw [if_pos e]; exact h m h1 h2 f hn (by omega)
  · rw [if_neg e]
    by_cases e2 : i = f
    · rw [if_pos e2]; exact h m h1 h2 k (by omega) (by omega)
    · rw [if_neg e2]; exact h m h1 h2 i h3 h4
theorem Red.scale {n k : Nat} {M : Nat → Nat → Rat} {p : Nat → Nat} (h : Red n M k p 0) (c : Rat) : Red n (scaleF M k c) k p 0 := fun m h1 h2 i h3 h4 => by
  unfold scaleF
  by_cases e : i = k
  · rw [if_pos e, h m h1 h2 i h3 h4]; grind
  · rw [if_neg e]; exact h m h1 h2 i h3 h4
/-- All rows but one are cleared: it is alone in its place. -/
theorem Red.clear {n a k : Nat} {M : Nat → Nat → Rat} {p : Nat → Nat} {t : Nat → Rat} (h : Red n M k p 0) (he : Ech n a M k p) (hk : k < n) (h1 : M k a = 1) (ht : t k = 0) (hb : ∀ i, i ≠ k → i < n → t i = M i a) : Red n (clearF M k t) (k + 1) (fun i => if i < k then p i else a) 0 := fun m h2 h3 i h4 h5 => by
  unfold clearF
  by_cases e : m < k
  · simp only [if_pos e]
    rw [h m h2 e i h4 h5, h m h2 e k hk (by omega)]; grind
  · simp only [if_neg e]
    obtain rfl : m = k := by omega
    rw [hb i h5 h4, h1]; grind
/-- Upward: those above a pivot are cleared. -/
theorem Ech.up {n a k m : Nat} {M : Nat → Nat → Rat} {p : Nat → Nat} {t : Nat → Rat} (h : Ech n a M k p) (hm : m < k) (ht : ∀ i, m ≤ i → t i = 0) : Ech n a (clearF M m t) k p := by
  have z : ∀ i j, i < m → j ≤ p i → M m j = 0 := fun i j hi hj => h.lead m hm j (by have := h.rise i m hi hm; omega)
  refine ⟨h.le, h.rise, h.lt, fun i hi => ?_, fun i hi j hj => ?_, fun i h1 h2 j hj => ?_⟩
  · unfold clearF
    by_cases e : i < m
    · rw [h.one i hi, z i _ e (Nat.le_refl _)]; grind
    · rw [h.one i hi, ht i (by omega)]; grind
  · unfold clearF
    by_cases e : i < m
    · rw [h.lead i hi j hj, z i j e (by omega)]; grind
    · rw [h.lead i hi j hj, ht i (by omega)]; grind
  · unfold clearF
    rw [h.rest i h1 h2 j hj, ht i (by omega)]; grind
theorem Red.up {n a k m : Nat} {M : Nat → Nat → Rat} {p : Nat → Nat} {t : Nat → Rat} (h : Red n M k p (m + 1)) (he : Ech n a M k p) (hm : m < k) (ht : ∀ i, m ≤ i → t i = 0) (hb : ∀ i, i < m → t i = M i (p m)) : Red n (clearF M m t) k p m := fun q h1 h2 i h3 h4 => by
  have hle := he.le
  unfold clearF
  by_cases e : q = m
  · subst e
    by_cases e2 : i < q
    · rw [hb i e2, he.one q hm]; grind
    · rw [ht i (by omega)]
      by_cases e3 : i < k
      · rw [he.lead i e3 _ (he.rise q i (by omega) e3)]; grind
      · rw [he.rest i (by omega) h3 _ (he.lt q hm)]; grind
  · rw [h q (by omega) h2 i h3 h4, h q (by omega) h2 m (by omega) (by omega)]; grind
/-- The row with 1 at the place j, that is nought at other places that are no pivots. -/
def nv (M : Nat → Nat → Rat) (k : Nat) (p : Nat → Nat) (j : Nat) : Nat → Rat := fun c => if c = j then 1 else -(sumN k (fun i => if p i = c then M i j else 0))
theorem Ech.inj {n a k : Nat} {M : Nat → Nat → Rat} {p : Nat → Nat} (h : Ech n a M k p) {i j : Nat} (hi : i < k) (hj : j < k) (e : p i = p j) : i = j := by
  rcases Nat.lt_trichotomy i j with hl | hl | hl
  · have := h.rise i j hl hj; omega
  · exact hl
  · have := h.rise j i hl hi; omega
theorem nv_self {M : Nat → Nat → Rat} {k : Nat} {p : Nat → Nat} {j : Nat} : nv M k p j j = 1 := if_pos rfl
theorem nv_piv {n a k : Nat} {M : Nat → Nat → Rat} {p : Nat → Nat} (h : Ech n a M k p) {i j : Nat} (hi : i < k) (hne : p i ≠ j) : nv M k p j (p i) = - M i j := by
  unfold nv
  rw [if_neg hne, sumN_one (a := i) hi (fun m hm hn => if_neg fun e => hn (h.inj hm hi e)), if_pos rfl]
theorem nv_free {M : Nat → Nat → Rat} {k : Nat} {p : Nat → Nat} {j c : Nat} (hc : c ≠ j) (hf : ∀ i, i < k → p i ≠ c) : nv M k p j c = 0 := by
  unfold nv
  rw [if_neg hc, sumN_zero (fun i hi => if_neg (hf i hi))]; grind
theorem nv_ker {n C k : Nat} {M : Nat → Nat → Rat} {p : Nat → Nat} (h : Ech n C M k p) (hr : Red n M k p 0) {j : Nat} (hj : j < C) (hf : ∀ i, i < k → p i ≠ j) : kerF n C M (nv M k p j) := fun i hi => by
  by_cases e : i < k
  · rw [sumN_two (a := p i) (b := j) (h.lt i e) hj (hf i e) (fun c hc h1 h2 => ?_), nv_piv h e (hf i e), nv_self, h.one i e]
    · grind
    · by_cases hp : ∃ m, m < k ∧ p m = c
      · obtain ⟨m, hm, rfl⟩ := hp
        rw [hr m (by omega) hm i hi (fun e2 => h1 (by rw [e2]))]; grind
      · rw [nv_free h2 (fun m hm e2 => hp ⟨m, hm, e2⟩)]; grind
  · exact sumN_zero fun c hc => by rw [h.rest i (by omega) hi c hc]; grind
theorem nv_behind {n a k : Nat} {M : Nat → Nat → Rat} {p : Nat → Nat} (h : Ech n a M k p) {j c : Nat} (hc : j < c) : nv M k p j c = 0 := by
  by_cases hp : ∃ m, m < k ∧ p m = c
  · obtain ⟨m, hm, rfl⟩ := hp
    rw [nv_piv h hm (by omega), h.lead m hm j hc]; grind
  · exact nv_free (by omega) (fun m hm e2 => hp ⟨m, hm, e2⟩)
/-- What is no pivot of one is none of the other. -/
theorem piv_sub {n C k k' : Nat} {M M' : Nat → Nat → Rat} {p p' : Nat → Nat} (h : Ech n C M k p) (hr : Red n M k p 0) (h' : Ech n C M' k' p') (hk : KerEq n C M M') {i : Nat} (hi : i < k') : ∃ m, m < k ∧ p m = p' i := by
  refine Classical.byContradiction fun hn => ?_
  have hf : ∀ m, m < k → p m ≠ p' i := fun m hm e => hn ⟨m, hm, e⟩
  have hle := h'.le
  have h1 := (hk _).1 (nv_ker h hr (h'.lt i hi) hf) i (by omega)
  rw [sumN_one (a := p' i) (h'.lt i hi) (fun c hc hne => ?_), h'.one i hi, nv_self] at h1
  · grind
  · rcases Nat.lt_trichotomy c (p' i) with hl | hl | hl
    · rw [h'.lead i hi c hl]; grind
    · exact absurd hl hne
    · rw [nv_behind h hl]; grind
theorem rise_eq {k k' : Nat} {p p' : Nat → Nat} (hr : ∀ i j, i < j → j < k → p i < p j) (hr' : ∀ i j, i < j → j < k' → p' i < p' j) (h : ∀ i, i < k' → ∃ m, m < k ∧ p m = p' i) (h' : ∀ i, i < k → ∃ m, m < k' ∧ p' m = p i) : k = k' ∧ ∀ i, i < k → p i = p' i := by
  have key : ∀ i, (i < k → i < k' ∧ p i = p' i) ∧ (i < k' → i < k ∧ p i = p' i) := by
    intro i
    induction i using Nat.strongRecOn with
    | _ i ih =>
      have A : i < k → i < k' ∧ p' i ≤ p i := fun hi => by
        obtain ⟨m, hm, e⟩ := h' i hi
        by_cases hmi : m < i
        · have := ((ih m hmi).1 (by omega)).2
          have := hr m i hmi hi
          omega
        · by_cases e2 : i = m
          · subst e2; exact ⟨hm, by omega⟩
          · have := hr' i m (by omega) hm
            exact ⟨by omega, by omega⟩
      have B : i < k' → i < k ∧ p i ≤ p' i := fun hi => by
        obtain ⟨m, hm, e⟩ := h i hi
        by_cases hmi : m < i
        · have := ((ih m hmi).2 (by omega)).2
          have := hr' m i hmi hi
          omega
        · by_cases e2 : i = m
          · subst e2; exact ⟨hm, by omega⟩
          · have := hr i m (by omega) hm
            exact ⟨by omega, by omega⟩
      exact ⟨fun hi => by
        obtain ⟨a, b⟩ := A hi
        obtain ⟨c, d⟩ := B a
        exact ⟨a, by omega⟩, fun hi => by
        obtain ⟨a, b⟩ := B hi
        obtain ⟨c, d⟩ := A a
        exact ⟨a, by omega⟩⟩
  refine ⟨?_, fun i hi => ((key i).1 hi).2⟩
  rcases Nat.lt_trichotomy k k' with hl | hl | hl
  · have := ((key k).2 hl).1; omega
  · exact hl
  · have := ((key k').1 hl).1; omega
/-- Steps of one kernel are one. -/
theorem steps_one {n C k k' : Nat} {M M' : Nat → Nat → Rat} {p p' : Nat → Nat} (h : Ech n C M k p) (hr : Red n M k p 0) (h' : Ech n C M' k' p') (hr' : Red n M' k' p' 0) (hk : KerEq n C M M') : k = k' ∧ (∀ i, i < k → p i = p' i) ∧ ∀ i j, i < n → j < C → M i j = M' i j := by
  obtain ⟨e1, e2⟩ := rise_eq h.rise h'.rise (fun i hi => piv_sub h hr h' hk hi) (fun i hi => piv_sub h' hr' h hk.symm hi)
  refine ⟨e1, e2, fun i j hi hj => ?_⟩
  subst e1
  by_cases hik : i < k
  · by_cases hp : ∃ m, m < k ∧ p m = j
    · obtain ⟨m, hm, rfl⟩ := hp
      by_cases e : i = m
      · subst e; rw [h.one i hik, e2 i hik, h'.one i hik]
      · rw [hr m (by omega) hm i hi e, e2 m hm, hr' m (by omega) hm i hi e]
    · have hf : ∀ m, m < k → p m ≠ j := fun m hm e => hp ⟨m, hm, e⟩
      have h1 := (hk _).1 (nv_ker h hr hj hf) i hi
      rw [sumN_two (a := p i) (b := j) (h.lt i hik) hj (hf i hik) (fun c hc h1 h2 => ?_), nv_piv h hik (hf i hik), nv_self, e2 i hik, h'.one i hik] at h1
      · grind
      · by_cases hp : ∃ m, m < k ∧ p m = c
        · obtain ⟨m, hm, rfl⟩ := hp
          rw [e2 m hm, hr' m (by omega) hm i hi (fun e2 => h1 (by rw [e2]))]; grind
        · rw [nv_free h2 (fun m hm e2 => hp ⟨m, hm, e2⟩)]; grind
  · rw [h.rest i (by omega) hi j hj, h'.rest i (by omega) hi j hj]
/-! What each change of rows does to a number that is made of a table; determinants by the first row. -/
def addF (M : Nat → Nat → Rat) (a b : Nat) (t : Rat) : Nat → Nat → Rat := fun i j => if i = a then M i j - t * M b j else M i j
structure RowFn (n C : Nat) (f : (Nat → Nat → Rat) → Rat) : Prop where
  congr : ∀ M M', (∀ i j, i < n → j < C → M i j = M' i j) → f M = f M'
  scale : ∀ M a c, a < n → f (scaleF M a c) = c * f M
  add : ∀ M a b t, a < n → b < n → a ≠ b → f (addF M a b t) = f M
theorem RowFn.zero {n C : Nat} {f : (Nat → Nat → Rat) → Rat} (h : RowFn n C f) {M : Nat → Nat → Rat} {a : Nat} (ha : a < n) (h0 : ∀ j, j < C → M a j = 0) : f M = 0 := by
  have h1 := h.scale M a 0 ha
  rw [h.congr (scaleF M a 0) M (fun i j hi hj => by
    unfold scaleF
    by_cases e : i = a
    · rw [if_pos e, e, h0 j hj]; grind
    · rw [if_neg e])] at h1
  rw [h1]; grind
theorem RowFn.clear {n C : Nat} {f : (Nat → Nat → Rat) → Rat} (h : RowFn n C f) (M : Nat → Nat → Rat) {p : Nat} {t : Nat → Rat} (hp : p < n) (ht : t p = 0) : f (clearF M p t) = f M := by
  have key : ∀ m, m ≤ n → f (fun i j => if i < m then clearF M p t i j else M i j) = f M := by
    intro m
    induction m with
    | zero => intro _; exact h.congr _ _ fun i j _ _ => if_neg (by omega)
    | succ m ih =>
      intro hm
      rw [← ih (by omega)]
      by_cases e : m = p
      · refine h.congr _ _ fun i j hi hj => ?_
        by_cases e1 : i < m
        · simp only [if_pos e1, if_pos (show i < m + 1 by omega)]
        · by_cases e2 : i = m
          · subst e2
            simp only [if_neg e1, if_pos (show i < i + 1 by omega)]
            unfold clearF
            rw [e, ht]; grind
          · simp only [if_neg e1, if_neg (show ¬ i < m + 1 by omega)]
      · rw [← h.add (fun i j => if i < m then clearF M p t i j else M i j) m p (t m) (by omega) hp e]
        refine h.congr _ _ fun i j hi hj => ?_
        unfold addF
        by_cases e2 : i = m
        · subst e2
          simp only [if_pos (show i < i + 1 by omega), if_neg (show ¬ i < i by omega)]
          by_cases e3 : p < i
          · simp only [if_pos e3]
            unfold clearF
            rw [ht]; grind
          · simp only [if_neg e3]
            rfl
        · simp only [if_neg e2]
          by_cases e1 : i < m
          · simp only [if_pos e1, if_pos (show i < m + 1 by omega)]
          · simp only [if_neg e1, if_neg (show ¬ i < m + 1 by omega)]
  rw [← key n (Nat.le_refl _)]
  exact h.congr _ _ fun i j hi _ => (if_pos hi).symm
theorem RowFn.swap {n C : Nat} {f : (Nat → Nat → Rat) → Rat} (h : RowFn n C f) (M : Nat → Nat → Rat) {a b : Nat} (ha : a < n) (hb : b < n) (hab : a ≠ b) : f (swapF M a b) = - f M := by
  have e1 := h.add M a b (-1) ha hb hab
  have e2 := h.add (addF M a b (-1)) b a 1 hb ha (fun e => hab e.symm)
  have e3 := h.add (addF (addF M a b (-1)) b a 1) a b (-1) ha hb hab
  have e4 := h.scale (addF (addF (addF M a b (-1)) b a 1) a b (-1)) b (-1) hb
  have e5 : f (swapF M a b) = f (scaleF (addF (addF (addF M a b (-1)) b a 1) a b (-1)) b (-1)) := h.congr _ _ fun i j hi hj => by
    have hba : b ≠ a := fun e => hab e.symm
    unfold swapF scaleF addF
    by_cases k1 : i = a
    · subst k1
      simp only [if_neg hab, if_neg hba]
      grind
    · by_cases k2 : i = b
      · subst k2
        simp only [if_neg hba]
        grind
      · simp only [if_neg k1, if_neg k2]
  rw [e5, e4, e3, e2, e1]; grind
def skipN (j c : Nat) : Nat := if c < j then c else c + 1
def unskN (a b : Nat) : Nat := if b < a then b else b - 1
def sgN (j : Nat) : Rat := if j % 2 = 0 then 1 else -1
def minF (M : Nat → Nat → Rat) (j : Nat) : Nat → Nat → Rat := fun i c => M (i + 1) (skipN j c)
def detF : Nat → (Nat → Nat → Rat) → Rat
  | 0, _ => 1
  | n + 1, M => sumN (n + 1) (fun j => sgN j * M 0 j * detF n (minF M j))
theorem skipN_lt {j c n : Nat} (hc : c < n) : skipN j c < n + 1 := by unfold skipN; split <;> omega
theorem skipN_ne (j c : Nat) : skipN j c ≠ j := by unfold skipN; split <;> omega
theorem unsk_skip (a l : Nat) : unskN a (skipN a l) = l := by
  unfold unskN skipN
  by_cases h : l < a
  · rw [if_pos h, if_pos h]
  · rw [if_neg h, if_neg (by omega)]; omega
theorem skip_skip {a b : Nat} (h : a < b) (c : Nat) : skipN a (skipN (b - 1) c) = skipN b (skipN a c) := by
  unfold skipN
  by_cases h1 : c < a
  · simp only [if_pos h1, if_pos (show c < b - 1 by omega), if_pos (show c < b by omega)]
  · by_cases h2 : c < b - 1
    · simp only [if_neg h1, if_pos h2, if_pos (show c + 1 < b by omega)]
    · simp only [if_neg h1, if_neg h2, if_neg (show ¬ c + 1 < a by omega), if_neg (show ¬ c + 1 < b by omega)]
theorem sgN_pred {b : Nat} (h : 0 < b) : sgN (b - 1) = - sgN b := by
  unfold sgN
  by_cases h1 : b % 2 = 0
  · rw [if_pos h1, if_neg (by omega)]
  · rw [if_neg h1, if_pos (by omega)]; grind
theorem detF_congr : ∀ (n : Nat) {M M' : Nat → Nat → Rat}, (∀ i j, i < n → j < n → M i j = M' i j) → detF n M = detF n M'
  | 0, _, _, _ => rfl
  | n + 1, M, M', h => sumN_congr fun j hj => by
    rw [h 0 j (by omega) hj, detF_congr n (M := minF M j) (M' := minF M' j) (fun i c hi hc => h (i + 1) _ (by omega) (skipN_lt hc))]
theorem detF_lin : ∀ (n : Nat) {M M1 M2 : Nat → Nat → Rat} (a : Nat) (x y : Rat), a < n → (∀ j, j < n → M a j = x * M1 a j + y * M2 a j) → (∀ i j, i < n → j < n → i ≠ a → M i j = M1 i j ∧ M i j = M2 i j) → detF n M = x * detF n M1 + y * detF n M2
  | 0, _, _, _, _, _, _, h, _, _ => by omega
  | n + 1, M, M1, M2, 0, x, y, _, h1, h2 => by
    show sumN _ _ = x * sumN _ _ + y * sumN _ _
    rw [← sumN_mul, ← sumN_mul, ← sumN_add]
    refine sumN_congr fun j hj => ?_
    rw [h1 j hj, detF_congr n (M := minF M j) (M' := minF M1 j) (fun i c hi hc => (h2 (i + 1) _ (by omega) (skipN_lt hc) (by omega)).1), detF_congr n (M := minF M2 j) (M' := minF M1 j) (fun i c hi hc => by
      have := h2 (i + 1) (skipN j c) (by omega) (skipN_lt hc) (by omega)
      exact this.2.symm.trans this.1)]
    grind
  | n + 1, M, M1, M2, a + 1, x, y, ha, h1, h2 => by
    show sumN _ _ = x * sumN _ _ + y * sumN _ _
    rw [← sumN_mul, ← sumN_mul, ← sumN_add]
    refine sumN_congr fun j hj => ?_
    rw [detF_lin n (M := minF M j) (M1 := minF M1 j) (M2 := minF M2 j) a x y (by omega) (fun c hc => h1 _ (skipN_lt hc)) (fun i c hi hc hne => h2 (i + 1) _ (by omega) (skipN_lt hc) (by omega)), ← (h2 0 j (by omega) hj (by omega)).1, ← (h2 0 j (by omega) hj (by omega)).2]
    grind
theorem sum_skip : ∀ (n j : Nat) (F : Nat → Rat), j < n + 1 → sumN n (fun l => F (skipN j l)) + F j = sumN (n + 1) F
  | 0, j, F, h => by
    obtain rfl : j = 0 := by omega
    rfl
  | n + 1, j, F, h => by
    show (sumN n _ + F (skipN j n)) + F j = sumN (n + 1) F + F (n + 1)
    by_cases e : j = n + 1
    · subst e
      have h1 : sumN n (fun l => F (skipN (n + 1) l)) = sumN n F := sumN_congr fun l hl => by unfold skipN; rw [if_pos (by omega)]
      rw [h1]
      unfold skipN
      rw [if_pos (by omega)]
      rfl
    · have h1 := sum_skip n j F (by omega)
      rw [← h1]
      have h2 : skipN j n = n + 1 := by unfold skipN; rw [if_neg (by omega)]
      rw [h2]; grind
/-- What stands with two places of the first two rows. -/
def twoG (n : Nat) (M : Nat → Nat → Rat) (a b : Nat) : Rat := if b = a then 0 else sgN a * sgN (unskN a b) * detF n (fun i c => M (i + 2) (skipN a (skipN (unskN a b) c)))
theorem twoG_anti (n : Nat) (M : Nat → Nat → Rat) (a b : Nat) : twoG n M b a = - twoG n M a b := by
  have main : ∀ a b, a < b → twoG n M b a = - twoG n M a b := by
    intro a b h
    unfold twoG
    rw [if_neg (by omega), if_neg (by omega)]
    have e1 : unskN b a = a := if_pos h
    have e2 : unskN a b = b - 1 := if_neg (by omega)
    rw [e1, e2, sgN_pred (by omega), detF_congr n (M := fun i c => M (i + 2) (skipN a (skipN (b - 1) c))) (M' := fun i c => M (i + 2) (skipN b (skipN a c))) (fun i c _ _ => by rw [skip_skip h])]
    grind
  rcases Nat.lt_trichotomy a b with h | h | h
  · exact main a b h
  · subst h; unfold twoG; rw [if_pos rfl]; grind
  · have := main b a h
    rw [this]; grind
theorem detF_two (n : Nat) (M : Nat → Nat → Rat) : detF (n + 2) M = sumN (n + 2) (fun j => sumN (n + 2) (fun b => M 0 j * M 1 b * twoG n M j b)) := by
  show sumN (n + 2) _ = _
  refine sumN_congr fun j hj => ?_
  show sgN j * M 0 j * sumN (n + 1) _ = _
  rw [← sum_skip (n + 1) j _ hj, ← sumN_mul]
  have h0 : twoG n M j j = 0 := if_pos rfl
  simp only [h0]
  rw [show M 0 j * M 1 j * 0 = 0 by grind, Rat.add_zero]
  refine sumN_congr fun l hl => ?_
  unfold twoG
  rw [if_neg (skipN_ne j l), unsk_skip]
  show sgN j * M 0 j * (sgN l * M 1 (skipN j l) * detF n (fun i c => M (i + 2) (skipN j (skipN l c)))) = _
  grind
theorem detF_swap01 (n : Nat) (M : Nat → Nat → Rat) : detF (n + 2) (swapF M 0 1) = - detF (n + 2) M := by
  rw [detF_two, detF_two, sumN_swap]
  have e : - sumN (n + 2) (fun j => sumN (n + 2) (fun b => M 0 j * M 1 b * twoG n M j b)) = (-1) * sumN (n + 2) (fun j => sumN (n + 2) (fun b => M 0 j * M 1 b * twoG n M j b)) := by grind
  rw [e, ← sumN_mul]
  refine sumN_congr fun j hj => ?_
  rw [← sumN_mul]
  refine sumN_congr fun b hb => ?_
  have e0 : swapF M 0 1 0 b = M 1 b := rfl
  have e1 : swapF M 0 1 1 j = M 0 j := rfl
  have e2 : twoG n (swapF M 0 1) b j = twoG n M b j := rfl
  rw [e0, e1, e2, twoG_anti n M j b]; grind
theorem detF_adj : ∀ (i n : Nat) (M : Nat → Nat → Rat), i + 1 < n → detF n (swapF M i (i + 1)) = - detF n M
  | 0, 0, _, h => by omega
  | 0, 1, _, h => by omega
  | 0, n + 2, M, _ => detF_swap01 n M
  | i + 1, 0, _, h => by omega
  | i + 1, n + 1, M, h => by
    show sumN _ _ = - sumN _ _
    have e : - sumN (n + 1) (fun j => sgN j * M 0 j * detF n (minF M j)) = (-1) * sumN (n + 1) (fun j => sgN j * M 0 j * detF n (minF M j)) := by grind
    rw [e, ← sumN_mul]
    refine sumN_congr fun j hj => ?_
    have e0 : swapF M (i + 1) (i + 1 + 1) 0 j = M 0 j := by unfold swapF; rw [if_neg (by omega), if_neg (by omega)]
    have e1 : minF (swapF M (i + 1) (i + 1 + 1)) j = swapF (minF M j) i (i + 1) := by
      funext r c
      unfold minF swapF
      by_cases k1 : r = i
      · rw [if_pos (by omega), if_pos k1]
      · by_cases k2 : r = i + 1
        · rw [if_neg (by omega), if_pos (by omega), if_neg k1, if_pos k2]
        · rw [if_neg (by omega), if_neg (by omega), if_neg k1, if_neg k2]
    rw [e0, e1, detF_adj i n (minF M j) (by omega)]; grind
theorem detF_same : ∀ (d a n : Nat) (M : Nat → Nat → Rat), a + d + 1 < n → (∀ j, j < n → M a j = M (a + d + 1) j) → detF n M = 0
  | 0, a, n, M, h, he => by
    have h1 := detF_adj a n M h
    rw [detF_congr n (M := swapF M a (a + 1)) (M' := M) (fun i j hi hj => by
      unfold swapF
      by_cases k1 : i = a
      · rw [if_pos k1, k1]; exact (he j hj).symm
      · by_cases k2 : i = a + 1
        · rw [if_neg k1, if_pos k2, k2]; exact he j hj
        · rw [if_neg k1, if_neg k2])] at h1
    grind
  | d + 1, a, n, M, h, he => by
    have h1 := detF_adj (a + d + 1) n M (by omega)
    have h2 := detF_same d a n (swapF M (a + d + 1) (a + d + 1 + 1)) (by omega) (fun j hj => by
      unfold swapF
      rw [if_neg (by omega), if_neg (by omega), if_pos rfl]
      exact he j hj)
    rw [h2] at h1
    grind
theorem detF_row (n : Nat) : RowFn n n (detF n) := by
  refine ⟨fun M M' h => detF_congr n h, fun M a c ha => ?_, fun M a b t ha hb hab => ?_⟩
  · have h := detF_lin n (M := scaleF M a c) (M1 := M) (M2 := M) a c 0 ha (fun j _ => by unfold scaleF; rw [if_pos rfl]; grind) (fun i j _ _ hne => by unfold scaleF; rw [if_neg hne]; exact ⟨rfl, rfl⟩)
    rw [h]; grind
  · have h := detF_lin n (M := addF M a b t) (M1 := M) (M2 := fun i j => if i = a then M b j else M i j) a 1 (-t) ha (fun j _ => by unfold addF; rw [if_pos rfl, if_pos rfl]; grind) (fun i j _ _ hne => by unfold addF; rw [if_neg hne, if_neg hne]; exact ⟨rfl, rfl⟩)
    have h0 : detF n (fun i j => if i = a then M b j else M i j) = 0 := by
      rcases Nat.lt_or_gt_of_ne hab with hl | hl
      · refine detF_same (b - a - 1) a n _ (by omega) (fun j _ => ?_)
        rw [show a + (b - a - 1) + 1 = b by omega, if_pos rfl, if_neg (fun e => hab e.symm)]
      · refine detF_same (a - b - 1) b n _ (by omega) (fun j _ => ?_)
        rw [show b + (a - b - 1) + 1 = a by omega, if_pos rfl, if_neg (fun e => hab e.symm)]
    rw [h, h0]; grind
def idF : Nat → Nat → Rat := fun i j => if i = j then 1 else 0
theorem detF_id : ∀ n, detF n idF = 1
  | 0 => rfl
  | n + 1 => by
    show sumN (n + 1) _ = 1
    rw [sumN_one (a := 0) (by omega) (fun j _ hne => by
      have : idF 0 j = 0 := if_neg (fun e => hne e.symm)
      rw [this]; grind)]
    have e : minF idF 0 = idF := by
      funext i c
      have e0 : skipN 0 c = c + 1 := if_neg (by omega)
      unfold minF
      rw [e0]
      unfold idF
      by_cases k : i = c
      · rw [if_pos k, if_pos (by omega)]
      · rw [if_neg k, if_neg (by omega)]
    rw [e, detF_id n]
    show sgN 0 * 1 * 1 = 1
    unfold sgN
    grind
def mulF (n : Nat) (M B : Nat → Nat → Rat) : Nat → Nat → Rat := fun i j => sumN n (fun l => M i l * B l j)
theorem detF_mul_row (n : Nat) (B : Nat → Nat → Rat) : RowFn n n (fun M => detF n (mulF n M B)) := by
  have hd := detF_row n
  refine ⟨fun M M' h => hd.congr _ _ fun i j hi hj => sumN_congr fun l hl => by rw [h i l hi hl], fun M a c ha => ?_, fun M a b t ha hb hab => ?_⟩
  · rw [← hd.scale _ a c ha]
    refine hd.congr _ _ fun i j hi hj => ?_
    unfold mulF scaleF
    by_cases e : i = a
    · simp only [if_pos e]
      rw [show sumN n (fun l => M i l * B l j) * c = c * sumN n (fun l => M i l * B l j) by grind, ← sumN_mul]
      exact sumN_congr fun l _ => by grind
    · simp only [if_neg e]
  · rw [← hd.add (mulF n M B) a b t ha hb hab]
    refine hd.congr _ _ fun i j hi hj => ?_
    unfold mulF addF
    by_cases e : i = a
    · simp only [if_pos e]
      rw [show sumN n (fun l => M i l * B l j) - t * sumN n (fun l => M b l * B l j) = sumN n (fun l => M i l * B l j) + (-t) * sumN n (fun l => M b l * B l j) by grind, ← sumN_mul, ← sumN_add]
      exact sumN_congr fun l _ => by grind
    · simp only [if_neg e]
theorem mulF_id (n : Nat) (B : Nat → Nat → Rat) {i j : Nat} (hi : i < n) : mulF n idF B i j = B i j := by
  unfold mulF
  rw [sumN_one (a := i) hi (fun l _ hne => by
    have : idF i l = 0 := if_neg (fun e => hne e.symm)
    rw [this]; grind)]
  have : idF i i = 1 := if_pos rfl
  rw [this]; grind
theorem Ech.full {n k : Nat} {M : Nat → Nat → Rat} {p : Nat → Nat} (h : Ech n n M k p) (hk : k = n) {i : Nat} (hi : i < n) : p i = i := by
  subst hk
  have a1 : ∀ i, i < k → i ≤ p i := by
    intro i
    induction i with
    | zero => intro _; omega
    | succ i ih =>
      intro hi
      have := ih (by omega)
      have := h.rise i (i + 1) (by omega) hi
      omega
  have a2 : ∀ d i, i + d + 1 = k → p i ≤ i := by
    intro d
    induction d with
    | zero => intro i e; have := h.lt i (by omega); omega
    | succ d ih =>
      intro i e
      have := ih (i + 1) (by omega)
      have := h.rise i (i + 1) (by omega) (by omega)
      omega
  have := a1 i hi
  have := a2 (k - i - 1) i (by omega)
  omega
/-- With as many pivots as rows, a number that turns as determinants do is that of what changes nothing. -/
theorem RowFn.unit {n k : Nat} {f : (Nat → Nat → Rat) → Rat} (h : RowFn n n f) {p : Nat → Nat} (hk : k = n) : ∀ (m : Nat) (M : Nat → Nat → Rat), m ≤ k → Ech n n M k p → Red n M k p m → f M = f idF
  | 0, M, _, he, hr => h.congr _ _ fun i j hi hj => by
    have hp := he.full hk hj
    by_cases e : i = j
    · subst e
      have := he.one i (by omega)
      rw [hp] at this
      rw [this]; exact (if_pos rfl).symm
    · have := hr j (by omega) (by omega) i hi e
      rw [hp] at this
      rw [this]; exact (if_neg e).symm
  | m + 1, M, hm, he, hr => by
    obtain ⟨t, ht⟩ : ∃ t : Nat → Rat, t = fun i => if i < m then M i (p m) else 0 := ⟨_, rfl⟩
    have h1 : ∀ i, m ≤ i → t i = 0 := fun i hi => by rw [ht]; exact if_neg (by omega)
    have h2 : ∀ i, i < m → t i = M i (p m) := fun i hi => by rw [ht]; exact if_pos hi
    rw [← h.clear M (p := m) (t := t) (by omega) (h1 m (Nat.le_refl _))]
    exact RowFn.unit h hk m _ (by omega) (he.up (by omega) h1) (hr.up he (by omega) h1 h2)
theorem RowFn.steps {n k : Nat} {f : (Nat → Nat → Rat) → Rat} (h : RowFn n n f) {M : Nat → Nat → Rat} {p : Nat → Nat} (he : Ech n n M k p) : f M = if k = n then f idF else 0 := by
  by_cases hk : k = n
  · rw [if_pos hk]
    exact h.unit hk k M (Nat.le_refl _) he (fun m h1 h2 => by omega)
  · rw [if_neg hk]
    have := he.le
    exact h.zero (a := k) (by omega) (fun j hj => he.rest k (Nat.le_refl _) (by omega) j hj)
/-- What stands in row i, at place j; 0 behind all. -/
def entF (T : List (List Rat)) : Nat → Nat → Rat := fun i j => (T.getD i []).getD j 0
theorem getT {T : List (List Rat)} {i : Nat} {r : List Rat} (h : T[i]? = some r) : T.getD i [] = r := by
  rw [List.getD_eq_getElem?_getD, h]; rfl
theorem entF_row {T : List (List Rat)} {i : Nat} {r : List Rat} (h : T[i]? = some r) (j : Nat) : entF T i j = r.getD j 0 := by
  unfold entF
  rw [getT h]
theorem entF_of {T : List (List Rat)} {i j : Nat} {r : List Rat} {q : Rat} (h : T[i]? = some r) (hq : r[j]? = some q) : entF T i j = q := by
  rw [entF_row h, List.getD_eq_getElem?_getD, hq]; rfl
theorem entF_at {T : List (List Rat)} {n C i j : Nat} (hs : shp T n C) (hi : i < n) (hj : j < C) : ∃ r, T[i]? = some r ∧ r.length = C ∧ r[j]? = some (entF T i j) := by
  obtain ⟨r, h1, h2⟩ := row_ex hs hi
  have h3 : r[j]? = some (r[j]'(by rw [h2]; exact hj)) := List.getElem?_eq_getElem _
  exact ⟨r, h1, h2, by rw [entF_of h1 h3]; exact h3⟩
theorem entF_set_self {T : List (List Rat)} {i : Nat} (r : List Rat) (hi : i < T.length) (j : Nat) : entF (T.set i r) i j = r.getD j 0 := entF_row (List.getElem?_set_self hi) j
theorem entF_set_ne {T : List (List Rat)} {i k : Nat} (r : List Rat) (h : i ≠ k) (j : Nat) : entF (T.set k r) i j = entF T i j := by
  have e : (T.set k r).getD i [] = T.getD i [] := by
    rw [List.getD_eq_getElem?_getD, List.getElem?_set_ne (fun e => h e.symm), ← List.getD_eq_getElem?_getD]
  unfold entF
  rw [e]
theorem shp_set {T : List (List Rat)} {n C i : Nat} {r : List Rat} (hs : shp T n C) (hr : r.length = C) : shp (T.set i r) n C :=
  ⟨by rw [List.length_set]; exact hs.1, fun x hx => by
    rcases List.mem_or_eq_of_mem_set hx with hx | rfl
    · exact hs.2 x hx
    · exact hr⟩
theorem shp_same {T U : List (List Rat)} {n C : Nat} (h : shp T n C) (h' : shp U n C) (he : ∀ i j, i < n → j < C → entF T i j = entF U i j) : T = U :=
  shp_ext h h' fun i j hi hj => by
    obtain ⟨r, h1, _, h2⟩ := entF_at h hi hj
    obtain ⟨s, h3, _, h4⟩ := entF_at h' hi hj
    rw [cellq_of h1 h2, cellq_of h3 h4, he i j hi hj]
theorem lessq_getD {p q : List Rat} {k : Rat} {j : Nat} (h : p.length = q.length) (hj : j < p.length) : (lessq p k q).getD j 0 = p.getD j 0 - k * q.getD j 0 := by
  unfold lessq
  rw [List.getD_eq_getElem?_getD, List.getElem?_zipWith, List.getElem?_eq_getElem hj, List.getElem?_eq_getElem (by omega : j < q.length), List.getD_eq_getElem?_getD, List.getD_eq_getElem?_getD, List.getElem?_eq_getElem hj, List.getElem?_eq_getElem (by omega : j < q.length)]
  rfl
theorem scaleq_getD {p : List Rat} {k : Rat} {j : Nat} (hj : j < p.length) : (scaleq p k).getD j 0 = p.getD j 0 * k := by
  unfold scaleq
  rw [List.getD_eq_getElem?_getD, List.getElem?_map, List.getElem?_eq_getElem hj, List.getD_eq_getElem?_getD, List.getElem?_eq_getElem hj]
  rfl
theorem lessq_zero {p q : List Rat} (h : p.length = q.length) : lessq p 0 q = p := by
  refine List.ext_getElem? fun j => ?_
  unfold lessq
  rw [List.getElem?_zipWith]
  by_cases hj : j < p.length
  · rw [List.getElem?_eq_getElem hj, List.getElem?_eq_getElem (by omega : j < q.length)]
    show some _ = _
    congr 1
    grind
  · rw [List.getElem?_eq_none (by omega)]
/-- Two rows changed about. -/
def swapT (T : List (List Rat)) (a b : Nat) : List (List Rat) := (T.set a (T.getD b [])).set b (T.getD a [])
theorem swapT_shp {T : List (List Rat)} {n C a b : Nat} (hs : shp T n C) (ha : a < n) (hb : b < n) : shp (swapT T a b) n C := by
  obtain ⟨r, h1, h2⟩ := row_ex hs ha
  obtain ⟨s, h3, h4⟩ := row_ex hs hb
  unfold swapT
  rw [List.getD_eq_getElem?_getD, h3, List.getD_eq_getElem?_getD, h1]
  exact shp_set (shp_set hs h4) h2
theorem swapT_ent {T : List (List Rat)} {n C a b : Nat} (hs : shp T n C) (ha : a < n) (hb : b < n) (i j : Nat) : entF (swapT T a b) i j = swapF (entF T) a b i j := by
  unfold swapT swapF
  by_cases e2 : i = b
  · subst e2
    rw [entF_set_self _ (by rw [List.length_set, hs.1]; exact hb)]
    by_cases e1 : i = a
    · subst e1; rw [if_pos rfl]; rfl
    · rw [if_neg e1, if_pos rfl]; rfl
  · rw [entF_set_ne _ e2]
    by_cases e1 : i = a
    · subst e1
      rw [entF_set_self _ (by rw [hs.1]; exact ha), if_pos rfl]; rfl
    · rw [entF_set_ne _ e1, if_neg e1, if_neg e2]
/-- A row scaled. -/
def scaleT (T : List (List Rat)) (a : Nat) (c : Rat) : List (List Rat) := T.set a (scaleq (T.getD a []) c)
theorem scaleT_shp {T : List (List Rat)} {n C a : Nat} (c : Rat) (hs : shp T n C) (ha : a < n) : shp (scaleT T a c) n C := by
  obtain ⟨r, h1, h2⟩ := row_ex hs ha
  unfold scaleT
  rw [List.getD_eq_getElem?_getD, h1]
  exact shp_set hs (by rw [scaleq_len]; exact h2)
theorem scaleT_ent {T : List (List Rat)} {n C a : Nat} (c : Rat) (hs : shp T n C) (ha : a < n) (i j : Nat) (hj : j < C) : entF (scaleT T a c) i j = scaleF (entF T) a c i j := by
  unfold scaleT scaleF
  by_cases e : i = a
  · subst e
    obtain ⟨r, h1, h2⟩ := row_ex hs ha
    rw [entF_set_self _ (by rw [hs.1]; exact ha), if_pos rfl, entF_row h1, getT h1]
    exact scaleq_getD (by omega)
  · rw [entF_set_ne _ e, if_neg e]
/-- The first x rows, those that are asked for, less a row as often as they have at a place. -/
def clrM (T : List (List Rat)) (P : Nat → Bool) (p : List Rat) (a : Nat) : Nat → List (List Rat)
  | 0 => T
  | x + 1 => if P x then (clrM T P p a x).set x (lessq (T.getD x []) (entF T x a) p) else clrM T P p a x
theorem clrM_len (T : List (List Rat)) (P : Nat → Bool) (p : List Rat) (a : Nat) : ∀ x, (clrM T P p a x).length = T.length
  | 0 => rfl
  | x + 1 => by
    unfold clrM
    split
    · rw [List.length_set]; exact clrM_len T P p a x
    · exact clrM_len T P p a x
theorem clrM_ge (T : List (List Rat)) (P : Nat → Bool) (p : List Rat) (a : Nat) : ∀ (x i : Nat), x ≤ i → (clrM T P p a x)[i]? = T[i]?
  | 0, _, _ => rfl
  | x + 1, i, h => by
    unfold clrM
    split
    · rw [List.getElem?_set_ne (by omega)]; exact clrM_ge T P p a x i (by omega)
    · exact clrM_ge T P p a x i (by omega)
theorem clrM_shp {T : List (List Rat)} {P : Nat → Bool} {p : List Rat} {n C a : Nat} (hs : shp T n C) (hp : p.length = C) : ∀ x, x ≤ n → shp (clrM T P p a x) n C
  | 0, _ => hs
  | x + 1, h => by
    unfold clrM
    split
    · obtain ⟨r, h1, h2⟩ := row_ex hs (show x < n by omega)
      refine shp_set (clrM_shp hs hp x (by omega)) ?_
      rw [List.getD_eq_getElem?_getD, h1]
      show (lessq r _ p).length = C
      rw [lessq_len (by omega)]; exact h2
    · exact clrM_shp hs hp x (by omega)
theorem clrM_ent {T : List (List Rat)} {P : Nat → Bool} {p : List Rat} {n C a : Nat} (hs : shp T n C) (hp : p.length = C) : ∀ (x i j : Nat), x ≤ n → j < C → entF (clrM T P p a x) i j = if i < x ∧ P i = true then entF T i j - entF T i a * p.getD j 0 else entF T i j
  | 0, i, j, _, _ => by rw [if_neg (by omega)]; rfl
  | x + 1, i, j, h, hj => by
    have ih := clrM_ent (P := P) (a := a) hs hp x i j (by omega) hj
    unfold clrM
    by_cases hP : P x = true
    · rw [if_pos hP]
      by_cases e : i = x
      · subst e
        obtain ⟨r, h1, h2⟩ := row_ex hs (show i < n by omega)
        rw [entF_set_self _ (by rw [clrM_len, hs.1]; omega), if_pos ⟨by omega, hP⟩, getT h1, entF_row h1 j]
        exact lessq_getD (by omega) (by omega)
      · rw [entF_set_ne _ e, ih]
        by_cases e2 : i < x ∧ P i = true
        · rw [if_pos e2, if_pos ⟨by omega, e2.2⟩]
        · rw [if_neg e2, if_neg (fun e3 => e2 ⟨by omega, e3.2⟩)]
    · rw [if_neg hP, ih]
      by_cases e2 : i < x ∧ P i = true
      · rw [if_pos e2, if_pos ⟨by omega, e2.2⟩]
      · rw [if_neg e2, if_neg (fun e3 => e2 ⟨by
          have := e3.1
          by_cases e4 : i = x
          · subst e4; exact absurd e3.2 hP
          · omega, e3.2⟩)]
theorem clrM_next {T : List (List Rat)} {P : Nat → Bool} {p r : List Rat} {a x : Nat} (hP : P x = true) (hr : T[x]? = some r) : clrM T P p a (x + 1) = (clrM T P p a x).set x (lessq r (entF T x a) p) := by
  show (if P x = true then _ else _) = _
  rw [if_pos hP, getT hr]
/-- A row that is nought at the place stays. -/
theorem clrM_keep {T : List (List Rat)} {P : Nat → Bool} {p r : List Rat} {a x : Nat} (hP : P x = true) (hr : T[x]? = some r) (h0 : entF T x a = 0) (hl : r.length = p.length) : clrM T P p a (x + 1) = clrM T P p a x := by
  rw [clrM_next hP hr, h0, lessq_zero hl]
  apply List.ext_getElem?
  intro k
  rw [List.getElem?_set]
  by_cases e : x = k
  · subst e
    rw [if_pos rfl, clrM_ge T P p a x x (Nat.le_refl _), hr, if_pos (by rw [clrM_len]; exact (List.getElem?_eq_some_iff.1 hr).1)]
  · rw [if_neg e]
theorem clrM_pass {T : List (List Rat)} {P : Nat → Bool} {p : List Rat} {a x : Nat} (hP : P x = false) : clrM T P p a (x + 1) = clrM T P p a x := by
  show (if P x = true then _ else _) = _
  rw [if_neg (by rw [hP]; decide)]
/-! How long the numbers of a row grow: all over one number. -/
def rowL (r : List Rat) (S : Nat) : Prop := ∃ d : Nat, 0 < d ∧ (digs 4294967296 d).length ≤ S ∧ ∀ x ∈ r, ∃ z : Int, x = mkRat z d ∧ lenZ z ≤ S
theorem rowL.mono {r : List Rat} {S S' : Nat} (h : rowL r S) (hS : S ≤ S') : rowL r S' := by
  obtain ⟨d, h1, h2, h3⟩ := h
  exact ⟨d, h1, by omega, fun x hx => by obtain ⟨z, e, hz⟩ := h3 x hx; exact ⟨z, e, by omega⟩⟩
theorem rowL.len {r : List Rat} {S : Nat} (h : rowL r S) : ∀ x ∈ r, lenQ x S := fun x hx => by
  obtain ⟨d, h1, h2, h3⟩ := h
  obtain ⟨z, rfl, hz⟩ := h3 x hx
  exact lenQ_mk (by omega) hz h2
theorem rowL_of : ∀ {r : List Rat} {m : Nat}, (∀ x ∈ r, lenQ x m) → rowL r (m * r.length + 1)
  | [], m, _ => ⟨1, by omega, by
      have := digs_len_le (B := 4294967296) (x := 1) (k := 1) (by omega) (by decide +kernel)
      omega, fun x hx => by simp at hx⟩
  | q :: r, m, h => by
    obtain ⟨d, h1, h2, h3⟩ := rowL_of (r := r) (m := m) fun x hx => h x (List.mem_cons_of_mem _ hx)
    have hq := h q List.mem_cons_self
    have e : m * (q :: r).length + 1 = m * r.length + 1 + m := by rw [List.length_cons, Nat.mul_succ]; omega
    rw [e]
    refine ⟨d * q.den, Nat.mul_pos h1 q.den_pos, ?_, fun x hx => ?_⟩
    · have h4 := mul_len d q.den
      have h5 := hq.2
      omega
    · rcases List.mem_cons.1 hx with rfl | hx
      · refine ⟨x.num * (d : Int), ?_, ?_⟩
        · rw [Nat.mul_comm d x.den, Rat.mkRat_mul_right (by omega), Rat.mkRat_self]
        · have h4 := lenZ_mul_le hq.1 (show lenZ ((d : Nat) : Int) ≤ m * r.length + 1 by rw [lenD]; exact h2)
          omega
      · obtain ⟨z, rfl, hz⟩ := h3 x hx
        refine ⟨z * (q.den : Int), ?_, ?_⟩
        · rw [Rat.mkRat_mul_right q.den_nz]
        · have h4 := lenZ_mul_le hz (show lenZ ((q.den : Nat) : Int) ≤ m by rw [lenD]; exact hq.2)
          omega
theorem mkRat_over (z : Int) {d : Nat} (h : d ≠ 0) : mkRat z d = (z : Rat) / (d : Rat) := Rat.mkRat_eq_div z d
theorem rowL.scale {r : List Rat} {S : Nat} {x : Rat} (h : rowL r S) (hx : x ∈ r) (h0 : x ≠ 0) : rowL (scaleq r x⁻¹) S := by
  obtain ⟨d, h1, h2, h3⟩ := h
  obtain ⟨b, rfl, hb⟩ := h3 x hx
  have hb0 : b ≠ 0 := fun e => h0 (by rw [e]; exact Rat.zero_mkRat d)
  have hd : ((d : Nat) : Rat) ≠ 0 := by
    intro e
    have : d = 0 := by exact_mod_cast e
    omega
  have hbr : ((b : Int) : Rat) ≠ 0 := by
    intro e
    have : b = 0 := by exact_mod_cast e
    exact hb0 this
  refine ⟨b.natAbs, by omega, hb, fun y hy => ?_⟩
  obtain ⟨u, hu, rfl⟩ := List.mem_map.1 hy
  obtain ⟨a, rfl, ha⟩ := h3 u hu
  rcases Int.natAbs_eq b with e | e
  · refine ⟨a, ?_, ha⟩
    have e2 : ((b.natAbs : Nat) : Rat) = ((b : Int) : Rat) := by
      conv => rhs; rw [e]
      exact (Rat.intCast_natCast _).symm
    rw [mkRat_over a (by omega), mkRat_over b (by omega), mkRat_over a (by omega), e2]
    grind
  · refine ⟨-a, ?_, by rw [lenZ_neg]; exact ha⟩
    have e2 : ((b.natAbs : Nat) : Rat) = -((b : Int) : Rat) := by
      conv => rhs; rw [e]
      rw [Rat.intCast_neg]
      show _ = - -(((b.natAbs : Nat) : Int) : Rat)
      rw [Rat.intCast_natCast]; grind
    rw [mkRat_over a (by omega), mkRat_over b (by omega), mkRat_over (-a) (by omega), e2, Rat.intCast_neg]
    grind
theorem lenZ_sub_max {x y : Int} {m : Nat} (h : lenZ x ≤ m) (h' : lenZ y ≤ m) : lenZ (x - y) ≤ m + 1 := by
  have h1 := add_len_max h h'
  unfold lenZ
  refine Nat.le_trans (digs_len_mono (by omega) ?_) h1
  omega
theorem rowL.less {r p : List Rat} {S S' : Nat} {x : Rat} (h : rowL r S) (hp : rowL p S') (hx : x ∈ r) : rowL (lessq r x p) (S + S' + 1) := by
  obtain ⟨d, h1, h2, h3⟩ := h
  obtain ⟨e, g1, g2, g3⟩ := hp
  obtain ⟨b, rfl, hb⟩ := h3 x hx
  have hd : ((d : Nat) : Rat) ≠ 0 := by
    intro e
    have : d = 0 := by exact_mod_cast e
    omega
  have he : ((e : Nat) : Rat) ≠ 0 := by
    intro k
    have : e = 0 := by exact_mod_cast k
    omega
  refine ⟨d * e, Nat.mul_pos h1 g1, by have := mul_len d e; omega, fun y hy => ?_⟩
  obtain ⟨u, hu, v, hv, rfl⟩ := zip_mem hy
  obtain ⟨a, rfl, ha⟩ := h3 u hu
  obtain ⟨c, rfl, hc⟩ := g3 v hv
  refine ⟨a * (e : Int) - b * c, ?_, ?_⟩
  · rw [mkRat_over a (by omega), mkRat_over b (by omega), mkRat_over c (by omega), mkRat_over _ (by have := Nat.mul_pos h1 g1; omega), Rat.intCast_sub, Rat.intCast_mul, Rat.intCast_mul, Rat.intCast_natCast, Rat.natCast_mul]
    grind
  · refine lenZ_sub_max (m := S + S') (lenZ_mul_le ha (by rw [lenD]; exact g2)) (lenZ_mul_le hb hc)
def rowsL (T : List (List Rat)) (S : Nat) : Prop := ∀ r ∈ T, rowL r S
theorem rowsL.mono {T : List (List Rat)} {S S' : Nat} (h : rowsL T S) (hS : S ≤ S') : rowsL T S' := fun r hr => (h r hr).mono hS
theorem rowsL.len {T : List (List Rat)} {S : Nat} (h : rowsL T S) : lenT T S := fun r hr => (h r hr).len
theorem rowsL_of {T : List (List Rat)} {n C m : Nat} (hs : shp T n C) (h : lenT T m) : rowsL T (m * C + 1) := fun r hr => by
  rw [← hs.2 r hr]; exact rowL_of (h r hr)
/-- The pivots as a function. -/
def pv (ps : List Nat) : Nat → Nat := fun i => ps.getD i 0
theorem pv_snoc (ps : List Nat) (a i : Nat) (hi : i < ps.length + 1) : (if i < ps.length then pv ps i else a) = pv (ps ++ [a]) i := by
  unfold pv
  by_cases h : i < ps.length
  · rw [if_pos h, List.getD_eq_getElem?_getD, List.getD_eq_getElem?_getD, List.getElem?_append_left h]
  · obtain rfl : i = ps.length := by omega
    rw [if_neg h, List.getD_eq_getElem?_getD, List.getElem?_append_right (by omega)]
    simp
theorem pv_list {ps qs : List Nat} (hl : ps.length = qs.length) (h : ∀ i, i < ps.length → pv ps i = pv qs i) : ps = qs := by
  apply List.ext_getElem?
  intro i
  by_cases hi : i < ps.length
  · have h1 := h i hi
    unfold pv at h1
    rw [List.getD_eq_getElem?_getD, List.getD_eq_getElem?_getD, List.getElem?_eq_getElem hi, List.getElem?_eq_getElem (by omega : i < qs.length)] at h1
    rw [List.getElem?_eq_getElem hi, List.getElem?_eq_getElem (by omega : i < qs.length)]
    exact congrArg some h1
  · rw [List.getElem?_eq_none (by omega), List.getElem?_eq_none (by omega)]
theorem clrM_clearF {T : List (List Rat)} {P : Nat → Bool} {p : List Rat} {n C a k : Nat} (hs : shp T n C) (hk : T[k]? = some p) (ha : a < C) {x : Nat} (hx : x ≤ n) (i j : Nat) (hj : j < C) : entF (clrM T P p a x) i j = clearF (entF T) k (fun i => if i < x ∧ P i = true then entF T i a else 0) i j := by
  have hp : p.length = C := hs.2 p (List.mem_of_getElem? hk)
  rw [clrM_ent hs hp x i j hx hj]
  unfold clearF
  rw [entF_row hk j]
  by_cases e : i < x ∧ P i = true
  · simp only [if_pos e]
  · simp only [if_neg e]; grind
theorem clrM_none {T : List (List Rat)} {P : Nat → Bool} {p : List Rat} {a : Nat} : ∀ x, (∀ i, i < x → P i = false) → clrM T P p a x = T
  | 0, _ => rfl
  | x + 1, h => by rw [clrM_pass (h x (by omega))]; exact clrM_none x fun i hi => h i (by omega)
theorem swapT_rows {T : List (List Rat)} {n C a b S : Nat} (hs : shp T n C) (ha : a < n) (hb : b < n) (h : rowsL T S) : rowsL (swapT T a b) S := by
  obtain ⟨r, h1, _⟩ := row_ex hs ha
  obtain ⟨s, h3, _⟩ := row_ex hs hb
  unfold swapT
  rw [getT h1, getT h3]
  intro x hx
  rcases List.mem_or_eq_of_mem_set hx with hx | rfl
  · rcases List.mem_or_eq_of_mem_set hx with hx | rfl
    · exact h x hx
    · exact h _ (List.mem_of_getElem? h3)
  · exact h _ (List.mem_of_getElem? h1)
theorem scaleT_rows {T : List (List Rat)} {n C k a S : Nat} (hs : shp T n C) (hk : k < n) (ha : a < C) (h0 : entF T k a ≠ 0) (h : rowsL T S) : rowsL (scaleT T k (entF T k a)⁻¹) S := by
  obtain ⟨r, h1, _, h2⟩ := entF_at hs hk ha
  unfold scaleT
  rw [getT h1]
  intro x hx
  rcases List.mem_or_eq_of_mem_set hx with hx | rfl
  · exact h x hx
  · exact (h r (List.mem_of_getElem? h1)).scale (List.mem_of_getElem? h2) h0
theorem clrM_rows {T : List (List Rat)} {P : Nat → Bool} {p : List Rat} {n C a S : Nat} (hs : shp T n C) (ha : a < C) (h : rowsL T S) (hp : rowL p S) : ∀ x, x ≤ n → rowsL (clrM T P p a x) (S + S + 1)
  | 0, _ => h.mono (by omega)
  | x + 1, hx => by
    have ih := clrM_rows (P := P) hs ha h hp x (by omega)
    obtain ⟨r, h1, _, h2⟩ := entF_at hs (show x < n by omega) ha
    by_cases e : P x = true
    · rw [clrM_next e h1]
      intro y hy
      rcases List.mem_or_eq_of_mem_set hy with hy | rfl
      · exact ih y hy
      · exact (h r (List.mem_of_getElem? h1)).less hp (List.mem_of_getElem? h2)
    · rw [clrM_pass (by simpa using e)]; exact ih
/-- One pivot's way: the row f is changed to the place k, made 1 at the place a, and taken off those that are asked for. -/
def pivT (T : List (List Rat)) (P : Nat → Bool) (k f a n : Nat) : List (List Rat) :=
  clrM (scaleT (swapT T k f) k (entF (swapT T k f) k a)⁻¹) P ((scaleT (swapT T k f) k (entF (swapT T k f) k a)⁻¹).getD k []) a n
theorem swapT_self {T : List (List Rat)} {k : Nat} (h : k < T.length) : swapT T k k = T := by
  unfold swapT
  have e : T.getD k [] = T[k] := by rw [List.getD_eq_getElem?_getD, List.getElem?_eq_getElem h]; rfl
  rw [e]
  apply List.ext_getElem?
  intro i
  rw [List.getElem?_set, List.getElem?_set, List.length_set]
  by_cases hi : k = i
  · subst hi
    rw [if_pos rfl, if_pos h, List.getElem?_eq_getElem h]
  · rw [if_neg hi, if_neg hi]
structure PivAt (T : List (List Rat)) (P : Nat → Bool) (n C k f a : Nat) (p : Nat → Nat) : Prop where
  sh : shp T n C
  ech : Ech n a (entF T) k p
  ha : a < C
  hk : k ≤ f
  hf : f < n
  hne : entF T f a ≠ 0
  hP : P k = false
theorem PivAt.inv {T : List (List Rat)} {P : Nat → Bool} {n C k f a : Nat} {p : Nat → Nat} (h : PivAt T P n C k f a p) : entF T f a * (entF T f a)⁻¹ = 1 := Rat.mul_inv_cancel _ h.hne
theorem PivAt.inv_ne {T : List (List Rat)} {P : Nat → Bool} {n C k f a : Nat} {p : Nat → Nat} (h : PivAt T P n C k f a p) : (entF T f a)⁻¹ ≠ 0 := fun e => by
  have h1 := h.inv
  rw [e] at h1
  revert h1
  rw [Rat.mul_zero]
  decide
theorem PivAt.head {T : List (List Rat)} {P : Nat → Bool} {n C k f a : Nat} {p : Nat → Nat} (h : PivAt T P n C k f a p) : entF (swapT T k f) k a = entF T f a := by
  have h1 := h.hk
  have h2 := h.hf
  rw [swapT_ent h.sh (by omega) h.hf]
  exact congrFun (if_pos rfl) a
theorem PivAt.parts {T : List (List Rat)} {P : Nat → Bool} {n C k f a : Nat} {p : Nat → Nat} (h : PivAt T P n C k f a p) :
    ∃ (t : Nat → Rat), t k = 0 ∧ (∀ i, i < n → P i = true → t i = scaleF (swapF (entF T) k f) k (entF T f a)⁻¹ i a) ∧
      (∀ i j, j < C → entF (pivT T P k f a n) i j = clearF (scaleF (swapF (entF T) k f) k (entF T f a)⁻¹) k t i j) ∧ shp (pivT T P k f a n) n C ∧ scaleF (swapF (entF T) k f) k (entF T f a)⁻¹ k a = 1 := by
  have h1 := h.hk
  have h2 := h.hf
  have hk : k < n := by omega
  have s1 := swapT_shp h.sh hk h2
  have s2 := scaleT_shp (entF (swapT T k f) k a)⁻¹ s1 hk
  have e2 : ∀ i j, j < C → entF (scaleT (swapT T k f) k (entF (swapT T k f) k a)⁻¹) i j = scaleF (swapF (entF T) k f) k (entF T f a)⁻¹ i j := fun i j hj => by
    rw [scaleT_ent _ s1 hk i j hj, h.head]
    unfold scaleF
    rw [swapT_ent h.sh hk h2]
  obtain ⟨r, hr, hrl⟩ := row_ex s2 hk
  have hP : ¬ (k < n ∧ P k = true) := fun e => by rw [h.hP] at e; exact absurd e.2 (by decide)
  refine ⟨fun i => if i < n ∧ P i = true then entF (scaleT (swapT T k f) k (entF (swapT T k f) k a)⁻¹) i a else 0, if_neg hP, fun i h3 h4 => ?_, fun i j hj => ?_, ?_, ?_⟩
  · show (if i < n ∧ P i = true then _ else _) = _
    rw [if_pos ⟨h3, h4⟩, e2 i a h.ha]
  · unfold pivT
    rw [getT hr, clrM_clearF s2 hr h.ha (Nat.le_refl n) i j hj]
    unfold clearF
    rw [e2 i j hj, e2 k j hj]
  · unfold pivT
    rw [getT hr]
    exact clrM_shp s2 hrl n (Nat.le_refl n)
  · unfold scaleF swapF
    rw [if_pos rfl, if_pos rfl]
    exact h.inv
theorem PivAt.ker {T : List (List Rat)} {P : Nat → Bool} {n C k f a : Nat} {p : Nat → Nat} (h : PivAt T P n C k f a p) : KerEq n C (entF T) (entF (pivT T P k f a n)) := by
  obtain ⟨t, t0, t1, e, _, _⟩ := h.parts
  have h1 := h.hk
  have h2 := h.hf
  exact (ker_swap (entF T) (show k < n by omega) h2).trans ((ker_scale _ h.inv_ne).trans ((ker_clear _ (show k < n by omega) t0).trans (kerEq_of fun i j _ hj => (e i j hj).symm)))
theorem PivAt.ech' {T : List (List Rat)} {P : Nat → Bool} {n C k f a : Nat} {p : Nat → Nat} (h : PivAt T P n C k f a p) (hb : ∀ i, k < i → i < n → P i = true) : Ech n (a + 1) (entF (pivT T P k f a n)) (k + 1) (fun i => if i < k then p i else a) := by
  obtain ⟨t, t0, t1, e, _, e1⟩ := h.parts
  have h1 := h.hk
  have h2 := h.hf
  have h3 := h.ha
  exact (((h.ech.swap h1 h2).scale (entF T f a)⁻¹).clear (by omega) e1 t0 (fun i hi hn => t1 i hn (hb i hi hn))).congr (C := C) (by omega) (fun i j _ hj => (e i j hj).symm) (fun _ _ => rfl)
theorem PivAt.red {T : List (List Rat)} {P : Nat → Bool} {n C k f a : Nat} {p : Nat → Nat} (h : PivAt T P n C k f a p) (hr : Red n (entF T) k p 0) (hb : ∀ i, i ≠ k → i < n → P i = true) : Red n (entF (pivT T P k f a n)) (k + 1) (fun i => if i < k then p i else a) 0 := by
  obtain ⟨t, t0, t1, e, _, e1⟩ := h.parts
  have h1 := h.hk
  have h2 := h.hf
  have h3 := h.ha
  refine (Red.clear ((hr.swap h1 h2).scale (entF T f a)⁻¹) ((h.ech.swap h1 h2).scale (entF T f a)⁻¹) (by omega) e1 t0 (fun i hi hn => t1 i hn (hb i hi hn))).congr (C := C) (fun i hi => ?_) (fun i j _ hj => (e i j hj).symm) (fun _ _ => rfl)
  by_cases e : i < k
  · simp only [if_pos e]; have := h.ech.lt i e; omega
  · simp only [if_neg e]; exact h3
theorem PivAt.fn {T : List (List Rat)} {P : Nat → Bool} {n C k f a : Nat} {p : Nat → Nat} (h : PivAt T P n C k f a p) {C' : Nat} {F : (Nat → Nat → Rat) → Rat} (hC : C' ≤ C) (hF : RowFn n C' F) : F (entF T) = (if f = k then 1 else -1) * entF T f a * F (entF (pivT T P k f a n)) := by
  obtain ⟨t, t0, t1, e, _, e1⟩ := h.parts
  have h1 := h.hk
  have h2 := h.hf
  have g1 : F (entF (pivT T P k f a n)) = (entF T f a)⁻¹ * F (swapF (entF T) k f) := by
    rw [hF.congr _ _ (fun i j _ hj => e i j (by omega)), hF.clear _ (show k < n by omega) t0, hF.scale _ _ _ (by omega)]
  have hi := h.inv
  rw [g1]
  by_cases ef : f = k
  · subst ef
    have g2 : F (swapF (entF T) f f) = F (entF T) := hF.congr _ _ fun i j _ _ => by
      unfold swapF
      by_cases e5 : i = f
      · rw [if_pos e5, e5]
      · rw [if_neg e5, if_neg e5]
    rw [g2, if_pos rfl]; grind
  · rw [hF.swap _ (show k < n by omega) h2 (fun e => ef e.symm), if_neg ef]; grind
theorem PivAt.rows {T : List (List Rat)} {P : Nat → Bool} {n C k f a S : Nat} {p : Nat → Nat} (h : PivAt T P n C k f a p) (hl : rowsL T S) : rowsL (scaleT (swapT T k f) k (entF (swapT T k f) k a)⁻¹) S ∧ rowsL (pivT T P k f a n) (S + S + 1) ∧ ((∀ i, i < n → P i = false) → rowsL (pivT T P k f a n) S) := by
  have h1 := h.hk
  have h2 := h.hf
  have hk : k < n := by omega
  have s1 := swapT_shp h.sh hk h2
  have s2 := scaleT_shp (entF (swapT T k f) k a)⁻¹ s1 hk
  have r1 := swapT_rows h.sh hk h2 hl
  have r2 := scaleT_rows s1 hk h.ha (by rw [h.head]; exact h.hne) r1
  obtain ⟨r, hr, hrl⟩ := row_ex s2 hk
  refine ⟨r2, ?_, fun hn => ?_⟩
  · unfold pivT
    rw [getT hr]
    exact clrM_rows s2 h.ha r2 (r2 r (List.mem_of_getElem? hr)) n (Nat.le_refl n)
  · unfold pivT
    rw [clrM_none n hn]
    exact r2
/-- What goes down. -/
structure Dwn (T0 T : List (List Rat)) (n C a : Nat) (ps : List Nat) (d : Rat) (S : Nat) : Prop where
  sh : shp T n C
  ech : Ech n a (entF T) ps.length (pv ps)
  ker : KerEq n C (entF T0) (entF T)
  fn : ∀ (C' : Nat) (F : (Nat → Nat → Rat) → Rat), C' ≤ C → RowFn n C' F → F (entF T0) = d * F (entF T)
  ne : d ≠ 0
  len : ∃ S', rowsL T S' ∧ S' + 1 ≤ (S + 1) * 2 ^ (min ps.length (n - 1))
theorem Dwn.start {T : List (List Rat)} {n C S : Nat} (hs : shp T n C) (hl : rowsL T S) : Dwn T T n C 0 [] 1 S :=
  ⟨hs, Ech.zero n _ _, KerEq.refl _ _ _, fun C' F _ _ => (Rat.one_mul _).symm, by decide, ⟨S, hl, by simp⟩⟩
theorem Dwn.skip {T0 T : List (List Rat)} {n C a S : Nat} {ps : List Nat} {d : Rat} (h : Dwn T0 T n C a ps d S) (h0 : ∀ i, ps.length ≤ i → i < n → entF T i a = 0) : Dwn T0 T n C (a + 1) ps d S :=
  ⟨h.sh, h.ech.skip h0, h.ker, h.fn, h.ne, h.len⟩
theorem Dwn.at_ {T0 T : List (List Rat)} {n C a f S : Nat} {ps : List Nat} {d : Rat} (h : Dwn T0 T n C a ps d S) (ha : a < C) (hk : ps.length ≤ f) (hf : f < n) (hne : entF T f a ≠ 0) : PivAt T (fun i => decide (ps.length < i)) n C ps.length f a (pv ps) :=
  ⟨h.sh, h.ech, ha, hk, hf, hne, by simp⟩
theorem two_pow_step {S S' m : Nat} (h : S' + 1 ≤ (S + 1) * 2 ^ m) : S' + S' + 1 + 1 ≤ (S + 1) * 2 ^ (m + 1) := by
  rw [Nat.pow_succ, ← Nat.mul_assoc]; omega
theorem Dwn.pivot {T0 T : List (List Rat)} {n C a f S : Nat} {ps : List Nat} {d : Rat} (h : Dwn T0 T n C a ps d S) (ha : a < C) (hk : ps.length ≤ f) (hf : f < n) (hne : entF T f a ≠ 0) : Dwn T0 (pivT T (fun i => decide (ps.length < i)) ps.length f a n) n C (a + 1) (ps ++ [a]) ((if f = ps.length then d else -d) * entF T f a) S := by
  have g := h.at_ ha hk hf hne
  obtain ⟨t, t0, t1, e, s3, e1⟩ := g.parts
  have hl : (ps ++ [a]).length = ps.length + 1 := by simp
  refine ⟨s3, ?_, h.ker.trans g.ker, fun C' F hC hF => ?_, ?_, ?_⟩
  · rw [hl]
    exact (g.ech' (fun i hi _ => by simpa using hi)).congr (C := C) (by omega) (fun _ _ _ _ => rfl) (fun i hi => pv_snoc ps a i hi)
  · rw [h.fn C' F hC hF, g.fn hC hF]
    by_cases ef : f = ps.length
    · rw [if_pos ef, if_pos ef]; grind
    · rw [if_neg ef, if_neg ef]; grind
  · intro e0
    rcases Rat.mul_eq_zero.1 e0 with h1 | h1
    · have := h.ne
      by_cases ef : f = ps.length
      · rw [if_pos ef] at h1; exact this h1
      · rw [if_neg ef] at h1; grind
    · exact hne h1
  · obtain ⟨S', r, hS⟩ := h.len
    obtain ⟨_, r2, r3⟩ := g.rows r
    rw [hl]
    by_cases hn : ps.length + 1 < n
    · refine ⟨_, r2, ?_⟩
      rw [show min (ps.length + 1) (n - 1) = ps.length + 1 by omega]
      rw [show min ps.length (n - 1) = ps.length by omega] at hS
      exact two_pow_step hS
    · refine ⟨_, r3 (fun i hi => by simp; omega), ?_⟩
      rw [show min (ps.length + 1) (n - 1) = n - 1 by omega]
      rw [show min ps.length (n - 1) = n - 1 by omega] at hS
      exact hS
/-- What goes up: from the pivot u on all are alone. -/
structure Upw (T0 T : List (List Rat)) (n C a : Nat) (ps : List Nat) (u S : Nat) : Prop where
  sh : shp T n C
  ech : Ech n a (entF T) ps.length (pv ps)
  red : Red n (entF T) ps.length (pv ps) u
  ker : KerEq n C (entF T0) (entF T)
  len : ∃ S', rowsL T S' ∧ S' + 1 ≤ (S + 1) * 2 ^ (ps.length - max u 1)
theorem Upw.start {T0 T : List (List Rat)} {n C a S : Nat} {ps : List Nat} (hs : shp T n C) (he : Ech n a (entF T) ps.length (pv ps)) (hk : KerEq n C (entF T0) (entF T)) (hl : rowsL T S) : Upw T0 T n C a ps ps.length S :=
  ⟨hs, he, fun m h1 h2 => by omega, hk, S, hl, by rw [show ps.length - max ps.length 1 = 0 by omega]; simp⟩
/-- The rows above a pivot, cleared. -/
def upT (T : List (List Rat)) (m b : Nat) : List (List Rat) := clrM T (fun _ => true) (T.getD m []) b m
theorem Upw.step {T0 T : List (List Rat)} {n C a m S : Nat} {ps : List Nat} (h : Upw T0 T n C a ps (m + 1) S) (ha : a ≤ C) (hm : m < ps.length) : Upw T0 (upT T m (pv ps m)) n C a ps m S := by
  have hle := h.ech.le
  have hlt := h.ech.lt m hm
  obtain ⟨r, hr, hrl⟩ := row_ex h.sh (show m < n by omega)
  have e : ∀ i j, j < C → entF (upT T m (pv ps m)) i j = clearF (entF T) m (fun i => if i < m then entF T i (pv ps m) else 0) i j := fun i j hj => by
    unfold upT
    rw [getT hr, clrM_clearF h.sh hr (show pv ps m < C by omega) (show m ≤ n by omega) i j hj]
    unfold clearF
    by_cases e : i < m
    · simp [e]
    · simp [e]
  have t1 : ∀ i, m ≤ i → (fun i => if i < m then entF T i (pv ps m) else 0) i = 0 := fun i hi => if_neg (by omega)
  have t2 : ∀ i, i < m → (fun i => if i < m then entF T i (pv ps m) else 0) i = entF T i (pv ps m) := fun i hi => if_pos hi
  refine ⟨?_, ?_, ?_, ?_, ?_⟩
  · unfold upT
    rw [getT hr]
    exact clrM_shp h.sh hrl m (by omega)
  · exact (h.ech.up hm t1).congr (C := C) ha (fun i j _ hj => (e i j hj).symm) (fun _ _ => rfl)
  · exact (h.red.up h.ech hm t1 t2).congr (C := C) (fun i hi => by have := h.ech.lt i hi; omega) (fun i j _ hj => (e i j hj).symm) (fun _ _ => rfl)
  · exact h.ker.trans ((ker_clear _ (show m < n by omega) (t1 m (Nat.le_refl m))).trans (kerEq_of fun i j _ hj => (e i j hj).symm))
  · obtain ⟨S', r1, hS⟩ := h.len
    by_cases h0 : m = 0
    · subst h0
      exact ⟨S', r1, hS⟩
    · refine ⟨S' + S' + 1, ?_, ?_⟩
      · unfold upT
        rw [getT hr]
        exact clrM_rows h.sh (by omega) r1 (r1 r (List.mem_of_getElem? hr)) m (by omega)
      · rw [show ps.length - max m 1 = (ps.length - max (m + 1) 1) + 1 by omega]
        exact two_pow_step hS
/-- The document's way. -/
structure Rdc (T0 T : List (List Rat)) (n C a : Nat) (ps : List Nat) (S : Nat) : Prop where
  sh : shp T n C
  ech : Ech n a (entF T) ps.length (pv ps)
  red : Red n (entF T) ps.length (pv ps) 0
  ker : KerEq n C (entF T0) (entF T)
  len : ∃ S', rowsL T S' ∧ S' + 1 ≤ (S + 1) * 2 ^ ps.length
theorem Rdc.start {T : List (List Rat)} {n C S : Nat} (hs : shp T n C) (hl : rowsL T S) : Rdc T T n C 0 [] S :=
  ⟨hs, Ech.zero n _ _, fun m _ h => by simp at h, KerEq.refl _ _ _, S, hl, by simp⟩
theorem Rdc.skip {T0 T : List (List Rat)} {n C a S : Nat} {ps : List Nat} (h : Rdc T0 T n C a ps S) (h0 : ∀ i, ps.length ≤ i → i < n → entF T i a = 0) : Rdc T0 T n C (a + 1) ps S :=
  ⟨h.sh, h.ech.skip h0, h.red, h.ker, h.len⟩
theorem Rdc.at_ {T0 T : List (List Rat)} {n C a f S : Nat} {ps : List Nat} (h : Rdc T0 T n C a ps S) (ha : a < C) (hk : ps.length ≤ f) (hf : f < n) (hne : entF T f a ≠ 0) : PivAt T (fun i => decide (i ≠ ps.length)) n C ps.length f a (pv ps) :=
  ⟨h.sh, h.ech, ha, hk, hf, hne, by simp⟩
theorem Rdc.pivot {T0 T : List (List Rat)} {n C a f S : Nat} {ps : List Nat} (h : Rdc T0 T n C a ps S) (ha : a < C) (hk : ps.length ≤ f) (hf : f < n) (hne : entF T f a ≠ 0) : Rdc T0 (pivT T (fun i => decide (i ≠ ps.length)) ps.length f a n) n C (a + 1) (ps ++ [a]) S := by
  have g := h.at_ ha hk hf hne
  obtain ⟨t, t0, t1, e, s3, e1⟩ := g.parts
  have hl : (ps ++ [a]).length = ps.length + 1 := by simp
  refine ⟨s3, ?_, ?_, h.ker.trans g.ker, ?_⟩
  · rw [hl]
    exact (g.ech' (fun i hi _ => by simp; omega)).congr (C := C) (by omega) (fun _ _ _ _ => rfl) (fun i hi => pv_snoc ps a i hi)
  · rw [hl]
    refine (g.red h.red (fun i hi _ => by simpa using hi)).congr (C := C) (fun i hi => ?_) (fun _ _ _ _ => rfl) (fun i hi => pv_snoc ps a i hi)
    by_cases e : i < ps.length
    · simp only [if_pos e]; have := h.ech.lt i e; omega
    · simp only [if_neg e]; exact ha
  · obtain ⟨S', r, hS⟩ := h.len
    obtain ⟨_, r2, _⟩ := g.rows r
    rw [hl]
    exact ⟨_, r2, two_pow_step hS⟩
/-- Steps of one table are one, whichever way they are made. -/
theorem steps_same {T0 T U : List (List Rat)} {n C : Nat} {ps qs : List Nat} (hs : shp T n C) (he : Ech n C (entF T) ps.length (pv ps)) (hr : Red n (entF T) ps.length (pv ps) 0) (hk : KerEq n C (entF T0) (entF T)) (hs' : shp U n C) (he' : Ech n C (entF U) qs.length (pv qs)) (hr' : Red n (entF U) qs.length (pv qs) 0) (hk' : KerEq n C (entF T0) (entF U)) : T = U ∧ ps = qs := by
  obtain ⟨e1, e2, e3⟩ := steps_one he hr he' hr' (hk.symm.trans hk')
  exact ⟨shp_same hs hs' e3, pv_list e1 e2⟩
end Go.Proofs.YtfnohdgnhdfpaaaGreat.rat
namespace Go.Proofs.YtfnohdgnhdfpaaaGreat.flow
open Go.RowKit Go.Proofs.YtfnohdgnhdfpaaaGreat.num Go.Proofs.YtfnohdgnhdfpaaaGreat.mem Go.Proofs.YtfnohdgnhdfpaaaGreat.whl Go.Proofs.YtfnohdgnhdfpaaaGreat.rat
set_option linter.unusedVariables false
/-- A slice of one element of three cells, as told. -/
def pone (φ : Pd) : Pd := ⟨fun w v => ∃ g x y z, v = .slice (some ⟨g, 0, none⟩) 1 1 ∧ w.cell? ((⟨g, 0, none⟩ : Addr).add 0) = some x ∧ w.cell? ((⟨g, 0, none⟩ : Addr).add 1) = some y ∧ w.cell? ((⟨g, 0, none⟩ : Addr).add 2) = some z ∧ φ.p w (.agg #[x, y, z]), fun h hb => by
  obtain ⟨g, x, y, z, h0, h1, h2, h3, h4⟩ := h
  exact ⟨g, x, y, z, h0, (hb.cell (World.block_lt_of_cell? _ _ h1)).trans h1, (hb.cell (World.block_lt_of_cell? _ _ h2)).trans h2, (hb.cell (World.block_lt_of_cell? _ _ h3)).trans h3, φ.up h4 hb⟩⟩
section
variable {P : Program} {Q : Exit → Act → World → Prop} {ops : Array Oper} {L : List Oper} {Φ : List Pd} {w0 : World} {a0 : Act} {i : Nat} {o : Oper}
theorem ob_build_q {t T : TypeId} {x : Operand} {φ : Pd} {F : World → Value → Prop} (hop : o.op = .buildSlice t 1 #[(0, x)]) (hg : o.guard = none) (hx : Ev L Φ w0 a0 o x F) (hu : P.underlying t = some (.slice T)) (hI : ∃ i, P.info? T = some i ∧ i.zero = some (.agg #[.bool false, .slice none 0 0, .slice none 0 0]) ∧ i.size = 3 ∧ i.bytes = 56)
    (hF : ∀ w v, F w v → φ.p w v ∧ ∃ a b c, v = .agg #[a, b, c] ∧ a.oneCell' = true ∧ b.oneCell' = true ∧ c.oneCell' = true) (hP : ∀ w v, (pone φ).p w v → (ph Φ i).p w v) : Ob P Q ops L Φ w0 a0 i o := by
  intro ms w hS
  rw [if_pos (wt_none (ops := ops) (L := L) (Φ := Φ) (w0 := w0) (a0 := a0) hg ms w hS)]
  obtain ⟨h1, a, b, c, hv, ka, kb, kc⟩ := hF _ _ (hx ms w hS)
  obtain ⟨inf, hi, hz, hs, hb⟩ := hI
  have hr : (execOp (putM a0 L ms).eval o).run P w = .ok (.value (.slice (some ⟨w.heap.size, 0, none⟩) 1 1)) (w.alloc (.cells #[a, b, c] T)) := by
    generalize putM a0 L ms = A at hv
    have hz0 : (zeroValue T).run P w = .ok (.agg #[.bool false, .slice none 0 0, .slice none 0 0]) w := by simp [zeroValue, go_sem, typeInfo, hi, hz]
    simp only [hop, execOp, List.map_toArray, List.map_cons, List.map_nil, hv]
    generalize A.eval = ev
    simp [go_sem, run_underlying hu, sizeOf, typeInfo, hi, newRow, hs, hz0]
  unfold Oper.wp
  rw [hr]
  obtain ⟨c0, c1, c2⟩ := new_cells w T a b c
  have hbb := below_alloc (w := w) (Nat.le_refl _) (.cells #[a, b, c] T)
  exact ⟨_, rfl, hbb, hP _ _ ⟨_, a, b, c, rfl, c0, c1, c2, φ.up (hv ▸ h1) hbb⟩, fun h => by unfold isA at h; rw [hop] at h; cases h⟩
end
end Go.Proofs.YtfnohdgnhdfpaaaGreat.flow
namespace Go.Proofs.YtfnohdgnhdfpaaaGreat.rat
open Go.RowKit Go.Proofs.YtfnohdgnhdfpaaaGreat.num Go.Proofs.YtfnohdgnhdfpaaaGreat.mem Go.Proofs.YtfnohdgnhdfpaaaGreat.nat Go.Proofs.YtfnohdgnhdfpaaaGreat.txt Go.Proofs.YtfnohdgnhdfpaaaGreat.str Go.Proofs.YtfnohdgnhdfpaaaGreat.flow Go.Proofs.YtfnohdgnhdfpaaaGreat.whl
end Go.Proofs.YtfnohdgnhdfpaaaGreat.rat
namespace Go.Proofs.YtfnohdgnhdfpaaaGreat.whl
open Go.RowKit Go.Proofs.YtfnohdgnhdfpaaaGreat.num Go.Proofs.YtfnohdgnhdfpaaaGreat.mem Go.Proofs.YtfnohdgnhdfpaaaGreat.nat Go.Proofs.YtfnohdgnhdfpaaaGreat.txt Go.Proofs.YtfnohdgnhdfpaaaGreat.str Go.Proofs.YtfnohdgnhdfpaaaGreat.flow
set_option linter.unusedVariables false
def prf (z : Int) (B : Nat) : Pd := ⟨fun w v => IsR w v z ∧ FreshZ B v, fun h hb => ⟨h.1.below hb, h.2⟩⟩
/-- The call's answer is this whole number, in new memory. -/
def RetRF (z : Int) (w : World) (e : Ending) (w' : World) : Prop := ∃ v, e = .returned v ∧ IsR w' v z ∧ FreshZ w.heap.size v ∧ Below w.heap.size w w'
theorem RetRF.pd {z : Int} {w : World} {e : Ending} {w' : World} {B : Nat} (h : RetRF z w e w') (hB : B ≤ w.heap.size) : RetPd (prf z B) w e w' := by
  obtain ⟨v, h1, h2, h3, h4⟩ := h
  exact ⟨v, h1, ⟨h2, h3.mono hB⟩, h4⟩
theorem made_pdf (b : Bool) (u : Value) (x : Nat) (z : Int) (w : World) {B : Nat} (h : IsS w .i64 u (digs 10000 x)) (hf : Fresh B u) (hz : sg b x = z) : Calls Tryz.prog 134 #[.bool b, u] w (RetPd (prf z B) w) :=
  (rmade_any b u x w h).mono fun e w' h' => ⟨_, h'.1, ⟨isR_mk (h.below h'.2) (by rw [← hz, sg_abs]) (by rw [hz]), freshZ_mk hf⟩, h'.2⟩
end Go.Proofs.YtfnohdgnhdfpaaaGreat.whl
namespace Go.Proofs.YtfnohdgnhdfpaaaGreat.rat
open Go.RowKit Go.Proofs.YtfnohdgnhdfpaaaGreat.num Go.Proofs.YtfnohdgnhdfpaaaGreat.mem Go.Proofs.YtfnohdgnhdfpaaaGreat.nat Go.Proofs.YtfnohdgnhdfpaaaGreat.txt Go.Proofs.YtfnohdgnhdfpaaaGreat.str Go.Proofs.YtfnohdgnhdfpaaaGreat.flow Go.Proofs.YtfnohdgnhdfpaaaGreat.whl
set_option linter.unusedVariables false
set_option maxHeartbeats 1600000 in
set_option maxRecDepth 100000 in
theorem roff_any (a0 : Value) (x : Int) (w : World) (h0 : IsZ w a0 x) (hl : lenZ x ≤ 30000) :
    Calls Tryz.prog 87 #[a0] w (RetRF x w) := by
  obtain ⟨u0, rfl, s0⟩ := h0
  obtain ⟨A0, c0, rfl, _⟩ := id s0
  have HL : Hid ((digs 4294967296 x.natAbs).length ≤ 100000) := by show _ ≤ _; unfold lenZ at hl; omega
  have HZ : Hid (sg (ngB x) x.natAbs = x) := by show _ = _; exact sg_self x
  go_enter Tryz.func87, Tryz.ntmps87
  go_upto_region 1 with (fail)
  obtain ⟨wx, hwx, bb, B0, B1, hsz⟩ := vars2 w 42 53 #[.bool (ngB x), .slice A0 (digs 4294967296 (x).natAbs).length c0] #[.bool false, .slice none 0 0]
  rw [hwx]
  clear hwx
  have k0s := s0.below bb
  have k0 : IsZ wx (.agg #[.bool (ngB x), .slice A0 (digs 4294967296 (x).natAbs).length c0]) (x) := isZ_mk k0s rfl rfl
  have hszb := bb.size
  refine flow 6 [Pd.eq (.pointer (some ⟨w.heap.size, 0, none⟩)), Pd.eq (.bool (ngB x)), Pd.eq (.pointer (some ⟨w.heap.size, 1, none⟩)), Pd.eq (.slice A0 (digs 4294967296 (x).natAbs).length c0), ps .i64 (digs 10000 x.natAbs) wx.heap.size, prf (x) wx.heap.size] (by kernel_rfl) (by kernel_rfl) ?ob1 ?done1
  case ob1 =>
    refine And.intro (ob_fieldAddr rfl (wt_none rfl) (ev_far rfl rfl) (fun _ => by kernel_rfl) (fun _ => rfl)) ?_
    refine And.intro (ob_load rfl (wt_none rfl) (ev_dep (j := 0) (by kernel_rfl) rfl rfl) (fun w2 hb => run_load1 Tryz.underlying4 rfl ((B0.drew.below hb).cell 0)) (fun _ _ => rfl)) ?_
    refine And.intro (ob_fieldAddr rfl (wt_none rfl) (ev_far rfl rfl) (fun _ => by kernel_rfl) (fun _ => rfl)) ?_
    refine And.intro (ob_load rfl (wt_none rfl) (ev_dep (j := 2) (by kernel_rfl) rfl rfl) (fun w2 hb => run_load1 Tryz.underlying40 rfl ((B0.drew.below hb).cell 1)) (fun _ _ => rfl)) ?_
    refine And.intro (ob_call1 rfl Tryz.func89 (by kernel_rfl) (wt_none rfl) (ev_dep (j := 3) (by kernel_rfl) rfl rfl) (fun w2 u0 hb h0 => by obtain rfl := h0; exact (refOf_any _ _ _ (k0s.drew.below hb) HL.out).mono fun e w3 h => RetS.pd h hb.size)) ?_
    refine And.intro (ob_call2 rfl Tryz.func134 (by kernel_rfl) (wt_none rfl) (ev_dep (j := 1) (by kernel_rfl) rfl rfl) (ev_dep (j := 4) (by kernel_rfl) rfl rfl) (fun w2 u0 u1 hb h0 h1 => by obtain rfl := h0; exact made_pdf _ _ _ (x) _ h1.1 h1.2 HZ.out)) ?_
    trivial
  case done1 =>
    refine fun w1 hb1 v0 h0 v1 h1 v2 h2 v3 h3 v4 h4 v5 h5 b hbf => ?_
    obtain rfl := h0; obtain rfl := h1; obtain rfl := h2; obtain rfl := h3
    obtain ⟨q4, f4⟩ := h4
    obtain ⟨q5, f5⟩ := h5
    simp only [Act.put, List.setIfInBounds_toArray, List.set_cons_zero, List.set_cons_succ] at hbf
    subst hbf
    obtain ⟨u5, rfl, q5⟩ := q5
    obtain ⟨A9, c9, rfl, _⟩ := id q5
    have B9 := B1.below hb1
    refine any_store (i := 6) (by kernel_rfl) rfl rfl rfl rfl rfl rfl (cells := [.bool (ngB (x)), .slice A9 (digs 10000 (x).natAbs).length c9]) rfl B9 rfl (by kernel_rfl) (one2 rfl rfl) fun w9 hg9 BB9 => ?_
    have k9 := off q5 B9 no_ints2 hg9
    have f9 := (f5 _ _ rfl).mono (show w.heap.size ≤ wx.heap.size from bb.size)
    have bb9 := ((bb.trans (hb1.mono bb.size)).trans ((Below.refl _ _).grown hg9 (Nat.le_trans bb.size hb1.size) (fun g hg => by injection hg with hg; omega)))
    obtain ⟨c0, c1, _, _⟩ := Blk.two BB9
    refine any_done (by kernel_rfl) ?_
    go_wp2
    exact bodyPost_ret (v := .agg #[.bool (ngB (x)), .slice A9 (digs 10000 (x).natAbs).length c9]) (by simp [results, Tryz.results87, go_sem, c0, c1]) rfl ⟨_, rfl, isR_mk k9 rfl rfl, freshZ_mk f9, bb9⟩
set_option maxHeartbeats 1600000 in
set_option maxRecDepth 100000 in
theorem qoff_any (a0 : Value) (q : Rat) (w : World) (h0 : IsQ w a0 q) (hl : lenQ q 30000) :
    Calls Tryz.prog 42 #[a0] w (RetPF q w) := by
  obtain ⟨u0, t0, rfl, s0, r0⟩ := h0
  obtain ⟨A0, c0, rfl, _⟩ := id s0
  obtain ⟨D0, e0, rfl, _⟩ := id r0
  go_enter Tryz.func42, Tryz.ntmps42
  go_upto_region 1 with (fail)
  obtain ⟨wx, hwx, bb, B0, BR0, hsz⟩ := vars2 w 44 55 #[.bool (ngB (q).num), .slice A0 (digs 4294967296 (q).num.natAbs).length c0, .slice D0 (digs 4294967296 (q).den).length e0] #[.bool false, .slice none 0 0, .slice none 0 0]
  rw [hwx]
  clear hwx
  have k0s := s0.below bb
  have k0d := r0.below bb
  have k0z : IsZ wx (.agg #[.bool (ngB (q).num), .slice A0 (digs 4294967296 (q).num.natAbs).length c0]) (q).num := ⟨_, rfl, k0s⟩
  have k0 : IsQ wx (.agg #[.bool (ngB (q).num), .slice A0 (digs 4294967296 (q).num.natAbs).length c0, .slice D0 (digs 4294967296 (q).den).length e0]) (q) := ⟨_, _, rfl, k0s, k0d⟩
  have hsz0 := bb.size
  have sB := bb.size
  refine flow 7 [Pd.eq (.pointer (some ⟨w.heap.size, 0, none⟩)), Pd.eq (.agg #[.bool (ngB (q).num), .slice A0 (digs 4294967296 (q).num.natAbs).length c0]), prf ((q).num) wx.heap.size, Pd.eq (.pointer (some ⟨w.heap.size, 2, none⟩)), Pd.eq (.slice D0 (digs 4294967296 (q).den).length e0), ps .i64 (digs 10000 (q).den) wx.heap.size, ppf (q) wx.heap.size] (by kernel_rfl) (by kernel_rfl) ?ob2 ?done2
  case ob2 =>
    refine And.intro (ob_fieldAddr rfl (wt_none rfl) (ev_far rfl rfl) (fun _ => by kernel_rfl) (fun _ => rfl)) ?_
    refine And.intro (ob_load rfl (wt_none rfl) (ev_dep (j := 0) (by kernel_rfl) rfl rfl) (fun w2 hb => run_loadPart Tryz.underlying42 rfl (by kernel_rfl) (B0.drew.below hb) rfl) (fun _ _ => rfl)) ?_
    refine And.intro (ob_call1 rfl Tryz.func87 (by kernel_rfl) (wt_none rfl) (ev_dep (j := 1) (by kernel_rfl) rfl rfl) (fun w2 u0 hb h0 => by obtain rfl := h0; exact (roff_any _ _ _ (k0z.drew.below hb) (Nat.le_trans hl.1 (by decide))).mono fun e w3 h => RetRF.pd h hb.size)) ?_
    refine And.intro (ob_fieldAddr rfl (wt_none rfl) (ev_far rfl rfl) (fun _ => by kernel_rfl) (fun _ => rfl)) ?_
    refine And.intro (ob_load rfl (wt_none rfl) (ev_dep (j := 3) (by kernel_rfl) rfl rfl) (fun w2 hb => run_load1 Tryz.underlying40 rfl ((B0.drew.below hb).cell 2)) (fun _ _ => rfl)) ?_
    refine And.intro (ob_call1 rfl Tryz.func89 (by kernel_rfl) (wt_none rfl) (ev_dep (j := 4) (by kernel_rfl) rfl rfl) (fun w2 u0 hb h0 => by obtain rfl := h0; exact (refOf_any _ _ _ (k0d.drew.below hb) (Nat.le_trans hl.2 (by decide))).mono fun e w3 h => RetS.pd h hb.size)) ?_
    refine And.intro (ob_build2b rfl (wt_none rfl) (ev_dep (j := 2) (by kernel_rfl) rfl rfl) (ev_dep (j := 5) (by kernel_rfl) rfl rfl) (fun w2 u v hb hu hv => by obtain ⟨u7, rfl, hu7⟩ := hu.1; obtain ⟨A7, c7, rfl, _⟩ := id hu7; obtain ⟨A8, c8, rfl, _⟩ := id hv.1; exact ⟨.agg #[.bool (ngB (q).num), .slice A7 (digs 10000 (q).num.natAbs).length c7, .slice A8 (digs 10000 (q).den).length c8], by kernel_rfl, ⟨⟨_, _, rfl, hu7, hv.1⟩, freshQ_mk (hu.2 _ _ rfl) hv.2⟩⟩)) ?_
    trivial
  case done2 =>
    refine fun w11 hb11 v0 h0 v1 h1 v2 h2 v3 h3 v4 h4 v5 h5 v6 h6 b hbf => ?_
    obtain rfl := h0; obtain rfl := h1; obtain rfl := h3; obtain rfl := h4
    obtain ⟨q2, f2⟩ := h2
    obtain ⟨q5, f5⟩ := h5
    obtain ⟨q6, f6⟩ := h6
    simp only [Act.put, List.setIfInBounds_toArray, List.set_cons_zero, List.set_cons_succ] at hbf
    subst hbf
    replace B0 := B0.below hb11
    replace k0s := k0s.below hb11
    replace k0d := k0d.below hb11
    replace k0z := k0z.below hb11
    replace k0 := k0.below hb11
    replace BR0 := BR0.below hb11
    replace bb := bb.trans (hb11.mono bb.size)
    have hsz11 := bb.size
    have s_2 := sB
    have s_5 := sB
    have s_6 := sB
    obtain ⟨u6, t6, rfl, q6, d6⟩ := q6
    obtain ⟨A9, c9, rfl, _⟩ := id q6
    obtain ⟨D9, e9, rfl, _⟩ := id d6
    refine any_store (i := 7) (by kernel_rfl) rfl rfl rfl rfl rfl rfl (cells := [.bool (ngB (q).num), .slice A9 (digs 10000 (q).num.natAbs).length c9, .slice D9 (digs 10000 (q).den).length e9]) rfl BR0 rfl (by kernel_rfl) (one3 rfl rfl rfl) fun w9 hg9 B9 => ?_
    have k9 := off q6 BR0 no_ints3 hg9
    have d9 := off d6 BR0 no_ints3 hg9
    have f9 := f6.mono (show w.heap.size ≤ _ from s_6)
    have bb9 := bb.trans ((Below.refl _ _).grown hg9 bb.size (fun g hg => by injection hg with hg; omega))
    obtain ⟨C0, C1, C2, _, _, _⟩ := three B9
    refine any_done (by kernel_rfl) ?_
    go_wp2
    exact bodyPost_ret (v := .agg #[.bool (ngB (q).num), .slice A9 (digs 10000 (q).num.natAbs).length c9, .slice D9 (digs 10000 (q).den).length e9]) (by simp [results, Tryz.results42, go_sem, C0, C1, C2]) rfl ⟨_, rfl, ⟨_, _, rfl, k9, d9⟩, f9, bb9⟩
theorem SlF.drew {k : IntKind} {B : Nat} {w : World} {v : Value} {qs : List Rat} (h : SlF k B w v qs) : SlF k B w.drew v qs := h
/-- A slice of fractions is kept where a variable without ints is set that is not its row. -/
theorem SlF.off {k : IntKind} {B : Nat} {w w' : World} {v : Value} {qs : List Rat} {g : Nat} {e : TypeId} {cs : Array Value} (h : SlF k B w v qs) (hB : w.heap[g]? = some (.cells cs e (0, 0))) (hno : ∀ c ∈ cs, ∀ n, c ≠ .int k n) (hg : w.grownBy w' (some g)) (hne : v.ownBlock ≠ some g) : SlF k B w' v qs := by
  obtain ⟨ps, e1, ⟨A, c, rfl, h1, h2, h3⟩, h4⟩ := h
  have key : ∀ (g2 o2 : Nat) (x : Value), A = some ⟨g2, o2, none⟩ → ∀ j, w.cell? ⟨g2, j, none⟩ = some x → w'.cell? ⟨g2, j, none⟩ = some x := fun g2 o2 x hA j hc => by
    subst hA
    have hne2 : g2 ≠ g := fun e => hne (by subst e; rfl)
    have hb := hg.block g2 (World.block_lt_of_cell? w _ hc) (fun e => hne2 (by injection e))
    rw [← hc]
    simp only [World.cell?, hb]
  refine ⟨ps, e1, ⟨A, c, rfl, h1, h2, fun i p hp => ?_⟩, fun p hp => ⟨Go.Proofs.YtfnohdgnhdfpaaaGreat.flow.off (h4 p hp).1 hB hno hg, Go.Proofs.YtfnohdgnhdfpaaaGreat.flow.off (h4 p hp).2 hB hno hg⟩⟩
  obtain ⟨g2, o2, hA, c0, c1, c2⟩ := h3 i p hp
  exact ⟨g2, o2, hA, key g2 o2 _ hA _ c0, key g2 o2 _ hA _ c1, key g2 o2 _ hA _ c2⟩
/-- A slice of these. -/
def RetSl (qs : List Rat) (w : World) (e : Ending) (w' : World) : Prop := ∃ V, e = .returned V ∧ SlF .u64 4294967296 w' V qs ∧ Below w.heap.size w w'
/-- Two fractions, and an error's number. -/
def RetQ2 (x y : Rat) (n : Int) (w : World) (e : Ending) (w' : World) : Prop := ∃ v u, e = .returned (.tuple #[v, u, .int .i64 n]) ∧ IsQ w' v x ∧ IsQ w' u y ∧ Below w.heap.size w w'
def pq2 (x y : Rat) (n : Int) : Pd := ⟨fun w t => ∃ v u, t = .tuple #[v, u, .int .i64 n] ∧ IsQ w v x ∧ IsQ w u y, fun h hb => by obtain ⟨v, u, e, h1, h2⟩ := h; exact ⟨v, u, e, h1.below hb, h2.below hb⟩⟩
theorem RetQ2.pd {x y : Rat} {n : Int} {w : World} {e : Ending} {w' : World} (h : RetQ2 x y n w e w') : RetPd (pq2 x y n) w e w' := by
  obtain ⟨v, u, h1, h2, h3, h4⟩ := h
  exact ⟨_, h1, ⟨v, u, rfl, h2, h3⟩, h4⟩
theorem SlF.at2 {k : IntKind} {B : Nat} {w : World} {g o n c : Nat} {qs : List Rat} {i : Nat} {q : Rat} (h : SlF k B w (.slice (some ⟨g, o, none⟩) n c) qs) (hq : qs[i]? = some q) : ∃ u t, i < n ∧ w.cell? ⟨g, o + i * 3, none⟩ = some (.bool (ngB q.num)) ∧ w.cell? ⟨g, o + i * 3 + 1, none⟩ = some u ∧ w.cell? ⟨g, o + i * 3 + 2, none⟩ = some t ∧ IsS w k u (digs B q.num.natAbs) ∧ IsS w k t (digs B q.den) := by
  obtain ⟨g', o', u, t, hA, h1, h2, h3, h4, h5, h6⟩ := h.at_ hq
  injection hA with hA
  injection hA with e1 e2
  subst e1
  subst e2
  exact ⟨u, t, h1, h2, h3, h4, h5, h6⟩
/-- A row that holds something has a place, and lies in what there is. -/
theorem SlF.place {k : IntKind} {B : Nat} {w : World} {v : Value} {qs : List Rat} (h : SlF k B w v qs) (hne : qs ≠ []) : ∃ g o c, v = .slice (some ⟨g, o, none⟩) qs.length c ∧ g < w.heap.size ∧ qs.length ≤ c ∧ c ≤ maxLen := by
  obtain ⟨A, c, rfl, h1, h2⟩ := h.shape
  cases qs with
  | nil => exact absurd rfl hne
  | cons q qs =>
    obtain ⟨g, o, u, t, rfl, _, hc, _⟩ := h.at_ (i := 0) (q := q) rfl
    exact ⟨g, o, c, rfl, World.block_lt_of_cell? w _ hc, h1, h2⟩
/-- A row of nothing lies nowhere. -/
theorem SlF.any {k : IntKind} {B : Nat} {w w' : World} {v : Value} (h : SlF k B w v []) : SlF k B w' v [] := by
  obtain ⟨ps, hp, ⟨A, c, h1, h2, h3, _⟩, _⟩ := h
  obtain rfl : ps = [] := List.map_eq_nil_iff.1 hp
  exact ⟨[], rfl, ⟨A, c, h1, h2, h3, fun i p hp => by simp at hp⟩, fun p hp => by cases hp⟩
theorem SlF.lt {k : IntKind} {B : Nat} {w : World} {g o n c : Nat} {qs : List Rat} (h : SlF k B w (.slice (some ⟨g, o, none⟩) n c) qs) (hne : qs ≠ []) : g < w.heap.size := by
  obtain ⟨g', o', c', hv, h1, _⟩ := h.place hne
  injection hv with hA
  injection hA with hA
  injection hA with e1
  rw [e1]; exact h1
theorem SlF.take {k : IntKind} {B : Nat} {w : World} {A : Option Addr} {n c : Nat} {qs : List Rat} (h : SlF k B w (.slice A n c) qs) {m : Nat} (hm : m ≤ qs.length) : SlF k B w (.slice A m c) (qs.take m) := by
  obtain ⟨ps, rfl, ⟨A', c', hv, h1, h2, h3⟩, h4⟩ := h
  injection hv with e1 e2 e3
  subst e1; subst e2; subst e3
  rw [List.length_map] at hm
  refine ⟨ps.take m, by rw [List.map_take], ⟨A, c, by rw [List.length_take, Nat.min_eq_left hm], by rw [List.length_take]; omega, h2, fun i p hp => h3 i p ?_⟩, fun p hp => h4 p (List.mem_of_mem_take hp)⟩
  rw [List.getElem?_take] at hp
  split at hp
  · exact hp
  · cases hp
section
variable {P : Program}
end
/-- A row of two rows. -/
def Two (w : World) (v : Value) (p q : List Rat) : Prop := ∃ u0 u1, IsV w v [u0, u1] ∧ SlF .u64 4294967296 w u0 p ∧ SlF .u64 4294967296 w u1 q
theorem Two.below {w w' : World} {v : Value} {p q : List Rat} (h : Two w v p q) (hb : Below w.heap.size w w') : Two w' v p q := by
  obtain ⟨u0, u1, h1, h2, h3⟩ := h
  exact ⟨u0, u1, h1.below hb, h2.below hb, h3.below hb⟩
theorem slF_lit2 (w : World) (T : TypeId) {q r : Rat} {u t u' t' : Value} (h1 : IsS w .u64 u (digs 4294967296 q.num.natAbs)) (h2 : IsS w .u64 t (digs 4294967296 q.den)) (h3 : IsS w .u64 u' (digs 4294967296 r.num.natAbs)) (h4 : IsS w .u64 t' (digs 4294967296 r.den)) :
    SlF .u64 4294967296 (w.alloc (.cells #[.bool (ngB q.num), u, t, .bool (ngB r.num), u', t'] T)) (.slice (some ⟨w.heap.size, 0, none⟩) 2 2) [q, r] := by
  have hbb := below_alloc (w := w) (Nat.le_refl _) (.cells #[.bool (ngB q.num), u, t, .bool (ngB r.num), u', t'] T)
  have hB := Blk.new w T #[.bool (ngB q.num), u, t, .bool (ngB r.num), u', t']
  refine ⟨[(q, u, t), (r, u', t')], rfl, ⟨some ⟨w.heap.size, 0, none⟩, 2, rfl, Nat.le_refl _, by unfold maxLen; omega, fun i p hp => ?_⟩, fun p hp => ?_⟩
  · rcases i with _ | _ | i
    · obtain rfl : ((q, u, t) : Elt) = p := by simpa using hp
      exact ⟨_, _, rfl, hB.cell 0, hB.cell 1, hB.cell 2⟩
    · obtain rfl : ((r, u', t') : Elt) = p := by simpa using hp
      exact ⟨_, _, rfl, hB.cell 3, hB.cell 4, hB.cell 5⟩
    · simp at hp
  · rcases List.mem_cons.1 hp with rfl | hp
    · exact ⟨h1.below hbb, h2.below hbb⟩
    · obtain rfl := List.mem_singleton.1 hp
      exact ⟨h3.below hbb, h4.below hbb⟩
section
variable {P : Program} {Q : Exit → Act → World → Prop} {ops : Array Oper} {L : List Oper} {Φ : List Pd} {w0 : World} {a0 : Act} {i : Nat} {o : Oper}
end
end Go.Proofs.YtfnohdgnhdfpaaaGreat.rat
namespace Go.Proofs.YtfnohdgnhdfpaaaGreat.rat
open Go.RowKit Go.ChangeShapes Go.WideShapes Go.ChangeAt Go.Joins Go.Deep Go.Proofs.YtfnohdgnhdfpaaaGreat.num Go.Proofs.YtfnohdgnhdfpaaaGreat.mem Go.Proofs.YtfnohdgnhdfpaaaGreat.nat Go.Proofs.YtfnohdgnhdfpaaaGreat.txt Go.Proofs.YtfnohdgnhdfpaaaGreat.str Go.Proofs.YtfnohdgnhdfpaaaGreat.flow Go.Proofs.YtfnohdgnhdfpaaaGreat.whl
set_option linter.unusedVariables false
theorem ArgQs.below {w w' : World} {v : Value} (h : ArgQs w v) (hb : Below w.heap.size w w') : ArgQs w' v := by
  obtain ⟨A, n, c, e, h1, h2, h3⟩ := h
  refine ⟨A, n, c, e, h1, h2, fun i hi => ?_⟩
  obtain ⟨ad, b, u, t, l, m, e2, c0, c1, c2, k1, k2, k3, k4⟩ := h3 i hi
  exact ⟨ad, b, u, t, l, m, e2, (hb.cell (World.block_lt_of_cell? w _ c0)).trans c0, (hb.cell (World.block_lt_of_cell? w _ c1)).trans c1, (hb.cell (World.block_lt_of_cell? w _ c2)).trans c2, k1.below hb, k2, k3.below hb, k4⟩
/-- Fractions of the program's in a slice, and an error's number. -/
def RetQLE (l : List Rat) (n : Int) (w : World) (e : Ending) (w' : World) : Prop := ∃ V, e = .returned (.tuple #[V, .int .i64 n]) ∧ SlF .u64 4294967296 w' V (if n = 0 then l else []) ∧ Below w.heap.size w w'
end Go.Proofs.YtfnohdgnhdfpaaaGreat.rat
