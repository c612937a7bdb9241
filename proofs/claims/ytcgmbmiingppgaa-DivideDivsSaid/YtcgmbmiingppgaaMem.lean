/- Words for slices of numbers in memory: what reads as a list, what the call owns, and what the appends and stores do to it. No program stands here. -/
import Derived.Test.YtcgmbmiingppgaaNum
import Derived.WalkKit
import Derived.ProofKit
import Derived.Lib.Hide
import Derived.Below
import Derived.OwnWalk
import Derived.Deep.Draws
import Derived.Deep.OwnRows
namespace Go.Proofs.Ytcgmbmiingppgaa.mem
open Go.RowKit
set_option linter.unusedVariables false

/-- The cells of a list of numbers. -/
def nv (k : IntKind) (l : List Nat) : List Value := l.map fun d : Nat => Value.int k (d : Int)
theorem nv_len (k : IntKind) (l : List Nat) : (nv k l).length = l.length := by simp [nv]
theorem nv_at (k : IntKind) {l : List Nat} {i d : Nat} (h : l[i]? = some d) : (nv k l)[i]? = some (.int k (d : Int)) := by simp [nv, h]
theorem nv_append (k : IntKind) (l m : List Nat) : nv k (l ++ m) = nv k l ++ nv k m := by simp [nv]
theorem nv_set (k : IntKind) (l : List Nat) (i d : Nat) : (nv k l).set i (.int k (d : Int)) = nv k (l.set i d) := by simp [nv, List.map_set]
theorem nv_one (k : IntKind) (l : List Nat) : ∀ u ∈ nv k l, u.oneCell' = true := by
  intro u hu
  obtain ⟨_, _, rfl⟩ := List.mem_map.1 hu
  rfl

/-- From address A on the memory reads as the list. -/
def Rd (w : World) (A : Option Addr) (k : IntKind) (l : List Nat) : Prop := ∀ (i d : Nat), l[i]? = some d → ∃ ad, A = some ad ∧ w.cell? (ad.add i) = some (.int k (d : Int))
/-- The slice reads as the list. -/
def IsS (w : World) (k : IntKind) (v : Value) (l : List Nat) : Prop := ∃ A c, v = .slice A l.length c ∧ l.length ≤ c ∧ c ≤ maxLen ∧ Rd w A k l

theorem block_add (a : Addr) (n : Nat) : (a.add n).block = a.block := by unfold Addr.add; split <;> rfl
theorem Rd.keep {w w' : World} {A : Option Addr} {k : IntKind} {l : List Nat} (h : Rd w A k l) (hk : ∀ p : Addr, p.block < w.heap.size → w'.cell? p = w.cell? p) : Rd w' A k l := by
  intro i d hd
  obtain ⟨ad, ha, hc⟩ := h i d hd
  exact ⟨ad, ha, (hk _ (World.block_lt_of_cell? w _ hc)).trans hc⟩
theorem Rd.below {w w' : World} {A : Option Addr} {k : IntKind} {l : List Nat} (h : Rd w A k l) (hb : Below w.heap.size w w') : Rd w' A k l := h.keep fun p hp => hb.cell hp
theorem IsS.below {w w' : World} {k : IntKind} {v : Value} {l : List Nat} (h : IsS w k v l) (hb : Below w.heap.size w w') : IsS w' k v l := by
  obtain ⟨A, c, e, h1, h2, h3⟩ := h
  exact ⟨A, c, e, h1, h2, h3.below hb⟩
theorem IsS.drewN {w : World} {k : IntKind} {v : Value} {l : List Nat} (h : IsS w k v l) (n : Nat) : IsS (w.drewN n) k v l := h
theorem Rd.at_ {w : World} {A : Option Addr} {k : IntKind} {l : List Nat} (h : Rd w A k l) {i : Nat} (hi : i < l.length) : ∃ ad d, A = some ad ∧ l[i]? = some d ∧ w.cell? (ad.add i) = some (.int k (d : Int)) := by
  obtain ⟨ad, ha, hc⟩ := h i _ (List.getElem?_eq_getElem hi)
  exact ⟨ad, _, ha, List.getElem?_eq_getElem hi, hc⟩
theorem Rd.take {w : World} {A : Option Addr} {k : IntKind} {l : List Nat} (h : Rd w A k l) (n : Nat) : Rd w A k (l.take n) := by
  intro i d hd
  rw [List.getElem?_take] at hd
  split at hd
  · exact h i d hd
  · cases hd
theorem Rd.nil {w : World} {A : Option Addr} {k : IntKind} : Rd w A k [] := by intro i d hd; simp at hd
theorem IsS.len {w : World} {k : IntKind} {v : Value} {l : List Nat} (h : IsS w k v l) : l.length ≤ maxLen := by
  obtain ⟨A, c, e, h1, h2, h3⟩ := h; omega
/-- A slice cut at its end. -/
theorem Rd.isTake {w : World} {A : Option Addr} {k : IntKind} {l : List Nat} {n c : Nat} (h : Rd w A k l) (hn : n ≤ l.length) (hc : l.length ≤ c) (hm : c ≤ maxLen) : IsS w k (.slice A n c) (l.take n) := by
  have e : (l.take n).length = n := by simp; omega
  exact ⟨A, c, by rw [e], by rw [e]; omega, hm, h.take n⟩
theorem isNil (w : World) (k : IntKind) : IsS w k (.slice none 0 0) [] := ⟨none, 0, rfl, by simp, by simp, Rd.nil⟩

/-- A row of the call's own that reads as the list. -/
def Own (w : World) (base : Nat) (e : TypeId) (k : IntKind) (v : Value) (l : List Nat) : Prop := w.ownsRow base e 1 v l.length (nv k l)
theorem Own.isS {w : World} {base : Nat} {e : TypeId} {k : IntKind} {v : Value} {l : List Nat} (h : Own w base e k v l) : IsS w k v l := by
  have hc := h.2
  rcases hc with ⟨rfl, h0⟩ | ⟨g, cap, cur, rfl, _, hg, hn, hm, _, _⟩
  · obtain rfl : l = [] := List.length_eq_zero_iff.1 h0
    exact isNil w k
  · refine ⟨_, _, rfl, hn, hm, ?_⟩
    intro i d hd
    exact ⟨_, rfl, World.ownsRow.cells h (g := g) rfl i _ (nv_at k hd)⟩
theorem Own.alloc {w : World} {base : Nat} {e : TypeId} {k : IntKind} {v : Value} {l : List Nat} (h : Own w base e k v l) (o : Obj) : Own (w.alloc o) base e k v l := World.ownsRow.alloc h o
theorem Own.drewN {w : World} {base : Nat} {e : TypeId} {k : IntKind} {v : Value} {l : List Nat} (h : Own w base e k v l) (n : Nat) : Own (w.drewN n) base e k v l := h
/-- What is owned is kept by what only makes new blocks. -/
theorem Own.below {w w' : World} {base : Nat} {e : TypeId} {k : IntKind} {v : Value} {l : List Nat} (h : Own w base e k v l) (hb : Below w.heap.size w w') : Own w' base e k v l :=
  World.ownsRow.kept (row := none) h ⟨hb.os, hb.tape, hb.output, hb.size, fun i hi _ => hb.block i hi⟩ (by cases hv : v.ownBlock <;> simp)
theorem Own.base_le {w : World} {base : Nat} {e : TypeId} {k : IntKind} {v : Value} {l : List Nat} (h : Own w base e k v l) : ∀ g, v.ownBlock = some g → base ≤ g := fun g hg => (World.ownsRow.lt h g hg).1
theorem Own.mono {w : World} {base base' : Nat} {e : TypeId} {k : IntKind} {v : Value} {l : List Nat} (h : Own w base e k v l) (hb : base' ≤ base) : Own w base' e k v l := by
  refine ⟨h.1, ?_⟩
  rcases h.2 with hn | ⟨g, cap, cur, hv, hg, rest⟩
  · exact Or.inl hn
  · exact Or.inr ⟨g, cap, cur, hv, by omega, rest⟩
theorem own_nil (w : World) (base : Nat) (e : TypeId) (k : IntKind) : Own w base e k (.slice none 0 0) [] := World.ownsRow_nil w base e 1
/-- A literal of numbers, made anew. -/
theorem own_lit (w : World) (base : Nat) (e : TypeId) (k : IntKind) (l : List Nat) (hb : base ≤ w.heap.size) (hm : l.length ≤ maxLen) :
    Own (w.alloc (.cells (nv k l).toArray e)) base e k (.slice (some ⟨w.heap.size, 0, none⟩) l.length l.length) l := by
  have h := World.ownsRow_lit (e := e) (size := 1) w (nv k l).toArray l.length hb hm (by simp [nv])
  simpa [Own] using h
theorem own_lit0 (w : World) (base : Nat) (e : TypeId) (k : IntKind) (hb : base ≤ w.heap.size) : Own (w.alloc (.cells #[] e)) base e k (.slice (some ⟨w.heap.size, 0, none⟩) 0 0) [] := own_lit w base e k [] hb (by simp)
theorem below_alloc {B : Nat} {w : World} (h : B ≤ w.heap.size) (o : Obj) : Below B w (w.alloc o) := (Below.refl B w).alloc h o
/-- Behind an append of one element. -/
theorem Own.snoc {w : World} {base : Nat} {e : TypeId} {k : IntKind} {v : Value} {l : List Nat} {d : Nat} (h : w.ownsRow base e 1 v (l.length + 1) (nv k l ++ [.int k (d : Int)])) : Own w base e k v (l ++ [d]) := by
  unfold Own
  rw [nv_append, List.length_append]
  exact h
theorem Own.more {w : World} {base : Nat} {e : TypeId} {k : IntKind} {v : Value} {l m : List Nat} (h : w.ownsRow base e 1 v (l.length + m.length) (nv k l ++ nv k m)) : Own w base e k v (l ++ m) := by
  unfold Own
  rw [nv_append, List.length_append]
  exact h
/-- The row's own place, where it is not nil. -/
theorem Own.place {w : World} {base : Nat} {e : TypeId} {k : IntKind} {v : Value} {l : List Nat} (h : Own w base e k v l) (hl : 0 < l.length) :
    ∃ g cap, v = .slice (some ⟨g, 0, none⟩) l.length cap ∧ l.length ≤ cap ∧ cap ≤ maxLen ∧ base ≤ g ∧ g < w.heap.size := by
  rcases h.2 with ⟨rfl, h0⟩ | ⟨g, cap, cur, rfl, hg, hh, hn, hm, _, _⟩
  · omega
  · exact ⟨g, cap, rfl, hn, hm, hg, (Array.getElem?_eq_some_iff.1 hh).1⟩
theorem Own.cellAt {w : World} {base : Nat} {e : TypeId} {k : IntKind} {g n cap : Nat} {l : List Nat} (h : Own w base e k (.slice (some ⟨g, 0, none⟩) n cap) l) {i d : Nat} (hd : l[i]? = some d) : w.cell? ⟨g, i, none⟩ = some (.int k (d : Int)) := by
  have := World.ownsRow.cells h (g := g) rfl i _ (nv_at k hd)
  have ha : (⟨g, 0, none⟩ : Addr).add i = ⟨g, i, none⟩ := by unfold Addr.add; split <;> simp_all
  rwa [ha] at this
theorem Own.len_eq {w : World} {base : Nat} {e : TypeId} {k : IntKind} {A : Option Addr} {n cap : Nat} {l : List Nat} (h : Own w base e k (.slice A n cap) l) : n = l.length := by
  rcases h.2 with ⟨h1, h0⟩ | ⟨g, cap', cur, h1, _⟩
  · injection h1 with _ h1 _; omega
  · injection h1 with _ h1 _
theorem Own.frozenAt {w : World} {base : Nat} {e : TypeId} {k : IntKind} {g n cap : Nat} {l : List Nat} (h : Own w base e k (.slice (some ⟨g, 0, none⟩) n cap) l) (i : Nat) : w.frozen? ⟨g, i, none⟩ = false := by
  obtain rfl := h.len_eq
  exact World.ownsRow.frozenAt h i
/-- A store into the row. -/
theorem Own.stored {w : World} {base : Nat} {e : TypeId} {k : IntKind} {g n cap : Nat} {l : List Nat} (h : Own w base e k (.slice (some ⟨g, 0, none⟩) n cap) l) (i d : Nat) : Own (w.setCell ⟨g, i, none⟩ (.int k (d : Int))) base e k (.slice (some ⟨g, 0, none⟩) n cap) (l.set i d) := by
  obtain rfl := h.len_eq
  have := (World.ownsRow.stored h i (.int k (d : Int))).1
  unfold Own
  rw [← nv_set, List.length_set]
  exact this
theorem Own.stored' {w : World} {base : Nat} {e : TypeId} {k : IntKind} {g n cap : Nat} {l : List Nat} (h : Own w base e k (.slice (some ⟨g, 0, none⟩) n cap) l) (i d : Nat) {x : Int} (hx : x = (d : Int)) : Own (w.setCell ⟨g, i, none⟩ (.int k x)) base e k (.slice (some ⟨g, 0, none⟩) n cap) (l.set i d) := by
  subst hx; exact h.stored i d
theorem ediv_cast {x : Int} {n d : Nat} (h : x = (n : Int)) : x / (d : Int) = ((n / d : Nat) : Int) := by subst h; exact (Int.natCast_ediv n d).symm
theorem emod_cast {x : Int} {n d : Nat} (h : x = (n : Int)) : x % (d : Int) = ((n % d : Nat) : Int) := by subst h; exact (Int.natCast_emod n d).symm
/-- How long the slice in a slot is: for a loop's measure. -/
def lenOf : Value → Nat | .slice _ n _ => n | _ => 0
theorem int_eq {k : IntKind} {a b : Int} (h : a = b) : Value.int k a = .int k b := by rw [h]
/-- make([]T, n). -/
theorem own_made (w : World) (base : Nat) (e : TypeId) (k : IntKind) (n : Nat) (hb : base ≤ w.heap.size) (hm : n ≤ maxLen) :
    Own (w.alloc (.cells (madeCells #[.int k 0] n) e)) base e k (.slice (some ⟨w.heap.size, 0, none⟩) n n) (List.replicate n 0) := by
  have e1 : (madeCells #[.int k 0] n) = (nv k (List.replicate n 0)).toArray := by
    apply Array.toList_inj.1
    rw [toList_madeCells_one]; simp [nv]
  rw [e1]
  have := own_lit w base e k (List.replicate n 0) hb (by simpa using hm)
  simpa using this
theorem own_of_make {w : World} {base : Nat} {e : TypeId} {k : IntKind} {g n : Nat} (h : w.ownsRow base e 1 (.slice (some ⟨g, 0, none⟩) n n) n (madeCells #[.int k 0] (n * 1)).toList) : Own w base e k (.slice (some ⟨g, 0, none⟩) n n) (List.replicate n 0) := by
  rw [Nat.mul_one, toList_madeCells_one] at h
  unfold Own
  simpa [nv] using h
theorem below_drewN {B : Nat} {a w : World} (h : Below B a w) (n : Nat) : Below B a (w.drewN n) := ⟨h.os, h.tape, h.output, h.size, h.block⟩
theorem below_size {w w' : World} (h : Below w.heap.size w w') : w.heap.size ≤ w'.heap.size := h.size

/-- The slice lies in blocks from B on. -/
def Fresh (B : Nat) (v : Value) : Prop := ∀ ad n c, v = .slice (some ad) n c → B ≤ ad.block
theorem Fresh.mono {B B' : Nat} {v : Value} (h : Fresh B v) (hb : B' ≤ B) : Fresh B' v := fun ad n c e => Nat.le_trans hb (h ad n c e)
theorem Own.fresh {w : World} {base : Nat} {e : TypeId} {k : IntKind} {v : Value} {l : List Nat} (h : Own w base e k v l) : Fresh base v := by
  rintro ad n c rfl
  exact h.base_le ad.block rfl
theorem Own.under {w : World} {base : Nat} {e : TypeId} {k : IntKind} {v : Value} {l : List Nat} (h : Own w base e k v l) : ∀ g, v.ownBlock = some g → g < w.heap.size := fun g hg => (World.ownsRow.lt h g hg).2
theorem grown_trans {a b c : World} {r : Option Nat} (h : a.grownBy b r) (k : b.grownBy c r) : a.grownBy c r :=
  ⟨k.os.trans h.os, k.tape.trans h.tape, k.output.trans h.output, Nat.le_trans h.size k.size, fun i hi hn => (k.block i (Nat.lt_of_lt_of_le hi h.size) hn).trans (h.block i hi hn)⟩
/-- A slice that lies elsewhere is kept where the row turned. -/
theorem IsS.apart {w w' : World} {k : IntKind} {v u : Value} {l : List Nat} {B : Nat} (h : IsS w k v l) (hf : Fresh B v) (hu : ∀ g, u.ownBlock = some g → g < B) (hg : w.grownBy w' u.ownBlock) : IsS w' k v l := by
  obtain ⟨A, c, rfl, h1, h2, h3⟩ := h
  refine ⟨A, c, rfl, h1, h2, ?_⟩
  intro i d hd
  obtain ⟨ad, rfl, hc⟩ := h3 i d hd
  refine ⟨ad, rfl, hg.cell hc ?_⟩
  rw [block_add]
  intro e
  have h4 := hu _ e.symm
  have h5 := hf ad _ _ rfl
  omega
theorem IsS.setCell {w : World} {k : IntKind} {v : Value} {l : List Nat} {B : Nat} (h : IsS w k v l) (hf : Fresh B v) {p : Addr} (hp : p.block < B) (x : Value) : IsS (w.setCell p x) k v l := by
  obtain ⟨A, c, rfl, h1, h2, h3⟩ := h
  refine ⟨A, c, rfl, h1, h2, ?_⟩
  intro i d hd
  obtain ⟨ad, rfl, hc⟩ := h3 i d hd
  refine ⟨ad, rfl, ?_⟩
  rw [World.cell?_setCell_other]
  · exact hc
  · intro e
    have h5 := hf ad _ _ rfl
    have := congrArg Addr.block e
    rw [block_add] at this
    omega

/-- The call ends with a new slice that reads as the list; what was there is as it was. -/
def RetS (k : IntKind) (l : List Nat) (w : World) (e : Ending) (w' : World) : Prop := ∃ v, e = .returned v ∧ IsS w' k v l ∧ Fresh w.heap.size v ∧ Below w.heap.size w w'
/-- The same, and the slice is a new row. -/
def RetOwn (t : TypeId) (k : IntKind) (l : List Nat) (w : World) (e : Ending) (w' : World) : Prop := ∃ v, e = .returned v ∧ Own w' w.heap.size t k v l ∧ Below w.heap.size w w'
/-- The same, with a number behind it. -/
def RetSI (k : IntKind) (l : List Nat) (n : Int) (w : World) (e : Ending) (w' : World) : Prop := ∃ v, e = .returned (.tuple #[v, .int .i64 n]) ∧ IsS w' k v l ∧ Fresh w.heap.size v ∧ Below w.heap.size w w'
/-- The call ends with this value; what was there is as it was. -/
def RetV (v : Value) (w : World) (e : Ending) (w' : World) : Prop := e = .returned v ∧ Below w.heap.size w w'
/-- The call ends with this value; it only read. -/
def RetQ (v : Value) (w : World) (e : Ending) (w' : World) : Prop := e = .returned v ∧ ∃ n, w' = w.drewN n

/-- Slice type t has elements of type e, numbers of kind k. -/
structure SliceT (P : Program) (t e : TypeId) (k : IntKind) : Prop where
  und : P.underlying t = some (.slice e)
  info : ∃ i, P.info? e = some i ∧ i.zero = some (.int k 0) ∧ i.size = 1 ∧ i.bytes = 8

section
variable {P : Program}
theorem run_append_rd {w : World} {base : Nat} {t ty e : TypeId} {k : IntKind} (hT : SliceT P t e k) {v : Value} {l news : List Nat} (hown : Own w base e k v l) {A : Option Addr} {m c : Nat} (hm : m = news.length) (hr : Rd w A k news)
    (hlen : l.length + m ≤ 10000000000000) (hbase : base ≤ w.heap.size) :
    ∃ v' w', (Builtin.append_ #[t, t] ty #[v, .slice A m c]).run P w = .ok v' w' ∧ Own w' base e k v' (l ++ news) ∧ w.grownBy w' v.ownBlock := by
  obtain ⟨i, hi, hz, hs, hb⟩ := hT.info
  subst hm
  rcases A with _ | ad
  · have hn : news = [] := by
      rcases news with _ | ⟨d, n⟩
      · rfl
      · obtain ⟨ad, h, _⟩ := hr 0 d (by simp); cases h
    subst hn
    refine ⟨v, w, ?_, by simpa using hown, World.grownBy.refl _ _⟩
    rcases hown.2 with ⟨rfl, h0⟩ | ⟨g, cap, cur, rfl, _, _, hnc, _⟩
    · simp [Builtin.append_, run_underlying hT.und, sizeOf, typeInfo, hi, Builtin.lenOf, Builtin.firstCells]
    · simp [Builtin.append_, run_underlying hT.und, sizeOf, typeInfo, hi, Builtin.lenOf, Builtin.firstCells, hnc, storeCells]
  · have hcells : ∀ j u, (nv k news)[j]? = some u → w.cell? (ad.add j) = some u := by
      intro j u hu
      simp only [nv, List.getElem?_map, Option.map_eq_some_iff] at hu
      obtain ⟨d, hd, rfl⟩ := hu
      obtain ⟨ad', h, hc⟩ := hr j d hd
      injection h with h; subst h; exact hc
    obtain ⟨v', w', h1, h2, h3, _⟩ := run_append_own (P := P) w base t ty e i (.int k 0) 1 8 hT.und hi hz hs hb rfl (by decide) v l.length (nv k l) hown ad news.length c (nv k news) (by simp [nv]) hcells (nv_one k news) (by unfold maxLen; omega) (by omega) hbase
    exact ⟨v', w', h1, Own.more h2, h3⟩

theorem wp_append_rd {w : World} {o : Oper} {a : Act} {K : Act → World → Prop} {Q : Exit → Act → World → Prop} (s x : Operand) {t : TypeId}
    (ho : o.op = .call { callee := .builtin .append, args := #[s, x], argTypes := #[t, t] })
    {base : Nat} {e : TypeId} {k : IntKind} (hT : SliceT P t e k) {v : Value} {l news : List Nat} (hs : a.eval s = v) (hown : Own w base e k v l) {A : Option Addr} {m c : Nat} (hx : a.eval x = .slice A m c) (hm : m = news.length) (hr : Rd w A k news)
    (hlen : l.length + m ≤ 10000000000000) (hbase : base ≤ w.heap.size)
    (h : ∀ v' w', Own w' base e k v' (l ++ news) → w.grownBy w' v.ownBlock → K (a.put o.dst v') w') : o.wp P a w K Q := by
  obtain ⟨v', w', hrun, h2, h3⟩ := run_append_rd (P := P) (ty := o.type) hT hown (c := c) hm hr hlen hbase
  unfold Oper.wp execOp
  simp only [ho, resolve, invoke, builtin, Sem.run_bind, Sem.run_pure, Result.andThen_ok, List.map_toArray, List.map_cons, List.map_nil, hs, hx, hrun]
  exact h v' w' h2 h3

theorem wpList_append_rd {w : World} {ops : Array Oper} {rest : List Oper} {o : Oper} {a : Act} {Q : Exit → Act → World → Prop} (hgd : o.guard = none) (s x : Operand) {t : TypeId}
    (ho : o.op = .call { callee := .builtin .append, args := #[s, x], argTypes := #[t, t] })
    {base : Nat} {e : TypeId} {k : IntKind} (hT : SliceT P t e k) {v : Value} {l news : List Nat} (hs : a.eval s = v) (hown : Own w base e k v l) {A : Option Addr} {m c : Nat} (hx : a.eval x = .slice A m c) (hm : m = news.length) (hr : Rd w A k news)
    (hlen : l.length + m ≤ 10000000000000) (hbase : base ≤ w.heap.size)
    (h : ∀ v' w', Own w' base e k v' (l ++ news) → Below base w w' → w.grownBy w' v.ownBlock → wpList P ops Q rest (a.put o.dst v') w') : wpList P ops Q (o :: rest) a w :=
  wpList_plain hgd fun _ hK => wp_append_rd s x ho hT hs hown hx hm hr hlen hbase fun v' w' h2 h3 => hK _ _ (h v' w' h2 ((Below.refl base w).grown h3 hbase (Own.base_le hown)) h3)

theorem rd_new (w : World) (e : TypeId) (k : IntKind) {x : Int} {d : Nat} (hd : x = (d : Int)) : Rd (w.alloc (.cells #[.int k x] e)) (some ⟨w.heap.size, 0, none⟩) k [d] := by
  intro i d' hd'
  rcases i with _ | i
  · simp at hd'; subst hd'; subst hd
    exact ⟨_, rfl, by simp [Addr.add, World.cell?_alloc_at]⟩
  · simp at hd'
/-- A literal of one number. -/
theorem own_lit1 (w : World) (base : Nat) (e : TypeId) (k : IntKind) {x : Int} {d : Nat} (hd : x = (d : Int)) (hb : base ≤ w.heap.size) : Own (w.alloc (.cells #[.int k x] e)) base e k (.slice (some ⟨w.heap.size, 0, none⟩) 1 1) [d] := by
  subst hd; exact own_lit w base e k [d] hb (by unfold maxLen; simp)
theorem own_lit2 (w : World) (base : Nat) (e : TypeId) (k : IntKind) {x y : Int} {d f : Nat} (hd : x = (d : Int)) (hf : y = (f : Int)) (hb : base ≤ w.heap.size) : Own (w.alloc (.cells #[.int k x, .int k y] e)) base e k (.slice (some ⟨w.heap.size, 0, none⟩) 2 2) [d, f] := by
  subst hd; subst hf; exact own_lit w base e k [d, f] hb (by unfold maxLen; simp)
theorem fresh_at {B g n c : Nat} (h : B ≤ g) : Fresh B (.slice (some ⟨g, 0, none⟩) n c) := by
  intro ad n' c' e
  injection e with e _ _
  injection e with e
  subst e; exact h
/-- 'out = append(out, x)'. -/
theorem wpList_append_one {w : World} {ops : Array Oper} {rest : List Oper} {o : Oper} {a : Act} {Q : Exit → Act → World → Prop} (hgd : o.guard = none) (s x : Operand) {t : TypeId}
    (ho : o.op = .call { callee := .builtin .append, args := #[s, x], argTypes := #[t, t] })
    {base : Nat} {e : TypeId} {k : IntKind} (hT : SliceT P t e k) {v : Value} {l : List Nat} (d : Nat) {y : Int} (hs : a.eval s = v) (hown : Own w base e k v l) (hx : a.eval x = .slice (some ⟨w.heap.size, 0, none⟩) 1 1) (hd : y = (d : Int))
    (hlen : l.length ≤ 1000000000000) (hbase : base ≤ w.heap.size)
    (h : ∀ v' w', Own w' base e k v' (l ++ [d]) → Below base w w' → w.grownBy w' v.ownBlock → wpList P ops Q rest (a.put o.dst v') w') : wpList P ops Q (o :: rest) a (w.alloc (.cells #[.int k y] e)) :=
  wpList_append_rd hgd s x ho hT hs (hown.alloc _) hx rfl (rd_new w e k hd) (by omega) (by simp; omega) fun v' w' h1 h2 h3 => h v' w' h1 (((Below.refl base w).alloc hbase _).trans h2) (grown_trans (World.grownBy_alloc w _ _) h3)

/-- 'make([]T, n)'. -/
theorem wpList_make_rd {w : World} {ops : Array Oper} {rest : List Oper} {o : Oper} {a : Act} {Q : Exit → Act → World → Prop} (hgd : o.guard = none) (lo co : Operand) {t : TypeId} (ho : o.op = Op.makeSlice t lo co)
    {base : Nat} {e : TypeId} {k : IntKind} (hT : SliceT P t e k) {kl kc : IntKind} {L C : Int} (n : Nat) (hl : a.eval lo = .int kl L) (hc : a.eval co = .int kc C) (hL : L = (n : Int)) (hC : C = (n : Int)) (hn : n ≤ 10000000000000) (hbase : base ≤ w.heap.size)
    (h : ∀ w', Own w' base e k (.slice (some ⟨w.heap.size, 0, none⟩) n n) (List.replicate n 0) → Below w.heap.size w w' → w.heap.size < w'.heap.size → wpList P ops Q rest (a.put o.dst (.slice (some ⟨w.heap.size, 0, none⟩) n n)) w') : wpList P ops Q (o :: rest) a w := by
  obtain ⟨i, hi, hz, hs, hb⟩ := hT.info
  refine wpList_make_full w hgd lo co t ho base e i (.int k 0) 1 hT.und hi hz hs kl kc L C n hl hc hL hC (by rw [hb]; omega) (by unfold maxLen; omega) hbase fun w' h1 h2 => ?_
  have hw := own_of_make h1
  refine h w' hw ((Below.refl _ w).grown h2 (Nat.le_refl _) (fun g hg => by cases hg)) ?_
  rcases h1.2 with ⟨h3, _⟩ | ⟨g, cap, cur, h3, _, h4, _⟩
  · cases h3
  · injection h3 with h3 _ _
    injection h3 with h3
    injection h3 with h3 _ _
    subst h3
    exact (Array.getElem?_eq_some_iff.1 h4).1
end
/-- The call ends with two new slices. -/
def RetSS (k : IntKind) (l m : List Nat) (w : World) (e : Ending) (w' : World) : Prop := ∃ v u, e = .returned (.tuple #[v, u]) ∧ IsS w' k v l ∧ IsS w' k u m ∧ Fresh w.heap.size v ∧ Fresh w.heap.size u ∧ Below w.heap.size w w'
end Go.Proofs.Ytcgmbmiingppgaa.mem
