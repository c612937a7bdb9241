/- Plain mathematics of layer 3: the long product row by row, a number times a limb, and the product by cutting both at one place. No program stands here.
Package mul: trimmed, Long, Small. Condition: slices read as limbs.
Package mul: cut, byCuts, Short, Mul, Square. Condition: slices read as limbs.
Package mul: byCuts (Karatsuba's way), Short, Mul, Square. Condition: slices read as limbs.
Package mul: power, Pow, slices.Clone of numbers, Product. Condition: slices read as limbs.
Package mul: Product. Condition: the slice holds slices that read as limbs.
What the laws of layer 2 share: an argument's limbs as a list, the document's Clean, the chapter's example. Condition: as each says.
What the laws' walks offer at their calls: the document's Same on two numbers. Condition: slices read as limbs.
Rows of numbers: a slice of slices of limbs that the call makes by append, or that came in as an argument. Condition: as each says.
The document's own Mul, Small, Pow of layer 3, and the chapter's example. Condition: slices read as limbs.
Plain mathematics of layer 4: a number divided by a limb, by a number limb by limb (Knuth's way), and bit by bit. No program stands here.
Plain mathematics of layer 4: a division bit by bit. No program stands here.
Package limb: Div; package divide: trimmed, Small. Condition: slices read as limbs.
Package divide: takeOff, putBack, guess, step. Condition: slices read as limbs; what is changed is a part of a row of the caller's own, and the divisor lies elsewhere.
Package divide: long, Div, Exact, Mod, Divides. Condition: slices read as limbs.
Package divide: Div, Exact, Mod, Divides. Condition: slices read as limbs.
Package divide: Plain. Condition: slices read as limbs.
The document's Div, Small, Exact, Divides of layer 4, and the chapter's example. Condition: slices read as limbs.
digits.isBase, digits.stretch. Condition: as each says.
Rows of bytes that the call makes; digits.written: stretches of digits as a text. Condition: as each says.
digits.split: a number parted into numbers below a power. Condition: the slices read as numbers; some limbs.
digits.paired: neighbours put together. Condition: the slices read as numbers; some limbs.
digits.joined: numbers below a power put together. Condition: the slices read as numbers; some limbs.
digits.In, Print, Count. Condition: the slice reads as a number of some limbs.
digits.From, Parse. Condition: a text of some bytes.
The document's digits: digit, From, In. Condition: some limbs, some bytes.
The document's In. Condition: the slice reads as a number of some limbs.
Layer 6's example; what the laws ask of texts. -/
import Derived.Test.YtpcllhdfalebbaaGreatDoorK1
import Derived.Laws.CopyOwn
import Derived.Deep.RegionLaw
import Derived.StillTailTactics
import Derived.Lib.SliceRun
import Derived.ProofKit
import Derived.OpenShut
import Derived.Deep.AppendLies
import Derived.Deep.Matrix
import Derived.Laws.Bits64b
import Derived.Maps.AppendAt
import Derived.IntWalk
import Derived.RegionTactic
import Derived.Lib.OthersKept
import Derived.Deep.Cut
namespace Go.Proofs.YtpcllhdfalebbaaGreatDoor.num
set_option linter.unusedVariables false
theorem at_le_val {B : Nat} {l : List Nat} {i d : Nat} (hd : l[i]? = some d) : B ^ i * d ≤ val B l := by
  have il : i < l.length := (List.getElem?_eq_some_iff.1 hd).1
  have e : l = l.take i ++ (d :: l.drop (i + 1)) := by
    rw [(List.getElem?_eq_some_iff.1 hd).2.symm, List.getElem_cons_drop, List.take_append_drop]
  have l1 : (l.take i).length = i := by simp; omega
  rw [e, val_append, val_cons, l1, Nat.mul_add]; omega
/-- A list whose number is less than B ^ i has noughts from there on. -/
theorem at_zero {B : Nat} {l : List Nat} {i : Nat} (h : val B l < B ^ i) (hi : i < l.length) : l[i]? = some 0 := by
  rw [List.getElem?_eq_getElem hi]
  have := at_le_val (B := B) (List.getElem?_eq_getElem hi)
  rcases Nat.eq_zero_or_pos (l[i]) with h0 | h0
  · rw [h0]
  · have := Nat.mul_le_mul_left (B ^ i) h0
    omega
theorem val_set0 {B : Nat} {l : List Nat} {i : Nat} (h : l[i]? = some 0) (e : Nat) : val B (l.set i e) = val B l + B ^ i * e := by
  have := val_set (B := B) h e
  simpa using this
theorem val_take_mod {B : Nat} {l : List Nat} (h : Lt B l) {n : Nat} (hn : n ≤ l.length) : val B (l.take n) = val B l % B ^ n := by
  have h1 := val_append B (l.take n) (l.drop n)
  have h2 := val_lt (h.take n)
  rw [List.take_append_drop] at h1
  rw [show (l.take n).length = n from by simp; omega] at h1 h2
  rw [h1, Nat.add_mul_mod_self_left, Nat.mod_eq_of_lt h2]
theorem val_drop_div' {B : Nat} {l : List Nat} (h : Lt B l) {n : Nat} (hn : n ≤ l.length) : val B (l.drop n) = val B l / B ^ n := by
  have h1 := val_append B (l.take n) (l.drop n)
  have h2 := val_lt (h.take n)
  rw [List.take_append_drop] at h1
  rw [show (l.take n).length = n from by simp; omega] at h1 h2
  have h3 : 0 < B ^ n := by omega
  rw [h1, Nat.add_mul_div_left _ _ h3, Nat.div_eq_of_lt h2, Nat.zero_add]
/-- What Long's outer loop keeps: behind i limbs of x the row is their number times y. -/
def LO (B : Nat) (xl yl P : List Nat) (i : Nat) : Prop := Lt B P ∧ P.length = xl.length + yl.length ∧ val B P = val B (xl.take i) * val B yl
/-- What the inner one keeps: behind j limbs of y, u is to be carried on. -/
def LI (B : Nat) (xl yl P : List Nat) (i x j u : Nat) : Prop := Lt B P ∧ P.length = xl.length + yl.length ∧ u < B ∧ P[i + yl.length]? = some 0 ∧ val B P + B ^ (i + j) * u = val B (xl.take i) * val B yl + B ^ i * (x * val B (yl.take j))
theorem LO.start {B : Nat} (hB : 0 < B) (xl yl : List Nat) {n : Nat} (hn : n = xl.length + yl.length) : LO B xl yl (List.replicate n 0) 0 := by
  refine ⟨Lt.rep hB n, by simp [hn], ?_⟩
  rw [val_rep, List.take_zero, val_nil, Nat.zero_mul]
theorem LO.enter {B : Nat} {xl yl P : List Nat} {i : Nat} (hB : 0 < B) (hx : Lt B xl) (hy : Lt B yl) (h : LO B xl yl P i) (hi : i < xl.length) (x : Nat) : LI B xl yl P i x 0 0 := by
  obtain ⟨h1, h2, h3⟩ := h
  refine ⟨h1, h2, hB, ?_, by rw [h3]; simp [val]⟩
  refine at_zero (B := B) ?_ (by omega)
  have a := val_lt (hx.take i)
  have b := val_lt hy
  rw [show (xl.take i).length = i from by simp; omega] at a
  rw [h3, Nat.pow_add]
  exact Nat.mul_lt_mul'' a b
theorem LI.step {B : Nat} {xl yl P : List Nat} {i x j u d e s o : Nat} (h : LI B xl yl P i x j u) (hd : P[i + j]? = some d) (he : yl[j]? = some e) (hs : s < B) (ho : o < B) (hm : s + B * o = x * e + d + u) : LI B xl yl (P.set (i + j) s) i x (j + 1) o := by
  obtain ⟨h1, h2, h3, h4, h5⟩ := h
  have hj : j < yl.length := (List.getElem?_eq_some_iff.1 he).1
  refine ⟨h1.set hs _, by simpa using h2, ho, ?_, ?_⟩
  · rw [List.getElem?_set_ne (by omega)]; exact h4
  · have e1 := val_set (B := B) hd s
    have e2 := val_take_step (B := B) he
    have e3 : B ^ (i + (j + 1)) * o + B ^ (i + j) * s = B ^ (i + j) * (s + B * o) := by
      rw [Nat.mul_add, show i + (j + 1) = (i + j) + 1 from by omega, Nat.pow_succ, Nat.mul_assoc]; omega
    have e4 : B ^ i * (x * val B (yl.take (j + 1))) = B ^ i * (x * val B (yl.take j)) + B ^ (i + j) * (x * e) := by
      rw [e2, Nat.mul_add, Nat.mul_add, Nat.pow_add]
      congr 1
      simp only [Nat.mul_assoc, Nat.mul_left_comm, Nat.mul_comm]
    rw [hm, Nat.mul_add, Nat.mul_add] at e3
    omega
theorem LI.done {B : Nat} {xl yl P : List Nat} {i x u : Nat} (h : LI B xl yl P i x yl.length u) (hx : xl[i]? = some x) : LO B xl yl (P.set (i + yl.length) u) (i + 1) := by
  obtain ⟨h1, h2, h3, h4, h5⟩ := h
  refine ⟨h1.set h3 _, by simpa using h2, ?_⟩
  rw [val_set0 h4, h5, List.take_length, val_take_step hx, Nat.add_mul, Nat.mul_assoc]
theorem LO.done {B : Nat} {xl yl P : List Nat} {i : Nat} (h : LO B xl yl P i) (hi : xl.length ≤ i) : Lt B P ∧ val B xl * val B yl = val B P := by
  obtain ⟨h1, h2, h3⟩ := h
  rw [List.take_of_length_le hi] at h3
  exact ⟨h1, h3.symm⟩
/-- What Small's loop keeps. -/
def SM (B : Nat) (xl P : List Nat) (m c i u : Nat) : Prop := Lt B P ∧ P.length = xl.length + 1 ∧ u < B ∧ val B P < B ^ i ∧ val B P + B ^ i * u = val B (xl.take i) * m + c
theorem SM.start {B : Nat} (xl : List Nat) (m : Nat) {c n : Nat} (hc : c < B) (hn : n = xl.length + 1) : SM B xl (List.replicate n 0) m c 0 c := by
  refine ⟨Lt.rep (by omega) n, by simp [hn], hc, by rw [val_rep]; simp, ?_⟩
  rw [val_rep, List.take_zero, val_nil]; simp
theorem SM.at0 {B : Nat} {xl P : List Nat} {m c i u : Nat} (h : SM B xl P m c i u) (hi : i ≤ xl.length) : P[i]? = some 0 := at_zero h.2.2.2.1 (by have := h.2.1; omega)
theorem SM.step {B : Nat} {xl P : List Nat} {m c i u x s o : Nat} (h : SM B xl P m c i u) (hx : xl[i]? = some x) (hs : s < B) (ho : o < B) (hm : s + B * o = x * m + u) : SM B xl (P.set i s) m c (i + 1) o := by
  have hi : i < xl.length := (List.getElem?_eq_some_iff.1 hx).1
  have h0 := h.at0 (by omega)
  obtain ⟨h1, h2, h3, h4, h5⟩ := h
  have e1 := val_set0 (B := B) h0 s
  have e2 := val_take_step (B := B) hx
  have e3 : B ^ i * (s + 1) ≤ B ^ i * B := Nat.mul_le_mul_left _ hs
  have e4 : B ^ i * (s + B * o) = B ^ i * s + B ^ (i + 1) * o := by rw [Nat.mul_add, Nat.pow_succ, Nat.mul_assoc]
  refine ⟨h1.set hs _, by simpa using h2, ho, ?_, ?_⟩
  · rw [e1, Nat.pow_succ]; rw [Nat.mul_add] at e3; omega
  · rw [hm, Nat.mul_add] at e4
    rw [e1, e2, Nat.add_mul, Nat.mul_assoc]
    omega
theorem SM.done {B : Nat} {xl P : List Nat} {m c u : Nat} (h : SM B xl P m c xl.length u) : Lt B (P.set xl.length u) ∧ val B xl * m + c = val B (P.set xl.length u) := by
  have h0 := h.at0 (Nat.le_refl _)
  obtain ⟨h1, h2, h3, h4, h5⟩ := h
  rw [List.take_length] at h5
  exact ⟨h1.set h3 _, by rw [val_set0 h0, ← h5]⟩
theorem val_splice {B : Nat} (L cs : List Nat) (off : Nat) (h : off + cs.length ≤ L.length) : val B (splice L off cs) = val B (L.take off) + B ^ off * val B cs + B ^ (off + cs.length) * val B (L.drop (off + cs.length)) := by
  unfold splice
  rw [val_append, val_append, show (L.take off).length = off from by simp; omega, Nat.mul_add, Nat.pow_add, Nat.mul_assoc]; omega
theorem Lt.splice {B : Nat} {L cs : List Nat} {off : Nat} (h : Lt B L) (h' : Lt B cs) : Lt B (splice L off cs) := (h.take off).append (h'.append (h.drop _))
theorem digs_cut_len {B x : Nat} (hB : 2 ≤ B) {h N : Nat} (hx : B ^ h * x < B ^ N) (hh : h ≤ N) : (digs B x).length ≤ N - h := by
  refine digs_len_le hB ?_
  rw [show N = h + (N - h) from by omega, Nat.pow_add] at hx
  exact Nat.lt_of_mul_lt_mul_left hx
/-- What byCuts lays over one another: the product of the lower parts at 0, that of the upper ones at 2h, and what lies crosswise, and what lies there, at h. -/
structure Cuts (B x y h n m : Nat) (lo hi mid : Nat) : Prop where
  hlo : lo = x % B ^ h * (y % B ^ h)
  hhi : hi = x / B ^ h * (y / B ^ h)
  hmid : mid = x % B ^ h * (y / B ^ h) + x / B ^ h * (y % B ^ h)
  hx : x < B ^ n
  hy : y < B ^ m
  hN : 2 * h ≤ n + m
theorem Cuts.all {B x y h n m lo hi mid : Nat} (c : Cuts B x y h n m lo hi mid) : (x % B ^ h + x / B ^ h) * (y % B ^ h + y / B ^ h) = lo + hi + mid := by
  rw [c.hlo, c.hhi, c.hmid, Nat.add_mul, Nat.mul_add, Nat.mul_add]; omega
theorem Cuts.prod {B x y h n m lo hi mid : Nat} (c : Cuts B x y h n m lo hi mid) : x * y = lo + B ^ h * mid + B ^ (2 * h) * hi := by
  have ex := Nat.mod_add_div x (B ^ h)
  have ey := Nat.mod_add_div y (B ^ h)
  rw [c.hlo, c.hhi, c.hmid]
  generalize x % B ^ h = x0 at *
  generalize x / B ^ h = x1 at *
  generalize y % B ^ h = y0 at *
  generalize y / B ^ h = y1 at *
  have e2 : B ^ (2 * h) = B ^ h * B ^ h := by rw [Nat.two_mul, Nat.pow_add]
  rw [e2]
  generalize B ^ h = b at *
  rw [← ex, ← ey]
  simp only [Nat.mul_add, Nat.mul_left_comm, Nat.mul_comm, Nat.add_assoc, Nat.add_comm]
theorem Cuts.lt {B x y h n m lo hi mid : Nat} (c : Cuts B x y h n m lo hi mid) (hB : 2 ≤ B) : x * y < B ^ (n + m) := by
  rw [Nat.pow_add]
  exact Nat.mul_lt_mul'' c.hx c.hy
theorem Cuts.lo_lt {B x y h n m lo hi mid : Nat} (c : Cuts B x y h n m lo hi mid) (hB : 2 ≤ B) : lo < B ^ (2 * h) := by
  have hb : 0 < B ^ h := Nat.pow_pos (by omega)
  rw [c.hlo, Nat.two_mul, Nat.pow_add]
  exact Nat.mul_lt_mul'' (Nat.mod_lt _ hb) (Nat.mod_lt _ hb)
theorem Cuts.lo_len {B x y h n m lo hi mid : Nat} (c : Cuts B x y h n m lo hi mid) (hB : 2 ≤ B) : (digs B lo).length ≤ 2 * h := digs_len_le hB (c.lo_lt hB)
theorem Cuts.hi_len {B x y h n m lo hi mid : Nat} (c : Cuts B x y h n m lo hi mid) (hB : 2 ≤ B) : (digs B hi).length ≤ n + m - 2 * h := by
  have h1 := c.lt hB
  rw [c.prod] at h1
  exact digs_cut_len hB (by omega) c.hN
/-- The row behind the first copy. -/
def cut1 (B N lo : Nat) : List Nat := splice (List.replicate N 0) 0 (digs B lo)
def cut2 (B N h lo hi : Nat) : List Nat := splice (cut1 B N lo) (2 * h) (digs B hi)
def cut3 (B N h lo hi t : Nat) : List Nat := splice (cut2 B N h lo hi) h (digs B t)
theorem Cuts.one {B x y h n m lo hi mid : Nat} (c : Cuts B x y h n m lo hi mid) (hB : 2 ≤ B) : Lt B (cut1 B (n + m) lo) ∧ (cut1 B (n + m) lo).length = n + m ∧ val B (cut1 B (n + m) lo) = lo := by
  have h1 := c.lo_len hB
  have h2 := c.hN
  refine ⟨(Lt.rep (by omega) _).splice (digs_lt hB _), ?_, ?_⟩
  · unfold cut1; rw [length_splice _ _ _ (by simp; omega)]; simp
  · unfold cut1
    rw [val_splice _ _ _ (by simp; omega), List.take_zero, val_nil, val_digs hB, List.drop_replicate, val_rep]; simp
theorem Cuts.two {B x y h n m lo hi mid : Nat} (c : Cuts B x y h n m lo hi mid) (hB : 2 ≤ B) : Lt B (cut2 B (n + m) h lo hi) ∧ (cut2 B (n + m) h lo hi).length = n + m ∧ val B (cut2 B (n + m) h lo hi) = lo + B ^ (2 * h) * hi := by
  obtain ⟨g1, g2, g3⟩ := c.one hB
  have h1 := c.lo_lt hB
  have h2 := c.hN
  have h3 := c.hi_len hB
  have hf : 2 * h + (digs B hi).length ≤ (cut1 B (n + m) lo).length := by omega
  refine ⟨g1.splice (digs_lt hB _), ?_, ?_⟩
  · unfold cut2; rw [length_splice _ _ _ hf, g2]
  · unfold cut2
    rw [val_splice _ _ _ hf, val_take_mod g1 (by omega), g3, Nat.mod_eq_of_lt h1, val_digs hB, val_drop_div' g1 hf, g3]
    have h4 : lo / B ^ (2 * h + (digs B hi).length) = 0 := by
      refine Nat.div_eq_of_lt (Nat.lt_of_lt_of_le h1 (Nat.pow_le_pow_right (by omega) (by omega)))
    rw [h4]; simp
theorem Cuts.mids {B x y h n m lo hi mid : Nat} (c : Cuts B x y h n m lo hi mid) (hB : 2 ≤ B) : val B ((cut2 B (n + m) h lo hi).drop h) = (lo + B ^ (2 * h) * hi) / B ^ h := by
  obtain ⟨g1, g2, g3⟩ := c.two hB
  rw [val_drop_div' g1 (by rw [g2]; have := c.hN; omega), g3]
theorem Cuts.t_eq {B x y h n m lo hi mid t : Nat} (c : Cuts B x y h n m lo hi mid) (hB : 2 ≤ B) (ht : t = (lo + B ^ (2 * h) * hi) / B ^ h + mid) : (lo + B ^ (2 * h) * hi) % B ^ h + B ^ h * t = x * y := by
  have h1 := Nat.mod_add_div (lo + B ^ (2 * h) * hi) (B ^ h)
  rw [c.prod, ht, Nat.mul_add]; omega
theorem Cuts.t_len {B x y h n m lo hi mid t : Nat} (c : Cuts B x y h n m lo hi mid) (hB : 2 ≤ B) (ht : t = (lo + B ^ (2 * h) * hi) / B ^ h + mid) : (digs B t).length ≤ n + m - h := by
  have h1 := c.t_eq hB ht
  have h2 := c.lt hB
  have h3 : B ^ h * t ≤ x * y := by rw [← h1]; exact Nat.le_add_left _ _
  exact digs_cut_len hB (Nat.lt_of_le_of_lt h3 h2) (by have := c.hN; omega)
theorem Cuts.three {B x y h n m lo hi mid t : Nat} (c : Cuts B x y h n m lo hi mid) (hB : 2 ≤ B) (ht : t = (lo + B ^ (2 * h) * hi) / B ^ h + mid) : Lt B (cut3 B (n + m) h lo hi t) ∧ x * y = val B (cut3 B (n + m) h lo hi t) := by
  obtain ⟨g1, g2, g3⟩ := c.two hB
  have h2 := c.hN
  have h3 := c.t_len hB ht
  have hf : h + (digs B t).length ≤ (cut2 B (n + m) h lo hi).length := by omega
  refine ⟨g1.splice (digs_lt hB _), ?_⟩
  unfold cut3
  rw [val_splice _ _ _ hf, val_take_mod g1 (by omega), g3, val_digs hB, val_drop_div' g1 hf, g3, ← c.t_eq hB ht]
  have h5 := digs_lt_pow hB t
  have h4 : (lo + B ^ (2 * h) * hi) / B ^ (h + (digs B t).length) = 0 := by
    rw [Nat.pow_add, ← Nat.div_div_eq_div_mul]
    exact Nat.div_eq_of_lt (by omega)
  rw [h4]; simp
end Go.Proofs.YtpcllhdfalebbaaGreatDoor.num
namespace Go.Proofs.YtpcllhdfalebbaaGreatDoor.mem
open Go.RowKit
set_option linter.unusedVariables false
/-- A row of its full length: its block whole. -/
theorem Own.whole {w : World} {base : Nat} {e : TypeId} {k : IntKind} {g n : Nat} {l : List Nat} (h : Own w base e k (.slice (some ⟨g, 0, none⟩) n n) l) : w.heap[g]? = some (.cells (nv k l).toArray e (0, 0)) ∧ base ≤ g ∧ n = l.length ∧ n ≤ maxLen := by
  obtain rfl := h.len_eq
  rcases h.2 with ⟨h1, _⟩ | ⟨g', cap, cur, h1, hb, hg, hn, hm, hs, ht⟩
  · cases h1
  · injection h1 with h1 h2 h3
    injection h1 with h1
    injection h1 with h1 _ _
    subst h1
    refine ⟨?_, hb, rfl, by omega⟩
    rw [hg, ← ht, List.take_of_length_le (by simp; omega)]
theorem own_of_whole {w : World} {base : Nat} {e : TypeId} {k : IntKind} {g n : Nat} {l : List Nat} (hg : w.heap[g]? = some (.cells (nv k l).toArray e (0, 0))) (hb : base ≤ g) (hn : n = l.length) (hm : n ≤ maxLen) : Own w base e k (.slice (some ⟨g, 0, none⟩) n n) l := by
  subst hn
  refine ⟨by simp [nv], Or.inr ⟨g, _, _, rfl, hb, hg, Nat.le_refl _, hm, by simp [nv], by rw [← nv_len k l]; simp⟩⟩
open Go.Proofs.YtpcllhdfalebbaaGreatDoor.num in
theorem Own.cutEnd {w : World} {base : Nat} {e : TypeId} {k : IntKind} {g n cap m : Nat} {l : List Nat} (h : Own w base e k (.slice (some ⟨g, 0, none⟩) n cap) l) (hm : m ≤ l.length) : Own w base e k (.slice (some ⟨g, 0, none⟩) m cap) (l.take m) := by
  obtain rfl := h.len_eq
  have hl : (l.take m).length = m := by simp; omega
  rcases h.2 with ⟨h1, _⟩ | ⟨g', cap', cur, h1, hb, hg, hn, hmx, hs, ht⟩
  · cases h1
  · injection h1 with h1 h2 h3
    injection h1 with h1
    injection h1 with h1 _ _
    subst h1; subst h3
    refine ⟨by simp [nv], Or.inr ⟨g, cap, cur, by rw [hl], hb, hg, by omega, hmx, hs, ?_⟩⟩
    rw [Nat.mul_one] at ht ⊢
    rw [hl, show nv k (l.take m) = (nv k l).take m from by simp [nv, List.map_take], ← ht, List.take_take, Nat.min_eq_left hm]
open Go.Proofs.YtpcllhdfalebbaaGreatDoor.num in
theorem Own.trimmed {w : World} {base : Nat} {e : TypeId} {k : IntKind} {g n cap : Nat} {l : List Nat} (h : Own w base e k (.slice (some ⟨g, 0, none⟩) n cap) l) : Own w base e k (.slice (some ⟨g, 0, none⟩) (num.trim l).length cap) (num.trim l) := by
  have := h.cutEnd (trim_len_le l)
  rwa [← trim_prefix] at this
end Go.Proofs.YtpcllhdfalebbaaGreatDoor.mem
namespace Go.Proofs.YtpcllhdfalebbaaGreatDoor.nat
open Go.RowKit Go.Proofs.YtpcllhdfalebbaaGreatDoor.num Go.Proofs.YtpcllhdfalebbaaGreatDoor.mem Go.Proofs.YtpcllhdfalebbaaGreatDoor.limb
set_option linter.unusedVariables false
/-- mul.trimmed ends with the same slice, as long as it is without the noughts at its end. -/
def RetCut (A : Option Addr) (c : Nat) (l : List Nat) (w : World) (e : Ending) (w' : World) : Prop := e = .returned (.slice A (trim l).length c) ∧ w' = w
set_option maxHeartbeats 400000 in
theorem mtrimmed_any (A : Option Addr) (n c : Nat) (l : List Nat) (w : World) (hn : n = l.length) (hc : l.length ≤ c) (hm : c ≤ maxLen) (hr : Rd w A .u64 l) :
    Calls Tryz.prog 66 #[.slice A n c] w (RetCut A c l w) := by
  subst hn
  unfold maxLen at hm
  go_enter Tryz.func66, Tryz.ntmps66
  go_wp2
  go_loop [0] (fun vs => ∃ n : Nat, n ≤ l.length ∧ Hid (trim (l.take n) = trim l) ∧ vs = .slice A n c) (fun vs => lenOf vs)
  case atStart => exact ⟨l.length, Nat.le_refl _, by rw [List.take_length]; rfl, rfl⟩
  case round =>
    obtain ⟨n, hn, ht, rfl⟩ := hrel
    by_cases hp : 0 < n
    · obtain ⟨n, rfl⟩ : ∃ m, n = m + 1 := ⟨n - 1, by omega⟩
      obtain ⟨ad, d, rfl, hd, hcell⟩ := hr.at_ (i := n) (by omega)
      have HD := Lib.hid hd
      clear hd
      by_cases hz : d = 0
      · subst hz
        go_wp2
        go_round
        case rel => exact ⟨n, by omega, by have h1 := ht.out; rw [trim_take0 HD.out] at h1; exact h1, rfl⟩
        case measure => simp [lenOf]
      · have hz1 : ((d : Int) == 0) = false := by rw [beq_eq_false_iff_ne]; omega
        have e : trim l = l.take (n + 1) := by have h1 := ht.out; rw [trim_of_take HD.out hz] at h1; exact h1.symm
        have el : (trim l).length = n + 1 := by rw [e]; simp; omega
        have HEL := Lib.hid el
        clear e el hz
        go_wp2
        go_ret
        exact ⟨by rw [HEL.out]; rfl, rfl⟩
    · obtain rfl : n = 0 := by omega
      have e : trim l = [] := by have h1 := ht.out; rw [List.take_zero] at h1; exact h1.symm
      have HE := Lib.hid e
      clear e
      go_wp2
      go_ret
      exact ⟨by rw [HE.out]; rfl, rfl⟩
/-- limb.Mul ends with two limbs that make so much. -/
def RetM (a b c d : Nat) (w : World) (e : Ending) (w' : World) : Prop := ∃ s o : Nat, e = .returned (.tuple #[.int .u64 (s : Int), .int .u64 (o : Int)]) ∧ s < 4294967296 ∧ o < 4294967296 ∧ s + 4294967296 * o = a * (b % 4294967296) + c + d ∧ w = w'
theorem mul_nat (aI bI cI dI : Int) (a b c d : Nat) (w : World) (ha : aI = (a : Int)) (hb : bI = (b : Int)) (hc : cI = (c : Int)) (hd : dI = (d : Int)) (la : a < 4294967296) (lb : b < 18446744073709551616) (lc : c < 4294967296) (ld : d < 4294967296) :
    Calls Tryz.prog 65 #[.int .u64 aI, .int .u64 bI, .int .u64 cI, .int .u64 dI] w (RetM a b c d w) := by
  subst ha; subst hb; subst hc; subst hd
  refine (limb.mul_any _ _ _ _ (by omega) (by omega) (by omega) (by omega) (by omega) (by omega) (by omega) (by omega) w).mono ?_
  rintro e w' ⟨s, o, rfl, hs, rfl⟩
  unfold MulSpec at hs
  obtain ⟨s0, s1, o0, o1, he⟩ := hs
  obtain ⟨s, rfl⟩ := Int.eq_ofNat_of_zero_le s0
  obtain ⟨o, rfl⟩ := Int.eq_ofNat_of_zero_le o0
  refine ⟨s, o, rfl, by omega, by omega, ?_, rfl⟩
  rw [Int.emod_eq_of_lt (by omega) (show (a : Int) < 4294967296 by omega), Int.emod_eq_of_lt (by omega) (show (c : Int) < 4294967296 by omega), Int.emod_eq_of_lt (by omega) (show (d : Int) < 4294967296 by omega)] at he
  have e2 : (b : Int) % 4294967296 = ((b % 4294967296 : Nat) : Int) := by omega
  rw [e2] at he
  have e3 : ((a * (b % 4294967296) : Nat) : Int) = (a : Int) * ((b % 4294967296 : Nat) : Int) := Int.natCast_mul _ _
  omega
set_option maxHeartbeats 1600000 in
theorem long_list (v u : Value) (xl yl : List Nat) (w : World) (h : IsS w .u64 v xl) (h' : IsS w .u64 u yl) (lx : Lt 4294967296 xl) (ly : Lt 4294967296 yl) (hl : xl.length ≤ 1000000) (hl' : yl.length ≤ 1000000) :
    Calls Tryz.prog 122 #[v, u] w (RetS .u64 (digs 4294967296 (val 4294967296 xl * val 4294967296 yl)) w) := by
  obtain ⟨A, c, rfl, hc, hm, hr⟩ := h
  obtain ⟨A', c', rfl, hc', hm', hr'⟩ := h'
  unfold maxLen at hm hm'
  have hgood : ∀ n : Nat, n ≤ 2000000 → n ≤ maxLen := fun n hn => by unfold maxLen; omega
  go_enter Tryz.func122, Tryz.ntmps122
  go_wp2_with (at_make; refine wpList_make_rd rfl _ _ rfl sl24 (xl.length + yl.length) rfl rfl (by omega) (by omega) (by omega) (Nat.le_refl _) ?_; intro w1 hown1 hb1 hsz1)
  go_loopw [20] (fun vi wr => ∃ (i : Nat) (P : List Nat), i ≤ xl.length ∧ LO 4294967296 xl yl P i ∧ Own wr w.heap.size 60 .u64 (.slice (some ⟨w.heap.size, 0, none⟩) (xl.length + yl.length) (xl.length + yl.length)) P ∧ Below w.heap.size w wr ∧ vi = .int .i64 (i : Int)) (fun vi _ => xl.length - (intOf vi).toNat)
  case atStart => exact ⟨0, _, by omega, LO.start (by omega) xl yl rfl, hown1, hb1, rfl⟩
  case round =>
    clear hown1 hb1 hsz1
    obtain ⟨i, P, hi, HO, hown, hb, rfl⟩ := hrel
    by_cases hlt : i < xl.length
    · obtain ⟨ad, x, rfl, hx, hcell⟩ := (hr.below hb).at_ hlt
      have HI := HO.enter (by omega) lx ly hlt x
      have hx1 := lx.at hx
      have HX := Lib.hid hx
      clear hx HO
      go_wp2
      go_loopw [9, 35] (fun vu vj wr => ∃ (j u : Nat) (P : List Nat), j ≤ yl.length ∧ LI 4294967296 xl yl P i x j u ∧ Own wr w.heap.size 60 .u64 (.slice (some ⟨w.heap.size, 0, none⟩) (xl.length + yl.length) (xl.length + yl.length)) P ∧ Below w.heap.size w wr ∧ vu = .int .u64 (u : Int) ∧ vj = .int .i64 (j : Int)) (fun _ vj _ => yl.length - (intOf vj).toNat)
      case atStart => exact ⟨0, 0, P, by omega, HI, hown, hb, rfl, rfl⟩
      case round =>
        clear HI hown hb
        obtain ⟨j, u, P, hj, HI, hown, hb, rfl, rfl⟩ := hrel
        have hu := HI.2.2.1
        have hPl := HI.2.1
        by_cases hjt : j < yl.length
        · obtain ⟨ad', e, rfl, he, hcell'⟩ := (hr'.below hb).at_ hjt
          have he1 := ly.at he
          obtain ⟨d, hd⟩ : ∃ d, P[i + j]? = some d := ⟨_, List.getElem?_eq_getElem (by omega)⟩
          have hd1 := HI.1.at hd
          have hc0 := hown.cellAt hd
          have hf0 := hown.frozenAt (i + j)
          have HE := Lib.hid he
          have HD := Lib.hid hd
          have hPL := Lib.hid hPl
          clear he hd hPl
          go_wp2_with fail
          refine (mul_nat _ _ _ _ x e d u _ rfl rfl rfl rfl hx1 (by omega) hd1 hu).mono ?_
          rintro e1 w2 ⟨s, o, rfl, hs, ho, hm2, rfl⟩
          have HI2 := HI.step HD.out HE.out hs ho (by rw [hm2, Nat.mod_eq_of_lt he1])
          have hown2 := hown.stored (i + j) s
          have hb2 : Below w.heap.size w (wr.setCell ⟨w.heap.size, i + j, none⟩ (.int .u64 (s : Int))) := hb.setCell (Nat.le_refl _) _
          clear hm2
          go_wp2
          go_roundw
          case rel => exact ⟨j + 1, o, _, by omega, HI2, hown2, hb2, rfl, by go_num⟩
          case measure => simp [intOf]; omega
        · obtain rfl : j = yl.length := by omega
          have HO := HI.done HX.out
          have hc0 := hown.cellAt HI.2.2.2.1
          have hf0 := hown.frozenAt (i + yl.length)
          have hown2 := hown.stored (i + yl.length) u
          have hb2 : Below w.heap.size w (wr.setCell ⟨w.heap.size, i + yl.length, none⟩ (.int .u64 (u : Int))) := hb.setCell (Nat.le_refl _) _
          clear HI hPl
          go_wp2
          go_roundw
          case rel => exact ⟨i + 1, _, by omega, HO, hown2, hb2, by go_num⟩
          case measure => simp [intOf]; omega
    · obtain ⟨h1, h2⟩ := HO.done (by omega)
      have hP := HO.2.1
      have hrd := hown.isS
      obtain ⟨A2, c2, e2, hc2, hm2, hr2⟩ := hrd
      injection e2 with e2 e3 e4
      subst e2; subst e4
      have hT := trim_digs (by omega) h1
      rw [← h2] at hT
      have HT := Lib.hid hT
      have HP := Lib.hid hP
      have hfr := hown.fresh
      clear hT hP h2 e3 HO
      go_wp2_with fail
      refine (mtrimmed_any _ _ _ P _ HP.out.symm hc2 hm2 hr2).mono ?_
      rintro e w' ⟨rfl, rfl⟩
      rw [HT.out]
      go_wp2
      go_ret
      refine ⟨_, rfl, ?_, hfr.cut _ _, hb⟩
      have := hr2.isTake (trim_len_le P) hc2 hm2
      rw [← trim_prefix, HT.out] at this
      exact this
theorem long_any (v u : Value) (x y : Nat) (w : World) (h : IsS w .u64 v (digs 4294967296 x)) (h' : IsS w .u64 u (digs 4294967296 y)) (hl : (digs 4294967296 x).length ≤ 1000000) (hl' : (digs 4294967296 y).length ≤ 1000000) (z : Nat) (hz : z = x * y) :
    Calls Tryz.prog 122 #[v, u] w (RetS .u64 (digs 4294967296 z) w) := by
  have := long_list v u _ _ w h h' (digs_lt (by omega) x) (digs_lt (by omega) y) hl hl'
  rw [val_digs (by omega), val_digs (by omega), ← hz] at this
  exact this
theorem add0 (cI : Int) (c : Nat) (w : World) (hc : cI = (c : Int)) (lc : c < 18446744073709551616) :
    Calls Tryz.prog 64 #[.int .u64 cI, .int .u64 0, .int .u64 0] w fun e w' => ∃ o : Int, e = .returned (.tuple #[.int .u64 ((c % 4294967296 : Nat) : Int), .int .u64 o]) ∧ w = w' := by
  subst hc
  refine (limb.add_any _ _ _ (by omega) (by omega) (by omega) (by omega) (by omega) (by omega) w).mono ?_
  rintro e w' ⟨s, o, rfl, hs, rfl⟩
  unfold AddSpec at hs
  obtain rfl : s = ((c % 4294967296 : Nat) : Int) := by omega
  exact ⟨o, rfl, rfl⟩
set_option maxHeartbeats 1600000 in
theorem small_own (v : Value) (x : Nat) (mI cI : Int) (m c : Nat) (w : World) (h : IsS w .u64 v (digs 4294967296 x)) (hl : (digs 4294967296 x).length ≤ 1000000) (hmI : mI = (m : Int)) (hcI : cI = (c : Int)) (lm : m < 18446744073709551616) (lc : c < 18446744073709551616) (z : Nat) (hz : z = x * (m % 4294967296) + c % 4294967296) :
    Calls Tryz.prog 25 #[v, .int .u64 mI, .int .u64 cI] w (RetOwn 60 .u64 (digs 4294967296 z) w) := by
  subst hmI; subst hcI
  have lx := digs_lt (B := 4294967296) (by omega) x
  have HZ : Hid (z = val 4294967296 (digs 4294967296 x) * (m % 4294967296) + c % 4294967296) := by show _ = _; rw [val_digs (by omega)]; exact hz
  clear hz
  generalize digs 4294967296 x = xl at h hl lx HZ
  obtain ⟨A, k, rfl, hk, hm, hr⟩ := h
  unfold maxLen at hm
  have hlm : (m : Int) ≤ 18446744073709551615 := by omega
  have hlc : (c : Int) ≤ 18446744073709551615 := by omega
  go_enter Tryz.func25, Tryz.ntmps25
  go_wp2_with (at_make; refine wpList_make_rd rfl _ _ rfl sl24 (xl.length + 1) rfl rfl (by omega) (by omega) (by omega) (Nat.le_refl _) ?_; intro w1 hown1 hb1 hsz1)
  refine (add0 _ c _ rfl lc).mono ?_
  rintro e w2 ⟨o, rfl, rfl⟩
  go_wp2
  go_loopw [8, 23] (fun vu vi wr => ∃ (i u : Nat) (P : List Nat), i ≤ xl.length ∧ SM 4294967296 xl P (m % 4294967296) (c % 4294967296) i u ∧ Own wr w.heap.size 60 .u64 (.slice (some ⟨w.heap.size, 0, none⟩) (xl.length + 1) (xl.length + 1)) P ∧ Below w.heap.size w wr ∧ vu = .int .u64 (u : Int) ∧ vi = .int .i64 (i : Int)) (fun _ vi _ => xl.length - (intOf vi).toNat)
  case atStart => exact ⟨0, c % 4294967296, _, by omega, SM.start xl _ (by omega) rfl, hown1, hb1, by go_num, rfl⟩
  case round =>
    clear hown1 hb1 hsz1
    obtain ⟨i, u, P, hi, HS, hown, hb, rfl, rfl⟩ := hrel
    have hu := HS.2.2.1
    have hc0 := hown.cellAt (HS.at0 hi)
    have hf0 := hown.frozenAt i
    have hPl : Hid (P.length = xl.length + 1) := HS.2.1
    by_cases hlt : i < xl.length
    · obtain ⟨ad, x, rfl, hx, hcell⟩ := (hr.below hb).at_ hlt
      have hx1 := lx.at hx
      have HX := Lib.hid hx
      clear hx
      go_wp2_with fail
      refine (mul_nat _ _ _ _ x m u 0 _ rfl rfl rfl rfl hx1 lm hu (by omega)).mono ?_
      rintro e1 w2 ⟨s, o, rfl, hs, ho, hm2, rfl⟩
      have HS2 := HS.step HX.out hs ho (by rw [hm2]; omega)
      have hown2 := hown.stored i s
      have hb2 : Below w.heap.size w (wr.setCell ⟨w.heap.size, i, none⟩ (.int .u64 (s : Int))) := hb.setCell (Nat.le_refl _) _
      clear hm2
      go_wp2
      go_roundw
      case rel => exact ⟨i + 1, o, _, by omega, HS2, hown2, hb2, rfl, by go_num⟩
      case measure => simp [intOf]; omega
    · obtain rfl : i = xl.length := by omega
      obtain ⟨h1, h2⟩ := HS.done
      rw [← HZ.out] at h2
      have hT := trim_digs (by omega) h1
      rw [← h2] at hT
      have HT := Lib.hid hT
      have hown2 := hown.stored xl.length u
      have hb2 : Below w.heap.size w (wr.setCell ⟨w.heap.size, xl.length, none⟩ (.int .u64 (u : Int))) := hb.setCell (Nat.le_refl _) _
      obtain ⟨A2, c2, e2, hc2, hm2, hr2⟩ := hown2.isS
      injection e2 with e2 e3 e4
      subst e2; subst e4
      have hownT := hown2.trimmed
      rw [hT] at hownT
      have HE := Lib.hid e3
      clear hT h2 HS e3
      go_wp2_with fail
      refine (mtrimmed_any _ _ _ (P.set xl.length u) _ HE.out hc2 hm2 hr2).mono ?_
      rintro e w' ⟨rfl, rfl⟩
      rw [HT.out]
      go_wp2
      go_ret
      exact ⟨_, rfl, hownT, hb2⟩
theorem small_any (v : Value) (x : Nat) (mI cI : Int) (m c : Nat) (w : World) (h : IsS w .u64 v (digs 4294967296 x)) (hl : (digs 4294967296 x).length ≤ 1000000) (hmI : mI = (m : Int)) (hcI : cI = (c : Int)) (lm : m < 18446744073709551616) (lc : c < 18446744073709551616) (z : Nat) (hz : z = x * (m % 4294967296) + c % 4294967296) :
    Calls Tryz.prog 25 #[v, .int .u64 mI, .int .u64 cI] w (RetS .u64 (digs 4294967296 z) w) :=
  (small_own v x mI cI m c w h hl hmI hcI lm lc z hz).mono fun e w' ⟨v', he, hown, hb⟩ => ⟨v', he, hown.isS, hown.fresh, hb⟩
end Go.Proofs.YtpcllhdfalebbaaGreatDoor.nat
namespace Go.Proofs.YtpcllhdfalebbaaGreatDoor.mem
open Go.RowKit
set_option linter.unusedVariables false
open Go.Proofs.YtpcllhdfalebbaaGreatDoor.num in
theorem Rd.isTrim {w : World} {A : Option Addr} {k : IntKind} {l : List Nat} {c : Nat} (h : Rd w A k l) (hc : l.length ≤ c) (hm : c ≤ maxLen) : IsS w k (.slice A (trim l).length c) (trim l) := by
  have := h.isTake (trim_len_le l) hc hm
  rwa [← trim_prefix] at this
end Go.Proofs.YtpcllhdfalebbaaGreatDoor.mem
namespace Go.Proofs.YtpcllhdfalebbaaGreatDoor.nat
open Go.RowKit Go.Proofs.YtpcllhdfalebbaaGreatDoor.num Go.Proofs.YtpcllhdfalebbaaGreatDoor.mem Go.Proofs.YtpcllhdfalebbaaGreatDoor.limb
set_option linter.unusedVariables false
/-- mul.cut ends with the lower part and the upper one, both in the memory of what was cut; it only read. -/
def RetLH (x n : Nat) (w : World) (e : Ending) (w' : World) : Prop := ∃ v u k, e = .returned (.tuple #[v, u]) ∧ IsS w .u64 v (digs 4294967296 (x % 4294967296 ^ n)) ∧ IsS w .u64 u (digs 4294967296 (x / 4294967296 ^ n)) ∧ w' = w.drewN k
theorem take_mod {x n m : Nat} (hm : m = min n (digs 4294967296 x).length) : val 4294967296 ((digs 4294967296 x).take m) = x % 4294967296 ^ n := by
  have hlt := digs_lt (B := 4294967296) (by omega) x
  rw [val_take_mod hlt (by omega), val_digs (by omega)]
  by_cases h : n ≤ (digs 4294967296 x).length
  · rw [hm, Nat.min_eq_left h]
  · rw [hm, Nat.min_eq_right (by omega)]
    have h1 := digs_lt_pow (B := 4294967296) (by omega) x
    have h2 := Nat.pow_le_pow_right (n := 4294967296) (by omega) (show (digs 4294967296 x).length ≤ n by omega)
    rw [Nat.mod_eq_of_lt h1, Nat.mod_eq_of_lt (by omega)]
theorem drop_div {x n m : Nat} (hm : m = min n (digs 4294967296 x).length) : (digs 4294967296 x).drop m = digs 4294967296 (x / 4294967296 ^ n) := by
  have hlt := digs_lt (B := 4294967296) (by omega) x
  have h0 : val 4294967296 ((digs 4294967296 x).drop m) = x / 4294967296 ^ n := by
    rw [val_drop_div' hlt (by omega), val_digs (by omega)]
    by_cases h : n ≤ (digs 4294967296 x).length
    · rw [hm, Nat.min_eq_left h]
    · rw [hm, Nat.min_eq_right (by omega)]
      have h1 := digs_lt_pow (B := 4294967296) (by omega) x
      have h2 := Nat.pow_le_pow_right (n := 4294967296) (by omega) (show (digs 4294967296 x).length ≤ n by omega)
      rw [Nat.div_eq_of_lt h1, Nat.div_eq_of_lt (by omega)]
  rw [← h0, ← trim_digs (by omega) (hlt.drop m)]
  generalize hd : (digs 4294967296 x).drop m = l
  rcases List.eq_nil_or_concat l with rfl | ⟨l', d, rfl⟩
  · rfl
  · rw [List.concat_eq_append] at hd ⊢
    refine (trim_snoc l' ?_).symm
    have hl : ((digs 4294967296 x).drop m).length = l'.length + 1 := by rw [hd]; simp
    rw [List.length_drop] at hl
    refine digs_last (B := 4294967296) (by omega) x (n := m + l'.length) (d := d) (by omega) ?_
    rw [← List.getElem?_drop, hd]; simp
set_option maxHeartbeats 800000 in
theorem cut_any (v : Value) (x : Nat) (nI : Int) (n : Nat) (w : World) (hn : nI = (n : Int)) (h : IsS w .u64 v (digs 4294967296 x)) (hl : (digs 4294967296 x).length ≤ 1000000) (hn2 : n ≤ 1000000) :
    Calls Tryz.prog 123 #[v, .int .i64 nI] w (RetLH x n w) := by
  subst hn
  have hlt := digs_lt (B := 4294967296) (by omega) x
  obtain ⟨m, hm⟩ : ∃ m, m = min n (digs 4294967296 x).length := ⟨_, rfl⟩
  have HT : Hid (trim ((digs 4294967296 x).take m) = digs 4294967296 (x % 4294967296 ^ n)) := by
    show _ = _; rw [trim_digs (by omega) (hlt.take m), take_mod hm]
  have HD := Lib.hid (drop_div hm)
  have hml : m ≤ (digs 4294967296 x).length := by omega
  generalize digs 4294967296 x = xl at h hl hlt HT HD hml hm
  obtain ⟨A, c, rfl, hc, hmx, hr⟩ := h
  have hmx2 := hmx
  unfold maxLen at hmx
  rcases (show (n ≤ xl.length ∧ m = n) ∨ (xl.length < n ∧ m = xl.length) by omega) with ⟨hc1, rfl⟩ | ⟨hc1, rfl⟩
  · have hmn : ¬ ((xl.length : Int) < (m : Int)) := by omega
    clear hm
    go_enter Tryz.func123, Tryz.ntmps123
    have htk : (xl.take m).length = m := by simp; omega
    have HK := Lib.hid htk
    clear htk
    go_wp2
    go_quiet ((go_at_call 66; exact Calls.quiet_of_same (mtrimmed_any A _ c (xl.take m) _ HK.out.symm (by rw [HK.out]; omega) hmx2 (hr.take m))))
    go_wp2
    all_goals
      go_ret2
      refine ⟨_, _, _, rfl, ?_, ?_, rfl⟩
      · rw [← HT.out]; exact (hr.take m).isTrim (by rw [HK.out]; omega) (by omega)
      · rw [← HD.out]; first | exact hr.isDrop hc hmx2 hml | exact isEmpty_ (by omega) (by omega) (by omega)
  · have hmn : (xl.length : Int) < (n : Int) := by omega
    clear hm
    have htk : xl.take xl.length = xl := List.take_length
    rw [htk] at HT
    clear htk
    go_enter Tryz.func123, Tryz.ntmps123
    go_wp2
    go_quiet ((go_at_call 66; exact Calls.quiet_of_same (mtrimmed_any A _ c xl _ rfl hc hmx2 hr)))
    go_wp2
    all_goals
      go_ret2
      refine ⟨_, _, _, rfl, ?_, ?_, rfl⟩
      · rw [← HT.out]; exact hr.isTrim (by omega) (by omega)
      · rw [← HD.out]; first | exact isEmpty_ (by omega) (by omega) (by omega)
end Go.Proofs.YtpcllhdfalebbaaGreatDoor.nat
namespace Go.Proofs.YtpcllhdfalebbaaGreatDoor.mem
open Go.RowKit Go.Proofs.YtpcllhdfalebbaaGreatDoor.num
set_option linter.unusedVariables false
/-- A row read from place d on. -/
theorem Own.dropAt {w : World} {base : Nat} {e : TypeId} {k : IntKind} {g n cap : Nat} {l : List Nat} (h : Own w base e k (.slice (some ⟨g, 0, none⟩) n cap) l) (d : Nat) : Rd w (some ⟨g, d, none⟩) k (l.drop d) := by
  intro i x hx
  rw [List.getElem?_drop] at hx
  refine ⟨_, rfl, ?_⟩
  have ha : (⟨g, d, none⟩ : Addr).add i = ⟨g, d + i, none⟩ := by unfold Addr.add; split <;> simp_all
  rw [ha]; exact h.cellAt hx
theorem nv_splice (k : IntKind) (l m : List Nat) (off : Nat) : splice (nv k l) off (nv k m) = nv k (splice l off m) := by simp [splice, nv]
section
variable {P : Program}
/-- 'copy(dst, src)', dst lying in a row of the call's own, of its full length. -/
theorem wpList_copy_rd {w : World} {ops : Array Oper} {rest : List Oper} {o : Oper} {a : Act} {Q : Exit → Act → World → Prop} (hgd : o.guard = none) (d s : Operand) {t : TypeId}
    (ho : o.op = .call { callee := .builtin .copy, args := #[d, s], argTypes := #[t, t] })
    {base : Nat} {e : TypeId} {k : IntKind} (hT : SliceT P t e k) {g n : Nat} {l m : List Nat} (hown : Own w base e k (.slice (some ⟨g, 0, none⟩) n n) l)
    {dp sp : Option Addr} {dLen dCap sLen sCap : Nat} (hd : a.eval d = .slice dp dLen dCap) (hs : a.eval s = .slice sp sLen sCap) (off : Nat) (hdp : 0 < m.length → dp = some ⟨g, off, none⟩) (hsl : sLen = m.length) (hle : m.length ≤ dLen) (hfit : off + m.length ≤ l.length) (hr : Rd w sp k m)
    (h : ∀ w', Own w' base e k (.slice (some ⟨g, 0, none⟩) n n) (splice l off m) → Below base w w' → ∀ v, wpList P ops Q rest (a.put o.dst v) w') : wpList P ops Q (o :: rest) a w := by
  obtain ⟨i, hi, _, hsz, _⟩ := hT.info
  obtain ⟨hg, hb, hn, hm⟩ := hown.whole
  refine wpList_copy_splice hgd d s t t ho e hT.und (by rw [hi]; simp [hsz]) dp sp dLen dCap sLen sCap hd hs g off (nv k l) e hg (nv k m) (by rw [nv_len]; simp only [Nat.min_def]; split <;> omega) ?_ (by rw [nv_len, nv_len]; exact hfit) (nv_one k m) base w (Below.refl _ _) hb ?_
  · intro h0
    rw [nv_len] at h0
    obtain ⟨ad, hA, _⟩ := hr 0 _ (List.getElem?_eq_getElem h0)
    refine ⟨hdp h0, ad, hA, fun j v hj => ?_⟩
    simp only [nv, List.getElem?_map, Option.map_eq_some_iff] at hj
    obtain ⟨x, hx, rfl⟩ := hj
    obtain ⟨ad', h1, h2⟩ := hr j x hx
    rw [hA] at h1; injection h1 with h1; subst h1
    exact h2
  · intro w' hw hbw
    have hw := hw.out
    rw [nv_splice] at hw
    exact h w' (own_of_whole hw hb (by rw [length_splice _ _ _ hfit]; exact hn) hm) hbw _
/-- The same as one step of a region that draws its order. -/
theorem step_copy_rd {w : World} {ops : Array Oper} {o : Oper} {a : Act} {K : Act → World → Prop} {Q : Exit → Act → World → Prop} {E : Prop} (hgd : o.guard = none) (d s : Operand) {t : TypeId}
    (ho : o.op = .call { callee := .builtin .copy, args := #[d, s], argTypes := #[t, t] })
    {base : Nat} {e : TypeId} {k : IntKind} (hT : SliceT P t e k) {g n : Nat} {l m : List Nat} (hown : Own w base e k (.slice (some ⟨g, 0, none⟩) n n) l)
    {dp sp : Option Addr} {dLen dCap sLen sCap : Nat} (hd : a.eval d = .slice dp dLen dCap) (hs : a.eval s = .slice sp sLen sCap) (off : Nat) (hdp : 0 < m.length → dp = some ⟨g, off, none⟩) (hsl : sLen = m.length) (hle : m.length ≤ dLen) (hfit : off + m.length ≤ l.length) (hr : Rd w sp k m)
    (h : ∀ w', Own w' base e k (.slice (some ⟨g, 0, none⟩) n n) (splice l off m) → Below base w w' → K (a.put o.dst (goInt m.length)) w') :
    if Region.wanted o (yielded ops a.tmps) = true then Oper.wp P o a w K Q else E := by
  obtain ⟨i, hi, _, hsz, _⟩ := hT.info
  obtain ⟨hg, hb, hn, hm⟩ := hown.whole
  refine step_copy_splice hgd d s t t ho e hT.und (by rw [hi]; simp [hsz]) dp sp dLen dCap sLen sCap hd hs g off (nv k l) e hg (nv k m) (by rw [nv_len]; simp only [Nat.min_def]; split <;> omega) ?_ (by rw [nv_len, nv_len]; exact hfit) (nv_one k m) base w (Below.refl _ _) hb ?_
  · intro h0
    rw [nv_len] at h0
    obtain ⟨ad, hA, _⟩ := hr 0 _ (List.getElem?_eq_getElem h0)
    refine ⟨hdp h0, ad, hA, fun j v hj => ?_⟩
    simp only [nv, List.getElem?_map, Option.map_eq_some_iff] at hj
    obtain ⟨x, hx, rfl⟩ := hj
    obtain ⟨ad', h1, h2⟩ := hr j x hx
    rw [hA] at h1; injection h1 with h1; subst h1
    exact h2
  · intro w' hw hbw
    have hw := hw.out
    rw [nv_splice] at hw
    have := h w' (own_of_whole hw hb (by rw [length_splice _ _ _ hfit]; exact hn) hm) hbw
    rwa [nv_len]
end
end Go.Proofs.YtpcllhdfalebbaaGreatDoor.mem
namespace Go.Proofs.YtpcllhdfalebbaaGreatDoor.nat
open Go.RowKit Go.Proofs.YtpcllhdfalebbaaGreatDoor.num Go.Proofs.YtpcllhdfalebbaaGreatDoor.mem Go.Proofs.YtpcllhdfalebbaaGreatDoor.limb
set_option linter.unusedVariables false
/-- What byCuts cuts: at h, half of the longer one. -/
theorem half_len {x h : Nat} (hh : (digs 4294967296 x).length ≤ 2 * h) : (digs 4294967296 (x % 4294967296 ^ h)).length ≤ h ∧ (digs 4294967296 (x / 4294967296 ^ h)).length ≤ (digs 4294967296 x).length - h ∧ (digs 4294967296 (x % 4294967296 ^ h + x / 4294967296 ^ h)).length ≤ h + 1 := by
  have hp : 0 < 4294967296 ^ h := Nat.pow_pos (by omega)
  have h1 : x % 4294967296 ^ h < 4294967296 ^ h := Nat.mod_lt _ hp
  have h2 : (digs 4294967296 (x / 4294967296 ^ h)).length ≤ (digs 4294967296 x).length - h := by
    rw [← drop_div (m := min h (digs 4294967296 x).length) rfl, List.length_drop]; omega
  have h3 := digs_lt_pow (B := 4294967296) (by omega) (x / 4294967296 ^ h)
  have h4 := Nat.pow_le_pow_right (n := 4294967296) (by omega) (show (digs 4294967296 (x / 4294967296 ^ h)).length ≤ h by omega)
  refine ⟨digs_len_le (by omega) h1, h2, digs_len_le (by omega) ?_⟩
  rw [Nat.pow_succ]; omega
/-- byCuts is the product of numbers of fewer than K limbs. -/
def ByC (least K : Nat) : Prop := ∀ (x y : Nat) (v u : Value) (w : World), (digs 4294967296 x).length < K → (digs 4294967296 y).length < K → IsS w .u64 v (digs 4294967296 x) → IsS w .u64 u (digs 4294967296 y) →
  Calls Tryz.prog 102 #[v, u, .int .i64 (least : Int)] w (RetS .u64 (digs 4294967296 (x * y)) w)
set_option maxHeartbeats 800000 in
theorem byCuts_few (least : Nat) (hl2 : least ≤ 1000) (x y : Nat) (v u : Value) (w : World) (hx : (digs 4294967296 x).length ≤ 100000) (hy : (digs 4294967296 y).length ≤ 100000) (h : IsS w .u64 v (digs 4294967296 x)) (h' : IsS w .u64 u (digs 4294967296 y))
    (hf : (digs 4294967296 x).length < least ∨ (digs 4294967296 y).length < least) :
    Calls Tryz.prog 102 #[v, u, .int .i64 (least : Int)] w (RetS .u64 (digs 4294967296 (x * y)) w) := by
  obtain ⟨A1, c1, rfl, _⟩ := id h
  obtain ⟨A2, c2, rfl, _⟩ := id h'
  by_cases hle : (digs 4294967296 x).length ≤ (digs 4294967296 y).length
  · have hlt : (digs 4294967296 x).length < least := by omega
    clear hf
    go_enter Tryz.func102, Tryz.ntmps102
    go_wp2_with fail
    all_goals
      refine (long_any _ _ x y _ h h' (by omega) (by omega) (x * y) rfl).mono ?_
      rintro e w1 ⟨v1, rfl, k1, f1, b1⟩
      go_wp2
      go_ret
      exact ⟨_, rfl, k1, f1, b1⟩
  · have hlt : (digs 4294967296 y).length < least := by omega
    clear hf
    go_enter Tryz.func102, Tryz.ntmps102
    go_wp2_with fail
    all_goals
      refine (long_any _ _ x y _ h h' (by omega) (by omega) (x * y) rfl).mono ?_
      rintro e w1 ⟨v1, rfl, k1, f1, b1⟩
      go_wp2
      go_ret
      exact ⟨_, rfl, k1, f1, b1⟩
theorem mul_len (a b : Nat) : (digs 4294967296 (a * b)).length ≤ (digs 4294967296 a).length + (digs 4294967296 b).length := by
  refine digs_len_le (by omega) ?_
  rw [Nat.pow_add]
  exact Nat.mul_lt_mul'' (digs_lt_pow (by omega) a) (digs_lt_pow (by omega) b)
set_option maxHeartbeats 6400000 in
set_option maxRecDepth 100000 in
theorem byCuts_step (least K : Nat) (h4 : 4 ≤ least) (hl2 : least ≤ 1000) (hK : K ≤ 100000) (ih : ByC least K) : ByC least (K + 1) := by
  intro x y v u w hx hy h h'
  by_cases hf : (digs 4294967296 x).length < least ∨ (digs 4294967296 y).length < least
  · exact byCuts_few least hl2 x y v u w (by omega) (by omega) h h' hf
  have hf1 : least ≤ (digs 4294967296 x).length := by omega
  have hf2 : least ≤ (digs 4294967296 y).length := by omega
  clear hf
  obtain ⟨d, hd⟩ : ∃ d, d = (max (digs 4294967296 x).length (digs 4294967296 y).length + 1) / 2 := ⟨_, rfl⟩
  have e1 : (digs 4294967296 x).length ≤ 2 * d := by omega
  have e2 : (digs 4294967296 y).length ≤ 2 * d := by omega
  have e3 : d + 1 < K := by omega
  have e4 : 2 * d < (digs 4294967296 x).length + (digs 4294967296 y).length := by omega
  have e5 : 2 ≤ d := by omega
  obtain ⟨a1, a2, a3⟩ := half_len e1
  obtain ⟨a4, a5, a6⟩ := half_len e2
  have gx := digs_lt_pow (B := 4294967296) (by omega) x
  have gy := digs_lt_pow (B := 4294967296) (by omega) y
  obtain ⟨x0, hx0⟩ : ∃ t, t = x % 4294967296 ^ d := ⟨_, rfl⟩
  obtain ⟨x1, hx1⟩ : ∃ t, t = x / 4294967296 ^ d := ⟨_, rfl⟩
  obtain ⟨y0, hy0⟩ : ∃ t, t = y % 4294967296 ^ d := ⟨_, rfl⟩
  obtain ⟨y1, hy1⟩ : ∃ t, t = y / 4294967296 ^ d := ⟨_, rfl⟩
  obtain ⟨lo, hlo⟩ : ∃ t, t = x0 * y0 := ⟨_, rfl⟩
  obtain ⟨hi, hhi⟩ : ∃ t, t = x1 * y1 := ⟨_, rfl⟩
  obtain ⟨mid, hmid⟩ : ∃ t, t = x0 * y1 + x1 * y0 := ⟨_, rfl⟩
  obtain ⟨al, hal⟩ : ∃ t, t = (x0 + x1) * (y0 + y1) := ⟨_, rfl⟩
  obtain ⟨q, hq⟩ : ∃ q, q = (lo + 4294967296 ^ (2 * d) * hi) / 4294967296 ^ d := ⟨_, rfl⟩
  have C : Cuts 4294967296 x y d (digs 4294967296 x).length (digs 4294967296 y).length lo hi mid := by
    subst hx0; subst hx1; subst hy0; subst hy1
    exact ⟨hlo, hhi, hmid, gx, gy, by omega⟩
  rw [← hx0] at a1 a3
  rw [← hx1] at a2 a3
  rw [← hy0] at a4 a6
  rw [← hy1] at a5 a6
  have c1 : lo + hi + mid = al := by rw [hal, hx0, hx1, hy0, hy1]; exact C.all.symm
  have c2 : (digs 4294967296 al).length ≤ 2 * d + 2 := by rw [hal]; have := mul_len (x0 + x1) (y0 + y1); omega
  have c3 : (digs 4294967296 (lo + hi)).length ≤ 2 * d + 2 := by have := digs_len_mono (B := 4294967296) (by omega) (show lo + hi ≤ al by omega); omega
  have c4 := C.lo_len (by omega)
  have c5 := C.hi_len (by omega)
  have c6 := C.t_len (by omega) (t := q + mid) (by rw [hq])
  have c7 := C.one (by omega)
  have c8 := C.two (by omega)
  have c9 := C.mids (by omega)
  rw [← hq] at c9
  have c10 := C.three (by omega) (t := q + mid) (by rw [hq])
  have HX0 := Lib.hid hx0
  have HX1 := Lib.hid hx1
  have HY0 := Lib.hid hy0
  have HY1 := Lib.hid hy1
  have HLO := Lib.hid hlo
  have HHI := Lib.hid hhi
  have HAL := Lib.hid hal
  have HMID : Hid (mid = al - (lo + hi)) := by show _ = _; omega
  have HLE : Hid (lo + hi ≤ al) := by show _ ≤ _; omega
  have H7 := Lib.hid c7
  have H8 := Lib.hid c8
  have H9 := Lib.hid c9
  have H10 := Lib.hid c10
  clear hx0 hx1 hy0 hy1 hlo hhi hal hmid hq gx gy C c1 c7 c8 c9 c10
  have HD := Lib.hid hd
  clear hd
  obtain ⟨A1, C1, rfl, _⟩ := id h
  obtain ⟨A2, C2, rfl, _⟩ := id h'
  have hcases : ((digs 4294967296 x).length < (digs 4294967296 y).length ∧ (((digs 4294967296 y).length + 1 : Int) / 2 = (d : Int))) ∨ (((digs 4294967296 y).length ≤ (digs 4294967296 x).length ∧ (digs 4294967296 x).length ≤ (digs 4294967296 y).length) ∧ (((digs 4294967296 x).length + 1 : Int) / 2 = (d : Int))) ∨ ((digs 4294967296 y).length < (digs 4294967296 x).length ∧ (((digs 4294967296 x).length + 1 : Int) / 2 = (d : Int))) := by have := HD.out; omega
  rcases hcases with ⟨hle, hhI⟩ | ⟨⟨hle, hle2⟩, hhI⟩ | ⟨hle, hhI⟩
  all_goals
    go_enter Tryz.func102, Tryz.ntmps102
    go_wp2_with fail
    rw [hhI]
    have HH := Lib.hid hhI
    clear hhI
    have B0 : Below w.heap.size w w := Below.refl _ _
    refine (cut_any _ x _ d _ rfl h (by omega) (by omega)).mono ?_
    rintro e w1 ⟨vx0, vx1, n1, rfl, kx0, kx1, rfl⟩
    rw [← HX0.out] at kx0
    rw [← HX1.out] at kx1
    replace B0 := below_drewN B0 n1
    go_wp2_with fail
    refine (cut_any _ y _ d _ rfl (h'.below B0) (by omega) (by omega)).mono ?_
    rintro e w2 ⟨vy0, vy1, n2, rfl, ky0, ky1, rfl⟩
    rw [← HY0.out] at ky0
    rw [← HY1.out] at ky1
    replace ky0 : IsS w .u64 vy0 (digs 4294967296 y0) := ky0
    replace ky1 : IsS w .u64 vy1 (digs 4294967296 y1) := ky1
    replace B0 : Below w.heap.size w (w.drewN (n1 + n2)) := below_drewN (Below.refl _ _) _
    replace kx0 := kx0.below B0
    replace kx1 := kx1.below B0
    replace ky0 := ky0.below B0
    replace ky1 := ky1.below B0
    go_wp2_with fail
    refine (ih x0 y0 _ _ _ (by omega) (by omega) kx0 ky0).mono ?_
    rintro e w4 ⟨vl, rfl, kl, fl, b4⟩
    rw [← HLO.out] at kl
    replace B0 := B0.trans (b4.mono B0.size)
    replace kx0 := kx0.below b4
    replace kx1 := kx1.below b4
    replace ky0 := ky0.below b4
    replace ky1 := ky1.below b4
    go_wp2_with fail
    refine (ih x1 y1 _ _ _ (by omega) (by omega) kx1 ky1).mono ?_
    rintro e w5 ⟨vh, rfl, kh, fh, b5⟩
    rw [← HHI.out] at kh
    replace B0 := B0.trans (b5.mono B0.size)
    replace kx0 := kx0.below b5
    replace kx1 := kx1.below b5
    replace ky0 := ky0.below b5
    replace ky1 := ky1.below b5
    replace kl := kl.below b5
    go_wp2_with fail
    refine (add_any _ _ x0 x1 _ kx0 kx1 (x0 + x1) rfl (by omega)).mono ?_
    rintro e w6 ⟨vsx, rfl, ksx, fsx, b6⟩
    replace B0 := B0.trans (b6.mono B0.size)
    replace ky0 := ky0.below b6
    replace ky1 := ky1.below b6
    replace kl := kl.below b6
    replace kh := kh.below b6
    go_wp2_with fail
    refine (add_any _ _ y0 y1 _ ky0 ky1 (y0 + y1) rfl (by omega)).mono ?_
    rintro e w7 ⟨vsy, rfl, ksy, fsy, b7⟩
    replace B0 := B0.trans (b7.mono B0.size)
    replace ksx := ksx.below b7
    replace kl := kl.below b7
    replace kh := kh.below b7
    go_wp2_with fail
    refine (ih (x0 + x1) (y0 + y1) _ _ _ (by omega) (by omega) ksx ksy).mono ?_
    rintro e w8 ⟨va, rfl, ka, fa, b8⟩
    rw [← HAL.out] at ka
    replace B0 := B0.trans (b8.mono B0.size)
    replace kl := kl.below b8
    replace kh := kh.below b8
    go_wp2_with fail
    refine (add_any _ _ lo hi _ kl kh (lo + hi) rfl (by omega)).mono ?_
    rintro e w9 ⟨vs, rfl, ks, fs, b9⟩
    replace B0 := B0.trans (b9.mono B0.size)
    replace ka := ka.below b9
    replace kl := kl.below b9
    replace kh := kh.below b9
    go_wp2_with fail
    refine (sub_ok _ _ al (lo + hi) _ ka ks (by omega) HLE.out mid HMID.out).mono ?_
    rintro e w10 ⟨vm, rfl, km, fm, b10⟩
    replace B0 := B0.trans (b10.mono B0.size)
    replace kl := kl.below b10
    replace kh := kh.below b10
    obtain ⟨Al, Cl, rfl, hcl, hml, hrl⟩ := kl
    obtain ⟨Ah, Ch, rfl, hch, hmh, hrh⟩ := kh
    clear b4 b5 b6 b7 b8 b9 b10
    have hfit1 : 0 + (digs 4294967296 lo).length ≤ (List.replicate ((digs 4294967296 x).length + (digs 4294967296 y).length) 0).length := by simp; omega
    have HF1 := Lib.hid hfit1
    have hfit2 : 2 * d + (digs 4294967296 hi).length ≤ (cut1 4294967296 ((digs 4294967296 x).length + (digs 4294967296 y).length) lo).length := by rw [H7.out.2.1]; omega
    have HF2 := Lib.hid hfit2
    clear hfit1 hfit2
    go_wp2_with (first
      | (at_make; refine wpList_make_rd rfl _ _ rfl sl24 ((digs 4294967296 x).length + (digs 4294967296 y).length) rfl rfl (by omega) (by omega) (by omega) (Nat.le_refl _) ?_; intro w11 hown11 hb11 hs11)
      | ((with_reducible refine wpList_copy_rd rfl (.tmp 77) (.tmp 78) rfl sl24 hown11 rfl rfl 0 (fun _ => rfl) rfl (by omega) HF1.out (hrl.below hb11) ?_); intro w12 hown12 hb12 r12; have hown12b : Own w12 _ 60 .u64 _ (cut1 4294967296 ((digs 4294967296 x).length + (digs 4294967296 y).length) lo) := hown12; have hb12b := hb11.trans hb12)
      | ((with_reducible refine wpList_copy_rd rfl (.tmp 83) (.tmp 84) rfl sl24 hown12b rfl rfl (2 * d) (fun _ => rfl) rfl (by omega) HF2.out (hrh.below hb12b) ?_); intro w13 hown13 hb13 r13; have hown13b : Own w13 _ 60 .u64 _ (cut2 4294967296 ((digs 4294967296 x).length + (digs 4294967296 y).length) d lo hi) := hown13; have hb13b := hb12b.trans hb13))
    have hd1 := hown13b.dropAt d
    have hq1 : trim ((cut2 4294967296 ((digs 4294967296 x).length + (digs 4294967296 y).length) d lo hi).drop d) = digs 4294967296 q := by
      rw [trim_digs (by omega) (H8.out.1.drop d), H9.out]
    have hdl : (digs 4294967296 x).length + (digs 4294967296 y).length - d = ((cut2 4294967296 ((digs 4294967296 x).length + (digs 4294967296 y).length) d lo hi).drop d).length := by rw [List.length_drop, H8.out.2.1]
    have kq := hd1.isTrim (c := (digs 4294967296 x).length + (digs 4294967296 y).length - d) (by omega) (by unfold maxLen; omega)
    rw [hq1] at kq
    have HQ1 := Lib.hid hq1
    have HDL := Lib.hid hdl
    replace km := km.below hb13b
    have hfit3 : d + (digs 4294967296 (q + mid)).length ≤ (cut2 4294967296 ((digs 4294967296 x).length + (digs 4294967296 y).length) d lo hi).length := by rw [H8.out.2.1]; omega
    have HF3 := Lib.hid hfit3
    clear hq1 hdl hfit3
    have hdI : (d : Int) ≤ ((digs 4294967296 x).length : Int) + ((digs 4294967296 y).length : Int) := by omega
    have hdN : ¬ (digs 4294967296 x).length + (digs 4294967296 y).length = d := by omega
    go_region_law (first
      | (refine step_copy_rd rfl (.tmp 88) (.tmp 94) rfl sl24 hown15 (by rfl) (by rfl) d (fun _ => by rfl) rfl (by omega) HF3.out hrt ?_; intro w16 hown16 hb16)
      | (go_simp; go_at_call 66; refine (mtrimmed_any _ _ _ _ _ HDL.out (by rw [← HDL.out]; omega) (by unfold maxLen; omega) (by exact hd1)).mono ?_; rintro e w14 ⟨rfl, rfl⟩; rw [HQ1.out])
      | (go_simp; go_at_call 124; refine (add_any _ _ q mid _ (by exact kq) (by exact km) (q + mid) rfl (by omega)).mono ?_; rintro e w15 ⟨vt, rfl, kt, ft, b15⟩; obtain ⟨At, Ct, rfl, hct, hmt, hrt⟩ := kt; have hown15 := Own.below (by exact hown13b) b15; have hb15 := (by first | exact hb13b.trans (b15.mono hb13b.size) | exact hb13b.drew.trans (b15.mono hb13b.drew.size) | exact hb13b.drew.drew.trans (b15.mono hb13b.drew.drew.size) : Below w10.heap.size w10 w15)))
    all_goals
      have hownF : Own w16 w10.heap.size 60 .u64 (.slice (some ⟨w10.heap.size, 0, none⟩) ((digs 4294967296 x).length + (digs 4294967296 y).length) ((digs 4294967296 x).length + (digs 4294967296 y).length)) (cut3 4294967296 ((digs 4294967296 x).length + (digs 4294967296 y).length) d lo hi (q + mid)) := hown16
      have hT : trim (cut3 4294967296 ((digs 4294967296 x).length + (digs 4294967296 y).length) d lo hi (q + mid)) = digs 4294967296 (x * y) := by rw [trim_digs (by omega) H10.out.1, ← H10.out.2]
      have HT := Lib.hid hT
      have hlen := hownF.len_eq
      have hmx := hownF.whole.2.2.2
      have hF0 := hownF.dropAt 0
      rw [List.drop_zero] at hF0
      have HLN := Lib.hid hlen
      clear hT hlen
      go_wp2_with fail
      refine (mtrimmed_any _ _ _ _ _ HLN.out (by have := HLN.out; omega) hmx hF0).mono ?_
      rintro e w17 ⟨rfl, rfl⟩
      go_wp2
      go_ret
      refine ⟨_, rfl, by rw [← HT.out]; exact hF0.isTrim (by have := HLN.out; omega) hmx, (hownF.fresh.mono B0.size).cut _ _, B0.trans ((hb15.trans hb16).mono B0.size)⟩
theorem byCuts_all (least : Nat) (h4 : 4 ≤ least) (hl2 : least ≤ 1000) (K : Nat) (hK : K ≤ 100001) : ByC least K := by
  induction K with
  | zero => intro x y v u w hx; omega
  | succ K ih => exact byCuts_step least K h4 hl2 (by omega) (ih (by omega))
/-- A product of two numbers, in new memory. -/
theorem mul_any (v u : Value) (x y : Nat) (w : World) (h : IsS w .u64 v (digs 4294967296 x)) (h' : IsS w .u64 u (digs 4294967296 y)) (hl : (digs 4294967296 x).length ≤ 100000) (hl' : (digs 4294967296 y).length ≤ 100000) (z : Nat) (hz : z = x * y) :
    Calls Tryz.prog 80 #[v, u] w (RetS .u64 (digs 4294967296 z) w) := by
  subst hz
  obtain ⟨A1, c1, rfl, _⟩ := id h
  obtain ⟨A2, c2, rfl, _⟩ := id h'
  go_enter Tryz.func80, Tryz.ntmps80
  go_wp2_with fail
  refine (byCuts_all 160 (by omega) (by omega) 100001 (by omega) x y _ _ _ (by omega) (by omega) h h').mono ?_
  rintro e w1 ⟨v1, rfl, k1, f1, b1⟩
  go_wp2
  go_ret
  exact ⟨_, rfl, k1, f1, b1⟩
theorem square_any (v : Value) (x : Nat) (w : World) (h : IsS w .u64 v (digs 4294967296 x)) (hl : (digs 4294967296 x).length ≤ 100000) (z : Nat) (hz : z = x * x) :
    Calls Tryz.prog 131 #[v] w (RetS .u64 (digs 4294967296 z) w) := by
  obtain ⟨A1, c1, rfl, _⟩ := id h
  go_enter Tryz.func131, Tryz.ntmps131
  go_wp2_with fail
  refine (mul_any _ _ x x _ h h hl hl z hz).mono ?_
  rintro e w1 ⟨v1, rfl, k1, f1, b1⟩
  go_wp2
  go_ret
  exact ⟨_, rfl, k1, f1, b1⟩
end Go.Proofs.YtpcllhdfalebbaaGreatDoor.nat
namespace Go.Proofs.YtpcllhdfalebbaaGreatDoor.nat
open Go.RowKit Go.Proofs.YtpcllhdfalebbaaGreatDoor.num Go.Proofs.YtpcllhdfalebbaaGreatDoor.mem Go.Proofs.YtpcllhdfalebbaaGreatDoor.limb
set_option linter.unusedVariables false
set_option maxHeartbeats 400000 in
theorem clone_any (v : Value) (l : List Nat) (w : World) (h : IsS w .u64 v l) (hl : l.length ≤ 1000000) :
    Calls Tryz.prog 71 #[v] w (RetS .u64 l w) := by
  obtain ⟨A, c, rfl, hc, hm, hr⟩ := h
  rcases A with _ | ad
  · have hl0 : l = [] := by
      rcases l with _ | ⟨d, l⟩
      · rfl
      · obtain ⟨ad, h, _⟩ := hr 0 d (by simp); cases h
    subst hl0
    have hnil := fun w' => Lib.run_eql_slice_nil (P := Tryz.prog) w' 23 60 none 0 c 0 0 Tryz.underlying23
    go_enter Tryz.func71, Tryz.ntmps71
    go_wp2
    go_ret
    exact ⟨_, rfl, isNil _ _, fresh_nil _, Below.refl _ _⟩
  · have hnil := fun w' => Lib.run_eql_slice_nil (P := Tryz.prog) w' 23 60 (some ad) l.length c 0 0 Tryz.underlying23
    go_enter Tryz.func71, Tryz.ntmps71
    go_wp2_with (at_builtin; refine wpList_append_rd rfl (.tmp 5) (.tmp 6) rfl sl24 rfl (own_lit0 w w.heap.size _ .u64 (Nat.le_refl _)) rfl (news := l) rfl (hr.below (below_alloc (Nat.le_refl _) _)) (by simp; omega) (by simp) ?_; intro v' w1 hown1 hb1 hg1)
    go_ret
    exact ⟨_, rfl, by have := hown1.isS; rwa [List.nil_append] at this, hown1.fresh, (below_alloc (Nat.le_refl _) _).trans hb1⟩
end Go.Proofs.YtpcllhdfalebbaaGreatDoor.nat
namespace Go.Proofs.YtpcllhdfalebbaaGreatDoor.nat
open Go.RowKit Go.Proofs.YtpcllhdfalebbaaGreatDoor.num Go.Proofs.YtpcllhdfalebbaaGreatDoor.mem Go.Proofs.YtpcllhdfalebbaaGreatDoor.limb
set_option linter.unusedVariables false
theorem IsV.below {w w' : World} {v : Value} {vs : List Value} (h : IsV w v vs) (hb : Below w.heap.size w w') : IsV w' v vs := by
  obtain ⟨A, c, e, h1, h2⟩ := h
  refine ⟨A, c, e, h1, fun i u hu => ?_⟩
  obtain ⟨ad, ha, hc⟩ := h2 i u hu
  exact ⟨ad, ha, (hb.cell (World.block_lt_of_cell? w _ hc)).trans hc⟩
theorem Nums.below {w w' : World} {vs : List Value} {xs : List Nat} (h : Nums w vs xs) (hb : Below w.heap.size w w') : Nums w' vs xs := ⟨h.1, fun i u x hu hx => (h.2 i u x hu hx).below hb⟩
theorem Nums.take {w : World} {vs : List Value} {xs : List Nat} (h : Nums w vs xs) (n : Nat) : Nums w (vs.take n) (xs.take n) := by
  refine ⟨by rw [List.length_take, List.length_take, h.1], fun i u x hu hx => ?_⟩
  rw [List.getElem?_take] at hu hx
  split at hu
  · rename_i hi
    rw [if_pos hi] at hx
    exact h.2 i u x hu hx
  · cases hu
theorem Nums.drop {w : World} {vs : List Value} {xs : List Nat} (h : Nums w vs xs) (n : Nat) : Nums w (vs.drop n) (xs.drop n) := by
  refine ⟨by rw [List.length_drop, List.length_drop, h.1], fun i u x hu hx => ?_⟩
  rw [List.getElem?_drop] at hu hx
  exact h.2 _ u x hu hx
/-- How many limbs all of them have. -/
def plen (xs : List Nat) : Nat := (xs.map fun x => (digs 4294967296 x).length).sum
theorem plen_cut (xs : List Nat) (n : Nat) : plen (xs.take n) + plen (xs.drop n) = plen xs := by
  unfold plen
  have e : xs.map (fun x => (digs 4294967296 x).length) = (xs.take n).map (fun x => (digs 4294967296 x).length) ++ (xs.drop n).map (fun x => (digs 4294967296 x).length) := by
    rw [← List.map_append, List.take_append_drop]
  rw [e, List.sum_append]
theorem prod_cut (xs : List Nat) (n : Nat) : (xs.take n).prod * (xs.drop n).prod = xs.prod := by
  have e := congrArg List.prod (List.take_append_drop n xs)
  rwa [List.prod_append] at e
theorem prod_len (xs : List Nat) : (digs 4294967296 xs.prod).length ≤ plen xs + 1 := by
  induction xs with
  | nil => rw [List.prod_nil]; exact digs_len_le (by omega) (by decide)
  | cons x xs ih =>
    have h := mul_len x xs.prod
    have e : plen (x :: xs) = (digs 4294967296 x).length + plen xs := by simp [plen]
    rw [List.prod_cons, e]; omega
set_option maxHeartbeats 1600000 in
theorem product_any (n : Nat) : ∀ (V : Value) (vs : List Value) (xs : List Nat) (w : World), vs.length = n → n ≤ 1000 → plen xs ≤ 50000 → IsV w V vs → Nums w vs xs →
    Calls Tryz.prog 43 #[V] w (RetS .u64 (digs 4294967296 xs.prod) w) := by
  induction n using Nat.strongRecOn with
  | ind n ih =>
    intro V vs xs w hn hn2 hp hV hN
    subst hn
    obtain ⟨A, c, rfl, hc, hcells⟩ := hV
    have hxl := hN.1
    rcases (show vs.length = 0 ∨ vs.length = 1 ∨ 2 ≤ vs.length by omega) with h0 | h0 | h0
    · obtain rfl : vs = [] := List.length_eq_zero_iff.1 h0
      obtain rfl : xs = [] := List.length_eq_zero_iff.1 hxl.symm
      clear ih h0 hcells hN hxl
      go_enter Tryz.func43, Tryz.ntmps43
      go_wp2_with fail
      refine (of_any _ 1 _ rfl (by omega)).mono ?_
      rintro e w1 ⟨v1, rfl, k1, f1, b1⟩
      go_wp2
      go_ret
      exact ⟨_, rfl, by rw [List.prod_nil]; exact k1, f1, b1⟩
    · obtain ⟨u, rfl⟩ := List.length_eq_one_iff.1 h0
      obtain ⟨x, rfl⟩ := List.length_eq_one_iff.1 (hxl.symm.trans h0)
      obtain ⟨ad, rfl, hcell⟩ := hcells 0 u (by simp)
      have hu := hN.2 0 u x (by simp) (by simp)
      have hxn : (digs 4294967296 x).length ≤ 50000 := by simpa [plen] using hp
      have HE : Hid ([x].prod = x) := by show _ = _; simp
      have e0 : ad.add 0 = ad := by unfold Addr.add; simp
      rw [e0] at hcell
      clear ih h0 hcells hN hxl e0 hp
      go_enter Tryz.func43, Tryz.ntmps43
      go_wp2_with fail
      refine (clone_any _ _ _ hu (by omega)).mono ?_
      rintro e w1 ⟨v1, rfl, k1, f1, b1⟩
      go_wp2
      go_ret
      exact ⟨_, rfl, by rw [HE.out]; exact k1, f1, b1⟩
    · obtain ⟨h, hh⟩ : ∃ h, h = vs.length / 2 := ⟨_, rfl⟩
      have hh1 : 1 ≤ h := by omega
      have hh2 : h < vs.length := by omega
      have hhI : ((vs.length : Int)) / 2 = (h : Int) := by omega
      have q1 : ((vs.length : Int) == 0) = false := by rw [beq_eq_false_iff_ne]; omega
      have q2 : ((vs.length : Int) == 1) = false := by rw [beq_eq_false_iff_ne]; omega
      obtain ⟨ad, rfl, hc0⟩ := hcells 0 _ (List.getElem?_eq_getElem (by omega))
      clear hc0
      obtain ⟨p1, hp1⟩ : ∃ p, p = (xs.take h).prod := ⟨_, rfl⟩
      obtain ⟨p2, hp2⟩ : ∃ p, p = (xs.drop h).prod := ⟨_, rfl⟩
      have hpl := plen_cut xs h
      have l1 := prod_len (xs.take h)
      have l2 := prod_len (xs.drop h)
      rw [← hp1] at l1
      rw [← hp2] at l2
      have HP : Hid (xs.prod = p1 * p2) := by show _ = _; rw [hp1, hp2, prod_cut]
      have i1 := ih h (by omega) (.slice (some ad) h c) (vs.take h) (xs.take h)
      have i2 := ih (vs.length - h) (by omega) (.slice (some (ad.add h)) (vs.length - h) (c - h)) (vs.drop h) (xs.drop h)
      rw [← hp1] at i1
      rw [← hp2] at i2
      have H1 : Hid (∀ w', Below w.heap.size w w' → Calls Tryz.prog 43 #[.slice (some ad) h c] w' (RetS .u64 (digs 4294967296 p1) w')) := by
        intro w' hb
        refine i1 w' (by simp; omega) (by omega) (by omega) ?_ ((hN.below hb).take h)
        have e : (vs.take h).length = h := by simp; omega
        refine ⟨some ad, c, by rw [e], by omega, fun i u hu => ?_⟩
        rw [List.getElem?_take] at hu
        split at hu
        · obtain ⟨ad', ha, hc'⟩ := hcells i u hu
          exact ⟨ad', ha, (hb.cell (World.block_lt_of_cell? w _ hc')).trans hc'⟩
        · cases hu
      have H2 : Hid (∀ w', Below w.heap.size w w' → Calls Tryz.prog 43 #[.slice (some (ad.add h)) (vs.length - h) (c - h)] w' (RetS .u64 (digs 4294967296 p2) w')) := by
        intro w' hb
        refine i2 w' (by simp) (by omega) (by omega) ?_ ((hN.below hb).drop h)
        refine ⟨some (ad.add h), c - h, by simp, by simp; omega, fun i u hu => ?_⟩
        rw [List.getElem?_drop] at hu
        obtain ⟨ad', ha, hc'⟩ := hcells (h + i) u hu
        injection ha with ha; subst ha
        refine ⟨_, rfl, ?_⟩
        have e : (ad.add h).add i = ad.add (h + i) := by
          unfold Addr.add
          by_cases hn : h = 0 <;> by_cases hi : i = 0 <;> simp [hn, hi, Nat.add_assoc]
        rw [e]
        exact (hb.cell (World.block_lt_of_cell? w _ hc')).trans hc'
      clear ih i1 i2 hcells hN hp1 hp2 hxl hh
      have HV := Lib.hid hhI
      have hcN : ¬ c = h := by omega
      have hle1 : (h : Int) ≤ (c : Int) := by omega
      have hle2 : (h : Int) ≤ (vs.length : Int) := by omega
      have B0 : Below w.heap.size w w := Below.refl _ _
      go_enter Tryz.func43, Tryz.ntmps43
      go_wp2
      (try rw [hhI])
      clear hhI
      go_region_law (first
        | (go_simp; go_at_call 80; refine (mul_any _ _ p1 p2 _ (by first | exact k1 | exact k1.below b2) (by first | exact k2 | exact k2.below b1) (by omega) (by omega) (p1 * p2) rfl).mono ?_; rintro e w3 ⟨v3, rfl, k3, f3, b3⟩)
        | (go_simp; (with_reducible refine (H1.out _ (by first | exact B0 | exact B0.drew | exact B2 | exact B2.drew)).mono ?_); rintro e w1 ⟨v1, rfl, k1, f1, b1⟩; have B1 := (by first | exact B0.trans (b1.mono B0.size) | exact B0.drew.trans (b1.mono B0.drew.size) | exact B2.trans (b1.mono B2.size) | exact B2.drew.trans (b1.mono B2.drew.size) : Below w.heap.size w w1))
        | (go_simp; (with_reducible refine (H2.out _ (by first | exact B0 | exact B0.drew | exact B1 | exact B1.drew)).mono ?_); rintro e w2 ⟨v2, rfl, k2, f2, b2⟩; have B2 := (by first | exact B0.trans (b2.mono B0.size) | exact B0.drew.trans (b2.mono B0.drew.size) | exact B1.trans (b2.mono B1.size) | exact B1.drew.trans (b2.mono B1.drew.size) : Below w.heap.size w w2)))
      all_goals
        have B3 : Below w.heap.size w w3 := by first | exact B2.trans (b3.mono B2.size) | exact B1.trans (b3.mono B1.size) | exact B2.drew.trans (b3.mono B2.drew.size) | exact B1.drew.trans (b3.mono B1.drew.size)
        have F3 : Fresh w.heap.size v3 := by first | exact f3.mono B2.size | exact f3.mono B1.size
        go_wp2
        go_ret
        exact ⟨_, rfl, by rw [HP.out]; exact k3, F3, B3⟩
end Go.Proofs.YtpcllhdfalebbaaGreatDoor.nat
namespace Go.Proofs.YtpcllhdfalebbaaGreatDoor.nat
open Go.RowKit Go.ChangeShapes Go.WideShapes Go.ChangeAt Go.Proofs.YtpcllhdfalebbaaGreatDoor.num Go.Proofs.YtpcllhdfalebbaaGreatDoor.mem Go.Proofs.YtpcllhdfalebbaaGreatDoor.limb
set_option linter.unusedVariables false
theorem wf_u64 {n : Int} (h : (Lit.int .u64 n).wf = true) : 0 ≤ n ∧ n ≤ 18446744073709551615 := bounds_u64 h
/-- The number that Clean makes of limbs. -/
def cleaned (l : List Nat) (most : Nat) : Nat := val 4294967296 (clipped l most)
theorem cleaned_lt (l : List Nat) (most : Nat) : cleaned l most < 4294967296 ^ most :=
  Nat.lt_of_lt_of_le (val_lt (clipped_lt l most)) (Nat.pow_le_pow_right (by omega) (clipped_len l most))
theorem cleaned_len (l : List Nat) (most : Nat) : (digs 4294967296 (cleaned l most)).length ≤ most := digs_len_le (by omega) (cleaned_lt l most)
theorem clean_any (v : Value) (l : List Nat) (mI : Int) (most : Nat) (w : World) (hmI : mI = (most : Int)) (h : IsS w .u64 v l) (hu : Lt 18446744073709551616 l) (hmost : most ≤ 1000000) :
    Calls Tryz.prog 38 #[v, .int .i64 mI] w (RetS .u64 (digs 4294967296 (cleaned l most)) w) := by
  have := refClean_list v l mI most w hmI h hu hmost
  rw [trim_digs (by omega) (clipped_lt l most)] at this
  exact this
theorem digs_lt_u (x : Nat) : Lt 18446744073709551616 (digs 4294967296 x) := (digs_lt (by omega) x).more (by omega)
theorem digs_one (a : Nat) (ha : a < 4294967296) (h0 : 0 < a) : digs 4294967296 a = [a] := by
  rw [digs_pos (by omega) h0, show a % 4294967296 = a from by omega, show a / 4294967296 = 0 from by omega, digs_zero]
end Go.Proofs.YtpcllhdfalebbaaGreatDoor.nat
namespace Go.Proofs.YtpcllhdfalebbaaGreatDoor.nat
open Go.RowKit Go.Proofs.YtpcllhdfalebbaaGreatDoor.num Go.Proofs.YtpcllhdfalebbaaGreatDoor.mem Go.Proofs.YtpcllhdfalebbaaGreatDoor.limb
set_option linter.unusedVariables false
theorem digs_inj {x y : Nat} : digs 4294967296 x = digs 4294967296 y ↔ x = y := by
  constructor
  · intro h
    have e := congrArg (val 4294967296) h
    rwa [val_digs (by omega), val_digs (by omega)] at e
  · rintro rfl; rfl
theorem sameB_digs (x y : Nat) : sameB (digs 4294967296 x) (digs 4294967296 y) = decide (x = y) := by
  unfold sameB
  by_cases h : x = y
  · subst h; simp
  · rw [decide_eq_false h, decide_eq_false (fun e => h (digs_inj.1 e))]
theorem same_num (v u : Value) (x y : Nat) (b : Bool) (w : World) (h : IsS w .u64 v (digs 4294967296 x)) (h' : IsS w .u64 u (digs 4294967296 y)) (hb : b = decide (x = y)) :
    Calls Tryz.prog 35 #[v, u] w (RetV (.bool b) w) := by
  rw [hb, ← sameB_digs]
  exact refSame_any v u _ _ w h h' (digs_lt_u x) (digs_lt_u y)
theorem same_one (v u : Value) (x : Nat) (w : World) (h : IsS w .u64 v (digs 4294967296 x)) (h' : IsS w .u64 u (digs 4294967296 x)) :
    Calls Tryz.prog 35 #[v, u] w (RetV (.bool true) w) := same_num v u x x true w h h' (by simp)
end Go.Proofs.YtpcllhdfalebbaaGreatDoor.nat
namespace Go.Proofs.YtpcllhdfalebbaaGreatDoor.mem
open Go.RowKit Go.Proofs.YtpcllhdfalebbaaGreatDoor.num
set_option linter.unusedVariables false
/-- A row of the call's own that holds these values, of one cell each. -/
def RowV (w : World) (base : Nat) (e : TypeId) (v : Value) (vs : List Value) : Prop := w.ownsRow base e 1 v vs.length vs
/-- The slice does not lie in the row's own block. -/
def Far (v u : Value) : Prop := ∀ ad n c, u = .slice (some ad) n c → 0 < n → some ad.block ≠ v.ownBlock
/-- Slices of numbers that lie elsewhere are kept, and lie elsewhere still. -/
def Keeps (w w' : World) (v v' : Value) : Prop := ∀ (k : IntKind) (u : Value) (l : List Nat), IsS w k u l → Far v u → IsS w' k u l ∧ Far v' u
theorem RowV.below {w w' : World} {base : Nat} {e : TypeId} {v : Value} {vs : List Value} (h : RowV w base e v vs) (hb : Below w.heap.size w w') : RowV w' base e v vs :=
  World.ownsRow.kept (row := none) h ⟨hb.os, hb.tape, hb.output, hb.size, fun i hi _ => hb.block i hi⟩ (by cases hv : v.ownBlock <;> simp)
theorem RowV.fresh {w : World} {base : Nat} {e : TypeId} {v : Value} {vs : List Value} (h : RowV w base e v vs) : Fresh base v := by
  rintro ad n c rfl
  exact (World.ownsRow.lt h ad.block rfl).1
theorem RowV.under {w : World} {base : Nat} {e : TypeId} {v : Value} {vs : List Value} (h : RowV w base e v vs) : ∀ g, v.ownBlock = some g → g < w.heap.size := fun g hg => (World.ownsRow.lt h g hg).2
theorem RowV.base_le {w : World} {base : Nat} {e : TypeId} {v : Value} {vs : List Value} (h : RowV w base e v vs) : ∀ g, v.ownBlock = some g → base ≤ g := fun g hg => (World.ownsRow.lt h g hg).1
/-- What is new behind the row lies elsewhere. -/
theorem Fresh.far {B : Nat} {v u : Value} (h : Fresh B u) (hv : ∀ g, v.ownBlock = some g → g < B) : Far v u := by
  rintro ad n c rfl _ e
  have h1 := hv _ e.symm
  have h2 := h ad n c rfl
  omega
/-- What there was ahead of the row lies elsewhere. -/
theorem IsS.farOld {w : World} {k : IntKind} {v u : Value} {l : List Nat} (h : IsS w k u l) (hv : ∀ g, v.ownBlock = some g → w.heap.size ≤ g) : Far v u := by
  rintro ad n c rfl hn e
  obtain ⟨A, c', e1, h1, h2, h3⟩ := h
  injection e1 with e1 e2 e3
  subst e1; subst e2
  obtain ⟨ad', he, hc⟩ := h3 0 _ (List.getElem?_eq_getElem hn)
  injection he with he; subst he
  have h4 := World.block_lt_of_cell? w _ hc
  rw [block_add] at h4
  have h5 := hv _ e.symm
  omega
theorem IsS.farKept {w w' : World} {k : IntKind} {u : Value} {l : List Nat} {row : Option Nat} (h : IsS w k u l) (hf : ∀ ad n c, u = .slice (some ad) n c → 0 < n → some ad.block ≠ row) (hg : w.grownBy w' row) : IsS w' k u l := by
  obtain ⟨A, c, rfl, h1, h2, h3⟩ := h
  refine ⟨A, c, rfl, h1, h2, fun i d hd => ?_⟩
  obtain ⟨ad, rfl, hc⟩ := h3 i d hd
  have hi : i < l.length := (List.getElem?_eq_some_iff.1 hd).1
  refine ⟨ad, rfl, hg.cell hc ?_⟩
  rw [block_add]
  exact hf ad _ _ rfl (by omega)
section
variable {P : Program}
end
end Go.Proofs.YtpcllhdfalebbaaGreatDoor.mem
namespace Go.Proofs.YtpcllhdfalebbaaGreatDoor.nat
open Go.RowKit Go.ChangeShapes Go.WideShapes Go.ChangeAt Go.Proofs.YtpcllhdfalebbaaGreatDoor.num Go.Proofs.YtpcllhdfalebbaaGreatDoor.mem Go.Proofs.YtpcllhdfalebbaaGreatDoor.limb
set_option linter.unusedVariables false
theorem RowV.isV {w : World} {base : Nat} {e : TypeId} {v : Value} {vs : List Value} (h : RowV w base e v vs) : IsV w v vs := by
  rcases h.2 with ⟨rfl, h0⟩ | ⟨g, cap, cur, rfl, _, hg, hn, hm, _, _⟩
  · obtain rfl : vs = [] := List.length_eq_zero_iff.1 h0
    exact ⟨none, 0, rfl, by simp, fun i u hu => by simp at hu⟩
  · exact ⟨_, cap, rfl, hn, fun i u hu => ⟨_, rfl, World.ownsRow.cells h (g := g) rfl i u hu⟩⟩
/-- Numbers in a row that lie elsewhere than the row itself. -/
def NumsFar (w : World) (v : Value) (vs : List Value) (xs : List Nat) : Prop := Nums w vs xs ∧ ∀ u ∈ vs, Far v u
theorem NumsFar.nil (w : World) (v : Value) : NumsFar w v [] [] := ⟨⟨rfl, fun i u x hu => by simp at hu⟩, fun u hu => by simp at hu⟩
theorem NumsFar.below {w w' : World} {v : Value} {vs : List Value} {xs : List Nat} (h : NumsFar w v vs xs) (hb : Below w.heap.size w w') : NumsFar w' v vs xs := ⟨h.1.below hb, h.2⟩
theorem NumsFar.snoc {w w' : World} {v v' u : Value} {vs : List Value} {xs : List Nat} {x : Nat} (h : NumsFar w v vs xs) (hk : Keeps w w' v v') (hu : IsS w .u64 u (digs 4294967296 x)) (hf : Far v u) : NumsFar w' v' (vs ++ [u]) (xs ++ [x]) := by
  have hl := h.1.1
  have hux := hk _ _ _ hu hf
  refine ⟨⟨by simp [hl], fun i a b ha hb => ?_⟩, fun a ha => ?_⟩
  · by_cases hi : i < vs.length
    · rw [List.getElem?_append_left hi] at ha
      rw [List.getElem?_append_left (by omega)] at hb
      exact (hk _ _ _ (h.1.2 i a b ha hb) (h.2 a (List.mem_of_getElem? ha))).1
    · rw [List.getElem?_append_right (by omega)] at ha
      rw [List.getElem?_append_right (by omega)] at hb
      rw [← hl] at hb
      rcases hj : i - vs.length with _ | j
      · rw [hj] at ha hb
        simp at ha hb
        subst ha; subst hb
        exact hux.1
      · rw [hj] at ha
        simp at ha
  · rcases List.mem_append.1 ha with ha | ha
    · obtain ⟨i, hi⟩ := List.mem_iff_getElem?.1 ha
      have hi2 : i < vs.length := (List.getElem?_eq_some_iff.1 hi).1
      exact (hk _ _ _ (h.1.2 i a _ hi (List.getElem?_eq_getElem (by omega))) (h.2 a ha)).2
    · obtain rfl := List.mem_singleton.1 ha
      exact hux.2
theorem info_nat : ∃ i, Tryz.prog.info? 23 = some i ∧ i.zero = some (.slice none 0 0) ∧ i.size = 1 ∧ i.bytes = 24 := info_parts (P := Tryz.prog) (e := 23) (z := .slice none 0 0) (size := 1) (bytes := 24) (by kernel_rfl)
end Go.Proofs.YtpcllhdfalebbaaGreatDoor.nat
namespace Go.Proofs.YtpcllhdfalebbaaGreatDoor.nat
open Go.RowKit Go.Proofs.YtpcllhdfalebbaaGreatDoor.num Go.Proofs.YtpcllhdfalebbaaGreatDoor.mem Go.Proofs.YtpcllhdfalebbaaGreatDoor.limb
set_option linter.unusedVariables false
theorem dec_le (x : Nat) : (digs 10000 x).length ≤ 3 * (digs 4294967296 x).length := len10000_le (digs_lt_pow (by omega) x)
theorem add_len (x y : Nat) : (digs 4294967296 (x + y)).length ≤ (digs 4294967296 x).length + (digs 4294967296 y).length + 1 := by
  refine digs_len_le (by omega) ?_
  have h1 := digs_lt_pow (B := 4294967296) (by omega) x
  have h2 := digs_lt_pow (B := 4294967296) (by omega) y
  have h3 := Nat.pow_le_pow_right (n := 4294967296) (by omega) (show (digs 4294967296 x).length ≤ (digs 4294967296 x).length + (digs 4294967296 y).length by omega)
  have h4 := Nat.pow_le_pow_right (n := 4294967296) (by omega) (show (digs 4294967296 y).length ≤ (digs 4294967296 x).length + (digs 4294967296 y).length by omega)
  rw [Nat.pow_succ]; omega
end Go.Proofs.YtpcllhdfalebbaaGreatDoor.nat
namespace Go.Proofs.YtpcllhdfalebbaaGreatDoor.num
set_option linter.unusedVariables false
theorem set_drop_behind {l : List Nat} {i x : Nat} : (l.set i x).drop (i + 1) = l.drop (i + 1) := by
  apply List.ext_getElem?
  intro j
  rw [List.getElem?_drop, List.getElem?_drop, List.getElem?_set_ne (by omega)]
theorem setDrop {o : List Nat} {j x : Nat} (h : j < o.length) : (o.set j x).drop j = x :: o.drop (j + 1) := by
  rw [drop_at (List.getElem?_set_self h), set_drop_behind]
/-- What Small's loop keeps while k limbs are still to come. -/
def DQ (B : Nat) (l : List Nat) (d k r : Nat) (o : List Nat) : Prop := Lt B o ∧ o.length = l.length ∧ val B (o.drop k) * d + r = val B (l.drop k) ∧ r < d
theorem DQ.start {B : Nat} (hB : 0 < B) (l : List Nat) {d : Nat} (hd : 1 ≤ d) : DQ B l d l.length 0 (List.replicate l.length 0) := by
  unfold DQ; exact ⟨Lt.rep hB _, by simp, by simp [val], by omega⟩
theorem DQ.step {B : Nat} {l o : List Nat} {d j r a q s : Nat} (h : DQ B l d (j + 1) r o) (hl : l[j]? = some a) (hq : q < B) (hs : s < d) (he : q * d + s = B * r + a) : DQ B l d j s (o.set j q) := by
  unfold DQ at h ⊢
  obtain ⟨h1, h2, h3, h4⟩ := h
  have hj : j < l.length := (List.getElem?_eq_some_iff.1 hl).1
  refine ⟨h1.set hq j, by simpa using h2, ?_, hs⟩
  rw [setDrop (by omega), val_cons, val_drop_step hl, ← h3, Nat.add_mul, Nat.mul_assoc, Nat.mul_add]
  omega
theorem DQ.done {B : Nat} {l o : List Nat} {d r : Nat} (h : DQ B l d 0 r o) : Lt B o ∧ o.length = l.length ∧ val B o = val B l / d ∧ r = val B l % d := by
  unfold DQ at h
  obtain ⟨h1, h2, h3, h4⟩ := h
  simp only [List.drop_zero] at h3
  refine ⟨h1, h2, ?_, ?_⟩
  · rw [← h3, Nat.mul_comm, Nat.mul_add_div (by omega), Nat.div_eq_of_lt h4, Nat.add_zero]
  · rw [← h3, Nat.mul_comm, Nat.mul_add_mod, Nat.mod_eq_of_lt h4]
/-- What takeOff keeps behind i limbs: u is to be carried, kept is 1 as long as nothing is lent. -/
def TO (B : Nat) (p0 b p : List Nat) (t i u kept : Nat) : Prop := Lt B p ∧ p.length = p0.length ∧ p.drop i = p0.drop i ∧ u < B ∧ kept ≤ 1 ∧ val B (p.take i) + B ^ i * kept + val B (b.take i) * t = val B (p0.take i) + B ^ i + B ^ i * u
theorem TO.start {B : Nat} {p : List Nat} (hp : Lt B p) (hB : 0 < B) (b : List Nat) (t : Nat) : TO B p b p t 0 0 1 := ⟨hp, rfl, rfl, hB, by omega, by simp [val]⟩
theorem at_of_drop {l m : List Nat} {i d : Nat} (h : l.drop i = m.drop i) (hd : l[i]? = some d) : m[i]? = some d := by
  have e := congrArg (fun x => x[0]?) h
  simp only [List.getElem?_drop, Nat.add_zero] at e
  rw [← e]; exact hd
theorem set_take_self {l : List Nat} {i x : Nat} : (l.set i x).take i = l.take i := by
  apply List.ext_getElem?
  intro j
  rw [List.getElem?_take, List.getElem?_take]
  split
  · rw [List.getElem?_set_ne (by omega)]
  · rfl
theorem TO.next {B : Nat} {p0 b p : List Nat} {t i u kept d e low up s k' : Nat} (h : TO B p0 b p t i u kept) (hd : p[i]? = some d) (he : b[i]? = some e) (hlow : low < B) (hup : up < B) (hm : low + B * up = e * t + u) (hs : s < B) (hk : s + B * k' = d + (B - 1 - low) + kept) : TO B p0 b (p.set i s) t (i + 1) up k' := by
  obtain ⟨h1, h2, h3, h4, h5, h6⟩ := h
  have hi : i < p.length := (List.getElem?_eq_some_iff.1 hd).1
  have hd1 := h1.at hd
  have hk1 : k' ≤ 1 := by
    rcases Nat.lt_or_ge 1 k' with h | h
    · have := Nat.mul_le_mul_left B h; omega
    · exact h
  refine ⟨h1.set hs i, by simpa using h2, ?_, hup, hk1, ?_⟩
  · rw [set_drop_behind, ← List.drop_drop, ← List.drop_drop, h3]
  · have e0 := at_of_drop h3 hd
    have e1 : val B ((p.set i s).take (i + 1)) = val B (p.take i) + B ^ i * s := by
      rw [val_take_step (List.getElem?_set_self hi), set_take_self]
    have e2 := val_take_step (B := B) e0
    have e3 := val_take_step (B := B) he
    rw [e1, e2, e3, Nat.add_mul, Nat.pow_succ]
    have a1 : B ^ i * s + B ^ i * B * k' = B ^ i * d + B ^ i * (B - 1 - low) + B ^ i * kept := by
      rw [Nat.mul_assoc, ← Nat.mul_add, hk, Nat.mul_add, Nat.mul_add]
    have a2 : B ^ i * low + B ^ i * B * up = B ^ i * e * t + B ^ i * u := by
      rw [Nat.mul_assoc, ← Nat.mul_add, hm, Nat.mul_add, Nat.mul_assoc]
    have a3 : B ^ i * (B - 1 - low) + B ^ i + B ^ i * low = B ^ i * B := by
      have : B - 1 - low + 1 + low = B := by omega
      rw [← Nat.mul_succ, ← Nat.mul_add]; congr 1
    omega
theorem TO.last {B : Nat} {p0 b p : List Nat} {t u kept d s k' : Nat} (h : TO B p0 b p t b.length u kept) (hl : p0.length = b.length + 1) (hd : p[b.length]? = some d) (hs : s < B) (hk : s + B * k' = d + (B - 1 - u) + kept) : Lt B (p.set b.length s) ∧ (p.set b.length s).length = p0.length ∧ k' ≤ 1 ∧ val B (p.set b.length s) + B ^ p0.length * k' + val B b * t = val B p0 + B ^ p0.length := by
  obtain ⟨h1, h2, h3, h4, h5, h6⟩ := h
  have hi : b.length < p.length := (List.getElem?_eq_some_iff.1 hd).1
  have hd1 := h1.at hd
  have hk1 : k' ≤ 1 := by
    rcases Nat.lt_or_ge 1 k' with h | h
    · have := Nat.mul_le_mul_left B h; omega
    · exact h
  refine ⟨h1.set hs _, by simpa using h2, hk1, ?_⟩
  have e0 := at_of_drop h3 hd
  have e1 : val B (p.set b.length s) = val B (p.take b.length) + B ^ b.length * s := by
    have e := val_take_step (B := B) (List.getElem?_set_self (a := s) hi)
    rw [set_take_self, List.take_of_length_le (by rw [List.length_set]; omega)] at e
    exact e
  have e2 : val B p0 = val B (p0.take b.length) + B ^ b.length * d := by
    have e := val_take_step (B := B) e0
    rwa [List.take_of_length_le (by omega)] at e
  rw [List.take_length] at h6
  rw [e1, e2, hl, Nat.pow_succ]
  have a1 : B ^ b.length * s + B ^ b.length * B * k' = B ^ b.length * d + B ^ b.length * (B - 1 - u) + B ^ b.length * kept := by
    rw [Nat.mul_assoc, ← Nat.mul_add, hk, Nat.mul_add, Nat.mul_add]
  have a3 : B ^ b.length * (B - 1 - u) + B ^ b.length + B ^ b.length * u = B ^ b.length * B := by
    have : B - 1 - u + 1 + u = B := by omega
    rw [← Nat.mul_succ, ← Nat.mul_add]; congr 1
  omega
/-- What putBack keeps behind i limbs. -/
def PB (B : Nat) (p0 b p : List Nat) (i u : Nat) : Prop := Lt B p ∧ p.length = p0.length ∧ p.drop i = p0.drop i ∧ u < B ∧ val B (p.take i) + B ^ i * u = val B (p0.take i) + val B (b.take i)
theorem PB.start {B : Nat} {p : List Nat} (hp : Lt B p) (hB : 0 < B) (b : List Nat) : PB B p b p 0 0 := ⟨hp, rfl, rfl, hB, by simp [val]⟩
theorem PB.next {B : Nat} {p0 b p : List Nat} {i u d e s u' : Nat} (h : PB B p0 b p i u) (hd : p[i]? = some d) (he : b[i]? = some e) (hs : s < B) (hu : u' < B) (hk : s + B * u' = d + e + u) : PB B p0 b (p.set i s) (i + 1) u' := by
  obtain ⟨h1, h2, h3, h4, h6⟩ := h
  have hi : i < p.length := (List.getElem?_eq_some_iff.1 hd).1
  refine ⟨h1.set hs i, by simpa using h2, ?_, hu, ?_⟩
  · rw [set_drop_behind, ← List.drop_drop, ← List.drop_drop, h3]
  · have e0 := at_of_drop h3 hd
    have e1 : val B ((p.set i s).take (i + 1)) = val B (p.take i) + B ^ i * s := by
      rw [val_take_step (List.getElem?_set_self hi), set_take_self]
    have e2 := val_take_step (B := B) e0
    have e3 := val_take_step (B := B) he
    rw [e1, e2, e3, Nat.pow_succ]
    have a1 : B ^ i * s + B ^ i * B * u' = B ^ i * d + B ^ i * e + B ^ i * u := by
      rw [Nat.mul_assoc, ← Nat.mul_add, hk, Nat.mul_add, Nat.mul_add]
    omega
/-- Behind the last limb, of which what is carried on is left out. -/
theorem PB.last {B : Nat} {p0 b p : List Nat} {u d s k : Nat} (h : PB B p0 b p b.length u) (hl : p0.length = b.length + 1) (hd : p[b.length]? = some d) (hs : s < B) (hk : s + B * k = d + u) : Lt B (p.set b.length s) ∧ (p.set b.length s).length = p0.length ∧ val B (p.set b.length s) + B ^ p0.length * k = val B p0 + val B b := by
  obtain ⟨h1, h2, h3, h4, h6⟩ := h
  have hi : b.length < p.length := (List.getElem?_eq_some_iff.1 hd).1
  refine ⟨h1.set hs _, by simpa using h2, ?_⟩
  have e0 := at_of_drop h3 hd
  have e1 : val B (p.set b.length s) = val B (p.take b.length) + B ^ b.length * s := by
    have e := val_take_step (B := B) (List.getElem?_set_self (a := s) hi)
    rw [set_take_self, List.take_of_length_le (by rw [List.length_set]; omega)] at e
    exact e
  have e2 : val B p0 = val B (p0.take b.length) + B ^ b.length * d := by
    have e := val_take_step (B := B) e0
    rwa [List.take_of_length_le (by omega)] at e
  rw [List.take_length] at h6
  rw [e1, e2, hl, Nat.pow_succ]
  have a1 : B ^ b.length * s + B ^ b.length * B * k = B ^ b.length * d + B ^ b.length * u := by
    rw [Nat.mul_assoc, ← Nat.mul_add, hk, Nat.mul_add]
  omega
/-- A guess: the quotient, or one more. -/
def Guess (V D t : Nat) : Prop := V / D ≤ t ∧ t ≤ V / D + 1
/-- A guess that was not too much. -/
theorem Guess.right {V D t V' : Nat} (h : Guess V D t) (hD : 0 < D) (hv : V' + D * t = V) : t = V / D ∧ V' = V % D := by
  have h1 : t ≤ V / D := (Nat.le_div_iff_mul_le hD).2 (by rw [Nat.mul_comm]; omega)
  have h2 : t = V / D := Nat.le_antisymm h1 h.1
  refine ⟨h2, ?_⟩
  have := Nat.mod_add_div V D
  rw [← h2] at this
  omega
/-- One that was: what was lent is given back. -/
theorem Guess.more {V D t V' W M k : Nat} (h : Guess V D t) (hD : 0 < D) (hV' : V' < M) (hv : V' + D * t = V + M) (hW : W + M * k = V' + D) (hWM : W < M) (hVM : V < M) : t = V / D + 1 ∧ W = V % D := by
  have h1 : V < D * t := by omega
  have h2 : V / D < t := Nat.div_lt_of_lt_mul h1
  have h3 : t = V / D + 1 := by have := h.2; omega
  refine ⟨h3, ?_⟩
  have e := Nat.mod_add_div V D
  rw [h3, Nat.mul_add, Nat.mul_one] at hv
  have h4 : V' + D = V % D + M := by omega
  have h5 : V % D < M := Nat.lt_of_le_of_lt (Nat.mod_le _ _) hVM
  have hk : k = 1 := by
    rcases Nat.lt_or_ge k 1 with h | h
    · have : k = 0 := by omega
      subst this; omega
    · rcases Nat.lt_or_ge 1 k with h' | h'
      · have := Nat.mul_le_mul_left M h'; omega
      · omega
  subst hk
  omega
/-- A number by its last three limbs, and what lies below. -/
theorem three {B : Nat} {p : List Nat} {n a b c : Nat} (hp : p.length = n + 3) (ha : p[n + 2]? = some a) (hb : p[n + 1]? = some b) (hc : p[n]? = some c) : val B p = val B (p.take n) + B ^ n * ((a * B + b) * B + c) := by
  have e1 := val_take_step (B := B) ha
  have e2 := val_take_step (B := B) hb
  have e3 := val_take_step (B := B) hc
  rw [List.take_of_length_le (by omega)] at e1
  rw [e1, show n + 2 = n + 1 + 1 from rfl, e2, e3, Nat.add_mul, Nat.mul_add, Nat.mul_add]
  simp only [Nat.pow_succ]
  have x1 : B ^ n * B * B * a = B ^ n * (a * B * B) := by simp only [Nat.mul_assoc, Nat.mul_left_comm, Nat.mul_comm]
  have x2 : B ^ n * B * b = B ^ n * (b * B) := by simp only [Nat.mul_assoc, Nat.mul_left_comm, Nat.mul_comm]
  omega
theorem two {B : Nat} {p : List Nat} {n a b : Nat} (hp : p.length = n + 2) (ha : p[n + 1]? = some a) (hb : p[n]? = some b) : val B p = val B (p.take n) + B ^ n * (a * B + b) := by
  have e1 := val_take_step (B := B) ha
  have e2 := val_take_step (B := B) hb
  rw [List.take_of_length_le (by omega)] at e1
  rw [e1, e2, Nat.mul_add, Nat.pow_succ]
  have x2 : B ^ n * B * a = B ^ n * (a * B) := by simp only [Nat.mul_assoc, Nat.mul_left_comm, Nat.mul_comm]
  omega
/-- The guess while it is put right: t times v and left are the two highest limbs; t is never too little. -/
def GU (B V D u1 u0 v t left : Nat) : Prop := t * v + left = u1 * B + u0 ∧ V / D ≤ t ∧ t < B
/-- Where the guess is too much by the next limbs, it is by the whole. -/
theorem GU.step {B V D u1 u0 v t left c b2 n X Y : Nat} (h : GU B V D u1 u0 v t left) (hV : V = X + B ^ n * ((u1 * B + u0) * B + c)) (hX : X < B ^ n) (hD : D = Y + B ^ n * (v * B + b2)) (hc : left * B + c < t * b2) : 1 ≤ t ∧ GU B V D u1 u0 v (t - 1) (left + v) := by
  obtain ⟨h1, h2, h3⟩ := h
  have ht : 1 ≤ t := by
    rcases Nat.eq_zero_or_pos t with h | h
    · subst h; omega
    · exact h
  have hp : 0 < B ^ n := by omega
  have k1 : (u1 * B + u0) * B + c + 1 ≤ t * (v * B + b2) := by
    have : t * (v * B + b2) = (t * v) * B + t * b2 := by rw [Nat.mul_add, Nat.mul_assoc]
    rw [this, ← h1, Nat.add_mul]; omega
  have k2 := Nat.mul_le_mul_left (B ^ n) k1
  have k3 : V < D * t := by
    have : D * t = Y * t + B ^ n * (t * (v * B + b2)) := by rw [hD, Nat.add_mul, Nat.mul_assoc, Nat.mul_comm t]
    rw [this, hV]
    rw [Nat.mul_succ] at k2
    omega
  have k4 : V / D < t := Nat.div_lt_of_lt_mul k3
  refine ⟨ht, ?_, by omega, by omega⟩
  have : (t - 1) * v + v = t * v := by rw [← Nat.succ_mul]; congr 1; omega
  omega
/-- Where it isn't, it is one too much at most. -/
theorem GU.done {B V D u1 u0 v t left c b2 n X Y : Nat} (h : GU B V D u1 u0 v t left) (hV : V = X + B ^ n * ((u1 * B + u0) * B + c)) (hD : D = Y + B ^ n * (v * B + b2)) (hY : Y < B ^ n) (hv : 0 < v) (hc : t * b2 ≤ left * B + c) : Guess V D t := by
  obtain ⟨h1, h2, h3⟩ := h
  refine ⟨h2, ?_⟩
  have k1 : t * (v * B + b2) ≤ (u1 * B + u0) * B + c := by
    have : t * (v * B + b2) = (t * v) * B + t * b2 := by rw [Nat.mul_add, Nat.mul_assoc]
    rw [this, ← h1, Nat.add_mul]; omega
  have k2 := Nat.mul_le_mul_left (B ^ n) k1
  have hD0 : B ^ n * B ≤ D := by
    rw [hD]
    have := Nat.mul_le_mul_left (B ^ n) (show B ≤ v * B + b2 by have := Nat.mul_le_mul_right B hv; omega)
    omega
  have hp : 0 < B ^ n := by omega
  have hDp : 0 < D := by
    have : 0 < B ^ n * B := Nat.mul_pos hp (by omega)
    omega
  have k3 : D * t ≤ V + D := by
    have e : D * t = Y * t + B ^ n * (t * (v * B + b2)) := by rw [hD, Nat.add_mul, Nat.mul_assoc, Nat.mul_comm t]
    have g : Y * t ≤ B ^ n * B := Nat.mul_le_mul (by omega) (by omega)
    have e2 : B ^ n * (t * (v * B + b2)) ≤ V := by rw [hV]; omega
    rw [e]; omega
  rcases Nat.eq_zero_or_pos t with h | h
  · subst h; exact Nat.zero_le _
  · have : t - 1 ≤ V / D := by
      rw [Nat.le_div_iff_mul_le hDp]
      have : D * (t - 1) + D = D * t := by rw [← Nat.mul_succ]; congr 1; omega
      rw [Nat.mul_comm]; omega
    omega
theorem GU.start_div {B V D u1 u0 v c n X Y b2 : Nat} (hV : V = X + B ^ n * ((u1 * B + u0) * B + c)) (hX : X < B ^ n) (hc : c < B) (h0 : u0 < B) (hD : D = Y + B ^ n * (v * B + b2)) (hu : u1 < v) : GU B V D u1 u0 v ((u1 * B + u0) / v) ((u1 * B + u0) % v) := by
  have hq : (u1 * B + u0) / v < B := Nat.div_lt_of_lt_mul (by
    have : (u1 + 1) * B ≤ v * B := Nat.mul_le_mul_right B hu
    rw [Nat.add_mul] at this; omega)
  have hm : (u1 * B + u0) / v * v + (u1 * B + u0) % v = u1 * B + u0 := by rw [Nat.mul_comm]; exact Nat.div_add_mod _ _
  refine ⟨hm, ?_, hq⟩
  have hp : 0 < B ^ n := by omega
  have hDp : 0 < D := by
    have : 0 < B ^ n * (v * B + b2) := Nat.mul_pos hp (by have := Nat.mul_pos (show 0 < v by omega) (show 0 < B by omega); omega)
    omega
  refine Nat.le_of_lt_succ (Nat.div_lt_of_lt_mul ?_)
  have hr : (u1 * B + u0) % v < v := Nat.mod_lt _ (by omega)
  obtain ⟨q, hqe⟩ : ∃ q, q = (u1 * B + u0) / v := ⟨_, rfl⟩
  rw [← hqe] at hm ⊢
  have k1 : u1 * B + u0 + 1 ≤ (q + 1) * v := by rw [Nat.add_mul]; omega
  have k2 : (u1 * B + u0) * B + c + 1 ≤ (q + 1) * (v * B + b2) := by
    have a := Nat.mul_le_mul_right B k1
    rw [Nat.add_mul] at a
    rw [Nat.mul_add (q + 1), ← Nat.mul_assoc]; omega
  have k3 := Nat.mul_le_mul_left (B ^ n) k2
  have e : (Y + B ^ n * (v * B + b2)) * (q + 1) = Y * (q + 1) + B ^ n * ((q + 1) * (v * B + b2)) := by rw [Nat.add_mul, Nat.mul_assoc, Nat.mul_comm (v * B + b2)]
  show V < D * (q + 1)
  rw [hV, hD, e]
  rw [Nat.mul_succ] at k3
  omega
theorem GU.start_top {B V D u1 u0 v c n X Y b2 : Nat} (hV : V = X + B ^ n * ((u1 * B + u0) * B + c)) (hD : D = Y + B ^ n * (v * B + b2)) (hY : Y < B ^ n) (hb2 : b2 < B) (hVD : V < B * D) (hu : v ≤ u1) (hv : 0 < v) (hB : 0 < B) : u1 = v ∧ GU B V D u1 u0 v (B - 1) (u1 + u0) := by
  have hDp : 0 < D := by
    rcases Nat.eq_zero_or_pos D with h | h
    · subst h; omega
    · exact h
  have h1 : u1 = v := by
    rcases Nat.lt_or_ge v u1 with h | h
    · exfalso
      have a1 : D < B ^ n * (v * B + B) := by
        have := Nat.mul_le_mul_left (B ^ n) (show v * B + b2 + 1 ≤ v * B + B by omega)
        rw [Nat.mul_succ] at this
        omega
      have a2 : B * D < B * (B ^ n * ((v + 1) * B)) := Nat.mul_lt_mul_of_pos_left (by rw [Nat.add_mul, Nat.one_mul]; exact a1) hB
      have a3 : B * (B ^ n * ((v + 1) * B)) ≤ B ^ n * ((u1 * B + u0) * B + c) := by
        have e : B * (B ^ n * ((v + 1) * B)) = B ^ n * ((v + 1) * B * B) := by simp only [Nat.mul_left_comm, Nat.mul_comm]
        rw [e]
        refine Nat.mul_le_mul_left _ ?_
        have := Nat.mul_le_mul_right B (Nat.mul_le_mul_right B h)
        refine Nat.le_trans this ?_
        rw [Nat.add_mul (u1 * B)]
        exact Nat.le_trans (Nat.le_add_right _ _) (Nat.le_add_right _ _)
      omega
    · omega
  refine ⟨h1, ?_, ?_, by omega⟩
  · subst h1
    have : (B - 1) * u1 + u1 = u1 * B := by rw [← Nat.succ_mul, Nat.mul_comm]; congr 1; omega
    omega
  · have : V / D < B := Nat.div_lt_of_lt_mul (by rw [Nat.mul_comm]; exact hVD)
    omega
/-- What long's loop keeps while k limbs of the quotient are still to come. -/
def KD (B x D N : Nat) (P O : List Nat) (k : Nat) : Prop := Lt B P ∧ P.length = N ∧ Lt B O ∧ val B P + D * (B ^ k * val B (O.drop k)) = x ∧ val B (P.drop k) < D
theorem KD.start {B x D m Q : Nat} (hB : 2 ≤ B) (hD : B ^ (m - 1) ≤ D) (hQ : Q ≤ (digs B x).length) (hQm : (digs B x).length - Q ≤ m - 1) : KD B x D ((digs B x).length + 1) (digs B x ++ [0]) (List.replicate Q 0) Q := by
  have h0 := digs_lt hB x
  have e1 : (digs B x ++ [0]).drop Q = (digs B x).drop Q ++ [0] := List.drop_append_of_le_length hQ
  have h1 := val_lt (h0.drop Q)
  rw [List.length_drop] at h1
  have h2 := Nat.pow_le_pow_right (n := B) (by omega) hQm
  refine ⟨h0.snoc (by omega), by simp, Lt.rep (by omega) Q, ?_, ?_⟩
  · rw [val_snoc, val_digs hB, List.drop_of_length_le (by simp), val_nil]; simp
  · rw [e1, val_snoc]; omega
/-- The part that step divides. -/
def seg (P : List Nat) (s m : Nat) : List Nat := (P.drop s).take (m + 1)
theorem seg_len {P : List Nat} {s m N : Nat} (hN : P.length = N) (h : s + m + 1 ≤ N) : (seg P s m).length = m + 1 := by unfold seg; simp; omega
theorem seg_split {P : List Nat} {s m N : Nat} (hN : P.length = N) (h : s + m + 1 ≤ N) : P.take s ++ seg P s m ++ P.drop (s + m + 1) = P := by
  unfold seg
  have e : P.drop (s + m + 1) = (P.drop s).drop (m + 1) := by rw [List.drop_drop]; congr 1
  rw [e, List.append_assoc, List.take_append_drop, List.take_append_drop]
theorem KD.at {B x D N : Nat} {P O : List Nat} {s m : Nat} (h : KD B x D N P O (s + 1)) (hs : s + m + 1 ≤ N) (hD : D ≤ B ^ m) : Lt B (seg P s m) ∧ val B (seg P s m) < B * D ∧ val B (P.drop (s + m + 1)) = 0 := by
  obtain ⟨h1, h2, h3, h4, h5⟩ := h
  obtain ⟨d, hd⟩ : ∃ d, P[s]? = some d := ⟨_, List.getElem?_eq_getElem (by omega)⟩
  have e1 := val_drop_step (B := B) hd
  have hd1 := h1.at hd
  have e2 : val B (P.drop s) < B * D := by
    have := Nat.mul_le_mul_left B (show val B (P.drop (s + 1)) + 1 ≤ D by omega)
    rw [Nat.mul_add] at this; omega
  have e3 := val_append B (seg P s m) (P.drop (s + m + 1))
  have e4 : seg P s m ++ P.drop (s + m + 1) = P.drop s := by
    have e : P.drop (s + m + 1) = (P.drop s).drop (m + 1) := by rw [List.drop_drop]; congr 1
    unfold seg; rw [e, List.take_append_drop]
  rw [e4, seg_len h2 hs] at e3
  have e5 : B * D ≤ B ^ (m + 1) := by rw [Nat.pow_succ, Nat.mul_comm]; exact Nat.mul_le_mul_right B hD
  refine ⟨(h1.drop s).take _, by omega, ?_⟩
  rcases Nat.eq_zero_or_pos (val B (P.drop (s + m + 1))) with h | h
  · exact h
  · have := Nat.mul_le_mul_left (B ^ (m + 1)) h; omega
theorem KD.step {B x D N : Nat} {P O p' : List Nat} {s m t : Nat} (h : KD B x D N P O (s + 1)) (hs : s + m + 1 ≤ N) (hO : s < O.length) (hD : D ≤ B ^ m) (hDp : 0 < D) (ht : t = val B (seg P s m) / D) (htB : t < B) (hl : Lt B p') (hlen : p'.length = (seg P s m).length) (hv : val B p' = val B (seg P s m) % D) : KD B x D N (P.take s ++ p' ++ P.drop (s + m + 1)) (O.set s t) s := by
  obtain ⟨a1, a2, a3⟩ := h.at hs hD
  obtain ⟨h1, h2, h3, h4, h5⟩ := h
  have hpl := seg_len h2 hs
  have hX : (P.take s).length = s := by simp; omega
  have e0 := seg_split h2 hs
  have e1 : val B P = val B (P.take s) + B ^ s * val B (seg P s m) := by
    have := val_append B (P.take s ++ seg P s m) (P.drop (s + m + 1))
    rw [e0, a3, val_append, hX] at this; simpa using this
  have e2 : val B (P.take s ++ p' ++ P.drop (s + m + 1)) = val B (P.take s) + B ^ s * val B p' := by
    rw [val_append, val_append, a3, hX]; simp
  have e3 : val B ((P.take s ++ p' ++ P.drop (s + m + 1)).drop s) = val B p' := by
    rw [List.append_assoc, List.drop_left' hX, val_append, a3]; simp
  have e4 := Nat.mod_add_div (val B (seg P s m)) D
  rw [← ht, ← hv] at e4
  refine ⟨((h1.take s).append hl).append (h1.drop _), ?_, h3.set htB s, ?_, ?_⟩
  · simp only [List.length_append, hlen, hpl, hX, List.length_drop]; omega
  · rw [setDrop hO, val_cons, e2]
    rw [e1, ← e4, Nat.pow_succ] at h4
    have g1 : D * (B ^ s * (t + B * val B (O.drop (s + 1)))) = B ^ s * (D * t) + D * (B ^ s * B * val B (O.drop (s + 1))) := by
      rw [Nat.mul_add, Nat.mul_add, Nat.mul_left_comm, Nat.mul_assoc (B ^ s) B]
    rw [Nat.mul_add] at h4
    omega
  · rw [e3, hv]; exact Nat.mod_lt _ hDp
theorem KD.done {B x D N : Nat} {P O : List Nat} (h : KD B x D N P O 0) : Lt B P ∧ Lt B O ∧ val B O = x / D ∧ val B P = x % D := by
  obtain ⟨h1, h2, h3, h4, h5⟩ := h
  simp only [List.drop_zero, Nat.pow_zero, Nat.one_mul] at h4 h5
  refine ⟨h1, h3, ?_, ?_⟩
  · rw [← h4, Nat.add_mul_div_left _ _ (by omega), Nat.div_eq_of_lt h5, Nat.zero_add]
  · rw [← h4, Nat.add_mul_mod_self_left, Nat.mod_eq_of_lt h5]
end Go.Proofs.YtpcllhdfalebbaaGreatDoor.num
namespace Go.Proofs.YtpcllhdfalebbaaGreatDoor.num
set_option linter.unusedVariables false
/-- What Plain's loop keeps of the quotient while k bits are still to come. -/
def PL (B x y n : Nat) (O : List Nat) (k : Nat) : Prop := Lt B O ∧ O.length = n ∧ val B O = x / 2 ^ k / y * 2 ^ k
theorem split_at {B : Nat} {l : List Nat} (hl : Lt B l) {i d : Nat} (hd : l[i]? = some d) : val B l / B ^ i = d + B * val B (l.drop (i + 1)) := by
  have il : i < l.length := (List.getElem?_eq_some_iff.1 hd).1
  have h1 := val_append B (l.take i) (l.drop i)
  have h2 := val_lt (hl.take i)
  rw [List.take_append_drop] at h1
  rw [show (l.take i).length = i from by simp; omega] at h1 h2
  rw [h1, Nat.add_mul_div_left _ _ (by omega), Nat.div_eq_of_lt h2, Nat.zero_add, val_drop_step hd]
theorem two_split (j : Nat) : (2 : Nat) ^ j = 4294967296 ^ (j / 32) * 2 ^ (j % 32) := by
  rw [show (4294967296 : Nat) = 2 ^ 32 from by decide, ← Nat.pow_mul, ← Nat.pow_add, Nat.div_add_mod]
theorem base_split {b : Nat} (h : b < 32) : (4294967296 : Nat) = 2 ^ (b + 1) * 2 ^ (31 - b) := by
  rw [← Nat.pow_add, show b + 1 + (31 - b) = 32 by omega]
/-- The limb of the quotient in which a bit is set has noughts up to that bit. -/
theorem limb_even {O : List Nat} {j o q : Nat} (hO : Lt 4294967296 O) (ho : O[j / 32]? = some o) (hv : val 4294967296 O = q * 2 ^ (j + 1)) : ∃ t, o = 2 ^ (j % 32 + 1) * t := by
  have h1 := split_at hO ho
  have hb := base_split (b := j % 32) (Nat.mod_lt _ (by omega))
  have e : val 4294967296 O / 4294967296 ^ (j / 32) = 2 ^ (j % 32 + 1) * q := by
    rw [hv, Nat.pow_succ, two_split j, Nat.pow_succ]
    have : q * (4294967296 ^ (j / 32) * 2 ^ (j % 32) * 2) = 4294967296 ^ (j / 32) * (2 ^ (j % 32) * 2 * q) := by simp only [Nat.mul_assoc, Nat.mul_comm]
    rw [this, Nat.mul_div_cancel_left _ (Nat.pow_pos (by omega))]
  rw [e] at h1
  have h2 : 2 ^ (j % 32 + 1) ∣ o := by
    have a1 : 2 ^ (j % 32 + 1) ∣ 4294967296 * val 4294967296 (O.drop (j / 32 + 1)) := ⟨2 ^ (31 - j % 32) * val 4294967296 (O.drop (j / 32 + 1)), by rw [← Nat.mul_assoc, ← hb]⟩
    have a2 : 2 ^ (j % 32 + 1) ∣ o + 4294967296 * val 4294967296 (O.drop (j / 32 + 1)) := ⟨q, h1.symm⟩
    exact (Nat.dvd_add_left a1).1 a2
  exact h2
theorem or_add {b t : Nat} : (2 ^ (b + 1) * t) ||| 2 ^ b = 2 ^ (b + 1) * t + 2 ^ b := by
  rw [Nat.two_pow_add_eq_or_of_lt (Nat.pow_lt_pow_right (by omega) (by omega))]
theorem limb_room {b t : Nat} (hb : b < 32) (h : 2 ^ (b + 1) * t < 4294967296) : 2 ^ (b + 1) * t + 2 ^ b < 4294967296 := by
  have h1 := base_split hb
  rw [h1] at h ⊢
  have h2 : t < 2 ^ (31 - b) := Nat.lt_of_mul_lt_mul_left h
  have h3 := Nat.mul_le_mul_left (2 ^ (b + 1)) h2
  have h4 : 2 ^ b < 2 ^ (b + 1) := Nat.pow_lt_pow_right (by omega) (by omega)
  rw [Nat.mul_succ] at h3
  omega
theorem PL.start {B x y n k : Nat} (hB : 0 < B) (h : x < 2 ^ k) : PL B x y n (List.replicate n 0) k := by
  refine ⟨Lt.rep hB n, by simp, ?_⟩
  rw [val_rep, Nat.div_eq_of_lt h]; simp
theorem PL.set {x y n j o : Nat} {O : List Nat} (h : PL 4294967296 x y n O (j + 1)) (ho : O[j / 32]? = some o) (hq : x / 2 ^ j / y = 2 * (x / 2 ^ (j + 1) / y) + 1) : (o ||| 2 ^ (j % 32) = o + 2 ^ (j % 32)) ∧ o + 2 ^ (j % 32) < 4294967296 ∧ PL 4294967296 x y n (O.set (j / 32) (o + 2 ^ (j % 32))) j := by
  obtain ⟨h1, h2, h3⟩ := h
  obtain ⟨t, ht⟩ := limb_even h1 ho h3
  have ho1 := h1.at ho
  have hr := limb_room (b := j % 32) (t := t) (Nat.mod_lt _ (by omega)) (by rw [← ht]; exact ho1)
  rw [← ht] at hr
  refine ⟨by rw [ht]; exact or_add, hr, h1.set hr _, by simpa using h2, ?_⟩
  have e := val_set (B := 4294967296) ho (o + 2 ^ (j % 32))
  rw [Nat.mul_add, ← two_split] at e
  rw [hq, Nat.add_mul]
  have e2 : 2 * (x / 2 ^ (j + 1) / y) * 2 ^ j = x / 2 ^ (j + 1) / y * 2 ^ (j + 1) := by rw [Nat.pow_succ]; simp only [Nat.mul_assoc, Nat.mul_left_comm, Nat.mul_comm]
  omega
theorem PL.done {B x y n : Nat} {O : List Nat} (h : PL B x y n O 0) : Lt B O ∧ O.length = n ∧ val B O = x / y := by
  obtain ⟨h1, h2, h3⟩ := h
  simp at h3
  exact ⟨h1, h2, h3⟩
end Go.Proofs.YtpcllhdfalebbaaGreatDoor.num
namespace Go.Proofs.YtpcllhdfalebbaaGreatDoor.limb
open Go.RowKit
set_option linter.unusedVariables false
def DivSpec (hi lo d q r e : Int) : Prop :=
  (d % 4294967296 = 0 ∧ q = 0 ∧ r = 0 ∧ e = 3) ∨ (0 < d % 4294967296 ∧ d % 4294967296 ≤ hi % 4294967296 ∧ q = 0 ∧ r = 0 ∧ e = 2) ∨
  (hi % 4294967296 < d % 4294967296 ∧ 0 ≤ q ∧ q < 4294967296 ∧ 0 ≤ r ∧ r < d % 4294967296 ∧ q * (d % 4294967296) + r = (hi % 4294967296) * 4294967296 + lo % 4294967296 ∧ e = 0)
theorem DivSpec.of {hi lo d : Int} (h0 : 0 ≤ hi % 4294967296) (h : hi % 4294967296 < d % 4294967296) (l0 : 0 ≤ lo % 4294967296 ∧ lo % 4294967296 < 4294967296) :
    DivSpec hi lo d ((hi % 4294967296 * 4294967296 + lo % 4294967296) / (d % 4294967296)) ((hi % 4294967296 * 4294967296 + lo % 4294967296) % (d % 4294967296)) 0 := by
  unfold DivSpec
  refine Or.inr (Or.inr ⟨h, Int.ediv_nonneg (by omega) (by omega), ?_, Int.emod_nonneg _ (by omega), Int.emod_lt_of_pos _ (by omega), ?_, rfl⟩)
  · exact Int.ediv_lt_of_lt_mul (by omega) (by omega)
  · rw [Int.mul_comm]; exact Int.mul_ediv_add_emod _ _
theorem div_any (hi lo d : Int) (a0 : 0 ≤ hi) (a1 : hi ≤ 18446744073709551615) (b0 : 0 ≤ lo) (b1 : lo ≤ 18446744073709551615) (c0 : 0 ≤ d) (c1 : d ≤ 18446744073709551615) (w : World) :
    Calls Tryz.prog 97 #[.int .u64 hi, .int .u64 lo, .int .u64 d] w fun e w' =>
      ∃ q r x, e = .returned (.tuple #[.int .u64 q, .int .u64 r, .int .i64 x]) ∧ DivSpec hi lo d q r x ∧ ∃ n, w' = w.drewN n := by
  by_cases hd : d % 4294967296 = 0
  · go_enter Tryz.func97, Tryz.ntmps97
    go_wp2_with (first | (go_at_call 92; refine (low_any _ (by omega) (by omega) _).mono ?_; rintro e w' ⟨rfl, rfl⟩))
    go_ret3
    exact ⟨_, _, _, rfl, by unfold DivSpec; omega, 0, rfl⟩
  · by_cases hh : d % 4294967296 ≤ hi % 4294967296
    · go_enter Tryz.func97, Tryz.ntmps97
      go_wp2_with (first | (go_at_call 92; refine (low_any _ (by omega) (by omega) _).mono ?_; rintro e w' ⟨rfl, rfl⟩))
      go_ret3
      exact ⟨_, _, _, rfl, by unfold DivSpec; omega, 0, rfl⟩
    · go_enter Tryz.func97, Tryz.ntmps97
      go_wp2_with (first | (go_at_call 92; refine (low_any _ (by omega) (by omega) _).mono ?_; rintro e w' ⟨rfl, rfl⟩))
      go_quiet (fail)
      go_wp2
      go_ret3
      exact ⟨_, _, _, rfl, DivSpec.of (by omega) (by omega) (by omega), nq, rfl⟩
end Go.Proofs.YtpcllhdfalebbaaGreatDoor.limb
namespace Go.Proofs.YtpcllhdfalebbaaGreatDoor.nat
open Go.RowKit Go.Proofs.YtpcllhdfalebbaaGreatDoor.num Go.Proofs.YtpcllhdfalebbaaGreatDoor.mem Go.Proofs.YtpcllhdfalebbaaGreatDoor.limb
set_option linter.unusedVariables false
theorem nat_divmod {D N q r : Nat} (hr : r < D) (h : q * D + r = N) : q = N / D ∧ r = N % D := by
  subst h
  constructor
  · rw [Nat.mul_comm, Nat.mul_add_div (by omega), Nat.div_eq_of_lt hr, Nat.add_zero]
  · rw [Nat.mul_comm, Nat.mul_add_mod, Nat.mod_eq_of_lt hr]
/-- limb.Div ends with a quotient that is a limb, and what is left. -/
theorem div_ok (hiI loI dI : Int) (hi lo d q r : Nat) (w : World) (h1 : hiI = (hi : Int)) (h2 : loI = (lo : Int)) (h3 : dI = (d : Int)) (lh : hi < d % 4294967296) (ll : lo < 4294967296) (ld : d < 18446744073709551616) (hr : r < d % 4294967296) (he : q * (d % 4294967296) + r = hi * 4294967296 + lo) :
    Calls Tryz.prog 97 #[.int .u64 hiI, .int .u64 loI, .int .u64 dI] w fun e w' => e = .returned (.tuple #[.int .u64 (q : Int), .int .u64 (r : Int), .int .i64 0]) ∧ ∃ n, w' = w.drewN n := by
  subst h1; subst h2; subst h3
  refine (limb.div_any _ _ _ (by omega) (by omega) (by omega) (by omega) (by omega) (by omega) w).mono ?_
  rintro e w' ⟨q', r', x, rfl, hs, hn⟩
  unfold DivSpec at hs
  rcases hs with ⟨g, _⟩ | ⟨_, g, _⟩ | ⟨g1, g2, g3, g4, g5, g6, rfl⟩
  · omega
  · omega
  · obtain ⟨q', rfl⟩ := Int.eq_ofNat_of_zero_le g2
    obtain ⟨r', rfl⟩ := Int.eq_ofNat_of_zero_le g4
    have e1 : (d : Int) % 4294967296 = ((d % 4294967296 : Nat) : Int) := by omega
    have e2 : ((q' * (d % 4294967296) : Nat) : Int) = (q' : Int) * ((d % 4294967296 : Nat) : Int) := Int.natCast_mul _ _
    rw [e1] at g5 g6
    rw [← e2] at g6
    have a := nat_divmod hr he
    have b := nat_divmod (q := q') (r := r') (D := d % 4294967296) (by omega) (N := hi * 4294967296 + lo) (by omega)
    rw [a.1, a.2, ← b.1, ← b.2]
    exact ⟨rfl, hn⟩
/-- limb.Div ends with ErrArg. -/
theorem div_top (hiI loI dI : Int) (hi lo d : Nat) (w : World) (h1 : hiI = (hi : Int)) (h2 : loI = (lo : Int)) (h3 : dI = (d : Int)) (lh : d ≤ hi) (lh2 : hi < 4294967296) (ll : lo < 4294967296) (hd : 0 < d) :
    Calls Tryz.prog 97 #[.int .u64 hiI, .int .u64 loI, .int .u64 dI] w fun e w' => e = .returned (.tuple #[.int .u64 0, .int .u64 0, .int .i64 2]) ∧ ∃ n, w' = w.drewN n := by
  subst h1; subst h2; subst h3
  refine (limb.div_any _ _ _ (by omega) (by omega) (by omega) (by omega) (by omega) (by omega) w).mono ?_
  rintro e w' ⟨q', r', x, rfl, hs, hn⟩
  unfold DivSpec at hs
  obtain ⟨rfl, rfl, rfl⟩ : q' = 0 ∧ r' = 0 ∧ x = 2 := by omega
  exact ⟨rfl, hn⟩
set_option maxHeartbeats 400000 in
theorem dtrimmed_any (A : Option Addr) (n c : Nat) (l : List Nat) (w : World) (hn : n = l.length) (hc : l.length ≤ c) (hm : c ≤ maxLen) (hr : Rd w A .u64 l) :
    Calls Tryz.prog 98 #[.slice A n c] w (RetCut A c l w) := by
  subst hn
  unfold maxLen at hm
  go_enter Tryz.func98, Tryz.ntmps98
  go_wp2
  go_loop [0] (fun vs => ∃ n : Nat, n ≤ l.length ∧ Hid (trim (l.take n) = trim l) ∧ vs = .slice A n c) (fun vs => lenOf vs)
  case atStart => exact ⟨l.length, Nat.le_refl _, by rw [List.take_length]; rfl, rfl⟩
  case round =>
    obtain ⟨n, hn, ht, rfl⟩ := hrel
    by_cases hp : 0 < n
    · obtain ⟨n, rfl⟩ : ∃ m, n = m + 1 := ⟨n - 1, by omega⟩
      obtain ⟨ad, d, rfl, hd, hcell⟩ := hr.at_ (i := n) (by omega)
      have HD := Lib.hid hd
      clear hd
      by_cases hz : d = 0
      · subst hz
        go_wp2
        go_round
        case rel => exact ⟨n, by omega, by have h1 := ht.out; rw [trim_take0 HD.out] at h1; exact h1, rfl⟩
        case measure => simp [lenOf]
      · have hz1 : ((d : Int) == 0) = false := by rw [beq_eq_false_iff_ne]; omega
        have e : trim l = l.take (n + 1) := by have h1 := ht.out; rw [trim_of_take HD.out hz] at h1; exact h1.symm
        have el : (trim l).length = n + 1 := by rw [e]; simp; omega
        have HEL := Lib.hid el
        clear e el hz
        go_wp2
        go_ret
        exact ⟨by rw [HEL.out]; rfl, rfl⟩
    · obtain rfl : n = 0 := by omega
      have e : trim l = [] := by have h1 := ht.out; rw [List.take_zero] at h1; exact h1.symm
      have HE := Lib.hid e
      clear e
      go_wp2
      go_ret
      exact ⟨by rw [HE.out]; rfl, rfl⟩
/-- The call ends with a new slice, a limb, and an error. -/
def RetSUE (l : List Nat) (r : Nat) (x : Int) (w : World) (e : Ending) (w' : World) : Prop := ∃ v, e = .returned (.tuple #[v, .int .u64 (r : Int), .int .i64 x]) ∧ IsS w' .u64 v l ∧ Fresh w.heap.size v ∧ Below w.heap.size w w'
/-- The call ends with two new slices, and an error. -/
def RetSSE (l m : List Nat) (x : Int) (w : World) (e : Ending) (w' : World) : Prop := ∃ v u, e = .returned (.tuple #[v, u, .int .i64 x]) ∧ IsS w' .u64 v l ∧ IsS w' .u64 u m ∧ Fresh w.heap.size v ∧ Fresh w.heap.size u ∧ Below w.heap.size w w'
set_option maxHeartbeats 1600000 in
theorem dsmall_ok (v : Value) (x : Nat) (dI : Int) (d q r : Nat) (w : World) (hdI : dI = (d : Int)) (ld : d < 18446744073709551616) (hd : 0 < d % 4294967296) (h : IsS w .u64 v (digs 4294967296 x)) (hl : (digs 4294967296 x).length ≤ 1000000) (hq : q = x / (d % 4294967296)) (hr : r = x % (d % 4294967296)) :
    Calls Tryz.prog 77 #[v, .int .u64 dI] w (RetSUE (digs 4294967296 q) r 0 w) := by
  subst hdI
  have lx := digs_lt (B := 4294967296) (by omega) x
  have HQ : Hid (q = val 4294967296 (digs 4294967296 x) / (d % 4294967296)) := by show _ = _; rw [val_digs (by omega)]; exact hq
  have HR : Hid (r = val 4294967296 (digs 4294967296 x) % (d % 4294967296)) := by show _ = _; rw [val_digs (by omega)]; exact hr
  clear hq hr
  generalize digs 4294967296 x = xl at h hl lx HQ HR
  obtain ⟨A, k, rfl, hk, hm, hr⟩ := h
  unfold maxLen at hm
  have h1 : (d : Int) ≤ 18446744073709551615 := by omega
  have h2 : (((d : Int) % 4294967296) == 0) = false := by rw [beq_eq_false_iff_ne]; omega
  go_enter Tryz.func77, Tryz.ntmps77
  go_wp2_with (at_make; refine wpList_make_rd rfl _ _ rfl sl24 xl.length rfl rfl (by omega) (by omega) (by omega) (Nat.le_refl _) ?_; intro w1 hown1 hb1 hsz1)
  go_loopw [8, 19] (fun vr vi wr => ∃ (i r : Nat) (P : List Nat), i ≤ xl.length ∧ r < d % 4294967296 ∧ Hid (DQ 4294967296 xl (d % 4294967296) (xl.length - i) r P) ∧ Own wr w.heap.size 60 .u64 (.slice (some ⟨w.heap.size, 0, none⟩) xl.length xl.length) P ∧ Below w.heap.size w wr ∧ vr = .int .u64 (r : Int) ∧ vi = .int .i64 (i : Int)) (fun _ vi _ => xl.length - (intOf vi).toNat)
  case atStart => exact ⟨0, 0, _, by omega, hd, DQ.start (by omega) xl hd, hown1, hb1, rfl, rfl⟩
  case round =>
    clear hown1 hb1 hsz1
    obtain ⟨i, r0, P, hi, hr0, HDQ, hown, hb, rfl, rfl⟩ := hrel
    by_cases hlt : i < xl.length
    · obtain ⟨j, hj⟩ : ∃ j, j = xl.length - 1 - i := ⟨_, rfl⟩
      have hj2 : xl.length - i = j + 1 := by omega
      have hjI : (xl.length : Int) - 1 - (i : Int) = (j : Int) := by omega
      have hjl : j < xl.length := by omega
      obtain ⟨ad, x, rfl, hx, hcell⟩ := (hr.below hb).at_ hjl
      have hx1 := lx.at hx
      have hD := HDQ.out
      rw [hj2] at hD
      have HJ : Hid (xl.length - (i + 1) = j) := by show _ = _; omega
      obtain ⟨a', ha'⟩ : ∃ a', P[j]? = some a' := ⟨_, List.getElem?_eq_getElem (by have := hD.2.1; omega)⟩
      have hc0 := hown.cellAt ha'
      have hf0 := hown.frozenAt j
      obtain ⟨q1, hq1⟩ : ∃ q1, q1 = (r0 * 4294967296 + x) / (d % 4294967296) := ⟨_, rfl⟩
      obtain ⟨s1, hs1⟩ : ∃ s1, s1 = (r0 * 4294967296 + x) % (d % 4294967296) := ⟨_, rfl⟩
      have hs2 : s1 < d % 4294967296 := by rw [hs1]; exact Nat.mod_lt _ hd
      have he : q1 * (d % 4294967296) + s1 = r0 * 4294967296 + x := by rw [hq1, hs1, Nat.mul_comm]; exact Nat.div_add_mod _ _
      have hq2 : q1 < 4294967296 := by rw [hq1]; exact Nat.div_lt_of_lt_mul (by omega)
      have HS : Hid (DQ 4294967296 xl (d % 4294967296) j s1 (P.set j q1)) := hD.step hx hq2 hs2 (by rw [Nat.mul_comm 4294967296]; exact he)
      have HE := Lib.hid he
      clear hj hj2 hx ha' hq1 hs1 he hD
      go_wp2_with fail
      refine (div_ok _ _ _ r0 x d q1 s1 _ rfl rfl rfl hr0 hx1 ld hs2 HE.out).mono ?_
      rintro e1 w2 ⟨rfl, n2, rfl⟩
      have hown2 := hown.stored j q1
      have hb2 : Below w.heap.size w (wr.setCell ⟨w.heap.size, j, none⟩ (.int .u64 (q1 : Int))) := hb.setCell (Nat.le_refl _) _
      go_wp2
      go_roundw
      case rel => exact ⟨i + 1, s1, _, by omega, hs2, by rw [HJ.out]; exact HS, hown2, below_drewN hb2 _, rfl, by go_num⟩
      case measure => simp [intOf]; omega
    · obtain rfl : i = xl.length := by omega
      have hD := HDQ.out
      rw [Nat.sub_self] at hD
      obtain ⟨g1, g2, g3, g4⟩ := hD.done
      rw [← HQ.out] at g3
      rw [← HR.out] at g4
      have hT := trim_digs (by omega) g1
      rw [g3] at hT
      have HT := Lib.hid hT
      have H4 := Lib.hid g4
      obtain ⟨A2, c2, e2, hc2, hm2, hr2⟩ := hown.isS
      injection e2 with e2 e3 e4
      subst e2; subst e4
      have hfr := hown.fresh
      have HL := Lib.hid e3
      clear hT g2 g3 g4 hD e3
      go_wp2_with fail
      refine (dtrimmed_any _ _ _ P _ HL.out hc2 hm2 hr2).mono ?_
      rintro e w' ⟨rfl, rfl⟩
      rw [HT.out]
      go_wp2
      go_ret3
      refine ⟨_, by rw [H4.out]; rfl, ?_, hfr.cut _ _, hb⟩
      have := hr2.isTake (trim_len_le P) hc2 hm2
      rw [← trim_prefix, HT.out] at this
      exact this
end Go.Proofs.YtpcllhdfalebbaaGreatDoor.nat
namespace Go.Proofs.YtpcllhdfalebbaaGreatDoor.mem
open Go.RowKit Go.Proofs.YtpcllhdfalebbaaGreatDoor.num
set_option linter.unusedVariables false
theorem mid_at {X p Y : List Nat} {i d : Nat} (h : p[i]? = some d) : (X ++ p ++ Y)[X.length + i]? = some d := by
  have hi : i < p.length := (List.getElem?_eq_some_iff.1 h).1
  rw [List.append_assoc, List.getElem?_append_right (by omega), Nat.add_sub_cancel_left, List.getElem?_append_left hi]; exact h
theorem mid_set {X p Y : List Nat} {i : Nat} (hi : i < p.length) (t : Nat) : (X ++ p ++ Y).set (X.length + i) t = X ++ p.set i t ++ Y := by
  rw [List.append_assoc, List.set_append_right _ _ (by omega), Nat.add_sub_cancel_left, List.set_append_left _ _ hi, List.append_assoc]
theorem grown_set (w : World) (g o : Nat) (v : Value) : w.grownBy (w.setCell ⟨g, o, none⟩ v) (some g) :=
  ⟨rfl, rfl, rfl, by simp [World.setCell], fun k _ hk => Below.heap_setCell _ _ _ k (fun e => hk (by rw [e]))⟩
theorem grown_drewN {a w : World} {row : Option Nat} (h : a.grownBy w row) (n : Nat) : a.grownBy (w.drewN n) row := ⟨h.os, h.tape, h.output, h.size, h.block⟩
/-- A slice of numbers that lies in another block than g. -/
def Apart (g : Nat) (v : Value) : Prop := ∀ ad n c, v = .slice (some ad) n c → 0 < n → ad.block ≠ g
theorem Rd.grown {w w' : World} {A : Option Addr} {k : IntKind} {l : List Nat} {g c : Nat} (h : Rd w A k l) (hf : Apart g (.slice A l.length c)) (hg : w.grownBy w' (some g)) : Rd w' A k l := by
  intro i d hd
  obtain ⟨ad, rfl, hc⟩ := h i d hd
  have hi : i < l.length := (List.getElem?_eq_some_iff.1 hd).1
  refine ⟨ad, rfl, hg.cell hc ?_⟩
  rw [block_add]
  intro e
  exact hf ad _ _ rfl (by omega) (by simpa using e)
theorem IsS.grown {w w' : World} {k : IntKind} {v : Value} {l : List Nat} {g : Nat} (h : IsS w k v l) (hf : Apart g v) (hg : w.grownBy w' (some g)) : IsS w' k v l := by
  obtain ⟨A, c, rfl, h1, h2, h3⟩ := h
  exact ⟨A, c, rfl, h1, h2, h3.grown hf hg⟩
/-- The part p, ahead of which lies X and behind which Y, of a row of the call's own. -/
def Mid (w : World) (base g n cap s : Nat) (X p Y : List Nat) : Prop := Own w base 60 .u64 (.slice (some ⟨g, 0, none⟩) n cap) (X ++ p ++ Y) ∧ s = X.length
theorem Mid.cellAt {w : World} {base g n cap s : Nat} {X p Y : List Nat} (h : Mid w base g n cap s X p Y) {i d : Nat} (hd : p[i]? = some d) : w.cell? ⟨g, s + i, none⟩ = some (.int .u64 (d : Int)) := by
  obtain ⟨h1, rfl⟩ := h
  exact h1.cellAt (mid_at hd)
theorem Mid.frozenAt {w : World} {base g n cap s : Nat} {X p Y : List Nat} (h : Mid w base g n cap s X p Y) (i : Nat) : w.frozen? ⟨g, s + i, none⟩ = false := h.1.frozenAt _
theorem Mid.stored {w : World} {base g n cap s : Nat} {X p Y : List Nat} (h : Mid w base g n cap s X p Y) {i : Nat} (hi : i < p.length) (d : Nat) : Mid (w.setCell ⟨g, s + i, none⟩ (.int .u64 (d : Int))) base g n cap s X (p.set i d) Y := by
  obtain ⟨h1, rfl⟩ := h
  have := h1.stored (X.length + i) d
  rw [mid_set hi] at this
  exact ⟨this, rfl⟩
theorem Mid.rd {w : World} {base g n cap s : Nat} {X p Y : List Nat} (h : Mid w base g n cap s X p Y) : Rd w (some ⟨g, s, none⟩) .u64 p := by
  intro i d hd
  refine ⟨_, rfl, ?_⟩
  rw [Addr.add_lit]
  exact h.cellAt hd
theorem Mid.drewN {w : World} {base g n cap s : Nat} {X p Y : List Nat} (h : Mid w base g n cap s X p Y) (k : Nat) : Mid (w.drewN k) base g n cap s X p Y := ⟨h.1.drewN k, h.2⟩
end Go.Proofs.YtpcllhdfalebbaaGreatDoor.mem
namespace Go.Proofs.YtpcllhdfalebbaaGreatDoor.nat
open Go.RowKit Go.Proofs.YtpcllhdfalebbaaGreatDoor.num Go.Proofs.YtpcllhdfalebbaaGreatDoor.mem Go.Proofs.YtpcllhdfalebbaaGreatDoor.limb
set_option linter.unusedVariables false
/-- limb.Add, over Nat. -/
theorem ladd_nat (aI bI cI : Int) (a b c : Nat) (w : World) (ha : aI = (a : Int)) (hb : bI = (b : Int)) (hc : cI = (c : Int)) (la : a < 4294967296) (lb : b < 4294967296) (lc : c < 4294967296) :
    Calls Tryz.prog 64 #[.int .u64 aI, .int .u64 bI, .int .u64 cI] w fun e w' => ∃ s o : Nat, e = .returned (.tuple #[.int .u64 (s : Int), .int .u64 (o : Int)]) ∧ s < 4294967296 ∧ s + 4294967296 * o = a + b + c ∧ w = w' := by
  subst ha; subst hb; subst hc
  refine (limb.add_any _ _ _ (by omega) (by omega) (by omega) (by omega) (by omega) (by omega) w).mono ?_
  rintro e w' ⟨s, o, rfl, hs, rfl⟩
  unfold AddSpec at hs
  obtain ⟨s0, s1, o0, o1, he⟩ := hs
  obtain ⟨s, rfl⟩ := Int.eq_ofNat_of_zero_le s0
  obtain ⟨o, rfl⟩ := Int.eq_ofNat_of_zero_le o0
  exact ⟨s, o, rfl, by omega, by omega, rfl⟩
/-- takeOff ends with true where more was taken off than there was. -/
def RetTO (base g n cap s : Nat) (X p Y bl : List Nat) (t : Nat) (w : World) (e : Ending) (w' : World) : Prop := ∃ (k : Nat) (p' : List Nat), k ≤ 1 ∧ e = .returned (.bool (k == 0)) ∧ Lt 4294967296 p' ∧ p'.length = p.length ∧ val 4294967296 p' + 4294967296 ^ p.length * k + val 4294967296 bl * t = val 4294967296 p + 4294967296 ^ p.length ∧ Mid w' base g n cap s X p' Y ∧ w.grownBy w' (some g)
set_option maxHeartbeats 1600000 in
theorem takeOff_any (base g n cap s c : Nat) (X p Y bl : List Nat) (vb : Value) (tI : Int) (t : Nat) (w : World) (htI : tI = (t : Int)) (lt : t < 4294967296) (hM : Mid w base g n cap s X p Y) (lp : Lt 4294967296 p) (hp : p.length = bl.length + 1) (hpl : p.length ≤ 1000000) (hb : IsS w .u64 vb bl) (lb : Lt 4294967296 bl) (hf : Apart g vb) :
    Calls Tryz.prog 169 #[.slice (some ⟨g, s, none⟩) p.length c, vb, .int .u64 tI] w (RetTO base g n cap s X p Y bl t w) := by
  subst htI
  obtain ⟨A, k, rfl, hk, hm, hr⟩ := hb
  unfold maxLen at hm
  have hpI : (p.length : Int) = (bl.length : Int) + 1 := by omega
  have HP := Lib.hid hp
  have hbp : bl.length < p.length := by omega
  have hbpI : (bl.length : Int) < (p.length : Int) := by omega
  clear hp hpI
  go_enter Tryz.func169, Tryz.ntmps169
  go_wp2
  go_loopw [8, 9, 14] (fun vu vk vi wr => ∃ (i u kept : Nat) (q : List Nat), i ≤ bl.length ∧ u < 4294967296 ∧ kept ≤ 1 ∧ Hid (TO 4294967296 p bl q t i u kept) ∧ Mid wr base g n cap s X q Y ∧ w.grownBy wr (some g) ∧ vu = .int .u64 (u : Int) ∧ vk = .int .u64 (kept : Int) ∧ vi = .int .i64 (i : Int)) (fun _ _ vi _ => bl.length - (intOf vi).toNat)
  case atStart => exact ⟨0, 0, 1, p, by omega, by omega, by omega, TO.start lp (by omega) bl t, hM, World.grownBy.refl _ _, rfl, rfl, rfl⟩
  case round =>
    clear hM
    obtain ⟨i, u, kept, q, hi, hu, hkept, HT, hM, hg, rfl, rfl, rfl⟩ := hrel
    have hql := HT.out.2.1
    have hqi : i < q.length := by omega
    obtain ⟨d, hd⟩ : ∃ d, q[i]? = some d := ⟨_, List.getElem?_eq_getElem hqi⟩
    have hd1 := HT.out.1.at hd
    have hc0 := hM.cellAt hd
    have hf0 := hM.frozenAt i
    have HD := Lib.hid hd
    have HQI := Lib.hid hqi
    have hip : i < p.length := by omega
    have hipI : (i : Int) < (p.length : Int) := by omega
    clear hql hd hqi
    by_cases hlt : i < bl.length
    · obtain ⟨ad, e, rfl, he, hcell⟩ := (hr.grown hf hg).at_ hlt
      have he1 := lb.at he
      have HE := Lib.hid he
      clear he
      go_wp2_with fail
      refine (mul_nat _ _ _ _ e t u 0 _ rfl rfl rfl rfl he1 (by omega) hu (by omega)).mono ?_
      rintro e1 w2 ⟨low, up, rfl, hlow, hup, hm2, rfl⟩
      rw [Nat.mod_eq_of_lt lt, Nat.add_zero] at hm2
      have HM2 := Lib.hid hm2
      clear hm2
      go_wp2_with fail
      refine (ladd_nat _ _ _ d (4294967296 - 1 - low) kept _ rfl (by omega) rfl hd1 (by omega) (by omega)).mono ?_
      rintro e1 w3 ⟨s1, k', rfl, hs1, hk', rfl⟩
      have HT2 : Hid (TO 4294967296 p bl (q.set i s1) t (i + 1) up k') := HT.out.next HD.out HE.out hlow hup HM2.out hs1 hk'
      have hk2 : k' ≤ 1 := HT2.out.2.2.2.2.1
      have hM2 := hM.stored HQI.out s1
      have hg2 := hg.trans (grown_set wr g (s + i) (.int .u64 (s1 : Int)))
      clear hk'
      go_wp2
      go_roundw
      case rel => exact ⟨i + 1, up, k', _, by omega, hup, hk2, HT2, hM2, hg2, rfl, rfl, by go_num⟩
      case measure => simp [intOf]; omega
    · obtain rfl : i = bl.length := by omega
      go_wp2_with fail
      refine (ladd_nat _ _ _ d (4294967296 - 1 - u) kept _ rfl (by omega) rfl hd1 (by omega) (by omega)).mono ?_
      rintro e1 w3 ⟨s1, k', rfl, hs1, hk', rfl⟩
      obtain ⟨z1, z2, z3, z4⟩ := HT.out.last HP.out HD.out hs1 hk'
      have hM2 := hM.stored HQI.out s1
      have hg2 := hg.trans (grown_set wr g (s + bl.length) (.int .u64 (s1 : Int)))
      have Z2 := Lib.hid z2
      have Z4 := Lib.hid z4
      clear hk' z2 z4
      rcases (show k' = 0 ∨ k' = 1 from by omega) with rfl | rfl
      all_goals
        go_wp2
        go_ret
        exact ⟨_, _, z3, rfl, z1, Z2.out, Z4.out, hM2, hg2⟩
/-- putBack ends with the sum, but for what is carried beyond. -/
def RetPB (base g n cap s : Nat) (X p Y bl : List Nat) (w : World) (e : Ending) (w' : World) : Prop := ∃ (k : Nat) (p' : List Nat), e = .returned (.tuple #[]) ∧ Lt 4294967296 p' ∧ p'.length = p.length ∧ val 4294967296 p' + 4294967296 ^ p.length * k = val 4294967296 p + val 4294967296 bl ∧ Mid w' base g n cap s X p' Y ∧ w.grownBy w' (some g)
set_option maxHeartbeats 1600000 in
theorem putBack_any (base g n cap s c : Nat) (X p Y bl : List Nat) (vb : Value) (w : World) (hM : Mid w base g n cap s X p Y) (lp : Lt 4294967296 p) (hp : p.length = bl.length + 1) (hpl : p.length ≤ 1000000) (hb : IsS w .u64 vb bl) (lb : Lt 4294967296 bl) (hf : Apart g vb) :
    Calls Tryz.prog 170 #[.slice (some ⟨g, s, none⟩) p.length c, vb] w (RetPB base g n cap s X p Y bl w) := by
  obtain ⟨A, k, rfl, hk, hm, hr⟩ := hb
  unfold maxLen at hm
  have HP := Lib.hid hp
  have hbp : bl.length < p.length := by omega
  have hbpI : (bl.length : Int) < (p.length : Int) := by omega
  clear hp
  go_enter Tryz.func170, Tryz.ntmps170
  go_wp2
  go_loopw [4, 9] (fun vu vi wr => ∃ (i u : Nat) (q : List Nat), i ≤ bl.length ∧ u < 4294967296 ∧ Hid (PB 4294967296 p bl q i u) ∧ Mid wr base g n cap s X q Y ∧ w.grownBy wr (some g) ∧ vu = .int .u64 (u : Int) ∧ vi = .int .i64 (i : Int)) (fun _ vi _ => bl.length - (intOf vi).toNat)
  case atStart => exact ⟨0, 0, p, by omega, by omega, PB.start lp (by omega) bl, hM, World.grownBy.refl _ _, rfl, rfl⟩
  case round =>
    clear hM
    obtain ⟨i, u, q, hi, hu, HT, hM, hg, rfl, rfl⟩ := hrel
    have hql := HT.out.2.1
    have hqi : i < q.length := by omega
    obtain ⟨d, hd⟩ : ∃ d, q[i]? = some d := ⟨_, List.getElem?_eq_getElem hqi⟩
    have hd1 := HT.out.1.at hd
    have hc0 := hM.cellAt hd
    have hf0 := hM.frozenAt i
    have HD := Lib.hid hd
    have HQI := Lib.hid hqi
    have hip : i < p.length := by omega
    have hipI : (i : Int) < (p.length : Int) := by omega
    clear hql hd hqi
    by_cases hlt : i < bl.length
    · obtain ⟨ad, e, rfl, he, hcell⟩ := (hr.grown hf hg).at_ hlt
      have he1 := lb.at he
      have HE := Lib.hid he
      clear he
      go_wp2_with fail
      refine (ladd_nat _ _ _ d e u _ rfl rfl rfl hd1 he1 (by omega)).mono ?_
      rintro e1 w3 ⟨s1, k', rfl, hs1, hk', rfl⟩
      have hk2 : k' < 4294967296 := by omega
      have HT2 : Hid (PB 4294967296 p bl (q.set i s1) (i + 1) k') := HT.out.next HD.out HE.out hs1 hk2 hk'
      have hM2 := hM.stored HQI.out s1
      have hg2 := hg.trans (grown_set wr g (s + i) (.int .u64 (s1 : Int)))
      clear hk'
      go_wp2
      go_roundw
      case rel => exact ⟨i + 1, k', _, by omega, hk2, HT2, hM2, hg2, rfl, by go_num⟩
      case measure => simp [intOf]; omega
    · obtain rfl : i = bl.length := by omega
      go_wp2_with fail
      refine (ladd_nat _ _ _ d u 0 _ rfl rfl rfl hd1 (by omega) (by omega)).mono ?_
      rintro e1 w3 ⟨s1, k', rfl, hs1, hk', rfl⟩
      obtain ⟨z1, z2, z4⟩ := HT.out.last HP.out HD.out hs1 (by rw [hk']; rfl)
      have hM2 := hM.stored HQI.out s1
      have hg2 := hg.trans (grown_set wr g (s + bl.length) (.int .u64 (s1 : Int)))
      have Z2 := Lib.hid z2
      have Z4 := Lib.hid z4
      clear hk' z2 z4
      go_wp2
      go_end0
      exact ⟨_, _, rfl, z1, Z2.out, Z4.out, hM2, hg2⟩
/-- guess ends with the quotient, or one more; it only read. -/
def RetGu (V D : Nat) (w : World) (e : Ending) (w' : World) : Prop := ∃ t k : Nat, e = .returned (.int .u64 (t : Int)) ∧ Guess V D t ∧ t < 4294967296 ∧ w' = w.drewN k
/-- What the loop that puts the guess right finds in memory, and keeps. -/
theorem guess_loop_facts {t b2 left c : Nat} (ht : t < 4294967296) (hb : b2 < 4294967296) (hl : left < 4294967296) (hc : c < 4294967296) : t * b2 ≤ 18446744073709551615 ∧ left * 4294967296 ≤ 18446744073709551615 ∧ left * 4294967296 + c ≤ 18446744073709551615 := by
  have h1 : t * b2 ≤ 4294967295 * 4294967295 := Nat.mul_le_mul (by omega) (by omega)
  omega
set_option maxHeartbeats 3200000 in
theorem guess_any (vp vb : Value) (p bl : List Nat) (w : World) (h : IsS w .u64 vp p) (h' : IsS w .u64 vb bl) (lp : Lt 4294967296 p) (lb : Lt 4294967296 bl) (hp : p.length = bl.length + 1) (hb2 : 2 ≤ bl.length) (hbl : bl.length ≤ 1000000) (hnz : ∀ d, bl[bl.length - 1]? = some d → 0 < d) (hVD : val 4294967296 p < 4294967296 * val 4294967296 bl) :
    Calls Tryz.prog 168 #[vp, vb] w (RetGu (val 4294967296 p) (val 4294967296 bl) w) := by
  obtain ⟨A, k, rfl, hk, hm, hr⟩ := h
  obtain ⟨A', k', rfl, hk', hm', hr'⟩ := h'
  unfold maxLen at hm hm'
  obtain ⟨m, hm0⟩ : ∃ m, m = bl.length := ⟨_, rfl⟩
  have hpl : p.length = m + 1 := by omega
  rw [hpl, ← hm0]
  rw [hpl] at hk
  rw [← hm0] at hk' hb2 hbl hnz
  obtain ⟨ad, u1, rfl, hu1, cu1⟩ := hr.at_ (i := m) (by omega)
  obtain ⟨_, u0, e0, hu0, cu0⟩ := hr.at_ (i := m - 1) (by omega)
  injection e0 with e0; subst e0
  obtain ⟨_, c, e0, hc, cc⟩ := hr.at_ (i := m - 2) (by omega)
  injection e0 with e0; subst e0
  obtain ⟨ad', v, rfl, hv, cv⟩ := hr'.at_ (i := m - 1) (by omega)
  obtain ⟨_, b2, e0, hb2', cb2⟩ := hr'.at_ (i := m - 2) (by omega)
  injection e0 with e0; subst e0
  have hv0 := hnz v hv
  have eV := three (B := 4294967296) (n := m - 2) (by omega) (by rw [show m - 2 + 2 = m by omega]; exact hu1) (by rw [show m - 2 + 1 = m - 1 by omega]; exact hu0) hc
  have eD := two (B := 4294967296) (n := m - 2) (by omega) (by rw [show m - 2 + 1 = m - 1 by omega]; exact hv) hb2'
  have hX : val 4294967296 (p.take (m - 2)) < 4294967296 ^ (m - 2) := by
    have := val_lt (lp.take (m - 2)); rwa [show (p.take (m - 2)).length = m - 2 from by simp; omega] at this
  have hY : val 4294967296 (bl.take (m - 2)) < 4294967296 ^ (m - 2) := by
    have := val_lt (lb.take (m - 2)); rwa [show (bl.take (m - 2)).length = m - 2 from by simp; omega] at this
  have lu1 := lp.at hu1
  have lu0 := lp.at hu0
  have lc := lp.at hc
  have lv := lb.at hv
  have lb2 := lb.at hb2'
  obtain ⟨V, hV⟩ : ∃ V, V = val 4294967296 p := ⟨_, rfl⟩
  obtain ⟨D, hD⟩ : ∃ D, D = val 4294967296 bl := ⟨_, rfl⟩
  rw [← hV] at eV hVD ⊢
  rw [← hD] at eD hVD ⊢
  have HV := Lib.hid eV
  have HD := Lib.hid eD
  have HX := Lib.hid hX
  have HY := Lib.hid hY
  have HVD := Lib.hid hVD
  clear eV eD hX hY hVD hV hD hu1 hu0 hc hv hb2' hpl hm0 hr hr' hp hnz lp lb
  have hL : Hid (∀ t left : Nat, GU 4294967296 V D u1 u0 v t left → left * 4294967296 + c < t * b2 → 1 ≤ t ∧ GU 4294967296 V D u1 u0 v (t - 1) (left + v)) := fun t left h1 h2 => h1.step HV.out HX.out HD.out h2
  have hE : Hid (∀ t left : Nat, GU 4294967296 V D u1 u0 v t left → t * b2 ≤ left * 4294967296 + c → Guess V D t) := fun t left h1 h2 => h1.done HV.out HD.out HY.out hv0 h2
  have hS1 : Hid (u1 < v → GU 4294967296 V D u1 u0 v ((u1 * 4294967296 + u0) / v) ((u1 * 4294967296 + u0) % v)) := fun h => GU.start_div HV.out HX.out lc lu0 HD.out h
  have hS2 : Hid (v ≤ u1 → u1 = v ∧ GU 4294967296 V D u1 u0 v (4294967296 - 1) (u1 + u0)) := fun h => GU.start_top HV.out HD.out HY.out lb2 HVD.out h hv0 (by omega)
  clear HV HD HX HY HVD
  have i1 : IntKind.i64.wrap ((m : Int) - 1) = (m : Int) - 1 := IntWalk.i64_in _ (by omega)
  have i2 : IntKind.i64.wrap ((m : Int) - 2) = (m : Int) - 2 := IntWalk.i64_in _ (by omega)
  have i3 : (0 : Int) ≤ (m : Int) - 1 := by omega
  have i4 : (0 : Int) ≤ (m : Int) - 2 := by omega
  have i5 : ((m : Int) - 1).toNat = m - 1 := by omega
  have i6 : ((m : Int) - 2).toNat = m - 2 := by omega
  rcases Nat.lt_or_ge u1 v with hc1 | hc1
  · have hG := Lib.hid (hS1.out hc1)
    obtain ⟨t0, ht0⟩ : ∃ t, t = (u1 * 4294967296 + u0) / v := ⟨_, rfl⟩
    obtain ⟨r0, hr0⟩ : ∃ r, r = (u1 * 4294967296 + u0) % v := ⟨_, rfl⟩
    have hrv : r0 < v := by rw [hr0]; exact Nat.mod_lt _ hv0
    have he : Hid (t0 * (v % 4294967296) + r0 = u1 * 4294967296 + u0) := by show _ = _; rw [Nat.mod_eq_of_lt lv, ht0, hr0, Nat.mul_comm]; exact Nat.div_add_mod _ _
    rw [← ht0, ← hr0] at hG
    clear ht0 hr0 hS1 hS2
    go_enter Tryz.func168, Tryz.ntmps168
    go_wp2
    go_quiet ((go_at_call 97; exact Calls.quiet_of (div_ok _ _ _ u1 u0 v t0 r0 _ rfl rfl rfl (by omega) lu0 (by omega) (by omega) he.out)))
    go_wp2
    go_loopw [6, 7] (fun vt vl wr => ∃ (t left j : Nat), t < 4294967296 ∧ left < 8589934592 ∧ Hid (GU 4294967296 V D u1 u0 v t left) ∧ wr = w.drewN j ∧ vt = .int .u64 (t : Int) ∧ vl = .int .u64 (left : Int)) (fun _ vl _ => 4294967296 - (intOf vl).toNat)
    case atStart => exact ⟨t0, r0, nq, by have := hG.out.2.2; exact this, by omega, hG, rfl, rfl, rfl⟩
    case round =>
      clear hG
      obtain ⟨t, left, j, ht, hleft, hG, rfl, rfl, rfl⟩ := hrel
      by_cases hlt : left < 4294967296
      · obtain ⟨b1, b3, b4⟩ := guess_loop_facts ht lb2 hlt lc
        obtain ⟨M, hM⟩ : ∃ M, M = t * b2 := ⟨_, rfl⟩
        obtain ⟨S, hS⟩ : ∃ S, S = left * 4294967296 + c := ⟨_, rfl⟩
        have w1 : IntKind.u64.wrap ((t : Int) * (b2 : Int)) = (M : Int) := by rw [IntWalk.u64_in _ (by rw [← Int.natCast_mul]; omega), ← Int.natCast_mul, ← hM]
        have w2 : IntKind.u64.wrap ((left : Int) * 4294967296) = (left : Int) * 4294967296 := IntWalk.u64_in _ (by omega)
        have w3 : IntKind.u64.wrap ((left : Int) * 4294967296 + (c : Int)) = (S : Int) := by rw [IntWalk.u64_in _ (by omega)]; omega
        by_cases hcmp : S < M
        · obtain ⟨g1, g2⟩ := hL.out t left hG.out (by omega)
          have hG2 := Lib.hid g2
          have c1 : decide (S < M) = true := decide_eq_true hcmp
          have c2 : decide ((S : Int) < (M : Int)) = true := decide_eq_true (by omega)
          have T1 : Hid ((t : Int) - 1 = ((t - 1 : Nat) : Int)) := by show _ = _; omega
          have hn1 : ¬ (4294967296 : Int) ≤ (left : Int) := by omega
          have HLT := Lib.hid hlt
          have HLE := Lib.hid hleft
          clear b1 b3 b4 hM hS g2 hcmp hlt hleft
          go_wp2
          go_quiet (fail)
          go_wp2
          go_roundw
          case rel => exact ⟨t - 1, left + v, _, by omega, by have := HLT.out; omega, hG2, rfl, int_eq T1.out, by go_num⟩
          case measure => have := HLT.out; simp [intOf]; omega
        · have hGu := Lib.hid (hE.out t left hG.out (by omega))
          have c1 : decide (S < M) = false := decide_eq_false hcmp
          have c2 : decide ((S : Int) < (M : Int)) = false := decide_eq_false (by omega)
          have hn1 : ¬ (4294967296 : Int) ≤ (left : Int) := by omega
          clear b1 b3 b4 hM hS hcmp hlt hleft
          go_wp2
          go_quiet (fail)
          go_wp2
          go_ret
          exact ⟨t, _, rfl, hGu.out, ht, World.drewN_drewN _ _ _⟩
      · have hGu := Lib.hid (hE.out t left hG.out (by
          have h1 : t * b2 ≤ 4294967295 * 4294967295 := Nat.mul_le_mul (by omega) (by omega)
          omega))
        have c1 : decide (left < 4294967296) = false := decide_eq_false hlt
        have c2 : decide ((left : Int) < 4294967296) = false := decide_eq_false (by omega)
        go_wp2
        go_quiet (fail)
        go_wp2
        go_ret
        exact ⟨t, _, rfl, hGu.out, ht, World.drewN_drewN _ _ _⟩
  · obtain ⟨huv, hG0⟩ := hS2.out hc1
    have hG := Lib.hid hG0
    have hsum : IntKind.u64.wrap ((u1 : Int) + (u0 : Int)) = (u1 : Int) + (u0 : Int) := IntWalk.u64_in _ (by omega)
    clear hG0 huv hS1 hS2
    go_enter Tryz.func168, Tryz.ntmps168
    go_wp2
    go_quiet ((go_at_call 97; exact Calls.quiet_of (div_top _ _ _ u1 u0 v _ rfl rfl rfl hc1 (by omega) lu0 hv0)))
    go_wp2
    go_quiet (fail)
    go_wp2
    go_loopw [6, 7] (fun vt vl wr => ∃ (t left j : Nat), t < 4294967296 ∧ left < 8589934592 ∧ Hid (GU 4294967296 V D u1 u0 v t left) ∧ wr = w.drewN j ∧ vt = .int .u64 (t : Int) ∧ vl = .int .u64 (left : Int)) (fun _ vl _ => 4294967296 - (intOf vl).toNat)
    case atStart => exact ⟨4294967296 - 1, u1 + u0, _, by omega, by omega, hG, World.drewN_drewN _ _ _, rfl, by go_num⟩
    case round =>
      clear hG
      obtain ⟨t, left, j, ht, hleft, hG, rfl, rfl, rfl⟩ := hrel
      by_cases hlt : left < 4294967296
      · obtain ⟨b1, b3, b4⟩ := guess_loop_facts ht lb2 hlt lc
        obtain ⟨M, hM⟩ : ∃ M, M = t * b2 := ⟨_, rfl⟩
        obtain ⟨S, hS⟩ : ∃ S, S = left * 4294967296 + c := ⟨_, rfl⟩
        have w1 : IntKind.u64.wrap ((t : Int) * (b2 : Int)) = (M : Int) := by rw [IntWalk.u64_in _ (by rw [← Int.natCast_mul]; omega), ← Int.natCast_mul, ← hM]
        have w2 : IntKind.u64.wrap ((left : Int) * 4294967296) = (left : Int) * 4294967296 := IntWalk.u64_in _ (by omega)
        have w3 : IntKind.u64.wrap ((left : Int) * 4294967296 + (c : Int)) = (S : Int) := by rw [IntWalk.u64_in _ (by omega)]; omega
        by_cases hcmp : S < M
        · obtain ⟨g1, g2⟩ := hL.out t left hG.out (by omega)
          have hG2 := Lib.hid g2
          have c1 : decide (S < M) = true := decide_eq_true hcmp
          have c2 : decide ((S : Int) < (M : Int)) = true := decide_eq_true (by omega)
          have T1 : Hid ((t : Int) - 1 = ((t - 1 : Nat) : Int)) := by show _ = _; omega
          have hn1 : ¬ (4294967296 : Int) ≤ (left : Int) := by omega
          have HLT := Lib.hid hlt
          have HLE := Lib.hid hleft
          clear b1 b3 b4 hM hS g2 hcmp hlt hleft
          go_wp2
          go_quiet (fail)
          go_wp2
          go_roundw
          case rel => exact ⟨t - 1, left + v, _, by omega, by have := HLT.out; omega, hG2, rfl, int_eq T1.out, by go_num⟩
          case measure => have := HLT.out; simp [intOf]; omega
        · have hGu := Lib.hid (hE.out t left hG.out (by omega))
          have c1 : decide (S < M) = false := decide_eq_false hcmp
          have c2 : decide ((S : Int) < (M : Int)) = false := decide_eq_false (by omega)
          have hn1 : ¬ (4294967296 : Int) ≤ (left : Int) := by omega
          clear b1 b3 b4 hM hS hcmp hlt hleft
          go_wp2
          go_quiet (fail)
          go_wp2
          go_ret
          exact ⟨t, _, rfl, hGu.out, ht, World.drewN_drewN _ _ _⟩
      · have hGu := Lib.hid (hE.out t left hG.out (by
          have h1 : t * b2 ≤ 4294967295 * 4294967295 := Nat.mul_le_mul (by omega) (by omega)
          omega))
        have c1 : decide (left < 4294967296) = false := decide_eq_false hlt
        have c2 : decide ((left : Int) < 4294967296) = false := decide_eq_false (by omega)
        go_wp2
        go_quiet (fail)
        go_wp2
        go_ret
        exact ⟨t, _, rfl, hGu.out, ht, World.drewN_drewN _ _ _⟩
/-- step ends with the quotient, and leaves in the part what is left. -/
def RetSt (base g n cap s : Nat) (X p Y bl : List Nat) (w : World) (e : Ending) (w' : World) : Prop := ∃ (t : Nat) (p' : List Nat), e = .returned (.int .u64 (t : Int)) ∧ t = val 4294967296 p / val 4294967296 bl ∧ t < 4294967296 ∧ Lt 4294967296 p' ∧ p'.length = p.length ∧ val 4294967296 p' = val 4294967296 p % val 4294967296 bl ∧ Mid w' base g n cap s X p' Y ∧ w.grownBy w' (some g)
set_option maxHeartbeats 1600000 in
theorem step_any (base g n cap s c : Nat) (X p Y bl : List Nat) (vb : Value) (w : World) (hM : Mid w base g n cap s X p Y) (lp : Lt 4294967296 p) (hp : p.length = bl.length + 1) (hpc : p.length ≤ c) (hcm : c ≤ maxLen) (hb : IsS w .u64 vb bl) (lb : Lt 4294967296 bl) (hf : Apart g vb) (hb2 : 2 ≤ bl.length) (hbl : bl.length ≤ 900000) (hnz : ∀ d, bl[bl.length - 1]? = some d → 0 < d) (hVD : val 4294967296 p < 4294967296 * val 4294967296 bl) :
    Calls Tryz.prog 164 #[.slice (some ⟨g, s, none⟩) p.length c, vb] w (RetSt base g n cap s X p Y bl w) := by
  have hD : 0 < val 4294967296 bl := by
    rcases Nat.eq_zero_or_pos (val 4294967296 bl) with h | h
    · rw [h] at hVD; omega
    · exact h
  have hVM := val_lt lp
  have HP := Lib.hid hp
  have HNZ := Lib.hid hnz
  clear hp hnz
  go_enter Tryz.func164, Tryz.ntmps164
  go_wp2_with fail
  refine (guess_any _ vb p bl w ⟨_, c, rfl, hpc, hcm, hM.rd⟩ hb lp lb HP.out hb2 (by have := HP.out; omega) HNZ.out hVD).mono ?_
  rintro e w1 ⟨t, k1, rfl, hG, ht, rfl⟩
  have hM1 := hM.drewN k1
  have hb1 : IsS (w.drewN k1) .u64 vb bl := hb
  have hg1 : w.grownBy (w.drewN k1) (some g) := grown_drewN (World.grownBy.refl _ _) k1
  go_wp2_with fail
  refine (takeOff_any base g n cap s c X p Y bl vb _ t _ rfl ht hM1 lp HP.out (by have := HP.out; omega) hb1 lb hf).mono ?_
  rintro e w2 ⟨k, p', hk, rfl, z1, z2, z4, hM2, hg2⟩
  have hg3 := hg1.trans hg2
  rcases (show k = 0 ∨ k = 1 from by omega) with rfl | rfl
  · have hb3 := hb.grown hf hg3
    have Z2 := Lib.hid z2
    have Z4 : Hid (val 4294967296 p' + val 4294967296 bl * t = val 4294967296 p + 4294967296 ^ p.length) := by show _ = _; omega
    clear z2 z4
    go_wp2_with fail
    rw [← Z2.out]
    refine (putBack_any base g n cap s c X p' Y bl vb _ hM2 z1 (by rw [Z2.out]; exact HP.out) (by have := Z2.out; have := HP.out; omega) hb3 lb hf).mono ?_
    rintro e w3 ⟨k, p2, rfl, y1, y2, y4, hM3, hg4⟩
    rw [Z2.out] at y2 y4
    have hV' := val_lt z1
    have hW := val_lt y1
    rw [Z2.out] at hV'
    rw [y2] at hW
    obtain ⟨q1, q2⟩ := hG.more hD hV' Z4.out y4 hW hVM
    have Q1 : Hid (t - 1 = val 4294967296 p / val 4294967296 bl) := by show _ = _; rw [q1]; exact Nat.add_sub_cancel _ _
    have ht1 : 1 ≤ t := by rw [q1]; exact Nat.le_add_left _ _
    have T1 : Hid ((t : Int) - 1 = ((t - 1 : Nat) : Int)) := by show _ = _; omega
    have Q2 := Lib.hid q2
    have Y2 := Lib.hid y2
    clear y2 y4 q1 q2 hG
    go_wp2
    go_ret
    exact ⟨t - 1, p2, by rw [← T1.out]; rfl, Q1.out, by omega, y1, Y2.out, Q2.out, hM3, hg3.trans hg4⟩
  · obtain ⟨q1, q2⟩ := hG.right (V' := val 4294967296 p') hD (by omega)
    have Q1 := Lib.hid q1
    have Q2 := Lib.hid q2
    have Z2 := Lib.hid z2
    clear q1 q2 z2 z4 hG
    go_wp2
    go_ret
    exact ⟨t, p', rfl, Q1.out, ht, z1, Z2.out, Q2.out, hM2, hg3⟩
end Go.Proofs.YtpcllhdfalebbaaGreatDoor.nat
namespace Go.Proofs.YtpcllhdfalebbaaGreatDoor.mem
open Go.RowKit Go.Proofs.YtpcllhdfalebbaaGreatDoor.num
set_option linter.unusedVariables false
section
variable {P : Program}
/-- 'out = append(out, x)', and where the new slice lies. -/
theorem wpList_append_lie {w : World} {ops : Array Oper} {rest : List Oper} {o : Oper} {a : Act} {Q : Exit → Act → World → Prop} (hgd : o.guard = none) (s x : Operand) {t : TypeId}
    (ho : o.op = .call { callee := .builtin .append, args := #[s, x], argTypes := #[t, t] })
    {base : Nat} {e : TypeId} {k : IntKind} (hT : SliceT P t e k) {v : Value} {l : List Nat} (d : Nat) {y : Int} (hs : a.eval s = v) (hown : Own w base e k v l) (hx : a.eval x = .slice (some ⟨w.heap.size, 0, none⟩) 1 1) (hd : y = (d : Int))
    (hlen : l.length ≤ 1000000000) (hbase : base ≤ w.heap.size)
    (h : ∀ g cap w', Own w' base e k (.slice (some ⟨g, 0, none⟩) (l.length + 1) cap) (l ++ [d]) → Below base w w' → w.grownBy w' v.ownBlock → (v.ownBlock = some g ∨ w.heap.size ≤ g) → base ≤ g → g < w'.heap.size → wpList P ops Q rest (a.put o.dst (.slice (some ⟨g, 0, none⟩) (l.length + 1) cap)) w') : wpList P ops Q (o :: rest) a (w.alloc (.cells #[.int k y] e)) := by
  obtain ⟨i, hi, hz, hsz, hby⟩ := hT.info
  subst hd
  refine wpList_append_lies (w.alloc (.cells #[.int k (d : Int)] e)) hgd s x t ho base e i (.int k 0) 1 8 hT.und hi hz hsz hby rfl (by omega) v l.length (nv k l) hs (World.ownsRow.alloc hown _) ⟨w.heap.size, 0, none⟩ 1 1 [.int k (d : Int)] hx rfl ?_ ?_ (by omega) (by unfold maxLen; omega) (by omega) (by simp; omega) _ rfl ?_
  · exact World.news_of_block (heap_alloc_new w _)
  · intro u' hu'
    obtain rfl := List.mem_singleton.1 hu'
    rfl
  · intro g cap w' h1 h2 h3 h4
    have h5 : w.grownBy w' v.ownBlock := grown_trans (World.grownBy_alloc w _ _) h2
    have hown' : Own w' base e k (.slice (some ⟨g, 0, none⟩) (l.length + 1) cap) (l ++ [d]) := Own.snoc h1
    refine h g cap w' hown' ((Below.refl base w).grown h5 hbase hown.base_le) h5 ?_ (hown'.base_le g rfl) h4
    rcases h3 with h3 | h3
    · exact .inl h3
    · right; simp at h3; omega
end
/-- A slice of numbers of an old block lies elsewhere than what was made since. -/
theorem IsS.apartNew {w : World} {k : IntKind} {u : Value} {l : List Nat} {g : Nat} (h : IsS w k u l) (hg : w.heap.size ≤ g) : Apart g u := by
  rintro ad n c rfl hn e
  obtain ⟨A, c', e1, h1, h2, h3⟩ := h
  injection e1 with e1 e2 e3
  subst e1; subst e2
  obtain ⟨ad', he, hc⟩ := h3 0 _ (List.getElem?_eq_getElem hn)
  injection he with he; subst he
  have h4 := World.block_lt_of_cell? w _ hc
  rw [block_add] at h4
  omega
theorem IsS.grownFar {w w' : World} {k : IntKind} {u : Value} {l : List Nat} {row : Option Nat} (h : IsS w k u l) (hf : ∀ g, row = some g → Apart g u) (hg : w.grownBy w' row) : IsS w' k u l := by
  rcases row with _ | g
  · exact h.grown (g := w.heap.size) (h.apartNew (Nat.le_refl _)) ⟨hg.os, hg.tape, hg.output, hg.size, fun k hk _ => hg.block k hk (by simp)⟩
  · exact h.grown (hf g rfl) hg
theorem Own.grown {w w' : World} {base : Nat} {e : TypeId} {k : IntKind} {v : Value} {l : List Nat} {g : Nat} (h : Own w base e k v l) (hg : w.grownBy w' (some g)) (hne : v.ownBlock ≠ some g) : Own w' base e k v l := World.ownsRow.kept h hg (.inr hne)
theorem Fresh.apart {B g : Nat} {u : Value} (h : Fresh B u) (hg : g < B) : Apart g u := by
  rintro ad n c rfl hn e
  have := h ad n c rfl
  omega
end Go.Proofs.YtpcllhdfalebbaaGreatDoor.mem
namespace Go.Proofs.YtpcllhdfalebbaaGreatDoor.nat
open Go.RowKit Go.Proofs.YtpcllhdfalebbaaGreatDoor.num Go.Proofs.YtpcllhdfalebbaaGreatDoor.mem Go.Proofs.YtpcllhdfalebbaaGreatDoor.limb
set_option linter.unusedVariables false
theorem step_len (base g n cap s c ln : Nat) (X p Y bl : List Nat) (vb : Value) (w : World) (hln : ln = p.length) (hM : Mid w base g n cap s X p Y) (lp : Lt 4294967296 p) (hp : p.length = bl.length + 1) (hpc : p.length ≤ c) (hcm : c ≤ maxLen) (hb : IsS w .u64 vb bl) (lb : Lt 4294967296 bl) (hf : Apart g vb) (hb2 : 2 ≤ bl.length) (hbl : bl.length ≤ 900000) (hnz : ∀ d, bl[bl.length - 1]? = some d → 0 < d) (hVD : val 4294967296 p < 4294967296 * val 4294967296 bl) :
    Calls Tryz.prog 164 #[.slice (some ⟨g, s, none⟩) ln c, vb] w (RetSt base g n cap s X p Y bl w) := by
  rw [hln]; exact step_any base g n cap s c X p Y bl vb w hM lp hp hpc hcm hb lb hf hb2 hbl hnz hVD
set_option maxHeartbeats 3200000 in
theorem dlong_any (w0 : World) (v vb : Value) (x y : Nat) (w : World) (hown : Own w w0.heap.size 60 .u64 v (digs 4294967296 x)) (hb0 : Below w0.heap.size w0 w) (hvb : IsS w .u64 vb (digs 4294967296 y)) (hfar : ∀ g, v.ownBlock = some g → Apart g vb) (hl : (digs 4294967296 x).length ≤ 100000) (hl' : (digs 4294967296 y).length ≤ 100000) (h2 : 2 ≤ (digs 4294967296 y).length) :
    Calls Tryz.prog 149 #[v, vb] w (RetSS .u64 (digs 4294967296 (x / y)) (digs 4294967296 (x % y)) w0) := by
  obtain ⟨Q, hQ⟩ : ∃ Q, Q = (digs 4294967296 x).length + 1 - (digs 4294967296 y).length := ⟨_, rfl⟩
  have ly := digs_lt (B := 4294967296) (by omega) y
  have hyp := digs_pow_le (B := 4294967296) (by omega) y (n := (digs 4294967296 y).length - 1) (by omega)
  have hym := digs_lt_pow (B := 4294967296) (by omega) y
  have hy0 : 0 < y := Nat.lt_of_lt_of_le (Nat.pow_pos (by omega)) hyp
  have HKD : Hid (KD 4294967296 x y ((digs 4294967296 x).length + 1) (digs 4294967296 x ++ [0]) (List.replicate Q 0) Q) := KD.start (by omega) hyp (by omega) (by omega)
  have hlast : Hid (∀ d, (digs 4294967296 y)[(digs 4294967296 y).length - 1]? = some d → 0 < d) := fun d hd => by
    have := digs_last (B := 4294967296) (by omega) y (n := (digs 4294967296 y).length - 1) (by omega) hd
    omega
  have HYM := Lib.hid hym
  obtain ⟨A, k, rfl, hk, hmx, hr⟩ := id hvb
  have hsz0 := hb0.size
  have hQl : Q ≤ 100001 := by omega
  obtain ⟨Aa, ca, rfl, _, _, _⟩ := id hown.isS
  rcases (show ((digs 4294967296 y).length : Int) < (digs 4294967296 x).length + 1 ∨ ((digs 4294967296 x).length : Int) + 1 ≤ ((digs 4294967296 y).length : Int) from by omega) with hle | hle
  · have HQ : Hid ((max 0 (((digs 4294967296 x).length : Int) + 1 - ((digs 4294967296 y).length : Int))) = (Q : Int) ∧ (0 < Q → Q + (digs 4294967296 y).length = (digs 4294967296 x).length + 1)) := by refine ⟨?_, ?_⟩ <;> omega
    clear hQ hyp hym
    go_enter Tryz.func149, Tryz.ntmps149
    go_wp2_with (first
      | (at_builtin; refine wpList_append_lie rfl _ _ rfl sl24 0 (v := .slice Aa (digs 4294967296 x).length ca) rfl hown rfl rfl (by omega) hsz0 ?_; intro g cap w1 hown1 hb1 hg1 hlie hbg hgs)
      | (at_make; refine wpList_make_rd rfl _ _ rfl sl24 Q rfl rfl (by have := HQ.out.1; omega) (by have := HQ.out.1; omega) (by omega) (Nat.le_refl _) ?_; intro w2 hown2 hb2 hs2))
    have hap : Apart g (.slice A (digs 4294967296 y).length k) := by
      rcases hlie with h | h
      · exact hfar g h
      · exact hvb.apartNew h
    have hvb1 := hvb.grownFar hfar hg1
    have hap2 : Apart w1.heap.size (.slice A (digs 4294967296 y).length k) := hvb1.apartNew (Nat.le_refl _)
    have hvb2 := hvb1.below hb2
    have hownP := hown1.below hb2
    have B1 := hb0.trans hb1
    have hs1 := B1.size
    have B2 := B1.trans (hb2.mono hs1)
    have hcap : (digs 4294967296 x).length + 1 ≤ cap ∧ cap ≤ maxLen := by
      obtain ⟨_, _, e, h1, h2, _⟩ := hown1.isS
      injection e with _ e1 e2
      subst e2
      rw [List.length_append] at h1
      exact ⟨h1, h2⟩
    clear hown hfar hvb hr hown1 hvb1 hg1 hlie hb1 hb2 B1 hb0
    go_loopw [22] (fun vi wr => ∃ (i : Nat) (P O : List Nat), i ≤ Q ∧ Hid (KD 4294967296 x y ((digs 4294967296 x).length + 1) P O (Q - i) ∧ O.length = Q) ∧ Own wr w0.heap.size 60 .u64 (.slice (some ⟨g, 0, none⟩) ((digs 4294967296 x).length + 1) cap) P ∧ Own wr w1.heap.size 60 .u64 (.slice (some ⟨w1.heap.size, 0, none⟩) Q Q) O ∧ IsS wr .u64 (.slice A (digs 4294967296 y).length k) (digs 4294967296 y) ∧ Below w0.heap.size w0 wr ∧ vi = .int .i64 (i : Int)) (fun vi _ => Q - (intOf vi).toNat)
    case atStart => exact ⟨0, _, _, by omega, ⟨HKD.out, by simp⟩, hownP, hown2, hvb2, B2, rfl⟩
    case round =>
      clear hownP hown2 hvb2 B2 HKD
      obtain ⟨i, P, O, hi, HK, hownP, hownO, hvbr, Br, rfl⟩ := hrel
      by_cases hlt : i < Q
      · obtain ⟨s, hs⟩ : ∃ s, s = Q - 1 - i := ⟨_, rfl⟩
        have hsI : (Q : Int) - 1 - (i : Int) = (s : Int) := by omega
        have HS : Hid (Q - i = s + 1 ∧ Q - (i + 1) = s) := ⟨by omega, by omega⟩
        have hsq : s < Q := by omega
        have hfit : s + (digs 4294967296 y).length + 1 ≤ (digs 4294967296 x).length + 1 := by have := HQ.out.2 (by omega); omega
        have hfitI : (s : Int) + ((digs 4294967296 y).length : Int) + 1 ≤ (cap : Int) := by omega
        have hk1 := HK.out.1
        rw [HS.out.1] at hk1
        have HO : Hid (O.length = Q) := HK.out.2
        have HK1 := Lib.hid hk1
        have HPL : Hid ((seg P s (digs 4294967296 y).length).length = (digs 4294967296 y).length + 1) := seg_len hk1.2.1 hfit
        obtain ⟨q1, q2, q3⟩ := hk1.at hfit (Nat.le_of_lt HYM.out)
        have hM : Mid wr w0.heap.size g ((digs 4294967296 x).length + 1) cap s (P.take s) (seg P s (digs 4294967296 y).length) (P.drop (s + (digs 4294967296 y).length + 1)) := ⟨by rw [seg_split hk1.2.1 hfit]; exact hownP, by have := hk1.2.1; simp; omega⟩
        have Q2 : Hid (val 4294967296 (seg P s (digs 4294967296 y).length) < 4294967296 * val 4294967296 (digs 4294967296 y)) := by show _ < _; rw [val_digs (by omega)]; exact q2
        clear hs hk1 q2 q3 HK
        go_wp2_with fail
        refine (step_len w0.heap.size g _ cap s _ _ _ _ _ (digs 4294967296 y) _ _ (by rw [HPL.out]; omega) hM q1 HPL.out (by rw [HPL.out]; omega) (by omega) hvbr ly hap h2 (by omega) hlast.out Q2.out).mono ?_
        rintro e w3 ⟨t, p', rfl, ht, htB, lp', hlen', hv', hM3, hg3⟩
        rw [val_digs (by omega)] at ht hv'
        have HK2 : Hid (KD 4294967296 x y ((digs 4294967296 x).length + 1) (P.take s ++ p' ++ P.drop (s + (digs 4294967296 y).length + 1)) (O.set s t) s ∧ (O.set s t).length = Q) := ⟨HK1.out.step hfit (by rw [HO.out]; exact hsq) (Nat.le_of_lt HYM.out) hy0 ht htB lp' hlen' hv', by rw [List.length_set]; exact HO.out⟩
        have hne : g ≠ w1.heap.size := by omega
        have hownO3 := hownO.grown hg3 (by simp [Value.ownBlock]; omega)
        obtain ⟨a', ha'⟩ : ∃ a', O[s]? = some a' := ⟨_, List.getElem?_eq_getElem (by rw [HO.out]; exact hsq)⟩
        have hc0 := hownO3.cellAt ha'
        have hf0 := hownO3.frozenAt s
        have hgs := grown_set w3 w1.heap.size s (.int .u64 (t : Int))
        have hownO4 := hownO3.stored s t
        have hownP4 := Own.grown hM3.1 hgs (by simp [Value.ownBlock]; omega)
        have hvb4 := (hvbr.grown hap hg3).grown hap2 hgs
        have B4 : Below w0.heap.size w0 (w3.setCell ⟨w1.heap.size, s, none⟩ (.int .u64 (t : Int))) := (Br.grown hg3 Br.size (fun k hk => by injection hk with hk; omega)).setCell hs1 _
        clear ht hv' hlen' ha' hgs hg3
        go_wp2
        go_roundw
        case rel => exact ⟨i + 1, _, _, by omega, by rw [HS.out.2]; exact HK2, hownP4, hownO4, hvb4, B4, by go_num⟩
        case measure => simp [intOf]; omega
      · obtain rfl : i = Q := by omega
        have hk1 := HK.out.1
        rw [Nat.sub_self] at hk1
        obtain ⟨z1, z2, z3, z4⟩ := hk1.done
        have hT1 := trim_digs (by omega) z2
        have hT2 := trim_digs (by omega) z1
        rw [z3] at hT1
        rw [z4] at hT2
        have T1 := Lib.hid hT1
        have T2 := Lib.hid hT2
        obtain ⟨A1, c1, e1, hc1, hm1, hr1⟩ := hownO.isS
        obtain ⟨A2, c2, e2, hc2, hm2, hr2⟩ := hownP.isS
        injection e1 with e1 e3 e5
        injection e2 with e2 e4 e6
        subst e1; subst e2; subst e5; subst e6
        have hf1 := hownO.fresh
        have hf2 := hownP.fresh
        have L1 := Lib.hid e3
        have L2 := Lib.hid e4
        clear hk1 z3 z4 hT1 hT2 HK e3 e4
        go_wp2_with fail
        refine (dtrimmed_any _ _ _ O _ L1.out hc1 hm1 hr1).mono ?_
        rintro e w' ⟨rfl, rfl⟩
        rw [T1.out]
        go_wp2_with fail
        refine (dtrimmed_any _ _ _ P _ L2.out hc2 hm2 hr2).mono ?_
        rintro e w' ⟨rfl, rfl⟩
        rw [T2.out]
        go_wp2
        go_ret2
        refine ⟨_, _, rfl, ?_, ?_, (hf1.cut _ _).mono hs1, hf2.cut _ _, Br⟩
        · rw [← T1.out]; exact hr1.isTrim hc1 hm1
        · rw [← T2.out]; exact hr2.isTrim hc2 hm2
  · have HQ : Hid ((max 0 (((digs 4294967296 x).length : Int) + 1 - ((digs 4294967296 y).length : Int))) = (Q : Int) ∧ (0 < Q → Q + (digs 4294967296 y).length = (digs 4294967296 x).length + 1)) := by refine ⟨?_, ?_⟩ <;> omega
    clear hQ hyp hym
    go_enter Tryz.func149, Tryz.ntmps149
    go_wp2_with (first
      | (at_builtin; refine wpList_append_lie rfl _ _ rfl sl24 0 (v := .slice Aa (digs 4294967296 x).length ca) rfl hown rfl rfl (by omega) hsz0 ?_; intro g cap w1 hown1 hb1 hg1 hlie hbg hgs)
      | (at_make; refine wpList_make_rd rfl _ _ rfl sl24 Q rfl rfl (by have := HQ.out.1; omega) (by have := HQ.out.1; omega) (by omega) (Nat.le_refl _) ?_; intro w2 hown2 hb2 hs2))
    have hap : Apart g (.slice A (digs 4294967296 y).length k) := by
      rcases hlie with h | h
      · exact hfar g h
      · exact hvb.apartNew h
    have hvb1 := hvb.grownFar hfar hg1
    have hap2 : Apart w1.heap.size (.slice A (digs 4294967296 y).length k) := hvb1.apartNew (Nat.le_refl _)
    have hvb2 := hvb1.below hb2
    have hownP := hown1.below hb2
    have B1 := hb0.trans hb1
    have hs1 := B1.size
    have B2 := B1.trans (hb2.mono hs1)
    have hcap : (digs 4294967296 x).length + 1 ≤ cap ∧ cap ≤ maxLen := by
      obtain ⟨_, _, e, h1, h2, _⟩ := hown1.isS
      injection e with _ e1 e2
      subst e2
      rw [List.length_append] at h1
      exact ⟨h1, h2⟩
    clear hown hfar hvb hr hown1 hvb1 hg1 hlie hb1 hb2 B1 hb0
    go_loopw [22] (fun vi wr => ∃ (i : Nat) (P O : List Nat), i ≤ Q ∧ Hid (KD 4294967296 x y ((digs 4294967296 x).length + 1) P O (Q - i) ∧ O.length = Q) ∧ Own wr w0.heap.size 60 .u64 (.slice (some ⟨g, 0, none⟩) ((digs 4294967296 x).length + 1) cap) P ∧ Own wr w1.heap.size 60 .u64 (.slice (some ⟨w1.heap.size, 0, none⟩) Q Q) O ∧ IsS wr .u64 (.slice A (digs 4294967296 y).length k) (digs 4294967296 y) ∧ Below w0.heap.size w0 wr ∧ vi = .int .i64 (i : Int)) (fun vi _ => Q - (intOf vi).toNat)
    case atStart => exact ⟨0, _, _, by omega, ⟨HKD.out, by simp⟩, hownP, hown2, hvb2, B2, rfl⟩
    case round =>
      clear hownP hown2 hvb2 B2 HKD
      obtain ⟨i, P, O, hi, HK, hownP, hownO, hvbr, Br, rfl⟩ := hrel
      by_cases hlt : i < Q
      · exfalso; have := HQ.out.2 (by omega); omega
      · obtain rfl : i = Q := by omega
        have hk1 := HK.out.1
        rw [Nat.sub_self] at hk1
        obtain ⟨z1, z2, z3, z4⟩ := hk1.done
        have hT1 := trim_digs (by omega) z2
        have hT2 := trim_digs (by omega) z1
        rw [z3] at hT1
        rw [z4] at hT2
        have T1 := Lib.hid hT1
        have T2 := Lib.hid hT2
        obtain ⟨A1, c1, e1, hc1, hm1, hr1⟩ := hownO.isS
        obtain ⟨A2, c2, e2, hc2, hm2, hr2⟩ := hownP.isS
        injection e1 with e1 e3 e5
        injection e2 with e2 e4 e6
        subst e1; subst e2; subst e5; subst e6
        have hf1 := hownO.fresh
        have hf2 := hownP.fresh
        have L1 := Lib.hid e3
        have L2 := Lib.hid e4
        clear hk1 z3 z4 hT1 hT2 HK e3 e4
        go_wp2_with fail
        refine (dtrimmed_any _ _ _ O _ L1.out hc1 hm1 hr1).mono ?_
        rintro e w' ⟨rfl, rfl⟩
        rw [T1.out]
        go_wp2_with fail
        refine (dtrimmed_any _ _ _ P _ L2.out hc2 hm2 hr2).mono ?_
        rintro e w' ⟨rfl, rfl⟩
        rw [T2.out]
        go_wp2
        go_ret2
        refine ⟨_, _, rfl, ?_, ?_, (hf1.cut _ _).mono hs1, hf2.cut _ _, Br⟩
        · rw [← T1.out]; exact hr1.isTrim hc1 hm1
        · rw [← T2.out]; exact hr2.isTrim hc2 hm2
end Go.Proofs.YtpcllhdfalebbaaGreatDoor.nat
namespace Go.Proofs.YtpcllhdfalebbaaGreatDoor.mem
open Go.RowKit
theorem IsS.drew {w : World} {k : IntKind} {v : Value} {l : List Nat} (h : IsS w k v l) : IsS w.drew k v l := by
  obtain ⟨A, c, e, h1, h2, h3⟩ := h
  exact ⟨A, c, e, h1, h2, fun i d hd => h3 i d hd⟩
end Go.Proofs.YtpcllhdfalebbaaGreatDoor.mem
namespace Go.Proofs.YtpcllhdfalebbaaGreatDoor.nat
open Go.RowKit Go.Proofs.YtpcllhdfalebbaaGreatDoor.num Go.Proofs.YtpcllhdfalebbaaGreatDoor.mem Go.Proofs.YtpcllhdfalebbaaGreatDoor.limb
set_option linter.unusedVariables false
theorem up_bits {d n : Nat} (hd : d < 4294967296) (hd0 : d ≠ 0) (h : BitsSpec ((d : Int) % 4294967296) n) (hn : n ≤ 32) : 1 ≤ n ∧ n ≤ 32 := by
  obtain ⟨h1, h2⟩ := BitsSpec.nat hd h
  refine ⟨?_, hn⟩
  rcases Nat.eq_zero_or_pos n with h3 | h3
  · subst h3; simp at h1; omega
  · exact h3
theorem pow_up {u : Nat} (h : u ≤ 31) : 2 ^ u ≤ 2147483648 := Nat.pow_le_pow_right (n := 2) (j := 31) (by omega) h
theorem up_len {x u : Nat} (h : u ≤ 31) : (digs 4294967296 (x * 2 ^ u)).length ≤ (digs 4294967296 x).length + 1 := by
  have h1 := mul_len x (2 ^ u)
  have h2 : (digs 4294967296 (2 ^ u)).length ≤ 1 := digs_len_le (by omega) (by have := pow_up h; omega)
  omega
theorem up_len2 {x u : Nat} : (digs 4294967296 x).length ≤ (digs 4294967296 (x * 2 ^ u)).length := digs_len_mono (by omega) (Nat.le_mul_of_pos_right _ (Nat.pow_pos (by omega)))
theorem div_len (x y : Nat) : (digs 4294967296 (x / y)).length ≤ (digs 4294967296 x).length := digs_len_mono (by omega) (Nat.div_le_self _ _)
theorem mod_len (x y : Nat) : (digs 4294967296 (x % y)).length ≤ (digs 4294967296 x).length := digs_len_mono (by omega) (Nat.mod_le _ _)
theorem mod_len' {x y : Nat} (h : 0 < y) : (digs 4294967296 (x % y)).length ≤ (digs 4294967296 y).length := digs_len_mono (by omega) (Nat.le_of_lt (Nat.mod_lt _ h))
set_option maxHeartbeats 3200000 in
theorem ddiv_ok (v vb : Value) (x y : Nat) (w : World) (h : IsS w .u64 v (digs 4294967296 x)) (h' : IsS w .u64 vb (digs 4294967296 y)) (hl : (digs 4294967296 x).length ≤ 90000) (hl' : (digs 4294967296 y).length ≤ 90000) (hy : 0 < y) :
    Calls Tryz.prog 119 #[v, vb] w (RetSSE (digs 4294967296 (x / y)) (digs 4294967296 (x % y)) 0 w) := by
  have hyl : 0 < (digs 4294967296 y).length := by
    rcases Nat.eq_zero_or_pos (digs 4294967296 y).length with h0 | h0
    · have := (digs_len0 (B := 4294967296) (by omega)).1 h0; omega
    · exact h0
  have hyl2 : ¬ digs 4294967296 y = [] := by intro e; rw [e] at hyl; simp at hyl
  have hq1 := div_len x y
  have hq2 := mod_len x y
  by_cases hone : (digs 4294967296 y).length = 1
  · have hyB : y < 4294967296 := by have := digs_lt_pow (B := 4294967296) (by omega) y; rw [hone] at this; simpa using this
    have hdy := digs_one y hyB hy
    have DY := Lib.hid hdy
    have hym : y % 4294967296 = y := Nat.mod_eq_of_lt hyB
    have YM := Lib.hid hym
    have hr1 : x % y < 4294967296 := Nat.lt_trans (Nat.mod_lt _ hy) hyB
    have hz0 : ((digs 4294967296 y).length == 0) = false := by rw [hone]; rfl
    have hz1 : (((digs 4294967296 y).length : Int) == 0) = false := by rw [hone]; rfl
    have hz2 : (((digs 4294967296 y).length : Int) == 1) = true := by rw [hone]; rfl
    clear hdy hym hone
    obtain ⟨R, hR⟩ : ∃ R, R = x % y := ⟨_, rfl⟩
    rw [← hR] at hr1 hq2 ⊢
    have HR := Lib.hid hR
    have hRI : (R : Int) ≤ 18446744073709551615 := by omega
    clear hR
    go_enter Tryz.func119, Tryz.ntmps119
    go_wp2_with fail
    refine (small_any vb y _ _ 1 0 w h' (by omega) rfl rfl (by omega) (by omega) y (by omega)).mono ?_
    rintro e w1 ⟨v1, rfl, k1, f1, b1⟩
    have h1 := h.below b1
    obtain ⟨A, c, rfl, hc, hm, hr⟩ := id k1
    obtain ⟨ad, d, rfl, hd, hcell⟩ := hr.at_ (i := 0) (by omega)
    have hdy : d = y := by rw [DY.out] at hd; simpa using hd.symm
    subst hdy
    clear hd
    rw [Addr.add_zero'] at hcell
    go_wp2_with fail
    refine (dsmall_ok _ x _ d (x / d) R _ rfl (by omega) (by rw [YM.out]; exact hy) h1 (by omega) (by rw [YM.out]) (by rw [YM.out]; exact HR.out)).mono ?_
    rintro e w2 ⟨v2, rfl, k2, f2, b2⟩
    go_wp2_with fail
    refine (of_any _ R _ rfl hRI).mono ?_
    rintro e w3 ⟨v3, rfl, k3, f3, b3⟩
    have B2 := b1.trans (b2.mono b1.size)
    have B3 := B2.trans (b3.mono B2.size)
    go_wp2
    go_ret3
    exact ⟨_, _, rfl, k2.below b3, k3, f2.mono b1.size, f3.mono B2.size, B3⟩
  · obtain ⟨m, hm⟩ : ∃ m, m = (digs 4294967296 y).length - 1 := ⟨_, rfl⟩
    have hz1 : (((digs 4294967296 y).length : Int) == 0) = false := by rw [beq_eq_false_iff_ne]; omega
    have hz2 : (((digs 4294967296 y).length : Int) == 1) = false := by rw [beq_eq_false_iff_ne]; omega
    have h2 : 2 ≤ (digs 4294967296 y).length := by omega
    have HMod : Hid (∀ u, x * 2 ^ u % (y * 2 ^ u) / 2 ^ u = x % y) := fun u => by rw [Nat.mul_mod_mul_right, Nat.mul_div_cancel _ (Nat.pow_pos (by omega))]
    have HDiv : Hid (∀ u, x * 2 ^ u / (y * 2 ^ u) = x / y) := fun u => Nat.mul_div_mul_right _ _ (Nat.pow_pos (by omega))
    clear hone hm
    go_enter Tryz.func119, Tryz.ntmps119
    go_wp2_with fail
    refine (small_any vb y _ _ 1 0 w h' (by omega) rfl rfl (by omega) (by omega) y (by omega)).mono ?_
    rintro e w1 ⟨v1, rfl, k1, f1, b1⟩
    have h1 := h.below b1
    obtain ⟨A, c, rfl, hc, hmx, hr⟩ := id k1
    obtain ⟨ad, d, rfl, hd, hcell⟩ := hr.at_ (i := (digs 4294967296 y).length - 1) (by omega)
    have hd1 := (digs_lt (B := 4294967296) (by omega) y).at hd
    have hd0 := digs_last (B := 4294967296) (by omega) y (n := (digs 4294967296 y).length - 1) (by omega) hd
    have HD0 := Lib.hid hd0
    clear hd hd0
    go_wp2_with fail
    refine (limb.bits_any _ (by omega) (by omega) _).mono ?_
    rintro e w2 ⟨n, rfl, hn, hs, rfl⟩
    obtain ⟨hn1, _⟩ := up_bits hd1 HD0.out hs hn
    obtain ⟨u, hu⟩ : ∃ u, u = 32 - n := ⟨_, rfl⟩
    have hu31 : u ≤ 31 := by omega
    have huI : (32 : Int) - (n : Int) = (u : Int) := by omega
    obtain ⟨p, hp⟩ : ∃ p, p = 2 ^ u := ⟨_, rfl⟩
    have hpb : p ≤ 2147483648 := by rw [hp]; exact pow_up hu31
    have hw : IntKind.u64.wrap ((2 : Int) ^ u) = (p : Int) := by rw [← two_cast, ← hp, IntKind.wrap_u64]; omega
    have l1 := up_len (x := x) hu31
    have l2 := up_len (x := y) hu31
    have l3 := up_len2 (x := y) (u := u)
    have l4 := mod_len (x * 2 ^ u) (y * 2 ^ u)
    have hmd := HMod.out u
    have hdv := HDiv.out u
    rw [← hp] at l1 l2 l3 l4 hmd hdv
    have HP := Lib.hid hp
    have HMD := Lib.hid hmd
    have HDV := Lib.hid hdv
    clear hu hp hs hmd hdv
    have hz3 : p % 4294967296 = p := Nat.mod_eq_of_lt (by omega)
    have HZ3 := Lib.hid hz3
    clear hz3
    go_wp2
    have HZX : Hid (x * p = x * (p % 4294967296) + 0 % 4294967296) := by show _ = _; rw [HZ3.out]; omega
    have HZY : Hid (y * p = y * (p % 4294967296) + 0 % 4294967296) := by show _ = _; rw [HZ3.out]; omega
    have hx1 : (digs 4294967296 x).length ≤ 1000000 := by omega
    have hx2 : p < 18446744073709551616 := by omega
    have hx3 : 0 < 18446744073709551616 := by omega
    have hy1 : (digs 4294967296 y).length ≤ 1000000 := by omega
    have hxp : (digs 4294967296 (x * p)).length ≤ 100000 := by omega
    have hyp : (digs 4294967296 (y * p)).length ≤ 100000 := by omega
    have hyp2 : 2 ≤ (digs 4294967296 (y * p)).length := by omega
    have con := Lib.hid (small_own v x (p : Int) 0 p 0 w1.drew h1.drew hx1 rfl rfl hx2 hx3 (x * p) HZX.out)
    go_region_law (first
      | (go_simp; go_at_call 25; (with_reducible refine con.out.mono ?_); rintro e w3 ⟨v3, rfl, own3, b3⟩; have con2 := Lib.hid (small_any _ y (p : Int) 0 p 0 w3 (k1.drew.below b3) hy1 rfl rfl hx2 hx3 (y * p) HZY.out))
      | (go_simp; go_at_call 25; (with_reducible refine con2.out.mono ?_); rintro e w4 ⟨v4, rfl, k4, f4, b4⟩; have con3 := Lib.hid (dlong_any w1.drew v3 v4 (x * p) (y * p) w4 (own3.below b4) (b3.trans (b4.mono b3.size)) k4 (fun g hg => f4.apart (own3.under g hg)) hxp hyp hyp2))
      | (go_simp; go_at_call 149; (with_reducible refine con3.out.mono ?_); rintro e w5 ⟨v5, v6, rfl, k5, k6, f5, f6, b5⟩))
    all_goals
      have B1 : Below w.heap.size w w1.drew := b1.drew
      have B5 := B1.trans (b5.mono B1.size)
      rw [HDV.out] at k5
      go_wp2_with fail
      refine (shr_ok v6 (x * p % (y * p)) _ u _ rfl k6 (by omega) (by omega) (x % y) (by rw [← HP.out]; exact HMD.out.symm)).mono ?_
      rintro e w6 ⟨v7, rfl, k7, f7, b6⟩
      go_wp2
      go_ret3
      exact ⟨_, _, rfl, k5.below b6, k7, f5.mono B1.size, f7.mono B5.size, B5.trans (b6.mono B5.size)⟩
/-- The call ends with a new slice, and an error. -/
theorem isS_nil0 {w : World} {v : Value} (h : IsS w .u64 v []) : ∃ A c, v = .slice A 0 c := by
  obtain ⟨A, c, e, _⟩ := h
  exact ⟨A, c, e⟩
set_option maxHeartbeats 400000 in
theorem dexact_ok (v vb : Value) (x y : Nat) (w : World) (h : IsS w .u64 v (digs 4294967296 x)) (h' : IsS w .u64 vb (digs 4294967296 y)) (hl : (digs 4294967296 x).length ≤ 90000) (hl' : (digs 4294967296 y).length ≤ 90000) (hy : 0 < y) (q : Nat) (hm : x % y = 0) (hq : q = x / y) :
    Calls Tryz.prog 96 #[v, vb] w (RetSI .u64 (digs 4294967296 q) 0 w) := by
  have HM := Lib.hid hm
  have HQ := Lib.hid hq
  clear hm hq
  go_enter Tryz.func96, Tryz.ntmps96
  go_wp2_with fail
  refine (ddiv_ok v vb x y w h h' hl hl' hy).mono ?_
  rintro e w1 ⟨v1, v2, rfl, k1, k2, f1, f2, b1⟩
  rw [HM.out, digs_zero] at k2
  rw [← HQ.out] at k1
  obtain ⟨A2, c2, rfl⟩ := isS_nil0 k2
  go_wp2
  go_ret2
  exact ⟨_, rfl, k1, f1, b1⟩
set_option maxHeartbeats 400000 in
theorem dmod_ok (v vb : Value) (x y : Nat) (w : World) (h : IsS w .u64 v (digs 4294967296 x)) (h' : IsS w .u64 vb (digs 4294967296 y)) (hl : (digs 4294967296 x).length ≤ 90000) (hl' : (digs 4294967296 y).length ≤ 90000) (hy : 0 < y) (r : Nat) (hr : r = x % y) :
    Calls Tryz.prog 117 #[v, vb] w (RetSI .u64 (digs 4294967296 r) 0 w) := by
  have HR := Lib.hid hr
  clear hr
  go_enter Tryz.func117, Tryz.ntmps117
  go_wp2_with fail
  refine (ddiv_ok v vb x y w h h' hl hl' hy).mono ?_
  rintro e w1 ⟨v1, v2, rfl, k1, k2, f1, f2, b1⟩
  rw [← HR.out] at k2
  go_wp2
  go_ret2
  exact ⟨_, rfl, k2, f2, b1⟩
end Go.Proofs.YtpcllhdfalebbaaGreatDoor.nat
namespace Go.Proofs.YtpcllhdfalebbaaGreatDoor.nat
open Go.RowKit Go.Proofs.YtpcllhdfalebbaaGreatDoor.num Go.Proofs.YtpcllhdfalebbaaGreatDoor.mem Go.Proofs.YtpcllhdfalebbaaGreatDoor.limb
set_option linter.unusedVariables false
end Go.Proofs.YtpcllhdfalebbaaGreatDoor.nat
namespace Go.Proofs.YtpcllhdfalebbaaGreatDoor.nat
open Go.RowKit Go.Proofs.YtpcllhdfalebbaaGreatDoor.num Go.Proofs.YtpcllhdfalebbaaGreatDoor.mem Go.Proofs.YtpcllhdfalebbaaGreatDoor.limb
set_option linter.unusedVariables false
theorem dec_mod (x y : Nat) : (digs 10000 (x % y)).length ≤ (digs 10000 x).length := digs_len_mono (by omega) (Nat.mod_le _ _)
theorem len_pos {y : Nat} (hy : 0 < y) : 0 < (digs 4294967296 y).length := by
  rcases Nat.eq_zero_or_pos (digs 4294967296 y).length with h0 | h0
  · have := (digs_len0 (B := 4294967296) (by omega)).1 h0; omega
  · exact h0
end Go.Proofs.YtpcllhdfalebbaaGreatDoor.nat
namespace Go.Proofs.YtpcllhdfalebbaaGreatDoor.str
open Go.RowKit Go.Proofs.YtpcllhdfalebbaaGreatDoor.num Go.Proofs.YtpcllhdfalebbaaGreatDoor.mem Go.Proofs.YtpcllhdfalebbaaGreatDoor.txt
set_option linter.unusedVariables false
set_option maxHeartbeats 400000 in
theorem isBase_yes (b : Int) (w : World) (h2 : 2 ≤ b) (h36 : b ≤ 36) :
    Calls Tryz.prog 103 #[.int .i64 b] w fun e w' => e = .returned (.bool true) ∧ w = w' := by
  go_enter Tryz.func103, Tryz.ntmps103
  go_wp2
  go_ret
  exact ⟨rfl, rfl⟩
/-- How many digits are cut off at once, and the base to the power of so many. -/
def Strd (b k p : Nat) : Prop := 1 ≤ k ∧ k ≤ 32 ∧ p = b ^ k ∧ p < 4294967296
theorem Strd.next {b k p : Nat} (h : Strd b k p) (hb : 2 ≤ b) (hp : p * b < 4294967296) : Strd b (k + 1) (p * b) := by
  obtain ⟨h1, h2, rfl, h4⟩ := h
  refine ⟨by omega, ?_, by rw [Nat.pow_succ], hp⟩
  have h5 : 2 ^ (k + 1) ≤ b ^ (k + 1) := Nat.pow_le_pow_left hb _
  rw [Nat.pow_succ b] at h5
  have h6 : 2 ^ (k + 1) < 2 ^ 32 := Nat.lt_of_le_of_lt h5 hp
  have := (Nat.pow_lt_pow_iff_right (by omega : 1 < 2)).1 h6
  omega
def RetStrd (b : Nat) (w : World) (e : Ending) (w' : World) : Prop := ∃ k p : Nat, e = .returned (.tuple #[.int .i64 (k : Int), .int .u64 (p : Int)]) ∧ Strd b k p ∧ w = w'
set_option maxHeartbeats 800000 in
set_option maxRecDepth 100000 in
theorem stretch_any (bI : Int) (b : Nat) (w : World) (hbI : bI = (b : Int)) (h2 : 2 ≤ b) (h36 : b ≤ 36) :
    Calls Tryz.prog 104 #[.int .i64 bI] w (RetStrd b w) := by
  have hb0 : 2 ≤ bI := by omega
  have hb1 : bI ≤ 36 := by omega
  have HB := Lib.hid hbI
  have hs0 : Strd b 1 b := ⟨by omega, by omega, by rw [Nat.pow_one], by omega⟩
  clear hbI h36
  go_enter Tryz.func104, Tryz.ntmps104
  go_wp2
  go_loop [4, 5] (fun vk vp => ∃ (k p : Nat) (pI : Int), Strd b k p ∧ Hid (pI = (p : Int)) ∧ vk = .int .i64 (k : Int) ∧ vp = .int .u64 pI) (fun vk _ => (32 - intOf vk).toNat)
  case atStart => exact ⟨1, b, bI, hs0, HB, rfl, rfl⟩
  case round =>
    clear hs0
    obtain ⟨k, p, pI, hS, HP, rfl, rfl⟩ := hrel
    have h1 := hS.1
    have h32 := hS.2.1
    have hp := hS.2.2.2
    have q0 : 0 ≤ pI := by have := HP.out; omega
    have q1 : pI ≤ 4294967295 := by have := HP.out; omega
    have m0 : (0 : Int) ≤ pI * bI := Int.mul_nonneg (by omega) (by omega)
    have m1 : pI * bI ≤ 154618822620 := Int.le_trans (Int.mul_le_mul_of_nonneg_right q1 (by omega)) (by omega)
    have em : ((p * b : Nat) : Int) = pI * bI := by rw [HP.out, HB.out, Int.natCast_mul]
    have EM := Lib.hid em
    by_cases hlt : p * b < 4294967296
    · have hd : decide (pI * bI < 4294967296) = true := by rw [decide_eq_true_eq]; omega
      have hN := hS.next h2 hlt
      have hk2 := hN.2.1
      clear hlt hp em
      go_wp2
      go_round
      case rel => exact ⟨k + 1, p * b, _, hN, EM.out.symm, by go_num, rfl⟩
      case measure => simp [intOf]; omega
    · have hd : decide (pI * bI < 4294967296) = false := by rw [decide_eq_false_iff_not]; omega
      clear hlt hp em
      go_wp2
      go_ret2
      have ep := HP.out
      subst ep
      exact ⟨k, p, rfl, hS, rfl⟩
end Go.Proofs.YtpcllhdfalebbaaGreatDoor.str
namespace Go.Proofs.YtpcllhdfalebbaaGreatDoor.mem
open Go.RowKit Go.Proofs.YtpcllhdfalebbaaGreatDoor.num
set_option linter.unusedVariables false
/-- Slice type t has elements of type e, bytes. -/
structure SliceB (P : Program) (t e : TypeId) : Prop where
  und : P.underlying t = some (.slice e)
  info : ∃ i, P.info? e = some i ∧ i.zero = some (.int .u8 0) ∧ i.size = 1 ∧ i.bytes = 1
section
variable {P : Program}
/-- 'make([]byte, n)'. -/
theorem wpList_make_b {w : World} {ops : Array Oper} {rest : List Oper} {o : Oper} {a : Act} {Q : Exit → Act → World → Prop} (hgd : o.guard = none) (lo co : Operand) {t : TypeId} (ho : o.op = Op.makeSlice t lo co)
    {base : Nat} {e : TypeId} (hT : SliceB P t e) {kl kc : IntKind} {L C : Int} (n : Nat) (hl : a.eval lo = .int kl L) (hc : a.eval co = .int kc C) (hL : L = (n : Int)) (hC : C = (n : Int)) (hn : n ≤ 10000000000000) (hbase : base ≤ w.heap.size)
    (h : ∀ w', Own w' base e .u8 (.slice (some ⟨w.heap.size, 0, none⟩) n n) (List.replicate n 0) → Below w.heap.size w w' → w.heap.size < w'.heap.size → wpList P ops Q rest (a.put o.dst (.slice (some ⟨w.heap.size, 0, none⟩) n n)) w') : wpList P ops Q (o :: rest) a w := by
  obtain ⟨i, hi, hz, hs, hb⟩ := hT.info
  refine wpList_make_full w hgd lo co t ho base e i (.int .u8 0) 1 hT.und hi hz hs kl kc L C n hl hc hL hC (by rw [hb]; omega) (by unfold maxLen; omega) hbase fun w' h1 h2 => ?_
  have hw := own_of_make h1
  refine h w' hw ((Below.refl _ w).grown h2 (Nat.le_refl _) (fun g hg => by cases hg)) ?_
  rcases h1.2 with ⟨h3, _⟩ | ⟨g, cap, cur, h3, _, h4, _⟩
  · cases h3
  · injection h3 with h3 _ _
    injection h3 with h3
    injection h3 with h3 _ _
    subst h3
    exact (Array.getElem?_eq_some_iff.1 h4).1
theorem run_append_b {w : World} {base : Nat} {t ty : TypeId} {e : TypeId} (hT : SliceB P t e) {v : Value} {l news : List Nat} (hown : Own w base e .u8 v l) {A : Option Addr} {m c : Nat} (hm : m = news.length) (hr : Rd w A .u8 news)
    (hlen : l.length + m ≤ 10000000000000) (hbase : base ≤ w.heap.size) :
    ∃ v' w', (Builtin.append_ #[t, t] ty #[v, .slice A m c]).run P w = .ok v' w' ∧ Own w' base e .u8 v' (l ++ news) ∧ w.grownBy w' v.ownBlock := by
  obtain ⟨i, hi, hz, hs, hb⟩ := hT.info
  subst hm
  rcases A with _ | ad
  · have hn : news = [] := by
      rcases news with _ | ⟨d, n⟩
      · rfl
      · obtain ⟨ad, h, _⟩ := hr 0 d (by simp); cases h
    subst hn
    refine ⟨v, w, ?_, by simpa using hown, World.grownBy.refl _ _⟩
    rcases hown.2 with ⟨rfl, h0⟩ | ⟨g, cap, cur, rfl, _, _, hnc, _⟩
    · simp [Builtin.append_, run_underlying hT.und, sizeOf, typeInfo, hi, Builtin.lenOf, Builtin.firstCells]
    · simp [Builtin.append_, run_underlying hT.und, sizeOf, typeInfo, hi, Builtin.lenOf, Builtin.firstCells, hnc, storeCells]
  · have hcells : ∀ j u, (nv .u8 news)[j]? = some u → w.cell? (ad.add j) = some u := by
      intro j u hu
      simp only [nv, List.getElem?_map, Option.map_eq_some_iff] at hu
      obtain ⟨d, hd, rfl⟩ := hu
      obtain ⟨ad', h, hc⟩ := hr j d hd
      injection h with h; subst h; exact hc
    obtain ⟨v', w', h1, h2, h3, _⟩ := run_append_own (P := P) w base t ty e i (.int .u8 0) 1 1 hT.und hi hz hs hb rfl (by decide) v l.length (nv .u8 l) hown ad news.length c (nv .u8 news) (by simp [nv]) hcells (nv_one .u8 news) (by unfold maxLen; omega) (by omega) hbase
    exact ⟨v', w', h1, Own.more h2, h3⟩
/-- 'append(out, xs...)', bytes. -/
theorem wpList_append_b {w : World} {ops : Array Oper} {rest : List Oper} {o : Oper} {a : Act} {Q : Exit → Act → World → Prop} (hgd : o.guard = none) (s x : Operand) {t : TypeId}
    (ho : o.op = .call { callee := .builtin .append, args := #[s, x], argTypes := #[t, t] })
    {base : Nat} {e : TypeId} (hT : SliceB P t e) {v : Value} {l news : List Nat} (hs : a.eval s = v) (hown : Own w base e .u8 v l) {A : Option Addr} {m c : Nat} (hx : a.eval x = .slice A m c) (hm : m = news.length) (hr : Rd w A .u8 news)
    (hlen : l.length + m ≤ 10000000000000) (hbase : base ≤ w.heap.size)
    (h : ∀ v' w', Own w' base e .u8 v' (l ++ news) → Below base w w' → w.grownBy w' v.ownBlock → wpList P ops Q rest (a.put o.dst v') w') : wpList P ops Q (o :: rest) a w :=
  wpList_plain hgd fun _ hK => by
    obtain ⟨v', w', hrun, h2, h3⟩ := run_append_b (P := P) (ty := o.type) hT hown (c := c) hm hr hlen hbase
    have h4 := hK _ _ (h v' w' h2 ((Below.refl base w).grown h3 hbase (Own.base_le hown)) h3)
    unfold Oper.wp execOp
    simp only [ho, resolve, invoke, builtin, Sem.run_bind, Sem.run_pure, Result.andThen_ok, List.map_toArray, List.map_cons, List.map_nil, hs, hx, hrun]
    exact h4
end
/-- Bytes as numbers. -/
def u8s (l : List UInt8) : List Nat := l.map UInt8.toNat
theorem u8s_len (l : List UInt8) : (u8s l).length = l.length := by simp [u8s]
theorem u8s_append (l m : List UInt8) : u8s (l ++ m) = u8s l ++ u8s m := by simp [u8s]
end Go.Proofs.YtpcllhdfalebbaaGreatDoor.mem
namespace Go.Proofs.YtpcllhdfalebbaaGreatDoor.str
open Go.RowKit Go.Proofs.YtpcllhdfalebbaaGreatDoor.num Go.Proofs.YtpcllhdfalebbaaGreatDoor.mem Go.Proofs.YtpcllhdfalebbaaGreatDoor.txt Go.Proofs.YtpcllhdfalebbaaGreatDoor.nat
set_option linter.unusedVariables false
theorem slb : SliceB Tryz.prog 93 5 := ⟨Tryz.underlying93, info_parts (P := Tryz.prog) (e := 5) (z := .int .u8 0) (size := 1) (bytes := 1) (by kernel_rfl)⟩
/-- 'string(text)'. -/
theorem own_string {w : World} {base : Nat} {A : Option Addr} {n cap : Nat} {l : List UInt8} (h : Own w base 5 .u8 (.slice A n cap) (u8s l)) (hA : A ≠ none) :
    ∃ R, StrIs R l ∧ (convert 93 9 (.slice A n cap)).run Tryz.prog w = .ok (.string R) w := by
  rcases A with _ | ad
  · exact absurd rfl hA
  · obtain rfl := h.len_eq
    rw [u8s_len]
    refine ⟨⟨l.toArray⟩, rfl, ?_⟩
    refine run_convert_bytes_back w _ _ 5 ad cap l Tryz.underlying93 Tryz.underlying5 Tryz.underlying9 fun j hj => ?_
    obtain ⟨A', c', e, _, _, hr⟩ := h.isS
    injection e with e _ _
    subst e
    obtain ⟨ad', e2, hc⟩ := hr j (l[j].toNat) (by simp [u8s, hj])
    injection e2 with e2
    subst e2
    exact hc
/-- The call ends with a string of these bytes; what was there is as it was. -/
def RetStrB (l : List UInt8) (w : World) (e : Ending) (w' : World) : Prop := ∃ R, e = .returned (.string R) ∧ StrIs R l ∧ Below w.heap.size w w'
/-- A text that is written from its end: p places are left. -/
def TX (p : Nat) (D : List Nat) : List UInt8 := List.replicate p 0 ++ D.reverse.map ch
theorem TX_cut (p : Nat) (D : List Nat) : TX (p + 1) D = List.replicate p 0 ++ (0 :: D.reverse.map ch) := by
  unfold TX
  rw [List.replicate_succ', List.append_assoc]; rfl
theorem TX_step {p d : Nat} {D : List Nat} : (u8s (TX (p + 1) D)).set p (ch d).toNat = u8s (TX p (D ++ [d])) := by
  have l1 : (u8s (List.replicate p 0)).length = p := by simp [u8s]
  rw [TX_cut, u8s_append, List.set_append_right _ _ (by omega), l1, Nat.sub_self]
  simp [u8s, TX]
theorem TX_at (p : Nat) (D : List Nat) : (u8s (TX (p + 1) D))[p]? = some 0 := by
  have l1 : (u8s (List.replicate p 0)).length = p := by simp [u8s]
  rw [TX_cut, u8s_append, List.getElem?_append_right (by omega), l1, Nat.sub_self]
  simp [u8s]
theorem TX_start (n : Nat) : u8s (TX n []) = List.replicate n 0 := by simp [TX, u8s]
theorem fig_at (S : ByteArray) (hS : StrIs S figs) (n : Nat) (h : n < S.size) : (S[n]'h).toNat = (ch n).toNat := by
  have h1 := hS.at_ h
  unfold ch
  rw [List.getD_eq_getElem?_getD, h1]; rfl
theorem pow_step {b i x : Nat} : x / b ^ i / b = x / b ^ (i + 1) := by rw [Nat.div_div_eq_div_mul, Nat.pow_succ]
theorem len1_of_lt {x : Nat} (h : x < 4294967296) : (digs 4294967296 x).length ≤ 1 := digs_len_le (by omega) (by rw [Nat.pow_one]; exact h)
theorem nbits63_of {x : Nat} (h : x < 4294967296) : nbits x ≤ 63 := Nat.le_trans (nbits_le_of (n := 32) h) (by omega)
set_option maxHeartbeats 3200000 in
set_option maxRecDepth 100000 in
theorem written_any (V : Value) (vs : List Value) (xs : List Nat) (sI bI : Int) (size b : Nat) (w : World) (hV : IsV w V vs) (hN : Nums w vs xs) (hl : vs.length ≤ 10000) (hsI : sI = (size : Int)) (hbI : bI = (b : Int)) (hs : size ≤ 32) (hb2 : 2 ≤ b) (hb36 : b ≤ 36) (hx : Lt 4294967296 xs) :
    Calls Tryz.prog 114 #[V, .int .i64 sI, .int .i64 bI] w (RetStrB ((pads b size xs).reverse.map ch) w) := by
  obtain ⟨A, c, rfl, hc, hcells⟩ := hV
  have HC := Lib.hid hcells
  have HN := Lib.hid hN
  have HX : Hid (vs.length = xs.length) := hN.1
  have HLX := Lib.hid hx
  obtain ⟨N, hNe⟩ : ∃ N, N = size * vs.length := ⟨_, rfl⟩
  have hM : sI * (vs.length : Int) = (N : Int) := by rw [hNe, hsI, Int.natCast_mul]
  have HM := Lib.hid hM
  have hN1 : N ≤ 320000 := by rw [hNe]; exact Nat.le_trans (Nat.mul_le_mul hs hl) (by omega)
  have m0 : 0 ≤ sI * (vs.length : Int) := by omega
  have m1 : sI * (vs.length : Int) ≤ 320000 := by omega
  have s0 : 0 ≤ sI := by omega
  have s1 : sI ≤ 32 := by omega
  have b0 : 2 ≤ bI := by omega
  have b1 : bI ≤ 36 := by omega
  have HB := Lib.hid hbI
  have HSI := Lib.hid hsI
  have HNE := Lib.hid hNe
  clear hcells hN hx hM hbI hsI hNe
  go_enter Tryz.func114, Tryz.ntmps114
  go_wp2_with (at_make; refine wpList_make_b rfl _ _ rfl slb N rfl rfl HM.out HM.out (by omega) (Nat.le_refl _) ?_; intro w1 hown1 hb1 hlt1)
  go_loopw [8, 22] (fun vp vi wr => ∃ k p : Nat, k ≤ vs.length ∧ Hid (p + size * k = N) ∧ Own wr w.heap.size 5 .u8 (.slice (some ⟨w.heap.size, 0, none⟩) N N) (u8s (TX p (pads b size (xs.take k)))) ∧ Below w.heap.size w wr ∧ vp = .int .i64 (p : Int) ∧ vi = .int .i64 (k : Int)) (fun _ vi _ => vs.length - (intOf vi).toNat)
  case atStart => exact ⟨0, N, by omega, by show _ = _; omega, by rw [List.take_zero]; show Own _ _ _ _ _ (u8s (TX N [])); rw [TX_start]; exact hown1, hb1, rfl, rfl⟩
  case round =>
    clear hown1 hb1 hlt1
    obtain ⟨k, p, hk, HP, hown, hb, rfl, rfl⟩ := hrel
    by_cases hlt : k < vs.length
    · obtain ⟨u, x, hu, hxx, hv⟩ := HN.out.at_ hlt
      obtain ⟨ad, rfl, hcell⟩ := HC.out k u hu
      have hcell2 := (hb.cell (World.block_lt_of_cell? w _ hcell)).trans hcell
      have hx32 := HLX.out.at hxx
      have hv2 := hv.below hb
      have hl1 := len1_of_lt hx32
      have hn63 := nbits63_of hx32
      obtain ⟨A2, c2, rfl, _⟩ := id hv2
      have hps : size ≤ p := by
        have h1 := HP.out
        have h2 := HNE.out
        have h3 : size * (k + 1) ≤ size * vs.length := Nat.mul_le_mul_left _ hlt
        rw [Nat.mul_add] at h3; omega
      have HXX := Lib.hid hxx
      have HX32 := Lib.hid hx32
      clear hu hcell hv hxx hx32
      go_wp2_with fail
      refine (small_yes _ x _ hv2 (by omega) hn63).mono ?_
      rintro e w' ⟨rfl, rfl⟩
      have x0 : (x : Int) ≤ 4294967295 := by have := HX32.out; omega
      clear hn63 hl1
      go_wp2
      go_loopw [8, 11, 32] (fun vp vc vi wt => ∃ (i q : Nat) (cI : Int), i ≤ size ∧ q + i = p ∧ Hid (cI = ((x / b ^ i : Nat) : Int)) ∧ 0 ≤ cI ∧ cI ≤ 4294967295 ∧ Own wt w.heap.size 5 .u8 (.slice (some ⟨w.heap.size, 0, none⟩) N N) (u8s (TX q (pads b size (xs.take k) ++ pad b i x))) ∧ Below w.heap.size w wt ∧ vp = .int .i64 (q : Int) ∧ vc = .int .u64 cI ∧ vi = .int .i64 (i : Int)) (fun _ _ vi _ => size - (intOf vi).toNat)
      case atStart => exact ⟨0, p, _, by omega, by omega, by show _ = _; rw [Nat.pow_zero, Nat.div_one], by omega, x0, by show Own _ _ _ _ _ (u8s (TX p (_ ++ []))); rw [List.append_nil]; exact hown, hb, rfl, rfl, rfl⟩
      case round =>
        clear hown hb hcell2 hv2 x0
        obtain ⟨i, q, cI, hi, hq, HCI, c0, c1, hown, hb, rfl, rfl, rfl⟩ := hrel
        by_cases hlt2 : i < size
        · have hiI : (i : Int) < sI := by have := HSI.out; omega
          obtain ⟨q, rfl⟩ : ∃ t, q = t + 1 := ⟨q - 1, by omega⟩
          have hqN : q < N := by have := HP.out; omega
          have d0 : 0 ≤ cI % bI := Int.emod_nonneg _ (by omega)
          have d1 : cI % bI < 36 := by have := Int.emod_lt_of_pos cI (show 0 < bI by omega); omega
          have e0 : 0 ≤ cI / bI := Int.ediv_nonneg c0 (by omega)
          have e1 : cI / bI ≤ 4294967295 := by have := Int.ediv_le_self bI c0; omega
          have hc0 := hown.cellAt (TX_at q _)
          have hf0 := hown.frozenAt q
          have HD : Hid ((cI % bI).toNat = x / b ^ i % b) := by show _ = _; rw [HCI.out, HB.out, ← Int.natCast_emod, Int.toNat_natCast]
          have HE : Hid (cI / bI = ((x / b ^ (i + 1) : Nat) : Int)) := by show _ = _; rw [HCI.out, HB.out, ← Int.natCast_ediv, pow_step]
          go_wp2
          go_roundw
          case rel =>
            refine ⟨i + 1, q, _, by omega, by omega, HE, e0, e1, ?_, hb.setCell (Nat.le_refl _) _, by go_num, rfl, by go_num⟩
            rw [pad_snoc, ← List.append_assoc, ← TX_step]
            exact hown.stored' q _ (by have e1 := fig_at ⟨figs.toArray⟩ rfl (cI % bI).toNat (by show _ < 36; omega); exact congrArg Nat.cast (e1.trans (by rw [HD.out])))
          case measure => simp [intOf]; omega
        · have hiI : sI ≤ (i : Int) := by have := HSI.out; omega
          obtain rfl : i = size := by omega
          have HQ : Hid (q + i * (k + 1) = N) := by have := HP.out; show _ = _; rw [Nat.mul_add]; omega
          have e : pads b i (xs.take k) ++ pad b i x = pads b i (xs.take (k + 1)) := by rw [take_step HXX.out, pads_snoc]
          rw [e] at hown
          clear e
          clear hlt2 hq
          go_wp2
          go_roundw
          case rel => exact ⟨k + 1, q, by omega, HQ, hown, hb, rfl, by go_num⟩
          case measure => simp [intOf]; omega
    · obtain rfl : k = vs.length := by omega
      obtain rfl : p = 0 := by have h1 := HP.out; have h2 := HNE.out; omega
      have e : u8s (TX 0 (pads b size (xs.take vs.length))) = u8s ((pads b size xs).reverse.map ch) := by
        rw [List.take_of_length_le (by have := HX.out; omega)]; simp [TX]
      rw [e] at hown
      obtain ⟨R, hR, hconv⟩ := own_string hown (by simp)
      clear e
      go_wp2
      go_ret
      exact ⟨R, rfl, hR, hb⟩
end Go.Proofs.YtpcllhdfalebbaaGreatDoor.str
namespace Go.Proofs.YtpcllhdfalebbaaGreatDoor.mem
open Go.RowKit Go.Proofs.YtpcllhdfalebbaaGreatDoor.num
set_option linter.unusedVariables false
section
variable {P : Program}
/-- 'all = append(all, x, y)', all a row of slices of the call's own. -/
theorem wpList_append_vals {w : World} {ops : Array Oper} {rest : List Oper} {o : Oper} {a : Act} {Q : Exit → Act → World → Prop} (hgd : o.guard = none) (s x : Operand) {t : TypeId}
    (ho : o.op = .call { callee := .builtin .append, args := #[s, x], argTypes := #[t, t] })
    {base : Nat} {e : TypeId} (hT : P.underlying t = some (.slice e)) (hI : ∃ i, P.info? e = some i ∧ i.zero = some (.slice none 0 0) ∧ i.size = 1 ∧ i.bytes = 24) {v u1 u2 : Value} {vs : List Value} (hs : a.eval s = v) (hown : RowV w base e v vs) (hx : a.eval x = .slice (some ⟨w.heap.size, 0, none⟩) 2 2) (hu : u1.oneCell' = true) (hu2 : u2.oneCell' = true)
    (hlen : vs.length ≤ 1000000000) (hbase : base ≤ w.heap.size)
    (h : ∀ v' w', RowV w' base e v' (vs ++ [u1, u2]) → Below base w w' → Hid (Keeps w w' v v') → wpList P ops Q rest (a.put o.dst v') w') : wpList P ops Q (o :: rest) a (w.alloc (.cells #[u1, u2] e)) := by
  obtain ⟨i, hi, hz, hsz, hby⟩ := hI
  refine wpList_append_lies (w.alloc (.cells #[u1, u2] e)) hgd s x t ho base e i (.slice none 0 0) 1 24 hT hi hz hsz hby rfl (by omega) v vs.length vs hs (World.ownsRow.alloc hown _) ⟨w.heap.size, 0, none⟩ 2 2 [u1, u2] hx rfl ?_ ?_ (by omega) (by unfold maxLen; omega) (by omega) (by simp; omega) _ rfl ?_
  · exact World.news_of_block (heap_alloc_new w _)
  · intro u' hu'
    rcases List.mem_cons.1 hu' with rfl | hu'
    · exact hu
    · obtain rfl := List.mem_singleton.1 hu'
      exact hu2
  · intro g cap w' h1 h2 h3 h4
    have h5 : w.grownBy w' v.ownBlock := grown_trans (World.grownBy_alloc w _ _) h2
    refine h _ w' (by unfold RowV; rw [List.length_append]; exact h1) ((Below.refl base w).grown h5 hbase hown.base_le) ?_
    show Keeps _ _ _ _
    intro k q l hq hf
    refine ⟨hq.farKept hf h5, ?_⟩
    rintro ad n c rfl hn
    rcases h3 with h3 | h3
    · have := hf ad n c rfl hn
      rw [h3] at this
      exact this
    · subst h3
      intro e1
      have e2 : ad.block = (w.alloc (.cells #[u1, u2] e)).heap.size := by simpa [Value.ownBlock] using e1
      obtain ⟨A, c', e3, g1, g2, g3⟩ := hq
      injection e3 with e3 e4 e5
      subst e3; subst e4
      obtain ⟨ad', he, hc⟩ := g3 0 _ (List.getElem?_eq_getElem hn)
      injection he with he; subst he
      have h6 := World.block_lt_of_cell? w _ hc
      rw [block_add] at h6
      simp at e2
      omega
end
end Go.Proofs.YtpcllhdfalebbaaGreatDoor.mem
namespace Go.Proofs.YtpcllhdfalebbaaGreatDoor.str
open Go.RowKit Go.Proofs.YtpcllhdfalebbaaGreatDoor.num Go.Proofs.YtpcllhdfalebbaaGreatDoor.mem Go.Proofs.YtpcllhdfalebbaaGreatDoor.txt Go.Proofs.YtpcllhdfalebbaaGreatDoor.nat
set_option linter.unusedVariables false
theorem nums1 {w : World} {v : Value} {x : Nat} (h : IsS w .u64 v (digs 4294967296 x)) : Nums w [v] [x] := by
  refine ⟨rfl, fun i a b ha hb => ?_⟩
  match i, ha, hb with
  | 0, ha, hb => simp at ha hb; subst ha; subst hb; exact h
theorem nums_snoc2 {w w' : World} {v v' u1 u2 : Value} {vs : List Value} {xs : List Nat} {x y : Nat} (h : NumsFar w v vs xs) (hk : Keeps w w' v v') (hu : IsS w .u64 u1 (digs 4294967296 x)) (hf : Far v u1) (hu2 : IsS w .u64 u2 (digs 4294967296 y)) (hf2 : Far v u2) : NumsFar w' v' (vs ++ [u1, u2]) (xs ++ [x] ++ [y]) := by
  have e : vs ++ [u1, u2] = (vs ++ [u1]) ++ [u2] := by simp
  rw [e]
  have h1 : NumsFar w' v' (vs ++ [u1]) (xs ++ [x]) := h.snoc hk hu hf
  refine h1.snoc (w := w') (v := v') ?_ (hk _ _ _ hu2 hf2).1 (hk _ _ _ hu2 hf2).2
  exact fun k u l hq hq2 => ⟨hq, hq2⟩
/-- The call ends with a row of numbers that a parts into, below p. -/
def RetParts (p a : Nat) (w : World) (e : Ending) (w' : World) : Prop := ∃ V vs xs, e = .returned V ∧ IsV w' V vs ∧ Nums w' vs xs ∧ Parts p a xs ∧ Below w.heap.size w w'
theorem rowV_nil (w : World) (base : Nat) (e : TypeId) : RowV w base e (.slice none 0 0) [] := World.ownsRow_nil w base e 1
theorem one_of_isS {w : World} {k : IntKind} {v : Value} {l : List Nat} (h : IsS w k v l) : v.oneCell' = true := by
  obtain ⟨A, c, rfl, _⟩ := h
  rfl
theorem parts_len {p a m : Nat} {xs : List Nat} (hp : 2 ≤ p) (h : Parts p a xs) (ha : (digs 4294967296 a).length ≤ m) : xs.length ≤ 64 * m + 1 := by
  have h1 : a < 2 ^ (32 * m) := by
    rw [← pow32]
    exact Nat.lt_of_lt_of_le (digs_lt_pow (by omega) a) (Nat.pow_le_pow_right (by omega) ha)
  have := h.len hp h1
  omega
set_option maxHeartbeats 6400000 in
set_option maxRecDepth 100000 in
theorem split_all (n : Nat) : ∀ (a p : Nat) (v u : Value) (w : World), a + 1 ≤ n + p → 2 ≤ p → (digs 4294967296 a).length ≤ 1000 → (digs 4294967296 p).length ≤ 2000 → IsS w .u64 v (digs 4294967296 a) → IsS w .u64 u (digs 4294967296 p) →
    Calls Tryz.prog 115 #[v, u] w (RetParts p a w) := by
  induction n with
  | zero => 
    intro a p v u w hn hp la lp hv hu
    have hlt : a < p := by omega
    obtain ⟨A, c, rfl, _⟩ := id hv
    obtain ⟨A2, c2, rfl, _⟩ := id hu
    have HO : Hid ((-1 : Int) = ord a p) := (ord_lt hlt).symm
    clear hn
    go_enter Tryz.func115, Tryz.ntmps115
    go_wp2_with fail
    refine (cmp_any _ _ a p (-1) _ hv hu HO.out).mono ?_
    rintro e w1 ⟨rfl, b1⟩
    go_wp2
    go_ret
    refine ⟨_, [_], [a], rfl, isV_lit w1 _ [_], (nums1 (hv.below b1)).below (below_alloc (Nat.le_refl _) _), Parts.one hlt, b1.alloc b1.size _⟩
  | succ n ih =>
    intro a p v u w hn hp la lp hv hu
    obtain ⟨A, c, rfl, _⟩ := id hv
    obtain ⟨A2, c2, rfl, _⟩ := id hu
    by_cases hlt : a < p
    · have HO : Hid ((-1 : Int) = ord a p) := (ord_lt hlt).symm
      clear hn ih
      go_enter Tryz.func115, Tryz.ntmps115
      go_wp2_with fail
      refine (cmp_any _ _ a p (-1) _ hv hu HO.out).mono ?_
      rintro e w1 ⟨rfl, b1⟩
      go_wp2
      go_ret
      refine ⟨_, [_], [a], rfl, isV_lit w1 _ [_], (nums1 (hv.below b1)).below (below_alloc (Nat.le_refl _) _), Parts.one hlt, b1.alloc b1.size _⟩
    · have hpa : p ≤ a := by omega
      obtain ⟨t, ht⟩ : ∃ t, t = ord a p := ⟨_, rfl⟩
      have ht0 : ¬ t < 0 := by rw [ht, ord_lt0]; exact hlt
      have HO := Lib.hid ht
      obtain ⟨z, hz⟩ : ∃ z, z = p * p := ⟨_, rfl⟩
      have hz1 : p + 1 ≤ z := by
        have : 2 * p ≤ p * p := Nat.mul_le_mul_right _ hp
        omega
      have lpa : (digs 4294967296 p).length ≤ (digs 4294967296 a).length := digs_len_mono (by omega) hpa
      have lz : (digs 4294967296 z).length ≤ 2000 := by have := mul_len p p; rw [← hz] at this; omega
      have HZ := Lib.hid hz
      have HIH := Lib.hid ih
      clear ht hz ih hlt
      go_enter Tryz.func115, Tryz.ntmps115
      go_wp2_with fail
      refine (cmp_any _ _ a p t _ hv hu HO.out).mono ?_
      rintro e w1 ⟨rfl, b1⟩
      go_wp2_with fail
      refine (square_any _ p _ (hu.below b1) (by omega) z HZ.out).mono ?_
      rintro e w2 ⟨v2, rfl, k2, f2, b2⟩
      have b3 := b1.trans (b2.mono b1.size)
      go_wp2_with fail
      refine (HIH.out a z _ _ _ (by omega) (by omega) la lz (hv.below b3) k2).mono ?_
      rintro e w3 ⟨V, vs, ys, rfl, hV, hN, hP, b4⟩
      have b5 := b3.trans (b4.mono b3.size)
      obtain ⟨A3, c3, rfl, hc3, hcells⟩ := hV
      have HC := Lib.hid hcells
      have HN := Lib.hid hN
      have HX : Hid (vs.length = ys.length) := hN.1
      have hvl : vs.length ≤ 100000 := by
        have h1 := parts_len (by omega) hP la
        have := hN.1; omega
      have HP := Lib.hid hP
      have hu5 := hu.below b5
      clear hcells hN hP hv hu
      go_wp2
      go_loopw [5, 22] (fun vo vi wr => ∃ (k : Nat) (us : List Value) , k ≤ vs.length ∧ us.length = 2 * k ∧ RowV wr w3.heap.size 23 vo us ∧ NumsFar wr vo us (halves p (ys.take k)) ∧ Below w3.heap.size w3 wr ∧ vi = .int .i64 (k : Int)) (fun _ vi _ => vs.length - (intOf vi).toNat)
      case atStart => exact ⟨0, [], by omega, rfl, rowV_nil _ _ _, by rw [List.take_zero]; exact NumsFar.nil _ _, Below.refl _ _, rfl⟩
      case round =>
        obtain ⟨k, us, hk, hul, hrow, hnums, hb3, rfl⟩ := hrel
        by_cases hlt : k < vs.length
        · obtain ⟨u1, y, hu1, hy, hv1⟩ := HN.out.at_ hlt
          obtain ⟨ad, rfl, hcell⟩ := HC.out k u1 hu1
          have hcell2 := (hb3.cell (World.block_lt_of_cell? w3 _ hcell)).trans hcell
          have hyz := HP.out.1.at hy
          have hyl : (digs 4294967296 y).length ≤ 2000 := Nat.le_trans (digs_len_mono (by omega) (Nat.le_of_lt hyz)) lz
          have hv2 := hv1.below hb3
          have hup := hu5.below hb3
          have hH : Hid (halves p (ys.take (k + 1)) = halves p (ys.take k) ++ [y % p] ++ [y / p]) := by show _ = _; rw [take_step hy, halves_snoc]
          have HUL := Lib.hid hul
          have hsz := hb3.size
          obtain ⟨A4, c4, rfl, _⟩ := id hv1
          clear hu1 hy hv1 hcell hyz hul
          go_wp2_with fail
          refine (ddiv_ok _ _ y p _ hv2 hup (by omega) (by omega) (by omega)).mono ?_
          rintro e w4 ⟨q1, q2, rfl, kq1, kq2, fq1, fq2, b6⟩
          have fa := fq1.far hrow.under
          have fb := fq2.far hrow.under
          replace hrow := hrow.below b6
          replace hnums := hnums.below b6
          have hb5 := hb3.trans (b6.mono hb3.size)
          have o1 := one_of_isS kq1
          have o2 := one_of_isS kq2
          obtain ⟨A5, c5, rfl, _⟩ := id kq1
          obtain ⟨A6, c6, rfl, _⟩ := id kq2
          clear hb3 hcell2 hv2 hup
          go_wp2_with (at_builtin; refine wpList_append_vals rfl (.tmp 33) (.tmp 36) rfl Tryz.underlying116 info_nat rfl hrow rfl o2 o1 (by have := HUL.out; omega) hb5.size ?_; intro v2 wb hrow2 hb2 HK)
          have hnums2 := nums_snoc2 hnums HK.out kq2 fb kq1 fa
          rw [← hH.out] at hnums2
          have hb6 := hb5.trans hb2
          go_roundw
          case rel => exact ⟨k + 1, _, by omega, by have := HUL.out; simp; omega, hrow2, hnums2, hb6, by go_num⟩
          case measure => simp [intOf]; omega
        · obtain rfl : k = vs.length := by omega
          rw [List.take_of_length_le (by have := HX.out; omega)] at hnums
          have hPP : Parts p a (halves p ys) := by have h1 := HP.out; rw [HZ.out] at h1; exact Parts.more (by omega) hpa h1
          go_wp2
          go_ret
          exact ⟨_, us, _, rfl, RowV.isV hrow, hnums.1, hPP, b5.trans (hb3.mono b5.size)⟩
end Go.Proofs.YtpcllhdfalebbaaGreatDoor.str
namespace Go.Proofs.YtpcllhdfalebbaaGreatDoor.mem
open Go.RowKit Go.Proofs.YtpcllhdfalebbaaGreatDoor.num
set_option linter.unusedVariables false
section
variable {P : Program}
/-- append to a row of slices that the call made, from whatever slice of slices. -/
theorem run_append_row {w : World} {base : Nat} {t ty e : TypeId} (hT : P.underlying t = some (.slice e)) (hI : ∃ i, P.info? e = some i ∧ i.zero = some (.slice none 0 0) ∧ i.size = 1 ∧ i.bytes = 24) {v : Value} {vs news : List Value} (hown : RowV w base e v vs) {A : Option Addr} {m c : Nat} (hm : m = news.length)
    (hr : ∀ (i : Nat) (u : Value), news[i]? = some u → ∃ ad, A = some ad ∧ w.cell? (ad.add i) = some u) (h1 : ∀ u ∈ news, u.oneCell' = true) (hlen : vs.length + m ≤ 1000000000) (hbase : base ≤ w.heap.size) :
    ∃ v' w', (Builtin.append_ #[t, t] ty #[v, .slice A m c]).run P w = .ok v' w' ∧ RowV w' base e v' (vs ++ news) ∧ w.grownBy w' v.ownBlock ∧ (v'.ownBlock = v.ownBlock ∨ v'.ownBlock = some w.heap.size) := by
  obtain ⟨i, hi, hz, hs, hb⟩ := hI
  subst hm
  rcases A with _ | ad
  · have hn : news = [] := by
      rcases news with _ | ⟨d, n⟩
      · rfl
      · obtain ⟨ad, h, _⟩ := hr 0 d (by simp); cases h
    subst hn
    refine ⟨v, w, ?_, by simpa using hown, World.grownBy.refl _ _, Or.inl rfl⟩
    rcases hown.2 with ⟨rfl, h0⟩ | ⟨g, cap, cur, rfl, _, _, hnc, _⟩
    · simp [Builtin.append_, run_underlying hT, sizeOf, typeInfo, hi, Builtin.lenOf, Builtin.firstCells]
    · simp [Builtin.append_, run_underlying hT, sizeOf, typeInfo, hi, Builtin.lenOf, Builtin.firstCells, hnc, storeCells]
  · have hcells : ∀ j u, news[j]? = some u → w.cell? (ad.add j) = some u := by
      intro j u hu
      obtain ⟨ad', h, hc⟩ := hr j u hu
      injection h with h; subst h; exact hc
    obtain ⟨v', w', g1, g2, g3, _, g5⟩ := run_append_own_at (P := P) w base t ty e i (.slice none 0 0) 1 24 hT hi hz hs hb rfl (by decide) v vs.length vs hown ad news.length c news (by simp) hcells h1 (by unfold maxLen; omega) (by omega) hbase
    exact ⟨v', w', g1, by unfold RowV; rw [List.length_append]; exact g2, g3, g5⟩
theorem keeps_of {w w' : World} {v v' : Value} (hg : w.grownBy w' v.ownBlock) (h3 : v'.ownBlock = v.ownBlock ∨ v'.ownBlock = some w.heap.size) : Keeps w w' v v' := by
  intro k q l hq hf
  refine ⟨hq.farKept hf hg, ?_⟩
  rintro ad n c rfl hn
  rcases h3 with h3 | h3
  · rw [h3]; exact hf ad n c rfl hn
  · rw [h3]
    intro e1
    obtain ⟨A, c', e3, g1, g2, g3⟩ := hq
    injection e3 with e3 e4 e5
    subst e3; subst e4
    obtain ⟨ad', he, hc⟩ := g3 0 _ (List.getElem?_eq_getElem hn)
    injection he with he; subst he
    have h6 := World.block_lt_of_cell? w _ hc
    rw [block_add] at h6
    injection e1 with e1
    omega
theorem wp_append_row {w : World} {o : Oper} {a : Act} {K : Act → World → Prop} {Q : Exit → Act → World → Prop} (s x : Operand) {t : TypeId}
    (ho : o.op = .call { callee := .builtin .append, args := #[s, x], argTypes := #[t, t] })
    {base : Nat} {e : TypeId} (hT : P.underlying t = some (.slice e)) (hI : ∃ i, P.info? e = some i ∧ i.zero = some (.slice none 0 0) ∧ i.size = 1 ∧ i.bytes = 24) {v : Value} {vs news : List Value} (hs : a.eval s = v) (hown : RowV w base e v vs) {A : Option Addr} {m c : Nat} (hx : a.eval x = .slice A m c) (hm : m = news.length)
    (hr : ∀ (i : Nat) (u : Value), news[i]? = some u → ∃ ad, A = some ad ∧ w.cell? (ad.add i) = some u) (h1 : ∀ u ∈ news, u.oneCell' = true) (hlen : vs.length + m ≤ 1000000000) (hbase : base ≤ w.heap.size)
    (h : ∀ v' w', RowV w' base e v' (vs ++ news) → Below base w w' → Hid (Keeps w w' v v') → K (a.put o.dst v') w') : o.wp P a w K Q := by
  obtain ⟨v', w', hrun, h2, h3, h4⟩ := run_append_row (P := P) (ty := o.type) hT hI hown (c := c) hm hr h1 hlen hbase
  unfold Oper.wp execOp
  simp only [ho, resolve, invoke, builtin, Sem.run_bind, Sem.run_pure, Result.andThen_ok, List.map_toArray, List.map_cons, List.map_nil, hs, hx, hrun]
  exact h v' w' h2 ((Below.refl base w).grown h3 hbase hown.base_le) (keeps_of h3 h4)
theorem wpList_append_row {w : World} {ops : Array Oper} {rest : List Oper} {o : Oper} {a : Act} {Q : Exit → Act → World → Prop} (hgd : o.guard = none) (s x : Operand) {t : TypeId}
    (ho : o.op = .call { callee := .builtin .append, args := #[s, x], argTypes := #[t, t] })
    {base : Nat} {e : TypeId} (hT : P.underlying t = some (.slice e)) (hI : ∃ i, P.info? e = some i ∧ i.zero = some (.slice none 0 0) ∧ i.size = 1 ∧ i.bytes = 24) {v : Value} {vs news : List Value} (hs : a.eval s = v) (hown : RowV w base e v vs) {A : Option Addr} {m c : Nat} (hx : a.eval x = .slice A m c) (hm : m = news.length)
    (hr : ∀ (i : Nat) (u : Value), news[i]? = some u → ∃ ad, A = some ad ∧ w.cell? (ad.add i) = some u) (h1 : ∀ u ∈ news, u.oneCell' = true) (hlen : vs.length + m ≤ 1000000000) (hbase : base ≤ w.heap.size)
    (h : ∀ v' w', RowV w' base e v' (vs ++ news) → Below base w w' → Hid (Keeps w w' v v') → wpList P ops Q rest (a.put o.dst v') w') : wpList P ops Q (o :: rest) a w :=
  wpList_plain hgd fun _ hK => wp_append_row s x ho hT hI hs hown hx hm hr h1 hlen hbase fun v' w' h2 h3 h4 => hK _ _ (h v' w' h2 h3 h4)
theorem step_append_row {w : World} {ops : Array Oper} {o : Oper} {a : Act} {K : Act → World → Prop} {Q : Exit → Act → World → Prop} {E : Prop} (hgd : o.guard = none) (s x : Operand) {t : TypeId}
    (ho : o.op = .call { callee := .builtin .append, args := #[s, x], argTypes := #[t, t] })
    {base : Nat} {e : TypeId} (hT : P.underlying t = some (.slice e)) (hI : ∃ i, P.info? e = some i ∧ i.zero = some (.slice none 0 0) ∧ i.size = 1 ∧ i.bytes = 24) {v : Value} {vs news : List Value} (hs : a.eval s = v) (hown : RowV w base e v vs) {A : Option Addr} {m c : Nat} (hx : a.eval x = .slice A m c) (hm : m = news.length)
    (hr : ∀ (i : Nat) (u : Value), news[i]? = some u → ∃ ad, A = some ad ∧ w.cell? (ad.add i) = some u) (h1 : ∀ u ∈ news, u.oneCell' = true) (hlen : vs.length + m ≤ 1000000000) (hbase : base ≤ w.heap.size)
    (h : ∀ v' w', RowV w' base e v' (vs ++ news) → Below base w w' → Hid (Keeps w w' v v') → K (a.put o.dst v') w') :
    if Region.wanted o (yielded ops a.tmps) = true then Oper.wp P o a w K Q else E := by
  have hw : Region.wanted o (yielded ops a.tmps) = true := by simp [Region.wanted, hgd]
  rw [if_pos hw]
  exact wp_append_row s x ho hT hI hs hown hx hm hr h1 hlen hbase h
end
end Go.Proofs.YtpcllhdfalebbaaGreatDoor.mem
namespace Go.Proofs.YtpcllhdfalebbaaGreatDoor.str
open Go.RowKit Go.Proofs.YtpcllhdfalebbaaGreatDoor.num Go.Proofs.YtpcllhdfalebbaaGreatDoor.mem Go.Proofs.YtpcllhdfalebbaaGreatDoor.txt Go.Proofs.YtpcllhdfalebbaaGreatDoor.nat
set_option linter.unusedVariables false
theorem isV_one {w : World} {t : TypeId} {u : Value} : ∀ (i : Nat) (x : Value), [u][i]? = some x → ∃ ad, some (⟨w.heap.size, 0, none⟩ : Addr) = some ad ∧ (w.alloc (.cells #[u] t)).cell? (ad.add i) = some x := by
  intro i x hx
  obtain ⟨A, c, e, _, h⟩ := isV_lit w t [u]
  injection e with e _ _
  obtain ⟨ad, h1, h2⟩ := h i x hx
  exact ⟨ad, by rw [e]; exact h1, h2⟩
theorem add_zero_ (ad : Addr) : ad.add 0 = ad := by unfold Addr.add; simp
/-- The call ends with a row of these numbers. -/
def RetRow (xs : List Nat) (w : World) (e : Ending) (w' : World) : Prop := ∃ V vs, e = .returned V ∧ IsV w' V vs ∧ Nums w' vs xs ∧ Below w.heap.size w w'
theorem Nums.tail2 {w : World} {t1 t2 : Value} {ts : List Value} {z1 z2 : Nat} {zs : List Nat} (h : Nums w (t1 :: t2 :: ts) (z1 :: z2 :: zs)) : IsS w .u64 t1 (digs 4294967296 z1) ∧ IsS w .u64 t2 (digs 4294967296 z2) ∧ Nums w ts zs := by
  refine ⟨h.2 0 _ _ rfl rfl, h.2 1 _ _ rfl rfl, by have := h.1; simp at this; exact this, fun i u x hu hx => h.2 (i + 2) u x (by simpa using hu) (by simpa using hx)⟩
theorem IsV.tail2 {w : World} {ad : Addr} {t1 t2 : Value} {ts : List Value} {n c : Nat} (h : IsV w (.slice (some ad) n c) (t1 :: t2 :: ts)) : IsV w (.slice (if c = 2 then some ad else some (ad.add 2)) (n - 2) (c - 2)) ts := by
  obtain ⟨A, c', e, hc, hcell⟩ := h
  injection e with e1 e2 e3
  subst e1; subst e2; subst e3
  simp at hc
  by_cases h2 : c = 2
  · have : ts = [] := List.length_eq_zero_iff.1 (by omega)
    subst this
    exact ⟨_, _, rfl, by simp, fun i u hu => by simp at hu⟩
  · rw [if_neg h2]
    refine ⟨some (ad.add 2), c - 2, rfl, by omega, fun i u hu => ?_⟩
    obtain ⟨ad', ha, hc2⟩ := hcell (i + 2) u (by simpa using hu)
    injection ha with ha; subst ha
    refine ⟨_, rfl, ?_⟩
    have e : (ad.add 2).add i = ad.add (i + 2) := by
      unfold Addr.add
      by_cases hi : i = 0
      · simp [hi]
      · simp [hi]; omega
    rw [e]; exact hc2
set_option maxHeartbeats 6400000 in
set_option maxRecDepth 100000 in
theorem paired_any (V u : Value) (vs : List Value) (xs : List Nat) (p : Nat) (w : World) (hV : IsV w V vs) (hN : Nums w vs xs) (hu : IsS w .u64 u (digs 4294967296 p)) (hl : vs.length ≤ 1000000) (lp : (digs 4294967296 p).length ≤ 10000) (lx : ∀ x ∈ xs, (digs 4294967296 x).length ≤ 10000) :
    Calls Tryz.prog 130 #[V, u] w (RetRow (pairs p xs) w) := by
  obtain ⟨Au, cu, rfl, _⟩ := id hu
  have HVL := Lib.hid hl
  have HLX := Lib.hid lx
  clear hl lx
  obtain ⟨A0, c0, rfl, _⟩ := id hV
  go_enter Tryz.func130, Tryz.ntmps130
  go_wp2
  go_loopw [0, 5] (fun v0 vo wr => ∃ (ts us : List Value) (zs ys : List Nat), IsV w v0 ts ∧ Nums w ts zs ∧ Hid (ts.length ≤ 1000000 ∧ us.length ≤ 1000000 - ts.length) ∧ Hid (∀ x ∈ zs, (digs 4294967296 x).length ≤ 10000) ∧ RowV wr w.heap.size 23 vo us ∧ NumsFar wr vo us ys ∧ Hid (ys ++ pairs p zs = pairs p xs) ∧ Below w.heap.size w wr) (fun v0 _ _ => lenOf v0)
  case atStart => exact ⟨vs, [], xs, [], hV, hN, ⟨HVL.out, by simp⟩, HLX, rowV_nil _ _ _, NumsFar.nil _ _, by show _ = _; simp, Below.refl _ _⟩
  case round =>
    clear hV hN
    obtain ⟨ts, us, zs, ys, hV, hN, HL, HZ, hrow, hnums, HE, hb⟩ := hrel
    obtain ⟨A, c, rfl, hc, hcells⟩ := id hV
    by_cases hlt : 1 < ts.length
    · obtain ⟨t1, t2, tr, rfl⟩ : ∃ t1 t2 tr, ts = t1 :: t2 :: tr := by
        match ts, hlt with
        | a :: b :: r, _ => exact ⟨a, b, r, rfl⟩
      obtain ⟨z1, z2, zr, rfl⟩ : ∃ z1 z2 zr, zs = z1 :: z2 :: zr := by
        have h1 := hN.1
        match zs, h1 with
        | a :: b :: r, _ => exact ⟨a, b, r, rfl⟩
      obtain ⟨ad, rfl, hc0⟩ := hcells 0 t1 rfl
      obtain ⟨ad1, e1, hc1⟩ := hcells 1 t2 rfl
      injection e1 with e1; subst e1
      obtain ⟨hv1, hv2, hN2⟩ := Nums.tail2 hN
      have hV2 := IsV.tail2 hV
      have lz1 := HZ.out z1 (by simp)
      have lz2 := HZ.out z2 (by simp)
      have lm := mul_len z2 p
      have la := add_len z1 (z2 * p)
      have hk1 := World.block_lt_of_cell? w _ hc0
      have hk2 := World.block_lt_of_cell? w _ hc1
      have hc0r := (hb.cell hk1).trans hc0
      have hc1r := (hb.cell hk2).trans hc1
      rw [add_zero_] at hc0r
      have w1 : IsS wr.drew .u64 t1 (digs 4294967296 z1) := (hv1.below hb).drew
      have w2 : IsS wr.drew .u64 t2 (digs 4294967296 z2) := (hv2.below hb).drew
      have wu : IsS wr.drew .u64 (.slice Au (digs 4294967296 p).length cu) (digs 4294967296 p) := (hu.below hb).drew
      have rowd : RowV wr.drew w.heap.size 23 _ us := hrow
      have numsd : NumsFar wr.drew _ us ys := hnums.below (Below.refl _ _).drew
      obtain ⟨B1, d1, rfl, _⟩ := id hv1
      obtain ⟨B2, d2, rfl, _⟩ := id hv2
      generalize hn : (Value.slice B1 (digs 4294967296 z1).length d1 :: Value.slice B2 (digs 4294967296 z2).length d2 :: tr).length = n at hlt hV2 hc HL ⊢
      have hln : (1 : Int) < (n : Int) := by omega
      have hln2 : 0 < n := by omega
      have hln4 : 1 < n := by omega
      unfold Addr.add at hc1r
      simp only [Nat.one_ne_zero, if_false] at hc1r
      have hln3 : (2 : Int) ≤ (n : Int) := by omega
      have HNn := Lib.hid hn
      clear hcells hc0 hc1 hv1 hv2 hN hV hlt hrow hnums hn
      go_wp2
      go_region_law (first
        | (refine step_append_row rfl (.tmp 9) (.tmp 19) rfl Tryz.underlying116 info_nat (by rfl) (row2.below (below_alloc (Nat.le_refl _) _)) (by rfl) (news := [_]) rfl isV_one (by intro x hx; obtain rfl := List.mem_singleton.1 hx; rfl) (by have := HL.out; simp; omega) (Nat.le_trans bsz2 (by simp)) ?_; intro v3 w5 row3 bb3 HK)
        | (go_simp; go_at_call 80; refine (mul_any _ _ z2 p _ w2 wu (by omega) (by omega) (z2 * p) rfl).mono ?_; rintro e w3 ⟨v1, rfl, k1, f1, b1⟩; have row1 := rowd.below b1; have nums1 := numsd.below b1; have hc0r := (b1.cell (World.block_lt_of_cell? wr _ hc0r)).trans hc0r; have wt1 := w1.below b1)
        | (go_simp; go_at_call 124; refine (add_any _ _ z1 (z2 * p) _ wt1 k1 (z1 + z2 * p) rfl (by omega)).mono ?_; rintro e w4 ⟨v2, rfl, k2, f2, b2⟩; have row2 := row1.below b2; have nums2 := nums1.below b2; have fv2 := f2.far row1.under; obtain ⟨A5, d5, rfl, _⟩ := id k2; have bb2 := b1.trans (b2.mono b1.size); have bsz2 : w.heap.size ≤ w4.heap.size := Nat.le_trans hb.size bb2.size))
      all_goals
        have nums3 := (nums2.below (below_alloc (Nat.le_refl _) (.cells #[_] 23))).snoc HK.out (k2.below (below_alloc (Nat.le_refl _) _)) fv2
        have B4 : Below w.heap.size w w4 := hb.drew.trans (bb2.mono hb.size)
        have B5 : Below w.heap.size w w5 := (B4.alloc B4.size _).trans bb3
        have HE2 : Hid ((ys ++ [z1 + z2 * p]) ++ pairs p zr = pairs p xs) := by
          have h1 := HE.out
          show _ = _
          rw [← h1, pairs]; simp
        have HL2 : Hid (tr.length ≤ 1000000 ∧ (us ++ [Value.slice A5 (digs 4294967296 (z1 + z2 * p)).length d5]).length ≤ 1000000 - tr.length) := by
          have h1 := HL.out
          have h2 := HNn.out
          rw [List.length_cons, List.length_cons] at h2
          rw [List.length_append, List.length_singleton]
          exact ⟨by omega, by omega⟩
        have HZ2 : Hid (∀ x ∈ zr, (digs 4294967296 x).length ≤ 10000) := fun x hx => HZ.out x (by simp [hx])
        have hme : n - 2 < n := by omega
        by_cases hc2 : c = 2
        · rw [if_pos hc2, show c - 2 = 0 from by omega] at hV2
          clear B4 hb bb2 bb3 nums2 row2 k2 fv2 HK HE HL HZ hc0r hc1r
          go_wp2
          go_roundw
          case rel => exact ⟨tr, _, zr, _, hV2, hN2, HL2, HZ2, row3, nums3, HE2, B5⟩
          case measure => exact hme
        · rw [if_neg hc2] at hV2
          clear B4 hb bb2 bb3 nums2 row2 k2 fv2 HK HE HL HZ hc0r hc1r
          go_wp2
          go_roundw
          case rel => exact ⟨tr, _, zr, _, hV2, hN2, HL2, HZ2, row3, nums3, HE2, B5⟩
          case measure => exact hme
    · have hr : ∀ (i : Nat) (x : Value), ts[i]? = some x → ∃ ad, A = some ad ∧ wr.cell? (ad.add i) = some x := by
        intro i x hx
        obtain ⟨ad, h1, h2⟩ := hcells i x hx
        exact ⟨ad, h1, (hb.cell (World.block_lt_of_cell? w _ h2)).trans h2⟩
      have h1c : ∀ x ∈ ts, x.oneCell' = true := by
        intro x hx
        obtain ⟨i, hi⟩ := List.mem_iff_getElem?.1 hx
        have hi2 : i < ts.length := (List.getElem?_eq_some_iff.1 hi).1
        have hzl := hN.1
        exact one_of_isS (hN.2 i x _ hi (List.getElem?_eq_getElem (show i < zs.length by omega)))
      have HN := Lib.hid hN
      have HR := Lib.hid hr
      have H1 := Lib.hid h1c
      obtain ⟨n, hn⟩ : ∃ n, n = ts.length := ⟨_, rfl⟩
      have HNn := Lib.hid hn
      have hln : ¬ (1 : Int) < (n : Int) := by omega
      rw [← hn] at hc hV ⊢
      clear hcells hr h1c hN hV hlt hn
      go_wp2_with (at_builtin; refine wpList_append_row rfl (.tmp 23) (.tmp 24) rfl Tryz.underlying116 info_nat rfl hrow rfl HNn.out HR.out H1.out (by have h1 := HL.out; have h2 := HNn.out; omega) hb.size ?_; intro v3 w5 row3 bb3 HK)
      go_ret
      have hfar : ∀ x ∈ ts, Far _ x := fun x hx => (by
        obtain ⟨i, hi⟩ := List.mem_iff_getElem?.1 hx
        have hi2 : i < ts.length := (List.getElem?_eq_some_iff.1 hi).1
        have hzl := HN.out.1
        exact (HN.out.2 i x _ hi (List.getElem?_eq_getElem (show i < zs.length by omega))).farOld hrow.base_le)
      refine ⟨_, us ++ ts, rfl, RowV.isV row3, ?_, hb.trans bb3⟩
      rw [← HE.out]
      have hN := HN.out
      have hts : ts.length ≤ 1 := by have := HNn.out; omega
      match ts, zs, hN, hts, hfar with
      | [], [], hN, _, _ =>
        rw [List.append_nil]
        show Nums _ _ (ys ++ [])
        rw [List.append_nil]
        exact ⟨hnums.1.1, fun i a x ha hx => (HK.out _ _ _ (hnums.1.2 i a x ha hx) (hnums.2 a (List.mem_of_getElem? ha))).1⟩
      | [t], [z], hN, _, hfar => exact (hnums.snoc HK.out ((hN.2 0 t z rfl rfl).below hb) (hfar t (by simp))).1
      | [], z :: zr, hN, _, _ => exact absurd hN.1 (by simp)
      | [t], [], hN, _, _ => exact absurd hN.1 (by simp)
      | [t], z :: z2 :: zr, hN, _, _ => exact absurd hN.1 (by simp)
      | t :: t2 :: tr, zs, _, h, _ => exact absurd h (by simp)
end Go.Proofs.YtpcllhdfalebbaaGreatDoor.str
namespace Go.Proofs.YtpcllhdfalebbaaGreatDoor.mem
open Go.RowKit Go.Proofs.YtpcllhdfalebbaaGreatDoor.num
set_option linter.unusedVariables false
theorem RowV.stored {w : World} {base : Nat} {e : TypeId} {g n cap : Nat} {vs : List Value} (h : RowV w base e (.slice (some ⟨g, 0, none⟩) n cap) vs) (i : Nat) (u : Value) : RowV (w.setCell ⟨g, i, none⟩ u) base e (.slice (some ⟨g, 0, none⟩) n cap) (vs.set i u) := by
  unfold RowV at h ⊢
  rw [List.length_set]
  have hn : n = vs.length := by
    rcases h.2 with ⟨h1, h0⟩ | ⟨g', cap', cur, h1, _⟩
    · injection h1 with h1 _ _; cases h1
    · injection h1 with _ h1 _
  subst hn
  exact (World.ownsRow.stored h i u).1
theorem RowV.cellAt {w : World} {base : Nat} {e : TypeId} {g n cap : Nat} {vs : List Value} (h : RowV w base e (.slice (some ⟨g, 0, none⟩) n cap) vs) {i : Nat} {u : Value} (hu : vs[i]? = some u) : w.cell? ⟨g, i, none⟩ = some u := by
  have := World.ownsRow.cells h (g := g) rfl i u hu
  have ha : (⟨g, 0, none⟩ : Addr).add i = ⟨g, i, none⟩ := by unfold Addr.add; split <;> simp_all
  rwa [ha] at this
theorem RowV.frozenAt {w : World} {base : Nat} {e : TypeId} {g n cap : Nat} {vs : List Value} (h : RowV w base e (.slice (some ⟨g, 0, none⟩) n cap) vs) (i : Nat) : w.frozen? ⟨g, i, none⟩ = false := by
  unfold RowV at h
  have hn : n = vs.length := by
    rcases h.2 with ⟨h1, h0⟩ | ⟨g', cap', cur, h1, _⟩
    · injection h1 with h1 _ _; cases h1
    · injection h1 with _ h1 _
  subst hn
  exact World.ownsRow.frozenAt h i
section
variable {P : Program}
/-- 'make([]T, n)', T a slice type. -/
theorem wpList_make_row_ {w : World} {ops : Array Oper} {rest : List Oper} {o : Oper} {a : Act} {Q : Exit → Act → World → Prop} (hgd : o.guard = none) (lo co : Operand) {t : TypeId} (ho : o.op = Op.makeSlice t lo co)
    {base : Nat} {e : TypeId} (hT : P.underlying t = some (.slice e)) (hI : ∃ i, P.info? e = some i ∧ i.zero = some (.slice none 0 0) ∧ i.size = 1 ∧ i.bytes = 24) {kl kc : IntKind} {L C : Int} (n : Nat) (hl : a.eval lo = .int kl L) (hc : a.eval co = .int kc C) (hL : L = (n : Int)) (hC : C = (n : Int)) (hn : n ≤ 1000000000) (hbase : base ≤ w.heap.size)
    (h : ∀ w', RowV w' base e (.slice (some ⟨w.heap.size, 0, none⟩) n n) (List.replicate n (.slice none 0 0)) → Below w.heap.size w w' → wpList P ops Q rest (a.put o.dst (.slice (some ⟨w.heap.size, 0, none⟩) n n)) w') : wpList P ops Q (o :: rest) a w := by
  obtain ⟨i, hi, hz, hs, hb⟩ := hI
  refine wpList_make_full w hgd lo co t ho base e i (.slice none 0 0) 1 hT hi hz hs kl kc L C n hl hc hL hC (by rw [hb]; omega) (by unfold maxLen; omega) hbase fun w' h1 h2 => ?_
  refine h w' ?_ ((Below.refl _ w).grown h2 (Nat.le_refl _) (fun g hg => by cases hg))
  have e1 : (madeCells (Value.slice none 0 0).cells (n * 1)).toList = List.replicate n (.slice none 0 0) := by
    rw [Nat.mul_one]; exact toList_madeCells_one _ _
  rw [e1] at h1
  unfold RowV
  rw [List.length_replicate]
  exact h1
end
end Go.Proofs.YtpcllhdfalebbaaGreatDoor.mem
namespace Go.Proofs.YtpcllhdfalebbaaGreatDoor.str
open Go.RowKit Go.Proofs.YtpcllhdfalebbaaGreatDoor.num Go.Proofs.YtpcllhdfalebbaaGreatDoor.mem Go.Proofs.YtpcllhdfalebbaaGreatDoor.txt Go.Proofs.YtpcllhdfalebbaaGreatDoor.nat
set_option linter.unusedVariables false
/-- What the loop over neighbours keeps. -/
def JO (N tot p : Nat) (xs : List Nat) : Prop := Lt p xs ∧ val p xs = tot ∧ 1 ≤ xs.length ∧ (digs 4294967296 p).length ≤ N ∧ (digs 4294967296 p).length * (xs.length - 1) ≤ N
theorem JO.step {N tot p : Nat} {xs : List Nat} (h : JO N tot p xs) (h1 : (pairs p xs).length ≠ 1) : JO N tot (p * p) (pairs p xs) := by
  obtain ⟨g1, g2, g3, g4, g5⟩ := h
  have hl := pairs_len p xs
  have hm := mul_len p p
  obtain ⟨m, hm2⟩ : ∃ m, (pairs p xs).length = m + 2 := ⟨(pairs p xs).length - 2, by omega⟩
  have k1 : (digs 4294967296 (p * p)).length * (m + 1) ≤ N := by
    have a1 : (digs 4294967296 (p * p)).length * (m + 1) ≤ (2 * (digs 4294967296 p).length) * (m + 1) := Nat.mul_le_mul_right _ (by omega)
    have a2 : (digs 4294967296 p).length * (2 * (m + 1)) ≤ (digs 4294967296 p).length * (xs.length - 1) := Nat.mul_le_mul_left _ (by omega)
    have a3 : (2 * (digs 4294967296 p).length) * (m + 1) = (digs 4294967296 p).length * (2 * (m + 1)) := by rw [Nat.mul_comm 2, Nat.mul_assoc]
    omega
  refine ⟨pairs_lt g1, by rw [pairs_val]; exact g2, by omega, ?_, ?_⟩
  · exact Nat.le_trans (Nat.le_mul_of_pos_right _ (by omega)) k1
  · rw [hm2]; exact k1
theorem JO.done {N tot p x : Nat} {xs : List Nat} (h : JO N tot p xs) (h1 : pairs p xs = [x]) : x = tot := by
  have := pairs_val p xs
  rw [h1, h.2.1] at this
  simpa [val] using this
/-- The call ends with a slice that reads as the list; what was there is as it was. -/
def RetSb (k : IntKind) (l : List Nat) (w : World) (e : Ending) (w' : World) : Prop := ∃ v, e = .returned v ∧ IsS w' k v l ∧ Below w.heap.size w w'
set_option maxHeartbeats 6400000 in
set_option maxRecDepth 100000 in
theorem joined_any (v u : Value) (C : List Nat) (p tot N : Nat) (w : World) (hC : IsS w .u64 v C) (hu : IsS w .u64 u (digs 4294967296 p)) (hJ : JO N tot p C) (hN : N ≤ 10000) (hl : C.length ≤ 100000) (h64 : Lt 4294967296 C) :
    Calls Tryz.prog 106 #[v, u] w (RetSb .u64 (digs 4294967296 tot) w) := by
  obtain ⟨A, c, rfl, hc, hm, hr⟩ := id hC
  unfold maxLen at hm
  obtain ⟨Au, cu, rfl, _⟩ := id hu
  have HJ := Lib.hid hJ
  have H64 := Lib.hid h64
  have HR := Lib.hid hr
  clear hJ h64 hr hC
  go_enter Tryz.func106, Tryz.ntmps106
  go_wp2_with (at_make; refine wpList_make_row_ rfl _ _ rfl Tryz.underlying116 info_nat C.length rfl rfl rfl rfl (by omega) (Nat.le_refl _) ?_; intro w1 row1 b1)
  go_loopw [13] (fun vi wr => ∃ (k : Nat) (us : List Value), k ≤ C.length ∧ us.length = k ∧ RowV wr w.heap.size 23 (.slice (some ⟨w.heap.size, 0, none⟩) C.length C.length) (us ++ List.replicate (C.length - k) (.slice none 0 0)) ∧ NumsFar wr (.slice (some ⟨w.heap.size, 0, none⟩) C.length C.length) us (C.take k) ∧ Below w.heap.size w wr ∧ vi = .int .i64 (k : Int)) (fun vi _ => C.length - (intOf vi).toNat)
  case atStart => exact ⟨0, [], by omega, rfl, by simpa using row1, by rw [List.take_zero]; exact NumsFar.nil _ _, b1, rfl⟩
  case round =>
    clear row1 b1
    obtain ⟨k, us, hk, hul, hrow, hnums, hb, rfl⟩ := hrel
    by_cases hlt : k < C.length
    · obtain ⟨ad, d, rfl, hd, hcell⟩ := (HR.out.below hb).at_ hlt
      have hd32 := H64.out.at hd
      have d0 : (d : Int) ≤ 18446744073709551615 := by omega
      have HD := Lib.hid hd
      have HUL := Lib.hid hul
      clear hd hd32 hul
      go_wp2_with fail
      refine (of_any _ d _ rfl d0).mono ?_
      rintro e w2 ⟨v2, rfl, k2, f2, b2⟩
      have row2 := hrow.below b2
      have nums2 := hnums.below b2
      have fv2 := f2.far hrow.under
      have hat : (us ++ List.replicate (C.length - k) (Value.slice none 0 0))[k]? = some (.slice none 0 0) := by
        have := HUL.out
        rw [List.getElem?_append_right (by omega), List.getElem?_replicate, if_pos (by omega)]
      have hc0 := row2.cellAt hat
      have hf0 := row2.frozenAt k
      obtain ⟨A5, c5, rfl, _⟩ := id k2
      have row3 := row2.stored k (.slice A5 (digs 4294967296 d).length c5)
      have hse : (us ++ List.replicate (C.length - k) (Value.slice none 0 0)).set k (.slice A5 (digs 4294967296 d).length c5) = (us ++ [.slice A5 (digs 4294967296 d).length c5]) ++ List.replicate (C.length - (k + 1)) (.slice none 0 0) := by
        have h1 := HUL.out
        rw [List.set_append_right _ _ (by omega), h1, Nat.sub_self, show C.length - k = (C.length - (k + 1)) + 1 from by omega, List.replicate_succ, List.set_cons_zero, List.append_assoc]; rfl
      rw [hse] at row3
      have nums3 := nums2.snoc (keeps_of (grown_set w2 w.heap.size k (.slice A5 (digs 4294967296 d).length c5)) (Or.inl rfl)) k2 fv2
      rw [← take_step HD.out] at nums3
      have hb3 : Below w.heap.size w (w2.setCell ⟨w.heap.size, k, none⟩ (.slice A5 (digs 4294967296 d).length c5)) := (hb.trans (b2.mono hb.size)).setCell (Nat.le_refl _) _
      clear hrow hnums row2 nums2 hse hat
      go_wp2
      go_roundw
      case rel => exact ⟨k + 1, _, by omega, by have := HUL.out; simp; omega, row3, nums3, hb3, by go_num⟩
      case measure => simp [intOf]; omega
    · obtain rfl : k = C.length := by omega
      rw [Nat.sub_self, List.replicate_zero, List.append_nil] at hrow
      rw [List.take_length] at hnums
      have hV := RowV.isV hrow
      have hN2 := hnums.1
      have hu2 := hu.below hb
      have hCl : Hid (C.length ≤ 100000) := hl
      clear hrow hnums hlt hl
      go_wp2
      go_loopw [1, 5] (fun vp vo wt => ∃ (vs : List Value) (xs : List Nat) (q : Nat), IsV wt vo vs ∧ Nums wt vs xs ∧ Hid (vs.length ≤ 100000) ∧ IsS wt .u64 vp (digs 4294967296 q) ∧ Hid (JO N tot q xs) ∧ Below w.heap.size w wt) (fun _ vo _ => lenOf vo)
      case atStart => exact ⟨us, C, p, hV, hN2, by have h1 := hCl.out; show _ ≤ _; omega, hu2, HJ, hb⟩
      case round =>
        clear hV hN2 hu2 hb hu
        obtain ⟨vs, xs, q, hV, hN2, HL, hq, HJ2, hb⟩ := hrel
        obtain ⟨A1, c1, rfl, hc1, _⟩ := id hV
        obtain ⟨A2, c2, rfl, _⟩ := id hq
        have lq := HJ2.out.2.2.2.1
        have hxs := HJ2.out.2.2.1
        have hxl := hN2.1
        have hpl := pairs_len q xs
        have HXL := Lib.hid hxl
        have HPL := Lib.hid hpl
        have HLx : Hid (∀ x ∈ xs, (digs 4294967296 x).length ≤ 10000) := fun x hx => by
          have h1 := HJ2.out.1 x hx
          have h2 := digs_len_mono (B := 4294967296) (by omega) (Nat.le_of_lt h1)
          omega
        clear hxl hpl hc1
        go_wp2_with fail
        refine (paired_any _ _ vs xs q _ hV hN2 hq (by have := HL.out; omega) (by omega) HLx.out).mono ?_
        rintro e w3 ⟨V3, vs3, rfl, hV3, hN3, b3⟩
        have hl3 := hN3.1
        obtain ⟨A3, c3, rfl, hc3, hcells3⟩ := id hV3
        have hb3 := hb.trans (b3.mono hb.size)
        have hq3 := hq.below b3
        by_cases h1 : (pairs q xs).length = 1
        · obtain ⟨x, hx⟩ := List.length_eq_one_iff.1 h1
          obtain ⟨t, ht⟩ := List.length_eq_one_iff.1 (hl3.trans h1)
          subst ht
          have hxt := HJ2.out.done hx
          rw [hx] at hN3
          have ht2 := hN3.2 0 t x rfl rfl
          rw [hxt] at ht2
          obtain ⟨ad, rfl, hcell⟩ := hcells3 0 t rfl
          rw [add_zero_] at hcell
          clear hx hxt hcells3 h1 hl3
          go_wp2
          go_ret
          exact ⟨_, rfl, ht2, hb3⟩
        · have h2 : ¬ vs3.length = 1 := by omega
          have h3 : ((vs3.length : Int) == 1) = false := by rw [beq_eq_false_iff_ne]; omega
          have HJ3 := Lib.hid (HJ2.out.step h1)
          have HVL : Hid (vs3.length < vs.length ∧ vs3.length ≤ 100000) := by
            have g1 := HPL.out
            have g2 := HXL.out
            have g3 := HL.out
            have g4 : 1 ≤ (pairs q xs).length := by omega
            exact ⟨by omega, by omega⟩
          obtain ⟨n3, hn3⟩ : ∃ n, n = vs3.length := ⟨_, rfl⟩
          rw [← hn3] at h2 h3 hV3 hc3 ⊢
          have HN3 := Lib.hid hn3
          obtain ⟨n2, hn2⟩ : ∃ n, n = vs.length := ⟨_, rfl⟩
          have HN2 := Lib.hid hn2
          clear hcells3 hl3 h1 hn3 hc3 hn2
          go_wp2_with fail
          refine (square_any _ q _ hq3 (by omega) (q * q) rfl).mono ?_
          rintro e w4 ⟨v4, rfl, k4, f4, b4⟩
          go_wp2
          go_roundw
          case rel => exact ⟨vs3, _, _, hV3.below b4, hN3.below b4, HVL.out.2, k4, HJ3, hb3.trans (b4.mono hb3.size)⟩
          case measure => have h1 := HVL.out.1; have h2 := HN3.out; simp [lenOf]; omega
end Go.Proofs.YtpcllhdfalebbaaGreatDoor.str
namespace Go.Proofs.YtpcllhdfalebbaaGreatDoor.str
open Go.RowKit Go.Proofs.YtpcllhdfalebbaaGreatDoor.num Go.Proofs.YtpcllhdfalebbaaGreatDoor.mem Go.Proofs.YtpcllhdfalebbaaGreatDoor.txt Go.Proofs.YtpcllhdfalebbaaGreatDoor.nat
set_option linter.unusedVariables false
/-- The call ends with a string of these bytes, and an error; what was there is as it was. -/
def RetStrE (l : List UInt8) (x : Int) (w : World) (e : Ending) (w' : World) : Prop := ∃ R, e = .returned (.tuple #[.string R, .int .i64 x]) ∧ StrIs R l ∧ Below w.heap.size w w'
set_option maxHeartbeats 3200000 in
set_option maxRecDepth 100000 in
theorem din_ok (v : Value) (a : Nat) (bI : Int) (b : Nat) (w : World) (h : IsS w .u64 v (digs 4294967296 a)) (hl : (digs 4294967296 a).length ≤ 150) (hbI : bI = (b : Int)) (h2 : 2 ≤ b) (h36 : b ≤ 36) :
    Calls Tryz.prog 83 #[v, .int .i64 bI] w (RetStrE (txt b a) 0 w) := by
  obtain ⟨A, c, rfl, _⟩ := id h
  have HB := Lib.hid hbI
  have i2 : 2 ≤ bI := by omega
  have i36 : bI ≤ 36 := by omega
  clear hbI
  go_enter Tryz.func83, Tryz.ntmps83
  go_wp2_with fail
  refine (isBase_yes bI _ i2 i36).mono ?_
  rintro e w' ⟨rfl, rfl⟩
  go_wp2_with fail
  refine (stretch_any bI b _ HB.out h2 h36).mono ?_
  rintro e w' ⟨k, p, rfl, hS, rfl⟩
  obtain ⟨hk1, hk32, hp, hp32⟩ := hS
  have hp2 : 2 ≤ p := by
    rw [hp]
    have : b ^ 1 ≤ b ^ k := Nat.pow_le_pow_right (by omega) hk1
    rw [Nat.pow_one] at this; omega
  have HP := Lib.hid hp
  have H32 := Lib.hid hp32
  have hpu : (p : Int) ≤ 18446744073709551615 := by omega
  have lp1 := len1_of_lt hp32
  clear hp hp32
  go_wp2_with fail
  refine (of_any _ p _ rfl hpu).mono ?_
  rintro e w1 ⟨v1, rfl, k1, f1, b1⟩
  go_wp2_with fail
  refine (split_all (a + 1) a p _ v1 _ (by omega) hp2 (by omega) (by omega) (h.below b1) k1).mono ?_
  rintro e w2 ⟨V, vs, xs, rfl, hV, hN, hP, b2⟩
  have B2 := b1.trans (b2.mono b1.size)
  have hvl : vs.length ≤ 10000 := by have h1 := parts_len hp2 hP hl; have h3 := hN.1; omega
  have hx32 : Lt 4294967296 xs := hP.1.more (by have := H32.out; omega)
  have HPP := Lib.hid hP
  clear hP
  go_wp2_with fail
  refine (written_any V vs xs (k : Int) bI k b _ hV hN hvl rfl HB.out hk32 h2 h36 hx32).mono ?_
  rintro e w3 ⟨R, rfl, hR, b3⟩
  have B3 := B2.trans (b3.mono B2.size)
  go_wp2_with fail
  refine (trimLeft_any R _ _ hR).mono ?_
  rintro e w' ⟨R2, rfl, hR2, rfl⟩
  have hval : val b (pads b k xs) = a := by
    have h1 := HPP.out.1
    have h3 := HPP.out.2.1
    rw [HP.out] at h1 h3
    rw [pads_val h1, h3]
  rw [strip h2 h36 (pads_lt (by omega) k xs), hval] at hR2
  clear hval hR hV hN hx32
  by_cases h0 : a = 0
  · have e0 : (digs b a).reverse.map ch = [] := by rw [h0, digs_zero]; rfl
    rw [e0] at hR2
    have hcmp : R2.toList = [] := by rw [Lib.toList_data]; exact hR2
    have HT : Hid (txt b a = [48]) := by show _ = _; rw [h0, txt_zero]
    clear e0 h0
    go_wp2
    go_ret2
    exact ⟨_, rfl, by rw [HT.out]; rfl, B3⟩
  · have HT : Hid (txt b a = (digs b a).reverse.map ch) := txt_pos h0
    rw [← HT.out] at hR2
    have hne : R2.toList ≠ [] := by rw [Lib.toList_data, hR2]; exact txt_ne h2 a
    have hcmp : (R2.toList == []) = false := by rw [beq_eq_false_iff_ne]; exact hne
    clear h0
    go_wp2
    go_ret2
    exact ⟨_, rfl, hR2, B3⟩
set_option maxHeartbeats 400000 in
theorem print_any (v : Value) (a : Nat) (w : World) (h : IsS w .u64 v (digs 4294967296 a)) (hl : (digs 4294967296 a).length ≤ 150) :
    Calls Tryz.prog 46 #[v] w (RetStrB (txt 10 a) w) := by
  go_enter Tryz.func46, Tryz.ntmps46
  go_wp2_with fail
  refine (din_ok v a 10 10 _ h hl rfl (by omega) (by omega)).mono ?_
  rintro e w' ⟨R, rfl, hR, b⟩
  go_wp2
  go_ret
  exact ⟨R, rfl, hR, b⟩
set_option maxHeartbeats 400000 in
theorem count_any (v : Value) (a : Nat) (n : Int) (w : World) (h : IsS w .u64 v (digs 4294967296 a)) (hl : (digs 4294967296 a).length ≤ 150) (hn : n = ((txt 10 a).length : Int)) :
    Calls Tryz.prog 57 #[v] w (RetV (.int .i64 n) w) := by
  have HN := Lib.hid hn
  clear hn
  go_enter Tryz.func57, Tryz.ntmps57
  go_wp2_with fail
  refine (print_any v a _ h hl).mono ?_
  rintro e w' ⟨R, rfl, hR, b⟩
  have HS : Hid ((R.size : Int) = n) := by show _ = _; rw [HN.out, hR.size]
  go_wp2
  go_ret
  exact ⟨by rw [← HS.out]; rfl, b⟩
end Go.Proofs.YtpcllhdfalebbaaGreatDoor.str
namespace Go.Proofs.YtpcllhdfalebbaaGreatDoor.str
open Go.RowKit Go.Proofs.YtpcllhdfalebbaaGreatDoor.num Go.Proofs.YtpcllhdfalebbaaGreatDoor.mem Go.Proofs.YtpcllhdfalebbaaGreatDoor.txt Go.Proofs.YtpcllhdfalebbaaGreatDoor.nat
set_option linter.unusedVariables false
/-- What a text is by a base: its number, or refused. -/
def FromR (b : Nat) (l : List UInt8) (x : Nat) (e : Int) : Prop := (okS b l ∧ x = numS b l ∧ e = 0) ∨ (¬ okS b l ∧ x = 0 ∧ e = 5)
theorem FromR.one {b : Nat} {l : List UInt8} {x y : Nat} {e f : Int} (h : FromR b l x e) (k : FromR b l y f) : y = x ∧ f = e := by
  rcases h with ⟨h1, h2, h3⟩ | ⟨h1, h2, h3⟩ <;> rcases k with ⟨k1, k2, k3⟩ | ⟨k1, k2, k3⟩
  · exact ⟨by rw [h2, k2], by rw [h3, k3]⟩
  · exact absurd h1 k1
  · exact absurd k1 h1
  · exact ⟨by rw [h2, k2], by rw [h3, k3]⟩
/-- The call ends with a slice that reads as the list, and an error; what was there is as it was. -/
def RetNE (l : List Nat) (x : Int) (w : World) (e : Ending) (w' : World) : Prop := ∃ v, e = .returned (.tuple #[v, .int .i64 x]) ∧ IsS w' .u64 v l ∧ Below w.heap.size w w'
/-- The same, the number that the text is. -/
def RetFr (b : Nat) (l : List UInt8) (w : World) (e : Ending) (w' : World) : Prop := ∃ x en, FromR b l x en ∧ RetNE (digs 4294967296 x) en w e w'
theorem nil_digs (w : World) : IsS w .u64 (.slice none 0 0) (digs 4294967296 0) := by rw [digs_zero]; exact isNil w .u64
theorem rev_at {l : List UInt8} {k j : Nat} {c : UInt8} (h : l[k]? = some c) (hj : j + k + 1 = l.length) : (l.reverse.map dv)[j]? = some (dv c) := by
  have hk : k < l.length := (List.getElem?_eq_some_iff.1 h).1
  rw [List.getElem?_map, List.getElem?_reverse (by omega), show l.length - 1 - j = k from by omega, h]; rfl
theorem own_iterAt {w : World} {base : Nat} {e : TypeId} {kd : IntKind} {v : Value} {l : List Nat} {k : Nat} {s : ByteArray} {pos : Nat} (h : Own w base e kd v l) (hk : w.heap[k]? = some (.stringIter s pos)) (pos' : Nat) : Own (w.iterAt k s pos') base e kd v l := by
  obtain ⟨h1, h2⟩ := h
  refine ⟨h1, ?_⟩
  rcases h2 with h2 | ⟨g, cap, cur, a, b, c, d⟩
  · exact .inl h2
  · refine .inr ⟨g, cap, cur, a, b, ?_, d⟩
    rw [Lib.iterAt_other _ _ _ _ _ (by rintro rfl; rw [hk] at c; cases c)]; exact c
theorem iter_kept {w w' : World} {k : Nat} {s : ByteArray} {pos : Nat} (h : w.heap[k]? = some (.stringIter s pos)) (hb : Below w.heap.size w w') : w'.heap[k]? = some (.stringIter s pos) := by
  rw [hb.block k (Array.getElem?_eq_some_iff.1 h).1]; exact h
theorem iter_set {w : World} {k : Nat} {s : ByteArray} {pos : Nat} (h : w.heap[k]? = some (.stringIter s pos)) {g : Nat} (hg : g ≠ k) (o : Nat) (u : Value) : (w.setCell ⟨g, o, none⟩ u).heap[k]? = some (.stringIter s pos) := by
  rw [(grown_set w g o u).block k (Array.getElem?_eq_some_iff.1 h).1 (by intro e; injection e with e; exact hg e.symm)]; exact h
theorem iterPos_of {w : World} {k : Nat} {s : ByteArray} {p : Nat} (h : w.heap[k]? = some (.stringIter s p)) : w.iterPos k = p := by simp [World.iterPos, h]
theorem not_ok {b : Nat} {l : List UInt8} {k : Nat} {c : UInt8} (h : l[k]? = some c) (hc : ¬ dv c < b) : ¬ okS b l := fun h2 => hc (h2.2 c (List.mem_of_getElem? h))
theorem dv_high {c : UInt8} (h : 128 ≤ c.toNat) : dv c = 99 := by unfold dv; rw [if_neg (by omega), if_neg (by omega)]
theorem dvi_low (b : Nat) (c : UInt8) (h : c.toNat < 128) : dvi b (c.toNat : Int) = if dv c < b then (dv c : Int) else -1 := by
  unfold dvi
  have e : ((c.toNat : Int)).toNat.toUInt8 = c := by rw [Int.toNat_natCast]; simp [Nat.toUInt8]
  rw [e]
  by_cases hd : dv c < b
  · rw [if_pos ⟨by omega, hd⟩, if_pos hd]
  · rw [if_neg (fun h => hd h.2), if_neg hd]
theorem dvi_high (b : Nat) (r : Int) (h : 128 ≤ r) : dvi b r = -1 := if_neg (fun h2 => by omega)
set_option maxHeartbeats 400000 in
theorem dfrom_nil (S : ByteArray) (b : Int) (w : World) (hS : StrIs S []) (h2 : 2 ≤ b) (h36 : b ≤ 36) :
    Calls Tryz.prog 81 #[.string S, .int .i64 b] w (RetNE [] 5 w) := by
  have hcmp : S.toList = [] := by rw [Lib.toList_data]; exact hS
  go_enter Tryz.func81, Tryz.ntmps81
  go_wp2_with fail
  refine (isBase_yes b _ h2 h36).mono ?_
  rintro e w' ⟨rfl, rfl⟩
  go_wp2
  go_ret2
  exact ⟨_, rfl, isNil _ _, Below.refl _ _⟩
set_option maxHeartbeats 6400000 in
set_option maxRecDepth 100000 in
theorem dfrom_ok (S : ByteArray) (l : List UInt8) (bI : Int) (b : Nat) (w : World) (hS : StrIs S l) (hl : l.length ≤ 1000) (hne : l ≠ []) (hbI : bI = (b : Int)) (h2 : 2 ≤ b) (h36 : b ≤ 36) :
    Calls Tryz.prog 81 #[.string S, .int .i64 bI] w (RetFr b l w) := by
  have HB := Lib.hid hbI
  have i2 : 2 ≤ bI := by omega
  have i36 : bI ≤ 36 := by omega
  have hpos : 0 < l.length := List.length_pos_iff.2 hne
  have hne2 : S.toList ≠ [] := by rw [Lib.toList_data, hS]; exact hne
  have hcmp : (S.toList == []) = false := by rw [beq_eq_false_iff_ne]; exact hne2
  have HSZ := Lib.hid hS.size
  have hs1 : S.size ≤ 1000 := by have := hS.size; omega
  have hs0 : 0 < S.size := by have := hS.size; omega
  clear hbI hne hl hpos
  go_enter Tryz.func81, Tryz.ntmps81
  go_wp2_with fail
  refine (isBase_yes bI _ i2 i36).mono ?_
  rintro e w' ⟨rfl, rfl⟩
  go_wp2_with fail
  refine (stretch_any bI b _ HB.out h2 h36).mono ?_
  rintro e w' ⟨k, p, rfl, hK, rfl⟩
  obtain ⟨hk1, hk32, hp, hp32⟩ := hK
  have HP := Lib.hid hp
  have H32 := Lib.hid hp32
  have hpu : (p : Int) ≤ 18446744073709551615 := by omega
  obtain ⟨n, hn⟩ : ∃ n, n = (S.size + k - 1) / k := ⟨_, rfl⟩
  have hnI : ((S.size : Int) + (k : Int) - 1) / (k : Int) = (n : Int) := by
    rw [hn, show (S.size : Int) + (k : Int) - 1 = ((S.size + k - 1 : Nat) : Int) from by omega]
    exact (Int.natCast_ediv _ _).symm
  have hnk : n * k ≤ S.size + k - 1 := by rw [hn]; exact Nat.div_mul_le_self _ _
  have hnk2 : S.size ≤ n * k := by
    have h1 := Nat.lt_div_mul_add (a := S.size + k - 1) (b := k) (by omega)
    rw [← hn] at h1; omega
  have hn1000 : n ≤ 1100 := by
    rw [hn]
    refine Nat.le_trans (Nat.div_le_self _ _) ?_
    omega
  have HNI := Lib.hid hnI
  have HNK := Lib.hid (And.intro hnk hnk2)
  clear hp hp32 hn hnI hnk hnk2
  go_wp2_with (at_make; refine wpList_make_rd rfl _ _ rfl sl22 n rfl rfl HNI.out HNI.out (by omega) (Nat.le_refl _) ?_; intro w1 hown1 hb1 hlt1)
  obtain ⟨I, hI⟩ : ∃ I, I = w1.heap.size := ⟨_, rfl⟩
  have hgI : w.heap.size < I := by omega
  have hit0 : (w1.iter S 0).heap[I]? = some (.stringIter S 0) := by rw [hI]; exact World.iter_heap w1 S 0
  have hown0 : Own (w1.iter S 0) w.heap.size 60 .u64 (.slice (some ⟨w.heap.size, 0, none⟩) n n) (List.replicate n 0) := hown1.alloc _
  have hb0 : Below w.heap.size w (w1.iter S 0) := hb1.alloc hb1.size _
  obtain ⟨L, hLe⟩ : ∃ L, L = l.reverse.map dv := ⟨_, rfl⟩
  have hLl : L.length = S.size := by rw [hLe]; simp; have := HSZ.out; omega
  have hST0 : ST b k L S.size (List.replicate n 0) := by
    rw [← hLl]
    refine ST.start n ?_
    have := HNK.out; omega
  have HST0 := Lib.hid hST0
  have HLe := Lib.hid hLe
  have HLl := Lib.hid hLl
  rw [← hI]
  generalize w1.iter S 0 = W0 at hit0 hown0 hb0 ⊢
  clear hST0 hLe hLl hI hown1 hb1 hlt1
  go_loopw [9] (fun v9 wr => ∃ (i m : Nat) (C : List Nat), i + m = S.size ∧ wr.heap[I]? = some (.stringIter S i) ∧ Own wr w.heap.size 60 .u64 (.slice (some ⟨w.heap.size, 0, none⟩) n n) C ∧ Hid (C.length = n) ∧ Hid (ST b k L m C) ∧ Hid (Lt b (L.drop m)) ∧ Below w.heap.size w wr) (fun _ wr => S.size - wr.iterPos I)
  case atStart => exact ⟨0, S.size, _, by omega, hit0, hown0, by show _ = _; simp, HST0, by have h1 := HLl.out; show Lt b _; rw [List.drop_of_length_le (by omega)]; exact Lt.nil b, hb0⟩
  case round =>
    clear hit0 hown0 hb0
    obtain ⟨i, m, C, him, hit, hown, HCl, HST, HLT, hb⟩ := hrel
    have hpos0 := iterPos_of hit
    have hIlt : I < wr.heap.size := (Array.getElem?_eq_some_iff.1 hit).1
    by_cases hp : i < S.size
    · obtain ⟨d, hd⟩ : ∃ d, d = Utf8.decode S i := ⟨_, rfl⟩
      have hnx : ∀ ty, (Instr.next (.pointer (some ⟨I, 0, none⟩)) true ty).run Tryz.prog wr = _ := fun ty => Lib.run_next_any_at wr I S i ty hit hp
      have hat := hS.at_ hp
      rw [← hd] at hnx
      have hit2 := Lib.iterAt_heap wr I S i (i + d.2) hit
      have hb2 := Lib.below_iterAt hb (k := I) (by omega) S (i + d.2)
      have hown2 := own_iterAt hown hit (i + d.2)
      obtain ⟨W1, hW1⟩ : ∃ W1, W1 = wr.iterAt I S (i + d.2) := ⟨_, rfl⟩
      rw [← hW1] at hnx hit2 hb2 hown2
      have hr1 : d.1 ≤ 2147483647 := by rw [hd]; exact decode_le S i
      have hr0 : (0 : Int) ≤ (d.1 : Int) := by omega
      have hr2 : (d.1 : Int) ≤ 2147483647 := by omega
      have hfig : StrIs (ByteArray.extract ⟨figs.toArray⟩ 0 bI.toNat) (figs.take b) := by rw [HB.out, Int.toNat_natCast]; exact (StrIs.mk figs).to_ b
      by_cases hgood : (S[i]'hp).toNat < 128 ∧ dv (S[i]'hp) < b
      · obtain ⟨hlow, hdv⟩ := hgood
        have hdec : d = ((S[i]'hp).toNat, 1) := by rw [hd]; exact decode_ascii S i hp hlow
        have HT : Hid (((dv (S[i]'hp) : Nat) : Int) = dvi b (d.1 : Int)) := by show _ = _; rw [hdec, dvi_low b _ hlow, if_pos hdv]
        have hd2 : d.2 = 1 := by rw [hdec]
        rw [hd2] at hit2
        obtain ⟨dg, hdg⟩ : ∃ dg, dg = dv (S[i]'hp) := ⟨_, rfl⟩
        rw [← hdg] at hdv HT
        obtain ⟨m, rfl⟩ : ∃ t, m = t + 1 := ⟨m - 1, by omega⟩
        have hLat : L[m]? = some dg := by rw [HLe.out, hdg]; exact rev_at hat (by have := HSZ.out; omega)
        obtain ⟨q, hq⟩ : ∃ q, q = m / k := ⟨_, rfl⟩
        have hqn : q < n := by
          rw [hq]
          refine Nat.div_lt_of_lt_mul ?_
          have h1 := HNK.out.2
          rw [Nat.mul_comm]; omega
        have hqI : ((S.size : Int) - 1 - (i : Int)) / (k : Int) = (q : Int) := by
          rw [hq, show (S.size : Int) - 1 - (i : Int) = ((m : Nat) : Int) from by omega]
          exact (Int.natCast_ediv _ _).symm
        obtain ⟨cq, hcq⟩ : ∃ c, C[q]? = some c := ⟨_, List.getElem?_eq_getElem (by have := HCl.out; omega)⟩
        have hcb : cq < 4294967296 := by
          have h1 := HST.out.bound (by omega) HLT.out hcq
          rw [← HP.out] at h1
          have := H32.out; omega
        have HS2 : Hid (ST b k L m (C.set q (cq * b + dg))) := by
          show ST b k L m _
          rw [hq] at hcq ⊢
          exact HST.out.step (by omega) hLat hcq
        have HLT2 : Hid (Lt b (L.drop m)) := Lt.dropStep HLT.out hLat hdv
        obtain ⟨cI, hcI⟩ : ∃ cI : Int, cI = (cq : Int) := ⟨_, rfl⟩
        obtain ⟨tI, htI⟩ : ∃ tI : Int, tI = (dg : Int) := ⟨_, rfl⟩
        rw [← htI] at HT
        have c0 : 0 ≤ cI := by omega
        have c1 : cI ≤ 4294967295 := by omega
        have t0 : 0 ≤ tI := by omega
        have t1 : tI ≤ 36 := by omega
        have m0 : (0 : Int) ≤ cI * bI := Int.mul_nonneg c0 (by omega)
        have m1 : cI * bI ≤ 154618822620 := Int.le_trans (Int.mul_le_mul_of_nonneg_right c1 (by omega)) (by omega)
        have HX : Hid (cI * bI + tI = ((cq * b + dg : Nat) : Int)) := by show _ = _; rw [hcI, htI, HB.out, Int.natCast_add, Int.natCast_mul]
        have HCQ := Lib.hid hcq
        have HCI := Lib.hid hcI
        have HQI := Lib.hid hqI
        have hsize := hb2.size
        have HPOS := Lib.hid hpos0
        clear hdec hd2 hdg hLat hq hcb hcI htI hcq hqI hd hat hW1 hit hown hb hpos0
        go_wp2_with fail
        refine (idxFig_any _ b _ tI _ hfig h36 hr0 hr2 HT.out).mono ?_
        rintro e w3 ⟨rfl, b3⟩
        have hit3 := iter_kept hit2 b3
        have hown3 := hown2.below b3
        have hb3 := hb2.trans (b3.mono hb2.size)
        have hc0 := hown3.cellAt HCQ.out
        rw [← HCI.out] at hc0
        have hf0 := hown3.frozenAt q
        have hown4 := hown3.stored' q (cq * b + dg) HX.out
        have hit4 := iter_set hit3 (g := w.heap.size) (by omega) q (.int .u64 (cI * bI + tI))
        have hb4 : Below w.heap.size w (w3.setCell ⟨w.heap.size, q, none⟩ (.int .u64 (cI * bI + tI))) := hb3.setCell (Nat.le_refl _) _
        clear hown3 hown2 hit2 hit3 hb2 hb3
        go_upto_region 14 with (fail)
        rw [HQI.out]
        go_wp2
        go_roundw
        case rel => exact ⟨i + 1, m, _, by omega, hit4, hown4, by have := HCl.out; show _ = _; simp; omega, HS2, HLT2, hb4⟩
        case measure => rw [iterPos_of hit4, HPOS.out]; omega
      · have HT : Hid ((-1 : Int) = dvi b (d.1 : Int)) := by
          show _ = _
          by_cases hlow : (S[i]'hp).toNat < 128
          · have hdec : d = ((S[i]'hp).toNat, 1) := by rw [hd]; exact decode_ascii S i hp hlow
            rw [hdec, dvi_low b _ hlow, if_neg (fun h => hgood ⟨hlow, h⟩)]
          · have hh := (decode_high S i hp (by omega)).1
            rw [← hd] at hh
            rw [dvi_high b _ (by omega)]
        have hno : ¬ okS b l := by
          refine not_ok hat fun h => ?_
          by_cases hlow : (S[i]'hp).toNat < 128
          · exact hgood ⟨hlow, h⟩
          · have := dv_high (c := S[i]'hp) (by omega); omega
        clear hd hat hgood hW1 hit hown hb hpos0
        go_wp2_with fail
        refine (idxFig_any _ b _ (-1) _ hfig h36 hr0 hr2 HT.out).mono ?_
        rintro e w3 ⟨rfl, b3⟩
        go_wp2
        go_ret2
        exact ⟨0, 5, .inr ⟨hno, rfl, rfl⟩, _, rfl, nil_digs _, hb2.trans (b3.mono hb2.size)⟩
    · obtain rfl : m = 0 := by omega
      have hnx : ∀ ty, (Instr.next (.pointer (some ⟨I, 0, none⟩)) true ty).run Tryz.prog wr = _ := fun ty => Lib.run_next_end_at wr I S i ty hit hp
      have hLT := HLT.out
      rw [List.drop_zero] at hLT
      obtain ⟨g1, g2⟩ := ST.done (by omega) (by omega) hLT HST.out (by have h1 := HLl.out; have h3 := HCl.out; have h4 := HNK.out; rw [h3]; omega)
      rw [← HP.out] at g1 g2
      have htot : val p C = numS b l := by rw [g2, HLe.out]; rfl
      have hok : okS b l := by
        refine ⟨fun h0 => ?_, fun c hc => ?_⟩
        · have h1 := HSZ.out; rw [h0, List.length_nil] at h1; omega
        · refine hLT (dv c) ?_
          rw [HLe.out]
          exact List.mem_map.2 ⟨c, List.mem_reverse.2 hc, rfl⟩
      have lp1 := len1_of_lt H32.out
      have hCn := HCl.out
      have hn1 : 1 ≤ n := by
        rcases Nat.eq_zero_or_pos n with h0 | h0
        · have h1 := HNK.out.2; rw [h0] at h1; omega
        · exact h0
      have hJ : JO 2000 (numS b l) p C := by
        refine ⟨g1, htot, by omega, by omega, ?_⟩
        have : (digs 4294967296 p).length * (C.length - 1) ≤ 1 * (C.length - 1) := Nat.mul_le_mul_right _ lp1
        omega
      have h64 : Lt 4294967296 C := g1.more (by have := H32.out; omega)
      have HJ := Lib.hid hJ
      have hCl : C.length ≤ 100000 := by omega
      have kS := hown.isS
      clear hLT g1 g2 htot hJ hCn hit hpos0 hown
      go_wp2_with fail
      refine (of_any _ p _ rfl hpu).mono ?_
      rintro e w3 ⟨v1, rfl, k1, f1, b3⟩
      go_wp2_with fail
      refine (joined_any _ v1 C p (numS b l) 2000 _ (kS.below b3) k1 HJ.out (by omega) hCl h64).mono ?_
      rintro e w4 ⟨v2, rfl, k2, b4⟩
      have B3 := hb.trans (b3.mono hb.size)
      go_wp2
      go_ret2
      exact ⟨_, 0, .inl ⟨hok, rfl, rfl⟩, _, rfl, k2, B3.trans (b4.mono B3.size)⟩
/-- From, at every text of some bytes. -/
theorem dfrom_any (S : ByteArray) (l : List UInt8) (bI : Int) (b : Nat) (w : World) (hS : StrIs S l) (hl : l.length ≤ 1000) (hbI : bI = (b : Int)) (h2 : 2 ≤ b) (h36 : b ≤ 36) :
    Calls Tryz.prog 81 #[.string S, .int .i64 bI] w (RetFr b l w) := by
  by_cases hne : l = []
  · subst hne
    refine (dfrom_nil S bI w hS (by omega) (by omega)).mono ?_
    intro e w' h
    rw [← digs_zero 4294967296] at h
    exact ⟨0, 5, .inr ⟨fun h1 => h1.1 rfl, rfl, rfl⟩, h⟩
  · exact dfrom_ok S l bI b w hS hl hne hbI h2 h36
set_option maxHeartbeats 400000 in
theorem parse_any (S : ByteArray) (l : List UInt8) (w : World) (hS : StrIs S l) (hl : l.length ≤ 1000) :
    Calls Tryz.prog 90 #[.string S] w (RetFr 10 l w) := by
  go_enter Tryz.func90, Tryz.ntmps90
  go_wp2_with fail
  refine (dfrom_any S l 10 10 _ hS hl rfl (by omega) (by omega)).mono ?_
  rintro e w1 ⟨x, en, hF, v, rfl, hv, b⟩
  go_wp2
  go_ret2
  exact ⟨x, en, hF, v, rfl, hv, b⟩
end Go.Proofs.YtpcllhdfalebbaaGreatDoor.str
namespace Go.Proofs.YtpcllhdfalebbaaGreatDoor.str
open Go.RowKit Go.Proofs.YtpcllhdfalebbaaGreatDoor.num Go.Proofs.YtpcllhdfalebbaaGreatDoor.mem Go.Proofs.YtpcllhdfalebbaaGreatDoor.txt Go.Proofs.YtpcllhdfalebbaaGreatDoor.nat
set_option linter.unusedVariables false
theorem numS_step {b : Nat} {l : List UInt8} {i : Nat} {c : UInt8} (h : l[i]? = some c) : numS b (l.take (i + 1)) = numS b (l.take i) * b + dv c := by
  rw [List.take_add_one, h]; exact numS_snoc b _ c
theorem bound_step {x b d i : Nat} (h : x < 10000 ^ i) (hd : d < b) (hb : b ≤ 36) : x * b + d < 10000 ^ (i + 1) := by
  have h1 : (x + 1) * b ≤ 10000 ^ i * b := Nat.mul_le_mul_right _ h
  have h2 : 10000 ^ i * b ≤ 10000 ^ i * 10000 := Nat.mul_le_mul_left _ (by omega)
  rw [Nat.pow_succ]
  rw [Nat.add_mul] at h1
  omega
end Go.Proofs.YtpcllhdfalebbaaGreatDoor.str
namespace Go.Proofs.YtpcllhdfalebbaaGreatDoor.str
open Go.RowKit Go.Proofs.YtpcllhdfalebbaaGreatDoor.num Go.Proofs.YtpcllhdfalebbaaGreatDoor.mem Go.Proofs.YtpcllhdfalebbaaGreatDoor.txt Go.Proofs.YtpcllhdfalebbaaGreatDoor.nat
set_option linter.unusedVariables false
theorem rlen0 {x : Nat} (h : x = 0) : (digs 10000 x).length = 0 := by rw [h, digs_zero]; rfl
theorem rlenp {x : Nat} (h : 0 < x) : 0 < (digs 10000 x).length := by
  rcases Nat.eq_zero_or_pos (digs 10000 x).length with h0 | h0
  · have := (digs_len0 (B := 10000) (by omega)).1 h0; omega
  · exact h0
/-- The digits found so far, and those that are still to come. -/
def DG (b a y : Nat) (D : List Nat) : Prop := D ++ digs b y = digs b a
theorem DG.step {b a y : Nat} {D : List Nat} (hb : 2 ≤ b) (h : DG b a y D) (hy : 0 < y) : DG b a (y / b) (D ++ [y % b]) := by
  unfold DG at h ⊢
  rw [← h, digs_pos hb hy, List.append_assoc]; rfl
end Go.Proofs.YtpcllhdfalebbaaGreatDoor.str
namespace Go.Proofs.YtpcllhdfalebbaaGreatDoor.str
open Go.RowKit Go.Proofs.YtpcllhdfalebbaaGreatDoor.num Go.Proofs.YtpcllhdfalebbaaGreatDoor.mem Go.Proofs.YtpcllhdfalebbaaGreatDoor.txt Go.Proofs.YtpcllhdfalebbaaGreatDoor.nat
set_option linter.unusedVariables false
theorem numS_len {b : Nat} (h36 : b ≤ 36) {l : List UInt8} (h : okS b l) : (digs 4294967296 (numS b l)).length ≤ l.length := by
  have h1 := val_lt h.lt
  rw [List.length_map, List.length_reverse] at h1
  exact digs_len_le (by omega) (Nat.lt_of_lt_of_le h1 (Nat.pow_le_pow_left (by omega) _))
/-- The example's text. -/
def ex : List UInt8 := [52, 50, 57, 52, 57, 54, 55, 50, 57, 54]
end Go.Proofs.YtpcllhdfalebbaaGreatDoor.str
