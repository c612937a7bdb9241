/- Plain mathematics of layer 3: the long product row by row, a number times a limb, and the product by cutting both at one place. No program stands here.
Package mul: trimmed, Long, Small. Condition: slices read as limbs.
Package mul: cut, byCuts, Short, Mul, Square. Condition: slices read as limbs.
Package mul: byCuts (Karatsuba's way), Short, Mul, Square. Condition: slices read as limbs.
Package mul: power, Pow, slices.Clone of numbers, Product. Condition: slices read as limbs.
Package mul: Product. Condition: the slice holds slices that read as limbs. -/
import Derived.Test.YtbebmknfecehnaaGreatWords
import Derived.Laws.CopyOwn
import Derived.Test.YtbebmknfecehnaaGreatNatN
import Derived.Deep.RegionLaw
import Derived.StillTailTactics
import Derived.Lib.SliceRun
namespace Go.Proofs.YtbebmknfecehnaaGreat.num
set_option linter.unusedVariables false

theorem at_le_val {B : Nat} {l : List Nat} {i d : Nat} (hd : l[i]? = some d) : B ^ i * d ≤ val B l := by
  have il : i < l.length := (List.getElem?_eq_some_iff.1 hd).1
  have e : l = l.take i ++ (d :: l.drop (i + 1)) := by
    rw [(List.getElem?_eq_some_iff.1 hd).2.symm, List.getElem_cons_drop, List.take_append_drop]
  have l1 : (l.take i).length = i := by simp; omega
  rw [e, val_append, val_cons, l1, Nat.mul_add]; omega
/-- A list whose number is less than B ^ i has noughts from there on. -/
theorem at_zero {B : Nat} {l : List Nat} {i : Nat} (h : val B l < B ^ i) (hi : i < l.length) : l[i]? = some 0 := by
  rw [List.getElem?_eq_getElem hi]
  have := at_le_val (B := B) (List.getElem?_eq_getElem hi)
  rcases Nat.eq_zero_or_pos (l[i]) with h0 | h0
  · rw [h0]
  · have := Nat.mul_le_mul_left (B ^ i) h0
    omega
theorem val_set0 {B : Nat} {l : List Nat} {i : Nat} (h : l[i]? = some 0) (e : Nat) : val B (l.set i e) = val B l + B ^ i * e := by
  have := val_set (B := B) h e
  simpa using this
theorem val_take_mod {B : Nat} {l : List Nat} (h : Lt B l) {n : Nat} (hn : n ≤ l.length) : val B (l.take n) = val B l % B ^ n := by
  have h1 := val_append B (l.take n) (l.drop n)
  have h2 := val_lt (h.take n)
  rw [List.take_append_drop] at h1
  rw [show (l.take n).length = n from by simp; omega] at h1 h2
  rw [h1, Nat.add_mul_mod_self_left, Nat.mod_eq_of_lt h2]
theorem val_drop_div' {B : Nat} {l : List Nat} (h : Lt B l) {n : Nat} (hn : n ≤ l.length) : val B (l.drop n) = val B l / B ^ n := by
  have h1 := val_append B (l.take n) (l.drop n)
  have h2 := val_lt (h.take n)
  rw [List.take_append_drop] at h1
  rw [show (l.take n).length = n from by simp; omega] at h1 h2
  have h3 : 0 < B ^ n := by omega
  rw [h1, Nat.add_mul_div_left _ _ h3, Nat.div_eq_of_lt h2, Nat.zero_add]

/-- What Long's outer loop keeps: behind i limbs of x the row is their number times y. -/
def LO (B : Nat) (xl yl P : List Nat) (i : Nat) : Prop := Lt B P ∧ P.length = xl.length + yl.length ∧ val B P = val B (xl.take i) * val B yl
/-- What the inner one keeps: behind j limbs of y, u is to be carried on. -/
def LI (B : Nat) (xl yl P : List Nat) (i x j u : Nat) : Prop := Lt B P ∧ P.length = xl.length + yl.length ∧ u < B ∧ P[i + yl.length]? = some 0 ∧ val B P + B ^ (i + j) * u = val B (xl.take i) * val B yl + B ^ i * (x * val B (yl.take j))
theorem LO.start {B : Nat} (hB : 0 < B) (xl yl : List Nat) {n : Nat} (hn : n = xl.length + yl.length) : LO B xl yl (List.replicate n 0) 0 := by
  refine ⟨Lt.rep hB n, by simp [hn], ?_⟩
  rw [val_rep, List.take_zero, val_nil, Nat.zero_mul]
theorem LO.enter {B : Nat} {xl yl P : List Nat} {i : Nat} (hB : 0 < B) (hx : Lt B xl) (hy : Lt B yl) (h : LO B xl yl P i) (hi : i < xl.length) (x : Nat) : LI B xl yl P i x 0 0 := by
  obtain ⟨h1, h2, h3⟩ := h
  refine ⟨h1, h2, hB, ?_, by rw [h3]; simp [val]⟩
  refine at_zero (B := B) ?_ (by omega)
  have a := val_lt (hx.take i)
  have b := val_lt hy
  rw [show (xl.take i).length = i from by simp; omega] at a
  rw [h3, Nat.pow_add]
  exact Nat.mul_lt_mul'' a b
theorem LI.step {B : Nat} {xl yl P : List Nat} {i x j u d e s o : Nat} (h : LI B xl yl P i x j u) (hd : P[i + j]? = some d) (he : yl[j]? = some e) (hs : s < B) (ho : o < B) (hm : s + B * o = x * e + d + u) : LI B xl yl (P.set (i + j) s) i x (j + 1) o := by
  obtain ⟨h1, h2, h3, h4, h5⟩ := h
  have hj : j < yl.length := (List.getElem?_eq_some_iff.1 he).1
  refine ⟨h1.set hs _, by simpa using h2, ho, ?_, ?_⟩
  · rw [List.getElem?_set_ne (by omega)]; exact h4
  · have e1 := val_set (B := B) hd s
    have e2 := val_take_step (B := B) he
    have e3 : B ^ (i + (j + 1)) * o + B ^ (i + j) * s = B ^ (i + j) * (s + B * o) := by
      rw [Nat.mul_add, show i + (j + 1) = (i + j) + 1 from by omega, Nat.pow_succ, Nat.mul_assoc]; omega
    have e4 : B ^ i * (x * val B (yl.take (j + 1))) = B ^ i * (x * val B (yl.take j)) + B ^ (i + j) * (x * e) := by
      rw [e2, Nat.mul_add, Nat.mul_add, Nat.pow_add]
      congr 1
      simp only [Nat.mul_assoc, Nat.mul_left_comm, Nat.mul_comm]
    rw [hm, Nat.mul_add, Nat.mul_add] at e3
    omega
theorem LI.done {B : Nat} {xl yl P : List Nat} {i x u : Nat} (h : LI B xl yl P i x yl.length u) (hx : xl[i]? = some x) : LO B xl yl (P.set (i + yl.length) u) (i + 1) := by
  obtain ⟨h1, h2, h3, h4, h5⟩ := h
  refine ⟨h1.set h3 _, by simpa using h2, ?_⟩
  rw [val_set0 h4, h5, List.take_length, val_take_step hx, Nat.add_mul, Nat.mul_assoc]
theorem LO.done {B : Nat} {xl yl P : List Nat} {i : Nat} (h : LO B xl yl P i) (hi : xl.length ≤ i) : Lt B P ∧ val B xl * val B yl = val B P := by
  obtain ⟨h1, h2, h3⟩ := h
  rw [List.take_of_length_le hi] at h3
  exact ⟨h1, h3.symm⟩

/-- What Small's loop keeps. -/
def SM (B : Nat) (xl P : List Nat) (m c i u : Nat) : Prop := Lt B P ∧ P.length = xl.length + 1 ∧ u < B ∧ val B P < B ^ i ∧ val B P + B ^ i * u = val B (xl.take i) * m + c
theorem SM.start {B : Nat} (xl : List Nat) (m : Nat) {c n : Nat} (hc : c < B) (hn : n = xl.length + 1) : SM B xl (List.replicate n 0) m c 0 c := by
  refine ⟨Lt.rep (by omega) n, by simp [hn], hc, by rw [val_rep]; simp, ?_⟩
  rw [val_rep, List.take_zero, val_nil]; simp
theorem SM.at0 {B : Nat} {xl P : List Nat} {m c i u : Nat} (h : SM B xl P m c i u) (hi : i ≤ xl.length) : P[i]? = some 0 := at_zero h.2.2.2.1 (by have := h.2.1; omega)
theorem SM.step {B : Nat} {xl P : List Nat} {m c i u x s o : Nat} (h : SM B xl P m c i u) (hx : xl[i]? = some x) (hs : s < B) (ho : o < B) (hm : s + B * o = x * m + u) : SM B xl (P.set i s) m c (i + 1) o := by
  have hi : i < xl.length := (List.getElem?_eq_some_iff.1 hx).1
  have h0 := h.at0 (by omega)
  obtain ⟨h1, h2, h3, h4, h5⟩ := h
  have e1 := val_set0 (B := B) h0 s
  have e2 := val_take_step (B := B) hx
  have e3 : B ^ i * (s + 1) ≤ B ^ i * B := Nat.mul_le_mul_left _ hs
  have e4 : B ^ i * (s + B * o) = B ^ i * s + B ^ (i + 1) * o := by rw [Nat.mul_add, Nat.pow_succ, Nat.mul_assoc]
  refine ⟨h1.set hs _, by simpa using h2, ho, ?_, ?_⟩
  · rw [e1, Nat.pow_succ]; rw [Nat.mul_add] at e3; omega
  · rw [hm, Nat.mul_add] at e4
    rw [e1, e2, Nat.add_mul, Nat.mul_assoc]
    omega
theorem SM.done {B : Nat} {xl P : List Nat} {m c u : Nat} (h : SM B xl P m c xl.length u) : Lt B (P.set xl.length u) ∧ val B xl * m + c = val B (P.set xl.length u) := by
  have h0 := h.at0 (Nat.le_refl _)
  obtain ⟨h1, h2, h3, h4, h5⟩ := h
  rw [List.take_length] at h5
  exact ⟨h1.set h3 _, by rw [val_set0 h0, ← h5]⟩

theorem val_splice {B : Nat} (L cs : List Nat) (off : Nat) (h : off + cs.length ≤ L.length) : val B (splice L off cs) = val B (L.take off) + B ^ off * val B cs + B ^ (off + cs.length) * val B (L.drop (off + cs.length)) := by
  unfold splice
  rw [val_append, val_append, show (L.take off).length = off from by simp; omega, Nat.mul_add, Nat.pow_add, Nat.mul_assoc]; omega
theorem Lt.splice {B : Nat} {L cs : List Nat} {off : Nat} (h : Lt B L) (h' : Lt B cs) : Lt B (splice L off cs) := (h.take off).append (h'.append (h.drop _))
theorem digs_cut_len {B x : Nat} (hB : 2 ≤ B) {h N : Nat} (hx : B ^ h * x < B ^ N) (hh : h ≤ N) : (digs B x).length ≤ N - h := by
  refine digs_len_le hB ?_
  rw [show N = h + (N - h) from by omega, Nat.pow_add] at hx
  exact Nat.lt_of_mul_lt_mul_left hx

/-- What byCuts lays over one another: the product of the lower parts at 0, that of the upper ones at 2h, and what lies crosswise, and what lies there, at h. -/
structure Cuts (B x y h n m : Nat) (lo hi mid : Nat) : Prop where
  hlo : lo = x % B ^ h * (y % B ^ h)
  hhi : hi = x / B ^ h * (y / B ^ h)
  hmid : mid = x % B ^ h * (y / B ^ h) + x / B ^ h * (y % B ^ h)
  hx : x < B ^ n
  hy : y < B ^ m
  hN : 2 * h ≤ n + m
theorem Cuts.all {B x y h n m lo hi mid : Nat} (c : Cuts B x y h n m lo hi mid) : (x % B ^ h + x / B ^ h) * (y % B ^ h + y / B ^ h) = lo + hi + mid := by
  rw [c.hlo, c.hhi, c.hmid, Nat.add_mul, Nat.mul_add, Nat.mul_add]; omega
theorem Cuts.prod {B x y h n m lo hi mid : Nat} (c : Cuts B x y h n m lo hi mid) : x * y = lo + B ^ h * mid + B ^ (2 * h) * hi := by
  have ex := Nat.mod_add_div x (B ^ h)
  have ey := Nat.mod_add_div y (B ^ h)
  rw [c.hlo, c.hhi, c.hmid]
  generalize x % B ^ h = x0 at *
  generalize x / B ^ h = x1 at *
  generalize y % B ^ h = y0 at *
  generalize y / B ^ h = y1 at *
  have e2 : B ^ (2 * h) = B ^ h * B ^ h := by rw [Nat.two_mul, Nat.pow_add]
  rw [e2]
  generalize B ^ h = b at *
  rw [← ex, ← ey]
  simp only [Nat.mul_add, Nat.mul_left_comm, Nat.mul_comm, Nat.add_assoc, Nat.add_comm]
theorem Cuts.lt {B x y h n m lo hi mid : Nat} (c : Cuts B x y h n m lo hi mid) (hB : 2 ≤ B) : x * y < B ^ (n + m) := by
  rw [Nat.pow_add]
  exact Nat.mul_lt_mul'' c.hx c.hy
theorem Cuts.lo_lt {B x y h n m lo hi mid : Nat} (c : Cuts B x y h n m lo hi mid) (hB : 2 ≤ B) : lo < B ^ (2 * h) := by
  have hb : 0 < B ^ h := Nat.pow_pos (by omega)
  rw [c.hlo, Nat.two_mul, Nat.pow_add]
  exact Nat.mul_lt_mul'' (Nat.mod_lt _ hb) (Nat.mod_lt _ hb)
theorem Cuts.lo_len {B x y h n m lo hi mid : Nat} (c : Cuts B x y h n m lo hi mid) (hB : 2 ≤ B) : (digs B lo).length ≤ 2 * h := digs_len_le hB (c.lo_lt hB)
theorem Cuts.hi_len {B x y h n m lo hi mid : Nat} (c : Cuts B x y h n m lo hi mid) (hB : 2 ≤ B) : (digs B hi).length ≤ n + m - 2 * h := by
  have h1 := c.lt hB
  rw [c.prod] at h1
  exact digs_cut_len hB (by omega) c.hN
/-- The row behind the first copy. -/
def cut1 (B N lo : Nat) : List Nat := splice (List.replicate N 0) 0 (digs B lo)
def cut2 (B N h lo hi : Nat) : List Nat := splice (cut1 B N lo) (2 * h) (digs B hi)
def cut3 (B N h lo hi t : Nat) : List Nat := splice (cut2 B N h lo hi) h (digs B t)
theorem Cuts.one {B x y h n m lo hi mid : Nat} (c : Cuts B x y h n m lo hi mid) (hB : 2 ≤ B) : Lt B (cut1 B (n + m) lo) ∧ (cut1 B (n + m) lo).length = n + m ∧ val B (cut1 B (n + m) lo) = lo := by
  have h1 := c.lo_len hB
  have h2 := c.hN
  refine ⟨(Lt.rep (by omega) _).splice (digs_lt hB _), ?_, ?_⟩
  · unfold cut1; rw [length_splice _ _ _ (by simp; omega)]; simp
  · unfold cut1
    rw [val_splice _ _ _ (by simp; omega), List.take_zero, val_nil, val_digs hB, List.drop_replicate, val_rep]; simp
theorem Cuts.two {B x y h n m lo hi mid : Nat} (c : Cuts B x y h n m lo hi mid) (hB : 2 ≤ B) : Lt B (cut2 B (n + m) h lo hi) ∧ (cut2 B (n + m) h lo hi).length = n + m ∧ val B (cut2 B (n + m) h lo hi) = lo + B ^ (2 * h) * hi := by
  obtain ⟨g1, g2, g3⟩ := c.one hB
  have h1 := c.lo_lt hB
  have h2 := c.hN
  have h3 := c.hi_len hB
  have hf : 2 * h + (digs B hi).length ≤ (cut1 B (n + m) lo).length := by omega
  refine ⟨g1.splice (digs_lt hB _), ?_, ?_⟩
  · unfold cut2; rw [length_splice _ _ _ hf, g2]
  · unfold cut2
    rw [val_splice _ _ _ hf, val_take_mod g1 (by omega), g3, Nat.mod_eq_of_lt h1, val_digs hB, val_drop_div' g1 hf, g3]
    have h4 : lo / B ^ (2 * h + (digs B hi).length) = 0 := by
      refine Nat.div_eq_of_lt (Nat.lt_of_lt_of_le h1 (Nat.pow_le_pow_right (by omega) (by omega)))
    rw [h4]; simp
theorem Cuts.mids {B x y h n m lo hi mid : Nat} (c : Cuts B x y h n m lo hi mid) (hB : 2 ≤ B) : val B ((cut2 B (n + m) h lo hi).drop h) = (lo + B ^ (2 * h) * hi) / B ^ h := by
  obtain ⟨g1, g2, g3⟩ := c.two hB
  rw [val_drop_div' g1 (by rw [g2]; have := c.hN; omega), g3]
theorem Cuts.t_eq {B x y h n m lo hi mid t : Nat} (c : Cuts B x y h n m lo hi mid) (hB : 2 ≤ B) (ht : t = (lo + B ^ (2 * h) * hi) / B ^ h + mid) : (lo + B ^ (2 * h) * hi) % B ^ h + B ^ h * t = x * y := by
  have h1 := Nat.mod_add_div (lo + B ^ (2 * h) * hi) (B ^ h)
  rw [c.prod, ht, Nat.mul_add]; omega
theorem Cuts.t_len {B x y h n m lo hi mid t : Nat} (c : Cuts B x y h n m lo hi mid) (hB : 2 ≤ B) (ht : t = (lo + B ^ (2 * h) * hi) / B ^ h + mid) : (digs B t).length ≤ n + m - h := by
  have h1 := c.t_eq hB ht
  have h2 := c.lt hB
  have h3 : B ^ h * t ≤ x * y := by rw [← h1]; exact Nat.le_add_left _ _
  exact digs_cut_len hB (Nat.lt_of_le_of_lt h3 h2) (by have := c.hN; omega)
theorem Cuts.three {B x y h n m lo hi mid t : Nat} (c : Cuts B x y h n m lo hi mid) (hB : 2 ≤ B) (ht : t = (lo + B ^ (2 * h) * hi) / B ^ h + mid) : Lt B (cut3 B (n + m) h lo hi t) ∧ x * y = val B (cut3 B (n + m) h lo hi t) := by
  obtain ⟨g1, g2, g3⟩ := c.two hB
  have h2 := c.hN
  have h3 := c.t_len hB ht
  have hf : h + (digs B t).length ≤ (cut2 B (n + m) h lo hi).length := by omega
  refine ⟨g1.splice (digs_lt hB _), ?_⟩
  unfold cut3
  rw [val_splice _ _ _ hf, val_take_mod g1 (by omega), g3, val_digs hB, val_drop_div' g1 hf, g3, ← c.t_eq hB ht]
  have h5 := digs_lt_pow hB t
  have h4 : (lo + B ^ (2 * h) * hi) / B ^ (h + (digs B t).length) = 0 := by
    rw [Nat.pow_add, ← Nat.div_div_eq_div_mul]
    exact Nat.div_eq_of_lt (by omega)
  rw [h4]; simp
end Go.Proofs.YtbebmknfecehnaaGreat.num
namespace Go.Proofs.YtbebmknfecehnaaGreat.mem
open Go.RowKit
set_option linter.unusedVariables false
/-- A row of its full length: its block whole. -/
theorem Own.whole {w : World} {base : Nat} {e : TypeId} {k : IntKind} {g n : Nat} {l : List Nat} (h : Own w base e k (.slice (some ⟨g, 0, none⟩) n n) l) : w.heap[g]? = some (.cells (nv k l).toArray e (0, 0)) ∧ base ≤ g ∧ n = l.length ∧ n ≤ maxLen := by
  obtain rfl := h.len_eq
  rcases h.2 with ⟨h1, _⟩ | ⟨g', cap, cur, h1, hb, hg, hn, hm, hs, ht⟩
  · cases h1
  · injection h1 with h1 h2 h3
    injection h1 with h1
    injection h1 with h1 _ _
    subst h1
    refine ⟨?_, hb, rfl, by omega⟩
    rw [hg, ← ht, List.take_of_length_le (by simp; omega)]
theorem own_of_whole {w : World} {base : Nat} {e : TypeId} {k : IntKind} {g n : Nat} {l : List Nat} (hg : w.heap[g]? = some (.cells (nv k l).toArray e (0, 0))) (hb : base ≤ g) (hn : n = l.length) (hm : n ≤ maxLen) : Own w base e k (.slice (some ⟨g, 0, none⟩) n n) l := by
  subst hn
  refine ⟨by simp [nv], Or.inr ⟨g, _, _, rfl, hb, hg, Nat.le_refl _, hm, by simp [nv], by rw [← nv_len k l]; simp⟩⟩
open Go.Proofs.YtbebmknfecehnaaGreat.num in
theorem Own.cutEnd {w : World} {base : Nat} {e : TypeId} {k : IntKind} {g n cap m : Nat} {l : List Nat} (h : Own w base e k (.slice (some ⟨g, 0, none⟩) n cap) l) (hm : m ≤ l.length) : Own w base e k (.slice (some ⟨g, 0, none⟩) m cap) (l.take m) := by
  obtain rfl := h.len_eq
  have hl : (l.take m).length = m := by simp; omega
  rcases h.2 with ⟨h1, _⟩ | ⟨g', cap', cur, h1, hb, hg, hn, hmx, hs, ht⟩
  · cases h1
  · injection h1 with h1 h2 h3
    injection h1 with h1
    injection h1 with h1 _ _
    subst h1; subst h3
    refine ⟨by simp [nv], Or.inr ⟨g, cap, cur, by rw [hl], hb, hg, by omega, hmx, hs, ?_⟩⟩
    rw [Nat.mul_one] at ht ⊢
    rw [hl, show nv k (l.take m) = (nv k l).take m from by simp [nv, List.map_take], ← ht, List.take_take, Nat.min_eq_left hm]
open Go.Proofs.YtbebmknfecehnaaGreat.num in
theorem Own.trimmed {w : World} {base : Nat} {e : TypeId} {k : IntKind} {g n cap : Nat} {l : List Nat} (h : Own w base e k (.slice (some ⟨g, 0, none⟩) n cap) l) : Own w base e k (.slice (some ⟨g, 0, none⟩) (num.trim l).length cap) (num.trim l) := by
  have := h.cutEnd (trim_len_le l)
  rwa [← trim_prefix] at this
end Go.Proofs.YtbebmknfecehnaaGreat.mem
namespace Go.Proofs.YtbebmknfecehnaaGreat.nat
open Go.RowKit Go.Proofs.YtbebmknfecehnaaGreat.num Go.Proofs.YtbebmknfecehnaaGreat.mem Go.Proofs.YtbebmknfecehnaaGreat.limb
set_option linter.unusedVariables false

/-- mul.trimmed ends with the same slice, as long as it is without the noughts at its end. -/
def RetCut (A : Option Addr) (c : Nat) (l : List Nat) (w : World) (e : Ending) (w' : World) : Prop := e = .returned (.slice A (trim l).length c) ∧ w' = w
set_option maxHeartbeats 400000 in
theorem mtrimmed_any (A : Option Addr) (n c : Nat) (l : List Nat) (w : World) (hn : n = l.length) (hc : l.length ≤ c) (hm : c ≤ maxLen) (hr : Rd w A .u64 l) :
    Calls Tryz.prog 110 #[.slice A n c] w (RetCut A c l w) := by
  subst hn
  unfold maxLen at hm
  go_enter Tryz.func110, Tryz.ntmps110
  go_wp2
  go_loop [0] (fun vs => ∃ n : Nat, n ≤ l.length ∧ Hid (trim (l.take n) = trim l) ∧ vs = .slice A n c) (fun vs => lenOf vs)
  case atStart => exact ⟨l.length, Nat.le_refl _, by rw [List.take_length]; rfl, rfl⟩
  case round =>
    obtain ⟨n, hn, ht, rfl⟩ := hrel
    by_cases hp : 0 < n
    · obtain ⟨n, rfl⟩ : ∃ m, n = m + 1 := ⟨n - 1, by omega⟩
      obtain ⟨ad, d, rfl, hd, hcell⟩ := hr.at_ (i := n) (by omega)
      have HD := Lib.hid hd
      clear hd
      by_cases hz : d = 0
      · subst hz
        go_wp2
        go_round
        case rel => exact ⟨n, by omega, by have h1 := ht.out; rw [trim_take0 HD.out] at h1; exact h1, rfl⟩
        case measure => simp [lenOf]
      · have hz1 : ((d : Int) == 0) = false := by rw [beq_eq_false_iff_ne]; omega
        have e : trim l = l.take (n + 1) := by have h1 := ht.out; rw [trim_of_take HD.out hz] at h1; exact h1.symm
        have el : (trim l).length = n + 1 := by rw [e]; simp; omega
        have HEL := Lib.hid el
        clear e el hz
        go_wp2
        go_ret
        exact ⟨by rw [HEL.out]; rfl, rfl⟩
    · obtain rfl : n = 0 := by omega
      have e : trim l = [] := by have h1 := ht.out; rw [List.take_zero] at h1; exact h1.symm
      have HE := Lib.hid e
      clear e
      go_wp2
      go_ret
      exact ⟨by rw [HE.out]; rfl, rfl⟩

/-- limb.Mul ends with two limbs that make so much. -/
def RetM (a b c d : Nat) (w : World) (e : Ending) (w' : World) : Prop := ∃ s o : Nat, e = .returned (.tuple #[.int .u64 (s : Int), .int .u64 (o : Int)]) ∧ s < 4294967296 ∧ o < 4294967296 ∧ s + 4294967296 * o = a * (b % 4294967296) + c + d ∧ w = w'
theorem mul_nat (aI bI cI dI : Int) (a b c d : Nat) (w : World) (ha : aI = (a : Int)) (hb : bI = (b : Int)) (hc : cI = (c : Int)) (hd : dI = (d : Int)) (la : a < 4294967296) (lb : b < 18446744073709551616) (lc : c < 4294967296) (ld : d < 4294967296) :
    Calls Tryz.prog 109 #[.int .u64 aI, .int .u64 bI, .int .u64 cI, .int .u64 dI] w (RetM a b c d w) := by
  subst ha; subst hb; subst hc; subst hd
  refine (limb.mul_any _ _ _ _ (by omega) (by omega) (by omega) (by omega) (by omega) (by omega) (by omega) (by omega) w).mono ?_
  rintro e w' ⟨s, o, rfl, hs, rfl⟩
  unfold MulSpec at hs
  obtain ⟨s0, s1, o0, o1, he⟩ := hs
  obtain ⟨s, rfl⟩ := Int.eq_ofNat_of_zero_le s0
  obtain ⟨o, rfl⟩ := Int.eq_ofNat_of_zero_le o0
  refine ⟨s, o, rfl, by omega, by omega, ?_, rfl⟩
  rw [Int.emod_eq_of_lt (by omega) (show (a : Int) < 4294967296 by omega), Int.emod_eq_of_lt (by omega) (show (c : Int) < 4294967296 by omega), Int.emod_eq_of_lt (by omega) (show (d : Int) < 4294967296 by omega)] at he
  have e2 : (b : Int) % 4294967296 = ((b % 4294967296 : Nat) : Int) := by omega
  rw [e2] at he
  have e3 : ((a * (b % 4294967296) : Nat) : Int) = (a : Int) * ((b % 4294967296 : Nat) : Int) := Int.natCast_mul _ _
  omega

set_option maxHeartbeats 1600000 in
theorem long_list (v u : Value) (xl yl : List Nat) (w : World) (h : IsS w .u64 v xl) (h' : IsS w .u64 u yl) (lx : Lt 4294967296 xl) (ly : Lt 4294967296 yl) (hl : xl.length ≤ 1000000) (hl' : yl.length ≤ 1000000) :
    Calls Tryz.prog 117 #[v, u] w (RetS .u64 (digs 4294967296 (val 4294967296 xl * val 4294967296 yl)) w) := by
  obtain ⟨A, c, rfl, hc, hm, hr⟩ := h
  obtain ⟨A', c', rfl, hc', hm', hr'⟩ := h'
  unfold maxLen at hm hm'
  have hgood : ∀ n : Nat, n ≤ 2000000 → n ≤ maxLen := fun n hn => by unfold maxLen; omega
  go_enter Tryz.func117, Tryz.ntmps117
  go_wp2_with (at_make; refine wpList_make_rd rfl _ _ rfl sl24 (xl.length + yl.length) rfl rfl (by omega) (by omega) (by omega) (Nat.le_refl _) ?_; intro w1 hown1 hb1 hsz1)
  go_loopw [20] (fun vi wr => ∃ (i : Nat) (P : List Nat), i ≤ xl.length ∧ LO 4294967296 xl yl P i ∧ Own wr w.heap.size 55 .u64 (.slice (some ⟨w.heap.size, 0, none⟩) (xl.length + yl.length) (xl.length + yl.length)) P ∧ Below w.heap.size w wr ∧ vi = .int .i64 (i : Int)) (fun vi _ => xl.length - (intOf vi).toNat)
  case atStart => exact ⟨0, _, by omega, LO.start (by omega) xl yl rfl, hown1, hb1, rfl⟩
  case round =>
    clear hown1 hb1 hsz1
    obtain ⟨i, P, hi, HO, hown, hb, rfl⟩ := hrel
    by_cases hlt : i < xl.length
    · obtain ⟨ad, x, rfl, hx, hcell⟩ := (hr.below hb).at_ hlt
      have HI := HO.enter (by omega) lx ly hlt x
      have hx1 := lx.at hx
      have HX := Lib.hid hx
      clear hx HO
      go_wp2
      go_loopw [9, 35] (fun vu vj wr => ∃ (j u : Nat) (P : List Nat), j ≤ yl.length ∧ LI 4294967296 xl yl P i x j u ∧ Own wr w.heap.size 55 .u64 (.slice (some ⟨w.heap.size, 0, none⟩) (xl.length + yl.length) (xl.length + yl.length)) P ∧ Below w.heap.size w wr ∧ vu = .int .u64 (u : Int) ∧ vj = .int .i64 (j : Int)) (fun _ vj _ => yl.length - (intOf vj).toNat)
      case atStart => exact ⟨0, 0, P, by omega, HI, hown, hb, rfl, rfl⟩
      case round =>
        clear HI hown hb
        obtain ⟨j, u, P, hj, HI, hown, hb, rfl, rfl⟩ := hrel
        have hu := HI.2.2.1
        have hPl := HI.2.1
        by_cases hjt : j < yl.length
        · obtain ⟨ad', e, rfl, he, hcell'⟩ := (hr'.below hb).at_ hjt
          have he1 := ly.at he
          obtain ⟨d, hd⟩ : ∃ d, P[i + j]? = some d := ⟨_, List.getElem?_eq_getElem (by omega)⟩
          have hd1 := HI.1.at hd
          have hc0 := hown.cellAt hd
          have hf0 := hown.frozenAt (i + j)
          have HE := Lib.hid he
          have HD := Lib.hid hd
          have hPL := Lib.hid hPl
          clear he hd hPl
          go_wp2_with fail
          refine (mul_nat _ _ _ _ x e d u _ rfl rfl rfl rfl hx1 (by omega) hd1 hu).mono ?_
          rintro e1 w2 ⟨s, o, rfl, hs, ho, hm2, rfl⟩
          have HI2 := HI.step HD.out HE.out hs ho (by rw [hm2, Nat.mod_eq_of_lt he1])
          have hown2 := hown.stored (i + j) s
          have hb2 : Below w.heap.size w (wr.setCell ⟨w.heap.size, i + j, none⟩ (.int .u64 (s : Int))) := hb.setCell (Nat.le_refl _) _
          clear hm2
          go_wp2
          go_roundw
          case rel => exact ⟨j + 1, o, _, by omega, HI2, hown2, hb2, rfl, by go_num⟩
          case measure => simp [intOf]; omega
        · obtain rfl : j = yl.length := by omega
          have HO := HI.done HX.out
          have hc0 := hown.cellAt HI.2.2.2.1
          have hf0 := hown.frozenAt (i + yl.length)
          have hown2 := hown.stored (i + yl.length) u
          have hb2 : Below w.heap.size w (wr.setCell ⟨w.heap.size, i + yl.length, none⟩ (.int .u64 (u : Int))) := hb.setCell (Nat.le_refl _) _
          clear HI hPl
          go_wp2
          go_roundw
          case rel => exact ⟨i + 1, _, by omega, HO, hown2, hb2, by go_num⟩
          case measure => simp [intOf]; omega
    · obtain ⟨h1, h2⟩ := HO.done (by omega)
      have hP := HO.2.1
      have hrd := hown.isS
      obtain ⟨A2, c2, e2, hc2, hm2, hr2⟩ := hrd
      injection e2 with e2 e3 e4
      subst e2; subst e4
      have hT := trim_digs (by omega) h1
      rw [← h2] at hT
      have HT := Lib.hid hT
      have HP := Lib.hid hP
      have hfr := hown.fresh
      clear hT hP h2 e3 HO
      go_wp2_with fail
      refine (mtrimmed_any _ _ _ P _ HP.out.symm hc2 hm2 hr2).mono ?_
      rintro e w' ⟨rfl, rfl⟩
      rw [HT.out]
      go_wp2
      go_ret
      refine ⟨_, rfl, ?_, hfr.cut _ _, hb⟩
      have := hr2.isTake (trim_len_le P) hc2 hm2
      rw [← trim_prefix, HT.out] at this
      exact this

theorem long_any (v u : Value) (x y : Nat) (w : World) (h : IsS w .u64 v (digs 4294967296 x)) (h' : IsS w .u64 u (digs 4294967296 y)) (hl : (digs 4294967296 x).length ≤ 1000000) (hl' : (digs 4294967296 y).length ≤ 1000000) (z : Nat) (hz : z = x * y) :
    Calls Tryz.prog 117 #[v, u] w (RetS .u64 (digs 4294967296 z) w) := by
  have := long_list v u _ _ w h h' (digs_lt (by omega) x) (digs_lt (by omega) y) hl hl'
  rw [val_digs (by omega), val_digs (by omega), ← hz] at this
  exact this

theorem add0 (cI : Int) (c : Nat) (w : World) (hc : cI = (c : Int)) (lc : c < 18446744073709551616) :
    Calls Tryz.prog 108 #[.int .u64 cI, .int .u64 0, .int .u64 0] w fun e w' => ∃ o : Int, e = .returned (.tuple #[.int .u64 ((c % 4294967296 : Nat) : Int), .int .u64 o]) ∧ w = w' := by
  subst hc
  refine (limb.add_any _ _ _ (by omega) (by omega) (by omega) (by omega) (by omega) (by omega) w).mono ?_
  rintro e w' ⟨s, o, rfl, hs, rfl⟩
  unfold AddSpec at hs
  obtain rfl : s = ((c % 4294967296 : Nat) : Int) := by omega
  exact ⟨o, rfl, rfl⟩

set_option maxHeartbeats 1600000 in
theorem small_own (v : Value) (x : Nat) (mI cI : Int) (m c : Nat) (w : World) (h : IsS w .u64 v (digs 4294967296 x)) (hl : (digs 4294967296 x).length ≤ 1000000) (hmI : mI = (m : Int)) (hcI : cI = (c : Int)) (lm : m < 18446744073709551616) (lc : c < 18446744073709551616) (z : Nat) (hz : z = x * (m % 4294967296) + c % 4294967296) :
    Calls Tryz.prog 94 #[v, .int .u64 mI, .int .u64 cI] w (RetOwn 55 .u64 (digs 4294967296 z) w) := by
  subst hmI; subst hcI
  have lx := digs_lt (B := 4294967296) (by omega) x
  have HZ : Hid (z = val 4294967296 (digs 4294967296 x) * (m % 4294967296) + c % 4294967296) := by show _ = _; rw [val_digs (by omega)]; exact hz
  clear hz
  generalize digs 4294967296 x = xl at h hl lx HZ
  obtain ⟨A, k, rfl, hk, hm, hr⟩ := h
  unfold maxLen at hm
  have hlm : (m : Int) ≤ 18446744073709551615 := by omega
  have hlc : (c : Int) ≤ 18446744073709551615 := by omega
  go_enter Tryz.func94, Tryz.ntmps94
  go_wp2_with (at_make; refine wpList_make_rd rfl _ _ rfl sl24 (xl.length + 1) rfl rfl (by omega) (by omega) (by omega) (Nat.le_refl _) ?_; intro w1 hown1 hb1 hsz1)
  refine (add0 _ c _ rfl lc).mono ?_
  rintro e w2 ⟨o, rfl, rfl⟩
  go_wp2
  go_loopw [8, 23] (fun vu vi wr => ∃ (i u : Nat) (P : List Nat), i ≤ xl.length ∧ SM 4294967296 xl P (m % 4294967296) (c % 4294967296) i u ∧ Own wr w.heap.size 55 .u64 (.slice (some ⟨w.heap.size, 0, none⟩) (xl.length + 1) (xl.length + 1)) P ∧ Below w.heap.size w wr ∧ vu = .int .u64 (u : Int) ∧ vi = .int .i64 (i : Int)) (fun _ vi _ => xl.length - (intOf vi).toNat)
  case atStart => exact ⟨0, c % 4294967296, _, by omega, SM.start xl _ (by omega) rfl, hown1, hb1, by go_num, rfl⟩
  case round =>
    clear hown1 hb1 hsz1
    obtain ⟨i, u, P, hi, HS, hown, hb, rfl, rfl⟩ := hrel
    have hu := HS.2.2.1
    have hc0 := hown.cellAt (HS.at0 hi)
    have hf0 := hown.frozenAt i
    have hPl : Hid (P.length = xl.length + 1) := HS.2.1
    by_cases hlt : i < xl.length
    · obtain ⟨ad, x, rfl, hx, hcell⟩ := (hr.below hb).at_ hlt
      have hx1 := lx.at hx
      have HX := Lib.hid hx
      clear hx
      go_wp2_with fail
      refine (mul_nat _ _ _ _ x m u 0 _ rfl rfl rfl rfl hx1 lm hu (by omega)).mono ?_
      rintro e1 w2 ⟨s, o, rfl, hs, ho, hm2, rfl⟩
      have HS2 := HS.step HX.out hs ho (by rw [hm2]; omega)
      have hown2 := hown.stored i s
      have hb2 : Below w.heap.size w (wr.setCell ⟨w.heap.size, i, none⟩ (.int .u64 (s : Int))) := hb.setCell (Nat.le_refl _) _
      clear hm2
      go_wp2
      go_roundw
      case rel => exact ⟨i + 1, o, _, by omega, HS2, hown2, hb2, rfl, by go_num⟩
      case measure => simp [intOf]; omega
    · obtain rfl : i = xl.length := by omega
      obtain ⟨h1, h2⟩ := HS.done
      rw [← HZ.out] at h2
      have hT := trim_digs (by omega) h1
      rw [← h2] at hT
      have HT := Lib.hid hT
      have hown2 := hown.stored xl.length u
      have hb2 : Below w.heap.size w (wr.setCell ⟨w.heap.size, xl.length, none⟩ (.int .u64 (u : Int))) := hb.setCell (Nat.le_refl _) _
      obtain ⟨A2, c2, e2, hc2, hm2, hr2⟩ := hown2.isS
      injection e2 with e2 e3 e4
      subst e2; subst e4
      have hownT := hown2.trimmed
      rw [hT] at hownT
      have HE := Lib.hid e3
      clear hT h2 HS e3
      go_wp2_with fail
      refine (mtrimmed_any _ _ _ (P.set xl.length u) _ HE.out hc2 hm2 hr2).mono ?_
      rintro e w' ⟨rfl, rfl⟩
      rw [HT.out]
      go_wp2
      go_ret
      exact ⟨_, rfl, hownT, hb2⟩
theorem small_any (v : Value) (x : Nat) (mI cI : Int) (m c : Nat) (w : World) (h : IsS w .u64 v (digs 4294967296 x)) (hl : (digs 4294967296 x).length ≤ 1000000) (hmI : mI = (m : Int)) (hcI : cI = (c : Int)) (lm : m < 18446744073709551616) (lc : c < 18446744073709551616) (z : Nat) (hz : z = x * (m % 4294967296) + c % 4294967296) :
    Calls Tryz.prog 94 #[v, .int .u64 mI, .int .u64 cI] w (RetS .u64 (digs 4294967296 z) w) :=
  (small_own v x mI cI m c w h hl hmI hcI lm lc z hz).mono fun e w' ⟨v', he, hown, hb⟩ => ⟨v', he, hown.isS, hown.fresh, hb⟩
end Go.Proofs.YtbebmknfecehnaaGreat.nat
namespace Go.Proofs.YtbebmknfecehnaaGreat.mem
open Go.RowKit
set_option linter.unusedVariables false
open Go.Proofs.YtbebmknfecehnaaGreat.num in
theorem Rd.isTrim {w : World} {A : Option Addr} {k : IntKind} {l : List Nat} {c : Nat} (h : Rd w A k l) (hc : l.length ≤ c) (hm : c ≤ maxLen) : IsS w k (.slice A (trim l).length c) (trim l) := by
  have := h.isTake (trim_len_le l) hc hm
  rwa [← trim_prefix] at this
end Go.Proofs.YtbebmknfecehnaaGreat.mem
namespace Go.Proofs.YtbebmknfecehnaaGreat.nat
open Go.RowKit Go.Proofs.YtbebmknfecehnaaGreat.num Go.Proofs.YtbebmknfecehnaaGreat.mem Go.Proofs.YtbebmknfecehnaaGreat.limb
set_option linter.unusedVariables false

/-- mul.cut ends with the lower part and the upper one, both in the memory of what was cut; it only read. -/
def RetLH (x n : Nat) (w : World) (e : Ending) (w' : World) : Prop := ∃ v u k, e = .returned (.tuple #[v, u]) ∧ IsS w .u64 v (digs 4294967296 (x % 4294967296 ^ n)) ∧ IsS w .u64 u (digs 4294967296 (x / 4294967296 ^ n)) ∧ w' = w.drewN k
theorem take_mod {x n m : Nat} (hm : m = min n (digs 4294967296 x).length) : val 4294967296 ((digs 4294967296 x).take m) = x % 4294967296 ^ n := by
  have hlt := digs_lt (B := 4294967296) (by omega) x
  rw [val_take_mod hlt (by omega), val_digs (by omega)]
  by_cases h : n ≤ (digs 4294967296 x).length
  · rw [hm, Nat.min_eq_left h]
  · rw [hm, Nat.min_eq_right (by omega)]
    have h1 := digs_lt_pow (B := 4294967296) (by omega) x
    have h2 := Nat.pow_le_pow_right (n := 4294967296) (by omega) (show (digs 4294967296 x).length ≤ n by omega)
    rw [Nat.mod_eq_of_lt h1, Nat.mod_eq_of_lt (by omega)]
theorem drop_div {x n m : Nat} (hm : m = min n (digs 4294967296 x).length) : (digs 4294967296 x).drop m = digs 4294967296 (x / 4294967296 ^ n) := by
  have hlt := digs_lt (B := 4294967296) (by omega) x
  have h0 : val 4294967296 ((digs 4294967296 x).drop m) = x / 4294967296 ^ n := by
    rw [val_drop_div' hlt (by omega), val_digs (by omega)]
    by_cases h : n ≤ (digs 4294967296 x).length
    · rw [hm, Nat.min_eq_left h]
    · rw [hm, Nat.min_eq_right (by omega)]
      have h1 := digs_lt_pow (B := 4294967296) (by omega) x
      have h2 := Nat.pow_le_pow_right (n := 4294967296) (by omega) (show (digs 4294967296 x).length ≤ n by omega)
      rw [Nat.div_eq_of_lt h1, Nat.div_eq_of_lt (by omega)]
  rw [← h0, ← trim_digs (by omega) (hlt.drop m)]
  generalize hd : (digs 4294967296 x).drop m = l
  rcases List.eq_nil_or_concat l with rfl | ⟨l', d, rfl⟩
  · rfl
  · rw [List.concat_eq_append] at hd ⊢
    refine (trim_snoc l' ?_).symm
    have hl : ((digs 4294967296 x).drop m).length = l'.length + 1 := by rw [hd]; simp
    rw [List.length_drop] at hl
    refine digs_last (B := 4294967296) (by omega) x (n := m + l'.length) (d := d) (by omega) ?_
    rw [← List.getElem?_drop, hd]; simp

set_option maxHeartbeats 800000 in
theorem cut_any (v : Value) (x : Nat) (nI : Int) (n : Nat) (w : World) (hn : nI = (n : Int)) (h : IsS w .u64 v (digs 4294967296 x)) (hl : (digs 4294967296 x).length ≤ 1000000) (hn2 : n ≤ 1000000) :
    Calls Tryz.prog 118 #[v, .int .i64 nI] w (RetLH x n w) := by
  subst hn
  have hlt := digs_lt (B := 4294967296) (by omega) x
  obtain ⟨m, hm⟩ : ∃ m, m = min n (digs 4294967296 x).length := ⟨_, rfl⟩
  have HT : Hid (trim ((digs 4294967296 x).take m) = digs 4294967296 (x % 4294967296 ^ n)) := by
    show _ = _; rw [trim_digs (by omega) (hlt.take m), take_mod hm]
  have HD := Lib.hid (drop_div hm)
  have hml : m ≤ (digs 4294967296 x).length := by omega
  generalize digs 4294967296 x = xl at h hl hlt HT HD hml hm
  obtain ⟨A, c, rfl, hc, hmx, hr⟩ := h
  have hmx2 := hmx
  unfold maxLen at hmx
  rcases (show (n ≤ xl.length ∧ m = n) ∨ (xl.length < n ∧ m = xl.length) by omega) with ⟨hc1, rfl⟩ | ⟨hc1, rfl⟩
  · have hmn : ¬ ((xl.length : Int) < (m : Int)) := by omega
    clear hm
    go_enter Tryz.func118, Tryz.ntmps118
    have htk : (xl.take m).length = m := by simp; omega
    have HK := Lib.hid htk
    clear htk
    go_wp2
    go_quiet ((go_at_call 110; exact Calls.quiet_of_same (mtrimmed_any A _ c (xl.take m) _ HK.out.symm (by rw [HK.out]; omega) hmx2 (hr.take m))))
    go_wp2
    all_goals
      go_ret2
      refine ⟨_, _, _, rfl, ?_, ?_, rfl⟩
      · rw [← HT.out]; exact (hr.take m).isTrim (by rw [HK.out]; omega) (by omega)
      · rw [← HD.out]; first | exact hr.isDrop hc hmx2 hml | exact isEmpty_ (by omega) (by omega) (by omega)
  · have hmn : (xl.length : Int) < (n : Int) := by omega
    clear hm
    have htk : xl.take xl.length = xl := List.take_length
    rw [htk] at HT
    clear htk
    go_enter Tryz.func118, Tryz.ntmps118
    go_wp2
    go_quiet ((go_at_call 110; exact Calls.quiet_of_same (mtrimmed_any A _ c xl _ rfl hc hmx2 hr)))
    go_wp2
    all_goals
      go_ret2
      refine ⟨_, _, _, rfl, ?_, ?_, rfl⟩
      · rw [← HT.out]; exact hr.isTrim (by omega) (by omega)
      · rw [← HD.out]; first | exact isEmpty_ (by omega) (by omega) (by omega)
end Go.Proofs.YtbebmknfecehnaaGreat.nat
namespace Go.Proofs.YtbebmknfecehnaaGreat.mem
open Go.RowKit Go.Proofs.YtbebmknfecehnaaGreat.num
set_option linter.unusedVariables false
/-- A row read from place d on. -/
theorem Own.dropAt {w : World} {base : Nat} {e : TypeId} {k : IntKind} {g n cap : Nat} {l : List Nat} (h : Own w base e k (.slice (some ⟨g, 0, none⟩) n cap) l) (d : Nat) : Rd w (some ⟨g, d, none⟩) k (l.drop d) := by
  intro i x hx
  rw [List.getElem?_drop] at hx
  refine ⟨_, rfl, ?_⟩
  have ha : (⟨g, d, none⟩ : Addr).add i = ⟨g, d + i, none⟩ := by unfold Addr.add; split <;> simp_all
  rw [ha]; exact h.cellAt hx
theorem nv_splice (k : IntKind) (l m : List Nat) (off : Nat) : splice (nv k l) off (nv k m) = nv k (splice l off m) := by simp [splice, nv]
section
variable {P : Program}
/-- 'copy(dst, src)', dst lying in a row of the call's own, of its full length. -/
theorem wpList_copy_rd {w : World} {ops : Array Oper} {rest : List Oper} {o : Oper} {a : Act} {Q : Exit → Act → World → Prop} (hgd : o.guard = none) (d s : Operand) {t : TypeId}
    (ho : o.op = .call { callee := .builtin .copy, args := #[d, s], argTypes := #[t, t] })
    {base : Nat} {e : TypeId} {k : IntKind} (hT : SliceT P t e k) {g n : Nat} {l m : List Nat} (hown : Own w base e k (.slice (some ⟨g, 0, none⟩) n n) l)
    {dp sp : Option Addr} {dLen dCap sLen sCap : Nat} (hd : a.eval d = .slice dp dLen dCap) (hs : a.eval s = .slice sp sLen sCap) (off : Nat) (hdp : 0 < m.length → dp = some ⟨g, off, none⟩) (hsl : sLen = m.length) (hle : m.length ≤ dLen) (hfit : off + m.length ≤ l.length) (hr : Rd w sp k m)
    (h : ∀ w', Own w' base e k (.slice (some ⟨g, 0, none⟩) n n) (splice l off m) → Below base w w' → ∀ v, wpList P ops Q rest (a.put o.dst v) w') : wpList P ops Q (o :: rest) a w := by
  obtain ⟨i, hi, _, hsz, _⟩ := hT.info
  obtain ⟨hg, hb, hn, hm⟩ := hown.whole
  refine wpList_copy_splice hgd d s t t ho e hT.und (by rw [hi]; simp [hsz]) dp sp dLen dCap sLen sCap hd hs g off (nv k l) e hg (nv k m) (by rw [nv_len]; simp only [Nat.min_def]; split <;> omega) ?_ (by rw [nv_len, nv_len]; exact hfit) (nv_one k m) base w (Below.refl _ _) hb ?_
  · intro h0
    rw [nv_len] at h0
    obtain ⟨ad, hA, _⟩ := hr 0 _ (List.getElem?_eq_getElem h0)
    refine ⟨hdp h0, ad, hA, fun j v hj => ?_⟩
    simp only [nv, List.getElem?_map, Option.map_eq_some_iff] at hj
    obtain ⟨x, hx, rfl⟩ := hj
    obtain ⟨ad', h1, h2⟩ := hr j x hx
    rw [hA] at h1; injection h1 with h1; subst h1
    exact h2
  · intro w' hw hbw
    have hw := hw.out
    rw [nv_splice] at hw
    exact h w' (own_of_whole hw hb (by rw [length_splice _ _ _ hfit]; exact hn) hm) hbw _
/-- The same as one step of a region that draws its order. -/
theorem step_copy_rd {w : World} {ops : Array Oper} {o : Oper} {a : Act} {K : Act → World → Prop} {Q : Exit → Act → World → Prop} {E : Prop} (hgd : o.guard = none) (d s : Operand) {t : TypeId}
    (ho : o.op = .call { callee := .builtin .copy, args := #[d, s], argTypes := #[t, t] })
    {base : Nat} {e : TypeId} {k : IntKind} (hT : SliceT P t e k) {g n : Nat} {l m : List Nat} (hown : Own w base e k (.slice (some ⟨g, 0, none⟩) n n) l)
    {dp sp : Option Addr} {dLen dCap sLen sCap : Nat} (hd : a.eval d = .slice dp dLen dCap) (hs : a.eval s = .slice sp sLen sCap) (off : Nat) (hdp : 0 < m.length → dp = some ⟨g, off, none⟩) (hsl : sLen = m.length) (hle : m.length ≤ dLen) (hfit : off + m.length ≤ l.length) (hr : Rd w sp k m)
    (h : ∀ w', Own w' base e k (.slice (some ⟨g, 0, none⟩) n n) (splice l off m) → Below base w w' → K (a.put o.dst (goInt m.length)) w') :
    if Region.wanted o (yielded ops a.tmps) = true then Oper.wp P o a w K Q else E := by
  obtain ⟨i, hi, _, hsz, _⟩ := hT.info
  obtain ⟨hg, hb, hn, hm⟩ := hown.whole
  refine step_copy_splice hgd d s t t ho e hT.und (by rw [hi]; simp [hsz]) dp sp dLen dCap sLen sCap hd hs g off (nv k l) e hg (nv k m) (by rw [nv_len]; simp only [Nat.min_def]; split <;> omega) ?_ (by rw [nv_len, nv_len]; exact hfit) (nv_one k m) base w (Below.refl _ _) hb ?_
  · intro h0
    rw [nv_len] at h0
    obtain ⟨ad, hA, _⟩ := hr 0 _ (List.getElem?_eq_getElem h0)
    refine ⟨hdp h0, ad, hA, fun j v hj => ?_⟩
    simp only [nv, List.getElem?_map, Option.map_eq_some_iff] at hj
    obtain ⟨x, hx, rfl⟩ := hj
    obtain ⟨ad', h1, h2⟩ := hr j x hx
    rw [hA] at h1; injection h1 with h1; subst h1
    exact h2
  · intro w' hw hbw
    have hw := hw.out
    rw [nv_splice] at hw
    have := h w' (own_of_whole hw hb (by rw [length_splice _ _ _ hfit]; exact hn) hm) hbw
    rwa [nv_len]
end
end Go.Proofs.YtbebmknfecehnaaGreat.mem
namespace Go.Proofs.YtbebmknfecehnaaGreat.nat
open Go.RowKit Go.Proofs.YtbebmknfecehnaaGreat.num Go.Proofs.YtbebmknfecehnaaGreat.mem Go.Proofs.YtbebmknfecehnaaGreat.limb
set_option linter.unusedVariables false

/-- What byCuts cuts: at h, half of the longer one. -/
theorem half_len {x h : Nat} (hh : (digs 4294967296 x).length ≤ 2 * h) : (digs 4294967296 (x % 4294967296 ^ h)).length ≤ h ∧ (digs 4294967296 (x / 4294967296 ^ h)).length ≤ (digs 4294967296 x).length - h ∧ (digs 4294967296 (x % 4294967296 ^ h + x / 4294967296 ^ h)).length ≤ h + 1 := by
  have hp : 0 < 4294967296 ^ h := Nat.pow_pos (by omega)
  have h1 : x % 4294967296 ^ h < 4294967296 ^ h := Nat.mod_lt _ hp
  have h2 : (digs 4294967296 (x / 4294967296 ^ h)).length ≤ (digs 4294967296 x).length - h := by
    rw [← drop_div (m := min h (digs 4294967296 x).length) rfl, List.length_drop]; omega
  have h3 := digs_lt_pow (B := 4294967296) (by omega) (x / 4294967296 ^ h)
  have h4 := Nat.pow_le_pow_right (n := 4294967296) (by omega) (show (digs 4294967296 (x / 4294967296 ^ h)).length ≤ h by omega)
  refine ⟨digs_len_le (by omega) h1, h2, digs_len_le (by omega) ?_⟩
  rw [Nat.pow_succ]; omega

/-- byCuts is the product of numbers of fewer than K limbs. -/
def ByC (least K : Nat) : Prop := ∀ (x y : Nat) (v u : Value) (w : World), (digs 4294967296 x).length < K → (digs 4294967296 y).length < K → IsS w .u64 v (digs 4294967296 x) → IsS w .u64 u (digs 4294967296 y) →
  Calls Tryz.prog 100 #[v, u, .int .i64 (least : Int)] w (RetS .u64 (digs 4294967296 (x * y)) w)

set_option maxHeartbeats 800000 in
theorem byCuts_few (least : Nat) (hl2 : least ≤ 1000) (x y : Nat) (v u : Value) (w : World) (hx : (digs 4294967296 x).length ≤ 100000) (hy : (digs 4294967296 y).length ≤ 100000) (h : IsS w .u64 v (digs 4294967296 x)) (h' : IsS w .u64 u (digs 4294967296 y))
    (hf : (digs 4294967296 x).length < least ∨ (digs 4294967296 y).length < least) :
    Calls Tryz.prog 100 #[v, u, .int .i64 (least : Int)] w (RetS .u64 (digs 4294967296 (x * y)) w) := by
  obtain ⟨A1, c1, rfl, _⟩ := id h
  obtain ⟨A2, c2, rfl, _⟩ := id h'
  by_cases hle : (digs 4294967296 x).length ≤ (digs 4294967296 y).length
  · have hlt : (digs 4294967296 x).length < least := by omega
    clear hf
    go_enter Tryz.func100, Tryz.ntmps100
    go_wp2_with fail
    all_goals
      refine (long_any _ _ x y _ h h' (by omega) (by omega) (x * y) rfl).mono ?_
      rintro e w1 ⟨v1, rfl, k1, f1, b1⟩
      go_wp2
      go_ret
      exact ⟨_, rfl, k1, f1, b1⟩
  · have hlt : (digs 4294967296 y).length < least := by omega
    clear hf
    go_enter Tryz.func100, Tryz.ntmps100
    go_wp2_with fail
    all_goals
      refine (long_any _ _ x y _ h h' (by omega) (by omega) (x * y) rfl).mono ?_
      rintro e w1 ⟨v1, rfl, k1, f1, b1⟩
      go_wp2
      go_ret
      exact ⟨_, rfl, k1, f1, b1⟩

theorem mul_len (a b : Nat) : (digs 4294967296 (a * b)).length ≤ (digs 4294967296 a).length + (digs 4294967296 b).length := by
  refine digs_len_le (by omega) ?_
  rw [Nat.pow_add]
  exact Nat.mul_lt_mul'' (digs_lt_pow (by omega) a) (digs_lt_pow (by omega) b)

set_option maxHeartbeats 6400000 in
set_option maxRecDepth 100000 in
theorem byCuts_step (least K : Nat) (h4 : 4 ≤ least) (hl2 : least ≤ 1000) (hK : K ≤ 100000) (ih : ByC least K) : ByC least (K + 1) := by
  intro x y v u w hx hy h h'
  by_cases hf : (digs 4294967296 x).length < least ∨ (digs 4294967296 y).length < least
  · exact byCuts_few least hl2 x y v u w (by omega) (by omega) h h' hf
  have hf1 : least ≤ (digs 4294967296 x).length := by omega
  have hf2 : least ≤ (digs 4294967296 y).length := by omega
  clear hf
  obtain ⟨d, hd⟩ : ∃ d, d = (max (digs 4294967296 x).length (digs 4294967296 y).length + 1) / 2 := ⟨_, rfl⟩
  have e1 : (digs 4294967296 x).length ≤ 2 * d := by omega
  have e2 : (digs 4294967296 y).length ≤ 2 * d := by omega
  have e3 : d + 1 < K := by omega
  have e4 : 2 * d < (digs 4294967296 x).length + (digs 4294967296 y).length := by omega
  have e5 : 2 ≤ d := by omega
  obtain ⟨a1, a2, a3⟩ := half_len e1
  obtain ⟨a4, a5, a6⟩ := half_len e2
  have gx := digs_lt_pow (B := 4294967296) (by omega) x
  have gy := digs_lt_pow (B := 4294967296) (by omega) y
  obtain ⟨x0, hx0⟩ : ∃ t, t = x % 4294967296 ^ d := ⟨_, rfl⟩
  obtain ⟨x1, hx1⟩ : ∃ t, t = x / 4294967296 ^ d := ⟨_, rfl⟩
  obtain ⟨y0, hy0⟩ : ∃ t, t = y % 4294967296 ^ d := ⟨_, rfl⟩
  obtain ⟨y1, hy1⟩ : ∃ t, t = y / 4294967296 ^ d := ⟨_, rfl⟩
  obtain ⟨lo, hlo⟩ : ∃ t, t = x0 * y0 := ⟨_, rfl⟩
  obtain ⟨hi, hhi⟩ : ∃ t, t = x1 * y1 := ⟨_, rfl⟩
  obtain ⟨mid, hmid⟩ : ∃ t, t = x0 * y1 + x1 * y0 := ⟨_, rfl⟩
  obtain ⟨al, hal⟩ : ∃ t, t = (x0 + x1) * (y0 + y1) := ⟨_, rfl⟩
  obtain ⟨q, hq⟩ : ∃ q, q = (lo + 4294967296 ^ (2 * d) * hi) / 4294967296 ^ d := ⟨_, rfl⟩
  have C : Cuts 4294967296 x y d (digs 4294967296 x).length (digs 4294967296 y).length lo hi mid := by
    subst hx0; subst hx1; subst hy0; subst hy1
    exact ⟨hlo, hhi, hmid, gx, gy, by omega⟩
  rw [← hx0] at a1 a3
  rw [← hx1] at a2 a3
  rw [← hy0] at a4 a6
  rw [← hy1] at a5 a6
  have c1 : lo + hi + mid = al := by rw [hal, hx0, hx1, hy0, hy1]; exact C.all.symm
  have c2 : (digs 4294967296 al).length ≤ 2 * d + 2 := by rw [hal]; have := mul_len (x0 + x1) (y0 + y1); omega
  have c3 : (digs 4294967296 (lo + hi)).length ≤ 2 * d + 2 := by have := digs_len_mono (B := 4294967296) (by omega) (show lo + hi ≤ al by omega); omega
  have c4 := C.lo_len (by omega)
  have c5 := C.hi_len (by omega)
  have c6 := C.t_len (by omega) (t := q + mid) (by rw [hq])
  have c7 := C.one (by omega)
  have c8 := C.two (by omega)
  have c9 := C.mids (by omega)
  rw [← hq] at c9
  have c10 := C.three (by omega) (t := q + mid) (by rw [hq])
  have HX0 := Lib.hid hx0
  have HX1 := Lib.hid hx1
  have HY0 := Lib.hid hy0
  have HY1 := Lib.hid hy1
  have HLO := Lib.hid hlo
  have HHI := Lib.hid hhi
  have HAL := Lib.hid hal
  have HMID : Hid (mid = al - (lo + hi)) := by show _ = _; omega
  have HLE : Hid (lo + hi ≤ al) := by show _ ≤ _; omega
  have H7 := Lib.hid c7
  have H8 := Lib.hid c8
  have H9 := Lib.hid c9
  have H10 := Lib.hid c10
  clear hx0 hx1 hy0 hy1 hlo hhi hal hmid hq gx gy C c1 c7 c8 c9 c10
  have HD := Lib.hid hd
  clear hd
  obtain ⟨A1, C1, rfl, _⟩ := id h
  obtain ⟨A2, C2, rfl, _⟩ := id h'
  have hcases : ((digs 4294967296 x).length < (digs 4294967296 y).length ∧ (((digs 4294967296 y).length + 1 : Int) / 2 = (d : Int))) ∨ (((digs 4294967296 y).length ≤ (digs 4294967296 x).length ∧ (digs 4294967296 x).length ≤ (digs 4294967296 y).length) ∧ (((digs 4294967296 x).length + 1 : Int) / 2 = (d : Int))) ∨ ((digs 4294967296 y).length < (digs 4294967296 x).length ∧ (((digs 4294967296 x).length + 1 : Int) / 2 = (d : Int))) := by have := HD.out; omega
  rcases hcases with ⟨hle, hhI⟩ | ⟨⟨hle, hle2⟩, hhI⟩ | ⟨hle, hhI⟩
  all_goals
    go_enter Tryz.func100, Tryz.ntmps100
    go_wp2_with fail
    rw [hhI]
    have HH := Lib.hid hhI
    clear hhI
    have B0 : Below w.heap.size w w := Below.refl _ _
    refine (cut_any _ x _ d _ rfl h (by omega) (by omega)).mono ?_
    rintro e w1 ⟨vx0, vx1, n1, rfl, kx0, kx1, rfl⟩
    rw [← HX0.out] at kx0
    rw [← HX1.out] at kx1
    replace B0 := below_drewN B0 n1
    go_wp2_with fail
    refine (cut_any _ y _ d _ rfl (h'.below B0) (by omega) (by omega)).mono ?_
    rintro e w2 ⟨vy0, vy1, n2, rfl, ky0, ky1, rfl⟩
    rw [← HY0.out] at ky0
    rw [← HY1.out] at ky1
    replace ky0 : IsS w .u64 vy0 (digs 4294967296 y0) := ky0
    replace ky1 : IsS w .u64 vy1 (digs 4294967296 y1) := ky1
    replace B0 : Below w.heap.size w (w.drewN (n1 + n2)) := below_drewN (Below.refl _ _) _
    replace kx0 := kx0.below B0
    replace kx1 := kx1.below B0
    replace ky0 := ky0.below B0
    replace ky1 := ky1.below B0
    go_wp2_with fail
    refine (ih x0 y0 _ _ _ (by omega) (by omega) kx0 ky0).mono ?_
    rintro e w4 ⟨vl, rfl, kl, fl, b4⟩
    rw [← HLO.out] at kl
    replace B0 := B0.trans (b4.mono B0.size)
    replace kx0 := kx0.below b4
    replace kx1 := kx1.below b4
    replace ky0 := ky0.below b4
    replace ky1 := ky1.below b4
    go_wp2_with fail
    refine (ih x1 y1 _ _ _ (by omega) (by omega) kx1 ky1).mono ?_
    rintro e w5 ⟨vh, rfl, kh, fh, b5⟩
    rw [← HHI.out] at kh
    replace B0 := B0.trans (b5.mono B0.size)
    replace kx0 := kx0.below b5
    replace kx1 := kx1.below b5
    replace ky0 := ky0.below b5
    replace ky1 := ky1.below b5
    replace kl := kl.below b5
    go_wp2_with fail
    refine (add_any _ _ x0 x1 _ kx0 kx1 (x0 + x1) rfl (by omega)).mono ?_
    rintro e w6 ⟨vsx, rfl, ksx, fsx, b6⟩
    replace B0 := B0.trans (b6.mono B0.size)
    replace ky0 := ky0.below b6
    replace ky1 := ky1.below b6
    replace kl := kl.below b6
    replace kh := kh.below b6
    go_wp2_with fail
    refine (add_any _ _ y0 y1 _ ky0 ky1 (y0 + y1) rfl (by omega)).mono ?_
    rintro e w7 ⟨vsy, rfl, ksy, fsy, b7⟩
    replace B0 := B0.trans (b7.mono B0.size)
    replace ksx := ksx.below b7
    replace kl := kl.below b7
    replace kh := kh.below b7
    go_wp2_with fail
    refine (ih (x0 + x1) (y0 + y1) _ _ _ (by omega) (by omega) ksx ksy).mono ?_
    rintro e w8 ⟨va, rfl, ka, fa, b8⟩
    rw [← HAL.out] at ka
    replace B0 := B0.trans (b8.mono B0.size)
    replace kl := kl.below b8
    replace kh := kh.below b8
    go_wp2_with fail
    refine (add_any _ _ lo hi _ kl kh (lo + hi) rfl (by omega)).mono ?_
    rintro e w9 ⟨vs, rfl, ks, fs, b9⟩
    replace B0 := B0.trans (b9.mono B0.size)
    replace ka := ka.below b9
    replace kl := kl.below b9
    replace kh := kh.below b9
    go_wp2_with fail
    refine (sub_ok _ _ al (lo + hi) _ ka ks (by omega) HLE.out mid HMID.out).mono ?_
    rintro e w10 ⟨vm, rfl, km, fm, b10⟩
    replace B0 := B0.trans (b10.mono B0.size)
    replace kl := kl.below b10
    replace kh := kh.below b10
    obtain ⟨Al, Cl, rfl, hcl, hml, hrl⟩ := kl
    obtain ⟨Ah, Ch, rfl, hch, hmh, hrh⟩ := kh
    clear b4 b5 b6 b7 b8 b9 b10
    have hfit1 : 0 + (digs 4294967296 lo).length ≤ (List.replicate ((digs 4294967296 x).length + (digs 4294967296 y).length) 0).length := by simp; omega
    have HF1 := Lib.hid hfit1
    have hfit2 : 2 * d + (digs 4294967296 hi).length ≤ (cut1 4294967296 ((digs 4294967296 x).length + (digs 4294967296 y).length) lo).length := by rw [H7.out.2.1]; omega
    have HF2 := Lib.hid hfit2
    clear hfit1 hfit2
    go_wp2_with (first
      | (at_make; refine wpList_make_rd rfl _ _ rfl sl24 ((digs 4294967296 x).length + (digs 4294967296 y).length) rfl rfl (by omega) (by omega) (by omega) (Nat.le_refl _) ?_; intro w11 hown11 hb11 hs11)
      | ((with_reducible refine wpList_copy_rd rfl (.tmp 77) (.tmp 78) rfl sl24 hown11 rfl rfl 0 (fun _ => rfl) rfl (by omega) HF1.out (hrl.below hb11) ?_); intro w12 hown12 hb12 r12; have hown12b : Own w12 _ 55 .u64 _ (cut1 4294967296 ((digs 4294967296 x).length + (digs 4294967296 y).length) lo) := hown12; have hb12b := hb11.trans hb12)
      | ((with_reducible refine wpList_copy_rd rfl (.tmp 83) (.tmp 84) rfl sl24 hown12b rfl rfl (2 * d) (fun _ => rfl) rfl (by omega) HF2.out (hrh.below hb12b) ?_); intro w13 hown13 hb13 r13; have hown13b : Own w13 _ 55 .u64 _ (cut2 4294967296 ((digs 4294967296 x).length + (digs 4294967296 y).length) d lo hi) := hown13; have hb13b := hb12b.trans hb13))
    have hd1 := hown13b.dropAt d
    have hq1 : trim ((cut2 4294967296 ((digs 4294967296 x).length + (digs 4294967296 y).length) d lo hi).drop d) = digs 4294967296 q := by
      rw [trim_digs (by omega) (H8.out.1.drop d), H9.out]
    have hdl : (digs 4294967296 x).length + (digs 4294967296 y).length - d = ((cut2 4294967296 ((digs 4294967296 x).length + (digs 4294967296 y).length) d lo hi).drop d).length := by rw [List.length_drop, H8.out.2.1]
    have kq := hd1.isTrim (c := (digs 4294967296 x).length + (digs 4294967296 y).length - d) (by omega) (by unfold maxLen; omega)
    rw [hq1] at kq
    have HQ1 := Lib.hid hq1
    have HDL := Lib.hid hdl
    replace km := km.below hb13b
    have hfit3 : d + (digs 4294967296 (q + mid)).length ≤ (cut2 4294967296 ((digs 4294967296 x).length + (digs 4294967296 y).length) d lo hi).length := by rw [H8.out.2.1]; omega
    have HF3 := Lib.hid hfit3
    clear hq1 hdl hfit3
    have hdI : (d : Int) ≤ ((digs 4294967296 x).length : Int) + ((digs 4294967296 y).length : Int) := by omega
    have hdN : ¬ (digs 4294967296 x).length + (digs 4294967296 y).length = d := by omega
    go_region_law (first
      | (refine step_copy_rd rfl (.tmp 88) (.tmp 94) rfl sl24 hown15 (by rfl) (by rfl) d (fun _ => by rfl) rfl (by omega) HF3.out hrt ?_; intro w16 hown16 hb16)
      | (go_simp; go_at_call 110; refine (mtrimmed_any _ _ _ _ _ HDL.out (by rw [← HDL.out]; omega) (by unfold maxLen; omega) (by exact hd1)).mono ?_; rintro e w14 ⟨rfl, rfl⟩; rw [HQ1.out])
      | (go_simp; go_at_call 73; refine (add_any _ _ q mid _ (by exact kq) (by exact km) (q + mid) rfl (by omega)).mono ?_; rintro e w15 ⟨vt, rfl, kt, ft, b15⟩; obtain ⟨At, Ct, rfl, hct, hmt, hrt⟩ := kt; have hown15 := Own.below (by exact hown13b) b15; have hb15 := (by first | exact hb13b.trans (b15.mono hb13b.size) | exact hb13b.drew.trans (b15.mono hb13b.drew.size) | exact hb13b.drew.drew.trans (b15.mono hb13b.drew.drew.size) : Below w10.heap.size w10 w15)))
    all_goals
      have hownF : Own w16 w10.heap.size 55 .u64 (.slice (some ⟨w10.heap.size, 0, none⟩) ((digs 4294967296 x).length + (digs 4294967296 y).length) ((digs 4294967296 x).length + (digs 4294967296 y).length)) (cut3 4294967296 ((digs 4294967296 x).length + (digs 4294967296 y).length) d lo hi (q + mid)) := hown16
      have hT : trim (cut3 4294967296 ((digs 4294967296 x).length + (digs 4294967296 y).length) d lo hi (q + mid)) = digs 4294967296 (x * y) := by rw [trim_digs (by omega) H10.out.1, ← H10.out.2]
      have HT := Lib.hid hT
      have hlen := hownF.len_eq
      have hmx := hownF.whole.2.2.2
      have hF0 := hownF.dropAt 0
      rw [List.drop_zero] at hF0
      have HLN := Lib.hid hlen
      clear hT hlen
      go_wp2_with fail
      refine (mtrimmed_any _ _ _ _ _ HLN.out (by have := HLN.out; omega) hmx hF0).mono ?_
      rintro e w17 ⟨rfl, rfl⟩
      go_wp2
      go_ret
      refine ⟨_, rfl, by rw [← HT.out]; exact hF0.isTrim (by have := HLN.out; omega) hmx, (hownF.fresh.mono B0.size).cut _ _, B0.trans ((hb15.trans hb16).mono B0.size)⟩

theorem byCuts_all (least : Nat) (h4 : 4 ≤ least) (hl2 : least ≤ 1000) (K : Nat) (hK : K ≤ 100001) : ByC least K := by
  induction K with
  | zero => intro x y v u w hx; omega
  | succ K ih => exact byCuts_step least K h4 hl2 (by omega) (ih (by omega))

/-- A product of two numbers, in new memory. -/
theorem mul_any (v u : Value) (x y : Nat) (w : World) (h : IsS w .u64 v (digs 4294967296 x)) (h' : IsS w .u64 u (digs 4294967296 y)) (hl : (digs 4294967296 x).length ≤ 100000) (hl' : (digs 4294967296 y).length ≤ 100000) (z : Nat) (hz : z = x * y) :
    Calls Tryz.prog 75 #[v, u] w (RetS .u64 (digs 4294967296 z) w) := by
  subst hz
  obtain ⟨A1, c1, rfl, _⟩ := id h
  obtain ⟨A2, c2, rfl, _⟩ := id h'
  go_enter Tryz.func75, Tryz.ntmps75
  go_wp2_with fail
  refine (byCuts_all 160 (by omega) (by omega) 100001 (by omega) x y _ _ _ (by omega) (by omega) h h').mono ?_
  rintro e w1 ⟨v1, rfl, k1, f1, b1⟩
  go_wp2
  go_ret
  exact ⟨_, rfl, k1, f1, b1⟩
end Go.Proofs.YtbebmknfecehnaaGreat.nat
namespace Go.Proofs.YtbebmknfecehnaaGreat.nat
open Go.RowKit Go.Proofs.YtbebmknfecehnaaGreat.num Go.Proofs.YtbebmknfecehnaaGreat.mem Go.Proofs.YtbebmknfecehnaaGreat.limb
set_option linter.unusedVariables false

theorem pow_len (x n : Nat) : (digs 4294967296 (x ^ n)).length ≤ (digs 4294967296 x).length * n + 1 := by
  induction n with
  | zero => rw [Nat.pow_zero, Nat.mul_zero]; exact digs_len_le (by omega) (by omega)
  | succ n ih =>
    rw [Nat.pow_succ]
    have h := mul_len (x ^ n) x
    rw [Nat.mul_succ]; omega
theorem pow_half {x n : Nat} : x ^ n = if n % 2 = 1 then x ^ (n / 2) * x ^ (n / 2) * x else x ^ (n / 2) * x ^ (n / 2) := by
  split
  · rw [← Nat.pow_add, ← Nat.pow_succ]; congr 1; omega
  · rw [← Nat.pow_add]; congr 1; omega

set_option maxHeartbeats 400000 in
theorem clone_any (v : Value) (l : List Nat) (w : World) (h : IsS w .u64 v l) (hl : l.length ≤ 1000000) :
    Calls Tryz.prog 58 #[v] w (RetS .u64 l w) := by
  obtain ⟨A, c, rfl, hc, hm, hr⟩ := h
  rcases A with _ | ad
  · have hl0 : l = [] := by
      rcases l with _ | ⟨d, l⟩
      · rfl
      · obtain ⟨ad, h, _⟩ := hr 0 d (by simp); cases h
    subst hl0
    have hnil := fun w' => Lib.run_eql_slice_nil (P := Tryz.prog) w' 23 55 none 0 c 0 0 Tryz.underlying23
    go_enter Tryz.func58, Tryz.ntmps58
    go_wp2
    go_ret
    exact ⟨_, rfl, isNil _ _, fresh_nil _, Below.refl _ _⟩
  · have hnil := fun w' => Lib.run_eql_slice_nil (P := Tryz.prog) w' 23 55 (some ad) l.length c 0 0 Tryz.underlying23
    go_enter Tryz.func58, Tryz.ntmps58
    go_wp2_with (at_builtin; refine wpList_append_rd rfl (.tmp 5) (.tmp 6) rfl sl24 rfl (own_lit0 w w.heap.size _ .u64 (Nat.le_refl _)) rfl (news := l) rfl (hr.below (below_alloc (Nat.le_refl _) _)) (by simp; omega) (by simp) ?_; intro v' w1 hown1 hb1 hg1)
    go_ret
    exact ⟨_, rfl, by have := hown1.isS; rwa [List.nil_append] at this, hown1.fresh, (below_alloc (Nat.le_refl _) _).trans hb1⟩
end Go.Proofs.YtbebmknfecehnaaGreat.nat
namespace Go.Proofs.YtbebmknfecehnaaGreat.nat
open Go.RowKit Go.Proofs.YtbebmknfecehnaaGreat.num Go.Proofs.YtbebmknfecehnaaGreat.mem Go.Proofs.YtbebmknfecehnaaGreat.limb
set_option linter.unusedVariables false

theorem IsV.below {w w' : World} {v : Value} {vs : List Value} (h : IsV w v vs) (hb : Below w.heap.size w w') : IsV w' v vs := by
  obtain ⟨A, c, e, h1, h2⟩ := h
  refine ⟨A, c, e, h1, fun i u hu => ?_⟩
  obtain ⟨ad, ha, hc⟩ := h2 i u hu
  exact ⟨ad, ha, (hb.cell (World.block_lt_of_cell? w _ hc)).trans hc⟩
theorem Nums.below {w w' : World} {vs : List Value} {xs : List Nat} (h : Nums w vs xs) (hb : Below w.heap.size w w') : Nums w' vs xs := ⟨h.1, fun i u x hu hx => (h.2 i u x hu hx).below hb⟩
theorem Nums.take {w : World} {vs : List Value} {xs : List Nat} (h : Nums w vs xs) (n : Nat) : Nums w (vs.take n) (xs.take n) := by
  refine ⟨by rw [List.length_take, List.length_take, h.1], fun i u x hu hx => ?_⟩
  rw [List.getElem?_take] at hu hx
  split at hu
  · rename_i hi
    rw [if_pos hi] at hx
    exact h.2 i u x hu hx
  · cases hu
theorem Nums.drop {w : World} {vs : List Value} {xs : List Nat} (h : Nums w vs xs) (n : Nat) : Nums w (vs.drop n) (xs.drop n) := by
  refine ⟨by rw [List.length_drop, List.length_drop, h.1], fun i u x hu hx => ?_⟩
  rw [List.getElem?_drop] at hu hx
  exact h.2 _ u x hu hx
/-- How many limbs all of them have. -/
def plen (xs : List Nat) : Nat := (xs.map fun x => (digs 4294967296 x).length).sum
theorem plen_cut (xs : List Nat) (n : Nat) : plen (xs.take n) + plen (xs.drop n) = plen xs := by
  unfold plen
  have e : xs.map (fun x => (digs 4294967296 x).length) = (xs.take n).map (fun x => (digs 4294967296 x).length) ++ (xs.drop n).map (fun x => (digs 4294967296 x).length) := by
    rw [← List.map_append, List.take_append_drop]
  rw [e, List.sum_append]
theorem prod_cut (xs : List Nat) (n : Nat) : (xs.take n).prod * (xs.drop n).prod = xs.prod := by
  have e := congrArg List.prod (List.take_append_drop n xs)
  rwa [List.prod_append] at e
theorem prod_len (xs : List Nat) : (digs 4294967296 xs.prod).length ≤ plen xs + 1 := by
  induction xs with
  | nil => rw [List.prod_nil]; exact digs_len_le (by omega) (by decide)
  | cons x xs ih =>
    have h := mul_len x xs.prod
    have e : plen (x :: xs) = (digs 4294967296 x).length + plen xs := by simp [plen]
    rw [List.prod_cons, e]; omega

end Go.Proofs.YtbebmknfecehnaaGreat.nat
