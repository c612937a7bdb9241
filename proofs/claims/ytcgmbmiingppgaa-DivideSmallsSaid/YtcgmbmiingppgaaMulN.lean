/- Plain mathematics of layer 3: the long product row by row, a number times a limb, and the product by cutting both at one place. No program stands here. -/
import Derived.Test.YtcgmbmiingppgaaNum
import Derived.Laws.CopyOwn
namespace Go.Proofs.Ytcgmbmiingppgaa.num
set_option linter.unusedVariables false

theorem at_le_val {B : Nat} {l : List Nat} {i d : Nat} (hd : l[i]? = some d) : B ^ i * d ≤ val B l := by
  have il : i < l.length := (List.getElem?_eq_some_iff.1 hd).1
  have e : l = l.take i ++ (d :: l.drop (i + 1)) := by
    rw [(List.getElem?_eq_some_iff.1 hd).2.symm, List.getElem_cons_drop, List.take_append_drop]
  have l1 : (l.take i).length = i := by simp; omega
  rw [e, val_append, val_cons, l1, Nat.mul_add]; omega
/-- A list whose number is less than B ^ i has noughts from there on. -/
theorem at_zero {B : Nat} {l : List Nat} {i : Nat} (h : val B l < B ^ i) (hi : i < l.length) : l[i]? = some 0 := by
  rw [List.getElem?_eq_getElem hi]
  have := at_le_val (B := B) (List.getElem?_eq_getElem hi)
  rcases Nat.eq_zero_or_pos (l[i]) with h0 | h0
  · rw [h0]
  · have := Nat.mul_le_mul_left (B ^ i) h0
    omega
theorem val_set0 {B : Nat} {l : List Nat} {i : Nat} (h : l[i]? = some 0) (e : Nat) : val B (l.set i e) = val B l + B ^ i * e := by
  have := val_set (B := B) h e
  simpa using this
theorem val_take_mod {B : Nat} {l : List Nat} (h : Lt B l) {n : Nat} (hn : n ≤ l.length) : val B (l.take n) = val B l % B ^ n := by
  have h1 := val_append B (l.take n) (l.drop n)
  have h2 := val_lt (h.take n)
  rw [List.take_append_drop] at h1
  rw [show (l.take n).length = n from by simp; omega] at h1 h2
  rw [h1, Nat.add_mul_mod_self_left, Nat.mod_eq_of_lt h2]
theorem val_drop_div' {B : Nat} {l : List Nat} (h : Lt B l) {n : Nat} (hn : n ≤ l.length) : val B (l.drop n) = val B l / B ^ n := by
  have h1 := val_append B (l.take n) (l.drop n)
  have h2 := val_lt (h.take n)
  rw [List.take_append_drop] at h1
  rw [show (l.take n).length = n from by simp; omega] at h1 h2
  have h3 : 0 < B ^ n := by omega
  rw [h1, Nat.add_mul_div_left _ _ h3, Nat.div_eq_of_lt h2, Nat.zero_add]

/-- What Long's outer loop keeps: behind i limbs of x the row is their number times y. -/
def LO (B : Nat) (xl yl P : List Nat) (i : Nat) : Prop := Lt B P ∧ P.length = xl.length + yl.length ∧ val B P = val B (xl.take i) * val B yl
/-- What the inner one keeps: behind j limbs of y, u is to be carried on. -/
def LI (B : Nat) (xl yl P : List Nat) (i x j u : Nat) : Prop := Lt B P ∧ P.length = xl.length + yl.length ∧ u < B ∧ P[i + yl.length]? = some 0 ∧ val B P + B ^ (i + j) * u = val B (xl.take i) * val B yl + B ^ i * (x * val B (yl.take j))
theorem LO.start {B : Nat} (hB : 0 < B) (xl yl : List Nat) {n : Nat} (hn : n = xl.length + yl.length) : LO B xl yl (List.replicate n 0) 0 := by
  refine ⟨Lt.rep hB n, by simp [hn], ?_⟩
  rw [val_rep, List.take_zero, val_nil, Nat.zero_mul]
theorem LO.enter {B : Nat} {xl yl P : List Nat} {i : Nat} (hB : 0 < B) (hx : Lt B xl) (hy : Lt B yl) (h : LO B xl yl P i) (hi : i < xl.length) (x : Nat) : LI B xl yl P i x 0 0 := by
  obtain ⟨h1, h2, h3⟩ := h
  refine ⟨h1, h2, hB, ?_, by rw [h3]; simp [val]⟩
  refine at_zero (B := B) ?_ (by omega)
  have a := val_lt (hx.take i)
  have b := val_lt hy
  rw [show (xl.take i).length = i from by simp; omega] at a
  rw [h3, Nat.pow_add]
  exact Nat.mul_lt_mul'' a b
theorem LI.step {B : Nat} {xl yl P : List Nat} {i x j u d e s o : Nat} (h : LI B xl yl P i x j u) (hd : P[i + j]? = some d) (he : yl[j]? = some e) (hs : s < B) (ho : o < B) (hm : s + B * o = x * e + d + u) : LI B xl yl (P.set (i + j) s) i x (j + 1) o := by
  obtain ⟨h1, h2, h3, h4, h5⟩ := h
  have hj : j < yl.length := (List.getElem?_eq_some_iff.1 he).1
  refine ⟨h1.set hs _, by simpa using h2, ho, ?_, ?_⟩
  · rw [List.getElem?_set_ne (by omega)]; exact h4
  · have e1 := val_set (B := B) hd s
    have e2 := val_take_step (B := B) he
    have e3 : B ^ (i + (j + 1)) * o + B ^ (i + j) * s = B ^ (i + j) * (s + B * o) := by
      rw [Nat.mul_add, show i + (j + 1) = (i + j) + 1 from by omega, Nat.pow_succ, Nat.mul_assoc]; omega
    have e4 : B ^ i * (x * val B (yl.take (j + 1))) = B ^ i * (x * val B (yl.take j)) + B ^ (i + j) * (x * e) := by
      rw [e2, Nat.mul_add, Nat.mul_add, Nat.pow_add]
      congr 1
      simp only [Nat.mul_assoc, Nat.mul_left_comm, Nat.mul_comm]
    rw [hm, Nat.mul_add, Nat.mul_add] at e3
    omega
theorem LI.done {B : Nat} {xl yl P : List Nat} {i x u : Nat} (h : LI B xl yl P i x yl.length u) (hx : xl[i]? = some x) : LO B xl yl (P.set (i + yl.length) u) (i + 1) := by
  obtain ⟨h1, h2, h3, h4, h5⟩ := h
  refine ⟨h1.set h3 _, by simpa using h2, ?_⟩
  rw [val_set0 h4, h5, List.take_length, val_take_step hx, Nat.add_mul, Nat.mul_assoc]
theorem LO.done {B : Nat} {xl yl P : List Nat} {i : Nat} (h : LO B xl yl P i) (hi : xl.length ≤ i) : Lt B P ∧ val B xl * val B yl = val B P := by
  obtain ⟨h1, h2, h3⟩ := h
  rw [List.take_of_length_le hi] at h3
  exact ⟨h1, h3.symm⟩

/-- What Small's loop keeps. -/
def SM (B : Nat) (xl P : List Nat) (m c i u : Nat) : Prop := Lt B P ∧ P.length = xl.length + 1 ∧ u < B ∧ val B P < B ^ i ∧ val B P + B ^ i * u = val B (xl.take i) * m + c
theorem SM.start {B : Nat} (xl : List Nat) (m : Nat) {c n : Nat} (hc : c < B) (hn : n = xl.length + 1) : SM B xl (List.replicate n 0) m c 0 c := by
  refine ⟨Lt.rep (by omega) n, by simp [hn], hc, by rw [val_rep]; simp, ?_⟩
  rw [val_rep, List.take_zero, val_nil]; simp
theorem SM.at0 {B : Nat} {xl P : List Nat} {m c i u : Nat} (h : SM B xl P m c i u) (hi : i ≤ xl.length) : P[i]? = some 0 := at_zero h.2.2.2.1 (by have := h.2.1; omega)
theorem SM.step {B : Nat} {xl P : List Nat} {m c i u x s o : Nat} (h : SM B xl P m c i u) (hx : xl[i]? = some x) (hs : s < B) (ho : o < B) (hm : s + B * o = x * m + u) : SM B xl (P.set i s) m c (i + 1) o := by
  have hi : i < xl.length := (List.getElem?_eq_some_iff.1 hx).1
  have h0 := h.at0 (by omega)
  obtain ⟨h1, h2, h3, h4, h5⟩ := h
  have e1 := val_set0 (B := B) h0 s
  have e2 := val_take_step (B := B) hx
  have e3 : B ^ i * (s + 1) ≤ B ^ i * B := Nat.mul_le_mul_left _ hs
  have e4 : B ^ i * (s + B * o) = B ^ i * s + B ^ (i + 1) * o := by rw [Nat.mul_add, Nat.pow_succ, Nat.mul_assoc]
  refine ⟨h1.set hs _, by simpa using h2, ho, ?_, ?_⟩
  · rw [e1, Nat.pow_succ]; rw [Nat.mul_add] at e3; omega
  · rw [hm, Nat.mul_add] at e4
    rw [e1, e2, Nat.add_mul, Nat.mul_assoc]
    omega
theorem SM.done {B : Nat} {xl P : List Nat} {m c u : Nat} (h : SM B xl P m c xl.length u) : Lt B (P.set xl.length u) ∧ val B xl * m + c = val B (P.set xl.length u) := by
  have h0 := h.at0 (Nat.le_refl _)
  obtain ⟨h1, h2, h3, h4, h5⟩ := h
  rw [List.take_length] at h5
  exact ⟨h1.set h3 _, by rw [val_set0 h0, ← h5]⟩

theorem val_splice {B : Nat} (L cs : List Nat) (off : Nat) (h : off + cs.length ≤ L.length) : val B (splice L off cs) = val B (L.take off) + B ^ off * val B cs + B ^ (off + cs.length) * val B (L.drop (off + cs.length)) := by
  unfold splice
  rw [val_append, val_append, show (L.take off).length = off from by simp; omega, Nat.mul_add, Nat.pow_add, Nat.mul_assoc]; omega
theorem Lt.splice {B : Nat} {L cs : List Nat} {off : Nat} (h : Lt B L) (h' : Lt B cs) : Lt B (splice L off cs) := (h.take off).append (h'.append (h.drop _))
theorem digs_cut_len {B x : Nat} (hB : 2 ≤ B) {h N : Nat} (hx : B ^ h * x < B ^ N) (hh : h ≤ N) : (digs B x).length ≤ N - h := by
  refine digs_len_le hB ?_
  rw [show N = h + (N - h) from by omega, Nat.pow_add] at hx
  exact Nat.lt_of_mul_lt_mul_left hx

/-- What byCuts lays over one another: the product of the lower parts at 0, that of the upper ones at 2h, and what lies crosswise, and what lies there, at h. -/
structure Cuts (B x y h n m : Nat) (lo hi mid : Nat) : Prop where
  hlo : lo = x % B ^ h * (y % B ^ h)
  hhi : hi = x / B ^ h * (y / B ^ h)
  hmid : mid = x % B ^ h * (y / B ^ h) + x / B ^ h * (y % B ^ h)
  hx : x < B ^ n
  hy : y < B ^ m
  hN : 2 * h ≤ n + m
theorem Cuts.all {B x y h n m lo hi mid : Nat} (c : Cuts B x y h n m lo hi mid) : (x % B ^ h + x / B ^ h) * (y % B ^ h + y / B ^ h) = lo + hi + mid := by
  rw [c.hlo, c.hhi, c.hmid, Nat.add_mul, Nat.mul_add, Nat.mul_add]; omega
theorem Cuts.prod {B x y h n m lo hi mid : Nat} (c : Cuts B x y h n m lo hi mid) : x * y = lo + B ^ h * mid + B ^ (2 * h) * hi := by
  have ex := Nat.mod_add_div x (B ^ h)
  have ey := Nat.mod_add_div y (B ^ h)
  rw [c.hlo, c.hhi, c.hmid]
  generalize x % B ^ h = x0 at *
  generalize x / B ^ h = x1 at *
  generalize y % B ^ h = y0 at *
  generalize y / B ^ h = y1 at *
  have e2 : B ^ (2 * h) = B ^ h * B ^ h := by rw [Nat.two_mul, Nat.pow_add]
  rw [e2]
  generalize B ^ h = b at *
  rw [← ex, ← ey]
  simp only [Nat.mul_add, Nat.mul_left_comm, Nat.mul_comm, Nat.add_assoc, Nat.add_comm]
theorem Cuts.lt {B x y h n m lo hi mid : Nat} (c : Cuts B x y h n m lo hi mid) (hB : 2 ≤ B) : x * y < B ^ (n + m) := by
  rw [Nat.pow_add]
  exact Nat.mul_lt_mul'' c.hx c.hy
theorem Cuts.lo_lt {B x y h n m lo hi mid : Nat} (c : Cuts B x y h n m lo hi mid) (hB : 2 ≤ B) : lo < B ^ (2 * h) := by
  have hb : 0 < B ^ h := Nat.pow_pos (by omega)
  rw [c.hlo, Nat.two_mul, Nat.pow_add]
  exact Nat.mul_lt_mul'' (Nat.mod_lt _ hb) (Nat.mod_lt _ hb)
theorem Cuts.lo_len {B x y h n m lo hi mid : Nat} (c : Cuts B x y h n m lo hi mid) (hB : 2 ≤ B) : (digs B lo).length ≤ 2 * h := digs_len_le hB (c.lo_lt hB)
theorem Cuts.hi_len {B x y h n m lo hi mid : Nat} (c : Cuts B x y h n m lo hi mid) (hB : 2 ≤ B) : (digs B hi).length ≤ n + m - 2 * h := by
  have h1 := c.lt hB
  rw [c.prod] at h1
  exact digs_cut_len hB (by omega) c.hN
/-- The row behind the first copy. -/
def cut1 (B N lo : Nat) : List Nat := splice (List.replicate N 0) 0 (digs B lo)
def cut2 (B N h lo hi : Nat) : List Nat := splice (cut1 B N lo) (2 * h) (digs B hi)
def cut3 (B N h lo hi t : Nat) : List Nat := splice (cut2 B N h lo hi) h (digs B t)
theorem Cuts.one {B x y h n m lo hi mid : Nat} (c : Cuts B x y h n m lo hi mid) (hB : 2 ≤ B) : Lt B (cut1 B (n + m) lo) ∧ (cut1 B (n + m) lo).length = n + m ∧ val B (cut1 B (n + m) lo) = lo := by
  have h1 := c.lo_len hB
  have h2 := c.hN
  refine ⟨(Lt.rep (by omega) _).splice (digs_lt hB _), ?_, ?_⟩
  · unfold cut1; rw [length_splice _ _ _ (by simp; omega)]; simp
  · unfold cut1
    rw [val_splice _ _ _ (by simp; omega), List.take_zero, val_nil, val_digs hB, List.drop_replicate, val_rep]; simp
theorem Cuts.two {B x y h n m lo hi mid : Nat} (c : Cuts B x y h n m lo hi mid) (hB : 2 ≤ B) : Lt B (cut2 B (n + m) h lo hi) ∧ (cut2 B (n + m) h lo hi).length = n + m ∧ val B (cut2 B (n + m) h lo hi) = lo + B ^ (2 * h) * hi := by
  obtain ⟨g1, g2, g3⟩ := c.one hB
  have h1 := c.lo_lt hB
  have h2 := c.hN
  have h3 := c.hi_len hB
  have hf : 2 * h + (digs B hi).length ≤ (cut1 B (n + m) lo).length := by omega
  refine ⟨g1.splice (digs_lt hB _), ?_, ?_⟩
  · unfold cut2; rw [length_splice _ _ _ hf, g2]
  · unfold cut2
    rw [val_splice _ _ _ hf, val_take_mod g1 (by omega), g3, Nat.mod_eq_of_lt h1, val_digs hB, val_drop_div' g1 hf, g3]
    have h4 : lo / B ^ (2 * h + (digs B hi).length) = 0 := by
      refine Nat.div_eq_of_lt (Nat.lt_of_lt_of_le h1 (Nat.pow_le_pow_right (by omega) (by omega)))
    rw [h4]; simp
theorem Cuts.mids {B x y h n m lo hi mid : Nat} (c : Cuts B x y h n m lo hi mid) (hB : 2 ≤ B) : val B ((cut2 B (n + m) h lo hi).drop h) = (lo + B ^ (2 * h) * hi) / B ^ h := by
  obtain ⟨g1, g2, g3⟩ := c.two hB
  rw [val_drop_div' g1 (by rw [g2]; have := c.hN; omega), g3]
theorem Cuts.t_eq {B x y h n m lo hi mid t : Nat} (c : Cuts B x y h n m lo hi mid) (hB : 2 ≤ B) (ht : t = (lo + B ^ (2 * h) * hi) / B ^ h + mid) : (lo + B ^ (2 * h) * hi) % B ^ h + B ^ h * t = x * y := by
  have h1 := Nat.mod_add_div (lo + B ^ (2 * h) * hi) (B ^ h)
  rw [c.prod, ht, Nat.mul_add]; omega
theorem Cuts.t_len {B x y h n m lo hi mid t : Nat} (c : Cuts B x y h n m lo hi mid) (hB : 2 ≤ B) (ht : t = (lo + B ^ (2 * h) * hi) / B ^ h + mid) : (digs B t).length ≤ n + m - h := by
  have h1 := c.t_eq hB ht
  have h2 := c.lt hB
  have h3 : B ^ h * t ≤ x * y := by rw [← h1]; exact Nat.le_add_left _ _
  exact digs_cut_len hB (Nat.lt_of_le_of_lt h3 h2) (by have := c.hN; omega)
theorem Cuts.three {B x y h n m lo hi mid t : Nat} (c : Cuts B x y h n m lo hi mid) (hB : 2 ≤ B) (ht : t = (lo + B ^ (2 * h) * hi) / B ^ h + mid) : Lt B (cut3 B (n + m) h lo hi t) ∧ x * y = val B (cut3 B (n + m) h lo hi t) := by
  obtain ⟨g1, g2, g3⟩ := c.two hB
  have h2 := c.hN
  have h3 := c.t_len hB ht
  have hf : h + (digs B t).length ≤ (cut2 B (n + m) h lo hi).length := by omega
  refine ⟨g1.splice (digs_lt hB _), ?_⟩
  unfold cut3
  rw [val_splice _ _ _ hf, val_take_mod g1 (by omega), g3, val_digs hB, val_drop_div' g1 hf, g3, ← c.t_eq hB ht]
  have h5 := digs_lt_pow hB t
  have h4 : (lo + B ^ (2 * h) * hi) / B ^ (h + (digs B t).length) = 0 := by
    rw [Nat.pow_add, ← Nat.div_div_eq_div_mul]
    exact Nat.div_eq_of_lt (by omega)
  rw [h4]; simp
end Go.Proofs.Ytcgmbmiingppgaa.num
