/- digits.isBase, digits.stretch. Condition: as each says.
Rows of bytes that the call makes; digits.written: stretches of digits as a text. Condition: as each says.
digits.split: a number parted into numbers below a power. Condition: the slices read as numbers; some limbs.
digits.paired: neighbours put together. Condition: the slices read as numbers; some limbs.
digits.joined: numbers below a power put together. Condition: the slices read as numbers; some limbs.
digits.In, Print, Count. Condition: the slice reads as a number of some limbs.
digits.From, Parse. Condition: a text of some bytes.
The document's digits: digit, From, In. Condition: some limbs, some bytes.
The document's In. Condition: the slice reads as a number of some limbs.
Layer 6's example; what the laws ask of texts. -/
import Derived.Test.YtbebmknfecehnaaGreatStrT
import Derived.Test.YtbebmknfecehnaaGreatList
import Derived.Test.YtbebmknfecehnaaGreatDivT
import Derived.Lib.OthersKept
import Derived.Deep.Cut
namespace Go.Proofs.YtbebmknfecehnaaGreat.str
open Go.RowKit Go.Proofs.YtbebmknfecehnaaGreat.num Go.Proofs.YtbebmknfecehnaaGreat.mem Go.Proofs.YtbebmknfecehnaaGreat.txt
set_option linter.unusedVariables false

/-- How many digits are cut off at once, and the base to the power of so many. -/
def Strd (b k p : Nat) : Prop := 1 ≤ k ∧ k ≤ 32 ∧ p = b ^ k ∧ p < 4294967296
theorem Strd.next {b k p : Nat} (h : Strd b k p) (hb : 2 ≤ b) (hp : p * b < 4294967296) : Strd b (k + 1) (p * b) := by
  obtain ⟨h1, h2, rfl, h4⟩ := h
  refine ⟨by omega, ?_, by rw [Nat.pow_succ], hp⟩
  have h5 : 2 ^ (k + 1) ≤ b ^ (k + 1) := Nat.pow_le_pow_left hb _
  rw [Nat.pow_succ b] at h5
  have h6 : 2 ^ (k + 1) < 2 ^ 32 := Nat.lt_of_le_of_lt h5 hp
  have := (Nat.pow_lt_pow_iff_right (by omega : 1 < 2)).1 h6
  omega
def RetStrd (b : Nat) (w : World) (e : Ending) (w' : World) : Prop := ∃ k p : Nat, e = .returned (.tuple #[.int .i64 (k : Int), .int .u64 (p : Int)]) ∧ Strd b k p ∧ w = w'
end Go.Proofs.YtbebmknfecehnaaGreat.str
namespace Go.Proofs.YtbebmknfecehnaaGreat.mem
open Go.RowKit Go.Proofs.YtbebmknfecehnaaGreat.num
set_option linter.unusedVariables false
/-- Slice type t has elements of type e, bytes. -/
structure SliceB (P : Program) (t e : TypeId) : Prop where
  und : P.underlying t = some (.slice e)
  info : ∃ i, P.info? e = some i ∧ i.zero = some (.int .u8 0) ∧ i.size = 1 ∧ i.bytes = 1
section
variable {P : Program}
/-- 'make([]byte, n)'. -/
theorem wpList_make_b {w : World} {ops : Array Oper} {rest : List Oper} {o : Oper} {a : Act} {Q : Exit → Act → World → Prop} (hgd : o.guard = none) (lo co : Operand) {t : TypeId} (ho : o.op = Op.makeSlice t lo co)
    {base : Nat} {e : TypeId} (hT : SliceB P t e) {kl kc : IntKind} {L C : Int} (n : Nat) (hl : a.eval lo = .int kl L) (hc : a.eval co = .int kc C) (hL : L = (n : Int)) (hC : C = (n : Int)) (hn : n ≤ 10000000000000) (hbase : base ≤ w.heap.size)
    (h : ∀ w', Own w' base e .u8 (.slice (some ⟨w.heap.size, 0, none⟩) n n) (List.replicate n 0) → Below w.heap.size w w' → w.heap.size < w'.heap.size → wpList P ops Q rest (a.put o.dst (.slice (some ⟨w.heap.size, 0, none⟩) n n)) w') : wpList P ops Q (o :: rest) a w := by
  obtain ⟨i, hi, hz, hs, hb⟩ := hT.info
  refine wpList_make_full w hgd lo co t ho base e i (.int .u8 0) 1 hT.und hi hz hs kl kc L C n hl hc hL hC (by rw [hb]; omega) (by unfold maxLen; omega) hbase fun w' h1 h2 => ?_
  have hw := own_of_make h1
  refine h w' hw ((Below.refl _ w).grown h2 (Nat.le_refl _) (fun g hg => by cases hg)) ?_
  rcases h1.2 with ⟨h3, _⟩ | ⟨g, cap, cur, h3, _, h4, _⟩
  · cases h3
  · injection h3 with h3 _ _
    injection h3 with h3
    injection h3 with h3 _ _
    subst h3
    exact (Array.getElem?_eq_some_iff.1 h4).1
theorem run_append_b {w : World} {base : Nat} {t ty : TypeId} {e : TypeId} (hT : SliceB P t e) {v : Value} {l news : List Nat} (hown : Own w base e .u8 v l) {A : Option Addr} {m c : Nat} (hm : m = news.length) (hr : Rd w A .u8 news)
    (hlen : l.length + m ≤ 10000000000000) (hbase : base ≤ w.heap.size) :
    ∃ v' w', (Builtin.append_ #[t, t] ty #[v, .slice A m c]).run P w = .ok v' w' ∧ Own w' base e .u8 v' (l ++ news) ∧ w.grownBy w' v.ownBlock := by
  obtain ⟨i, hi, hz, hs, hb⟩ := hT.info
  subst hm
  rcases A with _ | ad
  · have hn : news = [] := by
      rcases news with _ | ⟨d, n⟩
      · rfl
      · obtain ⟨ad, h, _⟩ := hr 0 d (by simp); cases h
    subst hn
    refine ⟨v, w, ?_, by simpa using hown, World.grownBy.refl _ _⟩
    rcases hown.2 with ⟨rfl, h0⟩ | ⟨g, cap, cur, rfl, _, _, hnc, _⟩
    · simp [Builtin.append_, run_underlying hT.und, sizeOf, typeInfo, hi, Builtin.lenOf, Builtin.firstCells]
    · simp [Builtin.append_, run_underlying hT.und, sizeOf, typeInfo, hi, Builtin.lenOf, Builtin.firstCells, hnc, storeCells]
  · have hcells : ∀ j u, (nv .u8 news)[j]? = some u → w.cell? (ad.add j) = some u := by
      intro j u hu
      simp only [nv, List.getElem?_map, Option.map_eq_some_iff] at hu
      obtain ⟨d, hd, rfl⟩ := hu
      obtain ⟨ad', h, hc⟩ := hr j d hd
      injection h with h; subst h; exact hc
    obtain ⟨v', w', h1, h2, h3, _⟩ := run_append_own (P := P) w base t ty e i (.int .u8 0) 1 1 hT.und hi hz hs hb rfl (by decide) v l.length (nv .u8 l) hown ad news.length c (nv .u8 news) (by simp [nv]) hcells (nv_one .u8 news) (by unfold maxLen; omega) (by omega) hbase
    exact ⟨v', w', h1, Own.more h2, h3⟩
/-- 'append(out, xs...)', bytes. -/
theorem wpList_append_b {w : World} {ops : Array Oper} {rest : List Oper} {o : Oper} {a : Act} {Q : Exit → Act → World → Prop} (hgd : o.guard = none) (s x : Operand) {t : TypeId}
    (ho : o.op = .call { callee := .builtin .append, args := #[s, x], argTypes := #[t, t] })
    {base : Nat} {e : TypeId} (hT : SliceB P t e) {v : Value} {l news : List Nat} (hs : a.eval s = v) (hown : Own w base e .u8 v l) {A : Option Addr} {m c : Nat} (hx : a.eval x = .slice A m c) (hm : m = news.length) (hr : Rd w A .u8 news)
    (hlen : l.length + m ≤ 10000000000000) (hbase : base ≤ w.heap.size)
    (h : ∀ v' w', Own w' base e .u8 v' (l ++ news) → Below base w w' → w.grownBy w' v.ownBlock → wpList P ops Q rest (a.put o.dst v') w') : wpList P ops Q (o :: rest) a w :=
  wpList_plain hgd fun _ hK => by
    obtain ⟨v', w', hrun, h2, h3⟩ := run_append_b (P := P) (ty := o.type) hT hown (c := c) hm hr hlen hbase
    have h4 := hK _ _ (h v' w' h2 ((Below.refl base w).grown h3 hbase (Own.base_le hown)) h3)
    unfold Oper.wp execOp
    simp only [ho, resolve, invoke, builtin, Sem.run_bind, Sem.run_pure, Result.andThen_ok, List.map_toArray, List.map_cons, List.map_nil, hs, hx, hrun]
    exact h4
end
/-- Bytes as numbers. -/
def u8s (l : List UInt8) : List Nat := l.map UInt8.toNat
theorem u8s_len (l : List UInt8) : (u8s l).length = l.length := by simp [u8s]
theorem u8s_append (l m : List UInt8) : u8s (l ++ m) = u8s l ++ u8s m := by simp [u8s]
end Go.Proofs.YtbebmknfecehnaaGreat.mem
namespace Go.Proofs.YtbebmknfecehnaaGreat.str
open Go.RowKit Go.Proofs.YtbebmknfecehnaaGreat.num Go.Proofs.YtbebmknfecehnaaGreat.mem Go.Proofs.YtbebmknfecehnaaGreat.txt Go.Proofs.YtbebmknfecehnaaGreat.nat
set_option linter.unusedVariables false

/-- The call ends with a string of these bytes; what was there is as it was. -/
def RetStrB (l : List UInt8) (w : World) (e : Ending) (w' : World) : Prop := ∃ R, e = .returned (.string R) ∧ StrIs R l ∧ Below w.heap.size w w'
/-- A text that is written from its end: p places are left. -/
def TX (p : Nat) (D : List Nat) : List UInt8 := List.replicate p 0 ++ D.reverse.map ch
theorem TX_cut (p : Nat) (D : List Nat) : TX (p + 1) D = List.replicate p 0 ++ (0 :: D.reverse.map ch) := by
  unfold TX
  rw [List.replicate_succ', List.append_assoc]; rfl
theorem TX_step {p d : Nat} {D : List Nat} : (u8s (TX (p + 1) D)).set p (ch d).toNat = u8s (TX p (D ++ [d])) := by
  have l1 : (u8s (List.replicate p 0)).length = p := by simp [u8s]
  rw [TX_cut, u8s_append, List.set_append_right _ _ (by omega), l1, Nat.sub_self]
  simp [u8s, TX]
theorem TX_at (p : Nat) (D : List Nat) : (u8s (TX (p + 1) D))[p]? = some 0 := by
  have l1 : (u8s (List.replicate p 0)).length = p := by simp [u8s]
  rw [TX_cut, u8s_append, List.getElem?_append_right (by omega), l1, Nat.sub_self]
  simp [u8s]
theorem TX_start (n : Nat) : u8s (TX n []) = List.replicate n 0 := by simp [TX, u8s]
theorem fig_at (S : ByteArray) (hS : StrIs S figs) (n : Nat) (h : n < S.size) : (S[n]'h).toNat = (ch n).toNat := by
  have h1 := hS.at_ h
  unfold ch
  rw [List.getD_eq_getElem?_getD, h1]; rfl
theorem pow_step {b i x : Nat} : x / b ^ i / b = x / b ^ (i + 1) := by rw [Nat.div_div_eq_div_mul, Nat.pow_succ]
theorem len1_of_lt {x : Nat} (h : x < 4294967296) : (digs 4294967296 x).length ≤ 1 := digs_len_le (by omega) (by rw [Nat.pow_one]; exact h)
theorem nbits63_of {x : Nat} (h : x < 4294967296) : nbits x ≤ 63 := Nat.le_trans (nbits_le_of (n := 32) h) (by omega)

end Go.Proofs.YtbebmknfecehnaaGreat.str
namespace Go.Proofs.YtbebmknfecehnaaGreat.mem
open Go.RowKit Go.Proofs.YtbebmknfecehnaaGreat.num
set_option linter.unusedVariables false
section
variable {P : Program}
/-- 'all = append(all, x, y)', all a row of slices of the call's own. -/
theorem wpList_append_vals {w : World} {ops : Array Oper} {rest : List Oper} {o : Oper} {a : Act} {Q : Exit → Act → World → Prop} (hgd : o.guard = none) (s x : Operand) {t : TypeId}
    (ho : o.op = .call { callee := .builtin .append, args := #[s, x], argTypes := #[t, t] })
    {base : Nat} {e : TypeId} (hT : P.underlying t = some (.slice e)) (hI : ∃ i, P.info? e = some i ∧ i.zero = some (.slice none 0 0) ∧ i.size = 1 ∧ i.bytes = 24) {v u1 u2 : Value} {vs : List Value} (hs : a.eval s = v) (hown : RowV w base e v vs) (hx : a.eval x = .slice (some ⟨w.heap.size, 0, none⟩) 2 2) (hu : u1.oneCell' = true) (hu2 : u2.oneCell' = true)
    (hlen : vs.length ≤ 1000000000) (hbase : base ≤ w.heap.size)
    (h : ∀ v' w', RowV w' base e v' (vs ++ [u1, u2]) → Below base w w' → Hid (Keeps w w' v v') → wpList P ops Q rest (a.put o.dst v') w') : wpList P ops Q (o :: rest) a (w.alloc (.cells #[u1, u2] e)) := by
  obtain ⟨i, hi, hz, hsz, hby⟩ := hI
  refine wpList_append_lies (w.alloc (.cells #[u1, u2] e)) hgd s x t ho base e i (.slice none 0 0) 1 24 hT hi hz hsz hby rfl (by omega) v vs.length vs hs (World.ownsRow.alloc hown _) ⟨w.heap.size, 0, none⟩ 2 2 [u1, u2] hx rfl ?_ ?_ (by omega) (by unfold maxLen; omega) (by omega) (by simp; omega) _ rfl ?_
  · exact World.news_of_block (heap_alloc_new w _)
  · intro u' hu'
    rcases List.mem_cons.1 hu' with rfl | hu'
    · exact hu
    · obtain rfl := List.mem_singleton.1 hu'
      exact hu2
  · intro g cap w' h1 h2 h3 h4
    have h5 : w.grownBy w' v.ownBlock := grown_trans (World.grownBy_alloc w _ _) h2
    refine h _ w' (by unfold RowV; rw [List.length_append]; exact h1) ((Below.refl base w).grown h5 hbase hown.base_le) ?_
    show Keeps _ _ _ _
    intro k q l hq hf
    refine ⟨hq.farKept hf h5, ?_⟩
    rintro ad n c rfl hn
    rcases h3 with h3 | h3
    · have := hf ad n c rfl hn
      rw [h3] at this
      exact this
    · subst h3
      intro e1
      have e2 : ad.block = (w.alloc (.cells #[u1, u2] e)).heap.size := by simpa [Value.ownBlock] using e1
      obtain ⟨A, c', e3, g1, g2, g3⟩ := hq
      injection e3 with e3 e4 e5
      subst e3; subst e4
      obtain ⟨ad', he, hc⟩ := g3 0 _ (List.getElem?_eq_getElem hn)
      injection he with he; subst he
      have h6 := World.block_lt_of_cell? w _ hc
      rw [block_add] at h6
      simp at e2
      omega
end
end Go.Proofs.YtbebmknfecehnaaGreat.mem
namespace Go.Proofs.YtbebmknfecehnaaGreat.str
open Go.RowKit Go.Proofs.YtbebmknfecehnaaGreat.num Go.Proofs.YtbebmknfecehnaaGreat.mem Go.Proofs.YtbebmknfecehnaaGreat.txt Go.Proofs.YtbebmknfecehnaaGreat.nat
set_option linter.unusedVariables false

theorem nums1 {w : World} {v : Value} {x : Nat} (h : IsS w .u64 v (digs 4294967296 x)) : Nums w [v] [x] := by
  refine ⟨rfl, fun i a b ha hb => ?_⟩
  match i, ha, hb with
  | 0, ha, hb => simp at ha hb; subst ha; subst hb; exact h
theorem nums_snoc2 {w w' : World} {v v' u1 u2 : Value} {vs : List Value} {xs : List Nat} {x y : Nat} (h : NumsFar w v vs xs) (hk : Keeps w w' v v') (hu : IsS w .u64 u1 (digs 4294967296 x)) (hf : Far v u1) (hu2 : IsS w .u64 u2 (digs 4294967296 y)) (hf2 : Far v u2) : NumsFar w' v' (vs ++ [u1, u2]) (xs ++ [x] ++ [y]) := by
  have e : vs ++ [u1, u2] = (vs ++ [u1]) ++ [u2] := by simp
  rw [e]
  have h1 : NumsFar w' v' (vs ++ [u1]) (xs ++ [x]) := h.snoc hk hu hf
  refine h1.snoc (w := w') (v := v') ?_ (hk _ _ _ hu2 hf2).1 (hk _ _ _ hu2 hf2).2
  exact fun k u l hq hq2 => ⟨hq, hq2⟩
/-- The call ends with a row of numbers that a parts into, below p. -/
def RetParts (p a : Nat) (w : World) (e : Ending) (w' : World) : Prop := ∃ V vs xs, e = .returned V ∧ IsV w' V vs ∧ Nums w' vs xs ∧ Parts p a xs ∧ Below w.heap.size w w'
theorem rowV_nil (w : World) (base : Nat) (e : TypeId) : RowV w base e (.slice none 0 0) [] := World.ownsRow_nil w base e 1
theorem far_nil (u : Value) : Far (.slice none 0 0) u := by
  rintro ad n c rfl _ h
  simp [Value.ownBlock] at h
theorem one_of_isS {w : World} {k : IntKind} {v : Value} {l : List Nat} (h : IsS w k v l) : v.oneCell' = true := by
  obtain ⟨A, c, rfl, _⟩ := h
  rfl

theorem parts_len {p a m : Nat} {xs : List Nat} (hp : 2 ≤ p) (h : Parts p a xs) (ha : (digs 4294967296 a).length ≤ m) : xs.length ≤ 64 * m + 1 := by
  have h1 : a < 2 ^ (32 * m) := by
    rw [← pow32]
    exact Nat.lt_of_lt_of_le (digs_lt_pow (by omega) a) (Nat.pow_le_pow_right (by omega) ha)
  have := h.len hp h1
  omega
end Go.Proofs.YtbebmknfecehnaaGreat.str
namespace Go.Proofs.YtbebmknfecehnaaGreat.mem
open Go.RowKit Go.Proofs.YtbebmknfecehnaaGreat.num
set_option linter.unusedVariables false
section
variable {P : Program}
/-- append to a row of slices that the call made, from whatever slice of slices. -/
theorem run_append_row {w : World} {base : Nat} {t ty e : TypeId} (hT : P.underlying t = some (.slice e)) (hI : ∃ i, P.info? e = some i ∧ i.zero = some (.slice none 0 0) ∧ i.size = 1 ∧ i.bytes = 24) {v : Value} {vs news : List Value} (hown : RowV w base e v vs) {A : Option Addr} {m c : Nat} (hm : m = news.length)
    (hr : ∀ (i : Nat) (u : Value), news[i]? = some u → ∃ ad, A = some ad ∧ w.cell? (ad.add i) = some u) (h1 : ∀ u ∈ news, u.oneCell' = true) (hlen : vs.length + m ≤ 1000000000) (hbase : base ≤ w.heap.size) :
    ∃ v' w', (Builtin.append_ #[t, t] ty #[v, .slice A m c]).run P w = .ok v' w' ∧ RowV w' base e v' (vs ++ news) ∧ w.grownBy w' v.ownBlock ∧ (v'.ownBlock = v.ownBlock ∨ v'.ownBlock = some w.heap.size) := by
  obtain ⟨i, hi, hz, hs, hb⟩ := hI
  subst hm
  rcases A with _ | ad
  · have hn : news = [] := by
      rcases news with _ | ⟨d, n⟩
      · rfl
      · obtain ⟨ad, h, _⟩ := hr 0 d (by simp); cases h
    subst hn
    refine ⟨v, w, ?_, by simpa using hown, World.grownBy.refl _ _, Or.inl rfl⟩
    rcases hown.2 with ⟨rfl, h0⟩ | ⟨g, cap, cur, rfl, _, _, hnc, _⟩
    · simp [Builtin.append_, run_underlying hT, sizeOf, typeInfo, hi, Builtin.lenOf, Builtin.firstCells]
    · simp [Builtin.append_, run_underlying hT, sizeOf, typeInfo, hi, Builtin.lenOf, Builtin.firstCells, hnc, storeCells]
  · have hcells : ∀ j u, news[j]? = some u → w.cell? (ad.add j) = some u := by
      intro j u hu
      obtain ⟨ad', h, hc⟩ := hr j u hu
      injection h with h; subst h; exact hc
    obtain ⟨v', w', g1, g2, g3, _, g5⟩ := run_append_own_at (P := P) w base t ty e i (.slice none 0 0) 1 24 hT hi hz hs hb rfl (by decide) v vs.length vs hown ad news.length c news (by simp) hcells h1 (by unfold maxLen; omega) (by omega) hbase
    exact ⟨v', w', g1, by unfold RowV; rw [List.length_append]; exact g2, g3, g5⟩
theorem keeps_of {w w' : World} {v v' : Value} (hg : w.grownBy w' v.ownBlock) (h3 : v'.ownBlock = v.ownBlock ∨ v'.ownBlock = some w.heap.size) : Keeps w w' v v' := by
  intro k q l hq hf
  refine ⟨hq.farKept hf hg, ?_⟩
  rintro ad n c rfl hn
  rcases h3 with h3 | h3
  · rw [h3]; exact hf ad n c rfl hn
  · rw [h3]
    intro e1
    obtain ⟨A, c', e3, g1, g2, g3⟩ := hq
    injection e3 with e3 e4 e5
    subst e3; subst e4
    obtain ⟨ad', he, hc⟩ := g3 0 _ (List.getElem?_eq_getElem hn)
    injection he with he; subst he
    have h6 := World.block_lt_of_cell? w _ hc
    rw [block_add] at h6
    injection e1 with e1
    omega
theorem wp_append_row {w : World} {o : Oper} {a : Act} {K : Act → World → Prop} {Q : Exit → Act → World → Prop} (s x : Operand) {t : TypeId}
    (ho : o.op = .call { callee := .builtin .append, args := #[s, x], argTypes := #[t, t] })
    {base : Nat} {e : TypeId} (hT : P.underlying t = some (.slice e)) (hI : ∃ i, P.info? e = some i ∧ i.zero = some (.slice none 0 0) ∧ i.size = 1 ∧ i.bytes = 24) {v : Value} {vs news : List Value} (hs : a.eval s = v) (hown : RowV w base e v vs) {A : Option Addr} {m c : Nat} (hx : a.eval x = .slice A m c) (hm : m = news.length)
    (hr : ∀ (i : Nat) (u : Value), news[i]? = some u → ∃ ad, A = some ad ∧ w.cell? (ad.add i) = some u) (h1 : ∀ u ∈ news, u.oneCell' = true) (hlen : vs.length + m ≤ 1000000000) (hbase : base ≤ w.heap.size)
    (h : ∀ v' w', RowV w' base e v' (vs ++ news) → Below base w w' → Hid (Keeps w w' v v') → K (a.put o.dst v') w') : o.wp P a w K Q := by
  obtain ⟨v', w', hrun, h2, h3, h4⟩ := run_append_row (P := P) (ty := o.type) hT hI hown (c := c) hm hr h1 hlen hbase
  unfold Oper.wp execOp
  simp only [ho, resolve, invoke, builtin, Sem.run_bind, Sem.run_pure, Result.andThen_ok, List.map_toArray, List.map_cons, List.map_nil, hs, hx, hrun]
  exact h v' w' h2 ((Below.refl base w).grown h3 hbase hown.base_le) (keeps_of h3 h4)
theorem wpList_append_row {w : World} {ops : Array Oper} {rest : List Oper} {o : Oper} {a : Act} {Q : Exit → Act → World → Prop} (hgd : o.guard = none) (s x : Operand) {t : TypeId}
    (ho : o.op = .call { callee := .builtin .append, args := #[s, x], argTypes := #[t, t] })
    {base : Nat} {e : TypeId} (hT : P.underlying t = some (.slice e)) (hI : ∃ i, P.info? e = some i ∧ i.zero = some (.slice none 0 0) ∧ i.size = 1 ∧ i.bytes = 24) {v : Value} {vs news : List Value} (hs : a.eval s = v) (hown : RowV w base e v vs) {A : Option Addr} {m c : Nat} (hx : a.eval x = .slice A m c) (hm : m = news.length)
    (hr : ∀ (i : Nat) (u : Value), news[i]? = some u → ∃ ad, A = some ad ∧ w.cell? (ad.add i) = some u) (h1 : ∀ u ∈ news, u.oneCell' = true) (hlen : vs.length + m ≤ 1000000000) (hbase : base ≤ w.heap.size)
    (h : ∀ v' w', RowV w' base e v' (vs ++ news) → Below base w w' → Hid (Keeps w w' v v') → wpList P ops Q rest (a.put o.dst v') w') : wpList P ops Q (o :: rest) a w :=
  wpList_plain hgd fun _ hK => wp_append_row s x ho hT hI hs hown hx hm hr h1 hlen hbase fun v' w' h2 h3 h4 => hK _ _ (h v' w' h2 h3 h4)
theorem step_append_row {w : World} {ops : Array Oper} {o : Oper} {a : Act} {K : Act → World → Prop} {Q : Exit → Act → World → Prop} {E : Prop} (hgd : o.guard = none) (s x : Operand) {t : TypeId}
    (ho : o.op = .call { callee := .builtin .append, args := #[s, x], argTypes := #[t, t] })
    {base : Nat} {e : TypeId} (hT : P.underlying t = some (.slice e)) (hI : ∃ i, P.info? e = some i ∧ i.zero = some (.slice none 0 0) ∧ i.size = 1 ∧ i.bytes = 24) {v : Value} {vs news : List Value} (hs : a.eval s = v) (hown : RowV w base e v vs) {A : Option Addr} {m c : Nat} (hx : a.eval x = .slice A m c) (hm : m = news.length)
    (hr : ∀ (i : Nat) (u : Value), news[i]? = some u → ∃ ad, A = some ad ∧ w.cell? (ad.add i) = some u) (h1 : ∀ u ∈ news, u.oneCell' = true) (hlen : vs.length + m ≤ 1000000000) (hbase : base ≤ w.heap.size)
    (h : ∀ v' w', RowV w' base e v' (vs ++ news) → Below base w w' → Hid (Keeps w w' v v') → K (a.put o.dst v') w') :
    if Region.wanted o (yielded ops a.tmps) = true then Oper.wp P o a w K Q else E := by
  have hw : Region.wanted o (yielded ops a.tmps) = true := by simp [Region.wanted, hgd]
  rw [if_pos hw]
  exact wp_append_row s x ho hT hI hs hown hx hm hr h1 hlen hbase h
end
end Go.Proofs.YtbebmknfecehnaaGreat.mem
namespace Go.Proofs.YtbebmknfecehnaaGreat.str
open Go.RowKit Go.Proofs.YtbebmknfecehnaaGreat.num Go.Proofs.YtbebmknfecehnaaGreat.mem Go.Proofs.YtbebmknfecehnaaGreat.txt Go.Proofs.YtbebmknfecehnaaGreat.nat
set_option linter.unusedVariables false

theorem isV_one {w : World} {t : TypeId} {u : Value} : ∀ (i : Nat) (x : Value), [u][i]? = some x → ∃ ad, some (⟨w.heap.size, 0, none⟩ : Addr) = some ad ∧ (w.alloc (.cells #[u] t)).cell? (ad.add i) = some x := by
  intro i x hx
  obtain ⟨A, c, e, _, h⟩ := isV_lit w t [u]
  injection e with e _ _
  obtain ⟨ad, h1, h2⟩ := h i x hx
  exact ⟨ad, by rw [e]; exact h1, h2⟩
theorem add_zero_ (ad : Addr) : ad.add 0 = ad := by unfold Addr.add; simp
/-- The call ends with a row of these numbers. -/
def RetRow (xs : List Nat) (w : World) (e : Ending) (w' : World) : Prop := ∃ V vs, e = .returned V ∧ IsV w' V vs ∧ Nums w' vs xs ∧ Below w.heap.size w w'
theorem Nums.tail2 {w : World} {t1 t2 : Value} {ts : List Value} {z1 z2 : Nat} {zs : List Nat} (h : Nums w (t1 :: t2 :: ts) (z1 :: z2 :: zs)) : IsS w .u64 t1 (digs 4294967296 z1) ∧ IsS w .u64 t2 (digs 4294967296 z2) ∧ Nums w ts zs := by
  refine ⟨h.2 0 _ _ rfl rfl, h.2 1 _ _ rfl rfl, by have := h.1; simp at this; exact this, fun i u x hu hx => h.2 (i + 2) u x (by simpa using hu) (by simpa using hx)⟩
theorem IsV.tail2 {w : World} {ad : Addr} {t1 t2 : Value} {ts : List Value} {n c : Nat} (h : IsV w (.slice (some ad) n c) (t1 :: t2 :: ts)) : IsV w (.slice (if c = 2 then some ad else some (ad.add 2)) (n - 2) (c - 2)) ts := by
  obtain ⟨A, c', e, hc, hcell⟩ := h
  injection e with e1 e2 e3
  subst e1; subst e2; subst e3
  simp at hc
  by_cases h2 : c = 2
  · have : ts = [] := List.length_eq_zero_iff.1 (by omega)
    subst this
    exact ⟨_, _, rfl, by simp, fun i u hu => by simp at hu⟩
  · rw [if_neg h2]
    refine ⟨some (ad.add 2), c - 2, rfl, by omega, fun i u hu => ?_⟩
    obtain ⟨ad', ha, hc2⟩ := hcell (i + 2) u (by simpa using hu)
    injection ha with ha; subst ha
    refine ⟨_, rfl, ?_⟩
    have e : (ad.add 2).add i = ad.add (i + 2) := by
      unfold Addr.add
      by_cases hi : i = 0
      · simp [hi]
      · simp [hi]; omega
    rw [e]; exact hc2

end Go.Proofs.YtbebmknfecehnaaGreat.str
namespace Go.Proofs.YtbebmknfecehnaaGreat.mem
open Go.RowKit Go.Proofs.YtbebmknfecehnaaGreat.num
set_option linter.unusedVariables false
theorem RowV.stored {w : World} {base : Nat} {e : TypeId} {g n cap : Nat} {vs : List Value} (h : RowV w base e (.slice (some ⟨g, 0, none⟩) n cap) vs) (i : Nat) (u : Value) : RowV (w.setCell ⟨g, i, none⟩ u) base e (.slice (some ⟨g, 0, none⟩) n cap) (vs.set i u) := by
  unfold RowV at h ⊢
  rw [List.length_set]
  have hn : n = vs.length := by
    rcases h.2 with ⟨h1, h0⟩ | ⟨g', cap', cur, h1, _⟩
    · injection h1 with h1 _ _; cases h1
    · injection h1 with _ h1 _
  subst hn
  exact (World.ownsRow.stored h i u).1
theorem RowV.cellAt {w : World} {base : Nat} {e : TypeId} {g n cap : Nat} {vs : List Value} (h : RowV w base e (.slice (some ⟨g, 0, none⟩) n cap) vs) {i : Nat} {u : Value} (hu : vs[i]? = some u) : w.cell? ⟨g, i, none⟩ = some u := by
  have := World.ownsRow.cells h (g := g) rfl i u hu
  have ha : (⟨g, 0, none⟩ : Addr).add i = ⟨g, i, none⟩ := by unfold Addr.add; split <;> simp_all
  rwa [ha] at this
theorem RowV.frozenAt {w : World} {base : Nat} {e : TypeId} {g n cap : Nat} {vs : List Value} (h : RowV w base e (.slice (some ⟨g, 0, none⟩) n cap) vs) (i : Nat) : w.frozen? ⟨g, i, none⟩ = false := by
  unfold RowV at h
  have hn : n = vs.length := by
    rcases h.2 with ⟨h1, h0⟩ | ⟨g', cap', cur, h1, _⟩
    · injection h1 with h1 _ _; cases h1
    · injection h1 with _ h1 _
  subst hn
  exact World.ownsRow.frozenAt h i
section
variable {P : Program}
/-- 'make([]T, n)', T a slice type. -/
theorem wpList_make_row_ {w : World} {ops : Array Oper} {rest : List Oper} {o : Oper} {a : Act} {Q : Exit → Act → World → Prop} (hgd : o.guard = none) (lo co : Operand) {t : TypeId} (ho : o.op = Op.makeSlice t lo co)
    {base : Nat} {e : TypeId} (hT : P.underlying t = some (.slice e)) (hI : ∃ i, P.info? e = some i ∧ i.zero = some (.slice none 0 0) ∧ i.size = 1 ∧ i.bytes = 24) {kl kc : IntKind} {L C : Int} (n : Nat) (hl : a.eval lo = .int kl L) (hc : a.eval co = .int kc C) (hL : L = (n : Int)) (hC : C = (n : Int)) (hn : n ≤ 1000000000) (hbase : base ≤ w.heap.size)
    (h : ∀ w', RowV w' base e (.slice (some ⟨w.heap.size, 0, none⟩) n n) (List.replicate n (.slice none 0 0)) → Below w.heap.size w w' → wpList P ops Q rest (a.put o.dst (.slice (some ⟨w.heap.size, 0, none⟩) n n)) w') : wpList P ops Q (o :: rest) a w := by
  obtain ⟨i, hi, hz, hs, hb⟩ := hI
  refine wpList_make_full w hgd lo co t ho base e i (.slice none 0 0) 1 hT hi hz hs kl kc L C n hl hc hL hC (by rw [hb]; omega) (by unfold maxLen; omega) hbase fun w' h1 h2 => ?_
  refine h w' ?_ ((Below.refl _ w).grown h2 (Nat.le_refl _) (fun g hg => by cases hg))
  have e1 : (madeCells (Value.slice none 0 0).cells (n * 1)).toList = List.replicate n (.slice none 0 0) := by
    rw [Nat.mul_one]; exact toList_madeCells_one _ _
  rw [e1] at h1
  unfold RowV
  rw [List.length_replicate]
  exact h1
end
end Go.Proofs.YtbebmknfecehnaaGreat.mem
namespace Go.Proofs.YtbebmknfecehnaaGreat.str
open Go.RowKit Go.Proofs.YtbebmknfecehnaaGreat.num Go.Proofs.YtbebmknfecehnaaGreat.mem Go.Proofs.YtbebmknfecehnaaGreat.txt Go.Proofs.YtbebmknfecehnaaGreat.nat
set_option linter.unusedVariables false

/-- What the loop over neighbours keeps. -/
def JO (N tot p : Nat) (xs : List Nat) : Prop := Lt p xs ∧ val p xs = tot ∧ 1 ≤ xs.length ∧ (digs 4294967296 p).length ≤ N ∧ (digs 4294967296 p).length * (xs.length - 1) ≤ N
theorem JO.step {N tot p : Nat} {xs : List Nat} (h : JO N tot p xs) (h1 : (pairs p xs).length ≠ 1) : JO N tot (p * p) (pairs p xs) := by
  obtain ⟨g1, g2, g3, g4, g5⟩ := h
  have hl := pairs_len p xs
  have hm := mul_len p p
  obtain ⟨m, hm2⟩ : ∃ m, (pairs p xs).length = m + 2 := ⟨(pairs p xs).length - 2, by omega⟩
  have k1 : (digs 4294967296 (p * p)).length * (m + 1) ≤ N := by
    have a1 : (digs 4294967296 (p * p)).length * (m + 1) ≤ (2 * (digs 4294967296 p).length) * (m + 1) := Nat.mul_le_mul_right _ (by omega)
    have a2 : (digs 4294967296 p).length * (2 * (m + 1)) ≤ (digs 4294967296 p).length * (xs.length - 1) := Nat.mul_le_mul_left _ (by omega)
    have a3 : (2 * (digs 4294967296 p).length) * (m + 1) = (digs 4294967296 p).length * (2 * (m + 1)) := by rw [Nat.mul_comm 2, Nat.mul_assoc]
    omega
  refine ⟨pairs_lt g1, by rw [pairs_val]; exact g2, by omega, ?_, ?_⟩
  · exact Nat.le_trans (Nat.le_mul_of_pos_right _ (by omega)) k1
  · rw [hm2]; exact k1
theorem JO.done {N tot p x : Nat} {xs : List Nat} (h : JO N tot p xs) (h1 : pairs p xs = [x]) : x = tot := by
  have := pairs_val p xs
  rw [h1, h.2.1] at this
  simpa [val] using this
/-- The call ends with a slice that reads as the list; what was there is as it was. -/
def RetSb (k : IntKind) (l : List Nat) (w : World) (e : Ending) (w' : World) : Prop := ∃ v, e = .returned v ∧ IsS w' k v l ∧ Below w.heap.size w w'

end Go.Proofs.YtbebmknfecehnaaGreat.str
namespace Go.Proofs.YtbebmknfecehnaaGreat.str
open Go.RowKit Go.Proofs.YtbebmknfecehnaaGreat.num Go.Proofs.YtbebmknfecehnaaGreat.mem Go.Proofs.YtbebmknfecehnaaGreat.txt Go.Proofs.YtbebmknfecehnaaGreat.nat
set_option linter.unusedVariables false

/-- The call ends with a string of these bytes, and an error; what was there is as it was. -/
def RetStrE (l : List UInt8) (x : Int) (w : World) (e : Ending) (w' : World) : Prop := ∃ R, e = .returned (.tuple #[.string R, .int .i64 x]) ∧ StrIs R l ∧ Below w.heap.size w w'
theorem strNil : StrIs ⟨#[]⟩ [] := rfl
end Go.Proofs.YtbebmknfecehnaaGreat.str
namespace Go.Proofs.YtbebmknfecehnaaGreat.str
open Go.RowKit Go.Proofs.YtbebmknfecehnaaGreat.num Go.Proofs.YtbebmknfecehnaaGreat.mem Go.Proofs.YtbebmknfecehnaaGreat.txt Go.Proofs.YtbebmknfecehnaaGreat.nat
set_option linter.unusedVariables false

/-- What a text is by a base: its number, or refused. -/
def FromR (b : Nat) (l : List UInt8) (x : Nat) (e : Int) : Prop := (okS b l ∧ x = numS b l ∧ e = 0) ∨ (¬ okS b l ∧ x = 0 ∧ e = 5)
theorem FromR.one {b : Nat} {l : List UInt8} {x y : Nat} {e f : Int} (h : FromR b l x e) (k : FromR b l y f) : y = x ∧ f = e := by
  rcases h with ⟨h1, h2, h3⟩ | ⟨h1, h2, h3⟩ <;> rcases k with ⟨k1, k2, k3⟩ | ⟨k1, k2, k3⟩
  · exact ⟨by rw [h2, k2], by rw [h3, k3]⟩
  · exact absurd h1 k1
  · exact absurd k1 h1
  · exact ⟨by rw [h2, k2], by rw [h3, k3]⟩
/-- The call ends with a slice that reads as the list, and an error; what was there is as it was. -/
def RetNE (l : List Nat) (x : Int) (w : World) (e : Ending) (w' : World) : Prop := ∃ v, e = .returned (.tuple #[v, .int .i64 x]) ∧ IsS w' .u64 v l ∧ Below w.heap.size w w'
/-- The same, the number that the text is. -/
def RetFr (b : Nat) (l : List UInt8) (w : World) (e : Ending) (w' : World) : Prop := ∃ x en, FromR b l x en ∧ RetNE (digs 4294967296 x) en w e w'
theorem nil_digs (w : World) : IsS w .u64 (.slice none 0 0) (digs 4294967296 0) := by rw [digs_zero]; exact isNil w .u64
theorem rev_at {l : List UInt8} {k j : Nat} {c : UInt8} (h : l[k]? = some c) (hj : j + k + 1 = l.length) : (l.reverse.map dv)[j]? = some (dv c) := by
  have hk : k < l.length := (List.getElem?_eq_some_iff.1 h).1
  rw [List.getElem?_map, List.getElem?_reverse (by omega), show l.length - 1 - j = k from by omega, h]; rfl
theorem own_iterAt {w : World} {base : Nat} {e : TypeId} {kd : IntKind} {v : Value} {l : List Nat} {k : Nat} {s : ByteArray} {pos : Nat} (h : Own w base e kd v l) (hk : w.heap[k]? = some (.stringIter s pos)) (pos' : Nat) : Own (w.iterAt k s pos') base e kd v l := by
  obtain ⟨h1, h2⟩ := h
  refine ⟨h1, ?_⟩
  rcases h2 with h2 | ⟨g, cap, cur, a, b, c, d⟩
  · exact .inl h2
  · refine .inr ⟨g, cap, cur, a, b, ?_, d⟩
    rw [Lib.iterAt_other _ _ _ _ _ (by rintro rfl; rw [hk] at c; cases c)]; exact c
theorem iter_kept {w w' : World} {k : Nat} {s : ByteArray} {pos : Nat} (h : w.heap[k]? = some (.stringIter s pos)) (hb : Below w.heap.size w w') : w'.heap[k]? = some (.stringIter s pos) := by
  rw [hb.block k (Array.getElem?_eq_some_iff.1 h).1]; exact h
theorem iter_set {w : World} {k : Nat} {s : ByteArray} {pos : Nat} (h : w.heap[k]? = some (.stringIter s pos)) {g : Nat} (hg : g ≠ k) (o : Nat) (u : Value) : (w.setCell ⟨g, o, none⟩ u).heap[k]? = some (.stringIter s pos) := by
  rw [(grown_set w g o u).block k (Array.getElem?_eq_some_iff.1 h).1 (by intro e; injection e with e; exact hg e.symm)]; exact h
theorem iterPos_of {w : World} {k : Nat} {s : ByteArray} {p : Nat} (h : w.heap[k]? = some (.stringIter s p)) : w.iterPos k = p := by simp [World.iterPos, h]
theorem not_ok {b : Nat} {l : List UInt8} {k : Nat} {c : UInt8} (h : l[k]? = some c) (hc : ¬ dv c < b) : ¬ okS b l := fun h2 => hc (h2.2 c (List.mem_of_getElem? h))
theorem dv_high {c : UInt8} (h : 128 ≤ c.toNat) : dv c = 99 := by unfold dv; rw [if_neg (by omega), if_neg (by omega)]
theorem dvi_low (b : Nat) (c : UInt8) (h : c.toNat < 128) : dvi b (c.toNat : Int) = if dv c < b then (dv c : Int) else -1 := by
  unfold dvi
  have e : ((c.toNat : Int)).toNat.toUInt8 = c := by rw [Int.toNat_natCast]; simp [Nat.toUInt8]
  rw [e]
  by_cases hd : dv c < b
  · rw [if_pos ⟨by omega, hd⟩, if_pos hd]
  · rw [if_neg (fun h => hd h.2), if_neg hd]
theorem dvi_high (b : Nat) (r : Int) (h : 128 ≤ r) : dvi b r = -1 := if_neg (fun h2 => by omega)

end Go.Proofs.YtbebmknfecehnaaGreat.str
namespace Go.Proofs.YtbebmknfecehnaaGreat.str
open Go.RowKit Go.Proofs.YtbebmknfecehnaaGreat.num Go.Proofs.YtbebmknfecehnaaGreat.mem Go.Proofs.YtbebmknfecehnaaGreat.txt Go.Proofs.YtbebmknfecehnaaGreat.nat
set_option linter.unusedVariables false

theorem numS_step {b : Nat} {l : List UInt8} {i : Nat} {c : UInt8} (h : l[i]? = some c) : numS b (l.take (i + 1)) = numS b (l.take i) * b + dv c := by
  rw [List.take_add_one, h]; exact numS_snoc b _ c
theorem bound_step {x b d i : Nat} (h : x < 10000 ^ i) (hd : d < b) (hb : b ≤ 36) : x * b + d < 10000 ^ (i + 1) := by
  have h1 : (x + 1) * b ≤ 10000 ^ i * b := Nat.mul_le_mul_right _ h
  have h2 : 10000 ^ i * b ≤ 10000 ^ i * 10000 := Nat.mul_le_mul_left _ (by omega)
  rw [Nat.pow_succ]
  rw [Nat.add_mul] at h1
  omega

end Go.Proofs.YtbebmknfecehnaaGreat.str
namespace Go.Proofs.YtbebmknfecehnaaGreat.str
open Go.RowKit Go.Proofs.YtbebmknfecehnaaGreat.num Go.Proofs.YtbebmknfecehnaaGreat.mem Go.Proofs.YtbebmknfecehnaaGreat.txt Go.Proofs.YtbebmknfecehnaaGreat.nat
set_option linter.unusedVariables false

theorem rlen0 {x : Nat} (h : x = 0) : (digs 10000 x).length = 0 := by rw [h, digs_zero]; rfl
theorem rlenp {x : Nat} (h : 0 < x) : 0 < (digs 10000 x).length := by
  rcases Nat.eq_zero_or_pos (digs 10000 x).length with h0 | h0
  · have := (digs_len0 (B := 10000) (by omega)).1 h0; omega
  · exact h0
/-- The digits found so far, and those that are still to come. -/
def DG (b a y : Nat) (D : List Nat) : Prop := D ++ digs b y = digs b a
theorem DG.step {b a y : Nat} {D : List Nat} (hb : 2 ≤ b) (h : DG b a y D) (hy : 0 < y) : DG b a (y / b) (D ++ [y % b]) := by
  unfold DG at h ⊢
  rw [← h, digs_pos hb hy, List.append_assoc]; rfl
theorem u8s_one (c : UInt8) : u8s [c] = [c.toNat] := rfl

end Go.Proofs.YtbebmknfecehnaaGreat.str
namespace Go.Proofs.YtbebmknfecehnaaGreat.str
open Go.RowKit Go.Proofs.YtbebmknfecehnaaGreat.num Go.Proofs.YtbebmknfecehnaaGreat.mem Go.Proofs.YtbebmknfecehnaaGreat.txt Go.Proofs.YtbebmknfecehnaaGreat.nat
set_option linter.unusedVariables false

/-- The call ends with a number that the relation tells, and an error; what was there is as it was. -/
def RetGG (G : Nat → Int → Prop) (w : World) (e : Ending) (w' : World) : Prop := ∃ x en, G x en ∧ RetNE (digs 4294967296 x) en w e w'
theorem numS_len {b : Nat} (h36 : b ≤ 36) {l : List UInt8} (h : okS b l) : (digs 4294967296 (numS b l)).length ≤ l.length := by
  have h1 := val_lt h.lt
  rw [List.length_map, List.length_reverse] at h1
  exact digs_len_le (by omega) (Nat.lt_of_lt_of_le h1 (Nat.pow_le_pow_left (by omega) _))
theorem txt_len {b x : Nat} (h2 : 2 ≤ b) (h : (digs 4294967296 x).length ≤ 30) : (txt b x).length ≤ 1000 := by
  unfold txt
  split
  · simp
  · rw [List.length_map, List.length_reverse]
    have h1 : x < 4294967296 ^ (digs 4294967296 x).length := digs_lt_pow (by omega) x
    rw [pow32] at h1
    have h3 : 2 ^ (32 * (digs 4294967296 x).length) ≤ b ^ (32 * (digs 4294967296 x).length) := Nat.pow_le_pow_left h2 _
    exact Nat.le_trans (digs_len_le h2 (Nat.lt_of_lt_of_le h1 h3)) (by omega)
/-- The example's text. -/
def ex : List UInt8 := [52, 50, 57, 52, 57, 54, 55, 50, 57, 54]
theorem ex_ok : okS 10 ex := ⟨by simp [ex], by decide⟩
theorem ex_num : numS 10 ex = 4294967296 := by decide
theorem ex_txt : txt 10 4294967296 = ex := by
  have h := txt_num (b := 10) (by omega) (by omega) (c := 52) (s := [50, 57, 52, 57, 54, 55, 50, 57, 54]) ex_ok (by decide)
  rw [show numS 10 [52, 50, 57, 52, 57, 54, 55, 50, 57, 54] = 4294967296 from ex_num] at h
  exact h
theorem ex_digs : digs 4294967296 4294967296 = [0, 1] := by
  rw [digs_pos (by omega) (by omega), digs_pos (by omega) (by omega), show 4294967296 / 4294967296 / 4294967296 = 0 from by decide, digs_zero]
theorem lit_two (w : World) : IsS (w.alloc (.cells #[.int .u64 0, .int .u64 1] 55)) .u64 (.slice (some ⟨w.heap.size, 0, none⟩) 2 2) (digs 4294967296 4294967296) := by
  rw [ex_digs]
  exact (own_lit2 w 0 55 .u64 (d := 0) (f := 1) rfl rfl (Nat.zero_le _)).isS
end Go.Proofs.YtbebmknfecehnaaGreat.str
