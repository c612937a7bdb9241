/- digits.isBase, digits.stretch. Condition: as each says.
Rows of bytes that the call makes; digits.written: stretches of digits as a text. Condition: as each says.
digits.split: a number parted into numbers below a power. Condition: the slices read as numbers; some limbs.
digits.paired: neighbours put together. Condition: the slices read as numbers; some limbs.
digits.joined: numbers below a power put together. Condition: the slices read as numbers; some limbs.
digits.In, Print, Count. Condition: the slice reads as a number of some limbs.
digits.From, Parse. Condition: a text of some bytes.
The document's digits: digit, From, In. Condition: some limbs, some bytes.
The document's In. Condition: the slice reads as a number of some limbs.
Layer 6's example; what the laws ask of texts. -/
import Derived.Test.YtcmjbkgcknimlaaDoorStrT
import Derived.Test.YtcmjbkgcknimlaaDoorList
import Derived.Test.YtcmjbkgcknimlaaDoorDivT
import Derived.Lib.OthersKept
import Derived.Deep.Cut
namespace Go.Proofs.YtcmjbkgcknimlaaDoor.str
open Go.RowKit Go.Proofs.YtcmjbkgcknimlaaDoor.num Go.Proofs.YtcmjbkgcknimlaaDoor.mem Go.Proofs.YtcmjbkgcknimlaaDoor.txt
set_option linter.unusedVariables false

set_option maxHeartbeats 400000 in
theorem isBase_yes (b : Int) (w : World) (h2 : 2 ≤ b) (h36 : b ≤ 36) :
    Calls Tryd.prog 93 #[.int .i64 b] w fun e w' => e = .returned (.bool true) ∧ w = w' := by
  go_enter Tryd.func93, Tryd.ntmps93
  go_wp2
  go_ret
  exact ⟨rfl, rfl⟩
set_option maxHeartbeats 400000 in
theorem isBase_no (b : Int) (w : World) (h : b < 2 ∨ 36 < b) :
    Calls Tryd.prog 93 #[.int .i64 b] w fun e w' => e = .returned (.bool false) ∧ w = w' := by
  by_cases h2 : 2 ≤ b
  · have h36 : ¬ b ≤ 36 := by omega
    clear h
    go_enter Tryd.func93, Tryd.ntmps93
    go_wp2
    go_ret
    exact ⟨rfl, rfl⟩
  · clear h
    go_enter Tryd.func93, Tryd.ntmps93
    go_wp2
    go_ret
    exact ⟨rfl, rfl⟩
/-- How many digits are cut off at once, and the base to the power of so many. -/
def Strd (b k p : Nat) : Prop := 1 ≤ k ∧ k ≤ 32 ∧ p = b ^ k ∧ p < 4294967296
theorem Strd.next {b k p : Nat} (h : Strd b k p) (hb : 2 ≤ b) (hp : p * b < 4294967296) : Strd b (k + 1) (p * b) := by
  obtain ⟨h1, h2, rfl, h4⟩ := h
  refine ⟨by omega, ?_, by rw [Nat.pow_succ], hp⟩
  have h5 : 2 ^ (k + 1) ≤ b ^ (k + 1) := Nat.pow_le_pow_left hb _
  rw [Nat.pow_succ b] at h5
  have h6 : 2 ^ (k + 1) < 2 ^ 32 := Nat.lt_of_le_of_lt h5 hp
  have := (Nat.pow_lt_pow_iff_right (by omega : 1 < 2)).1 h6
  omega
def RetStrd (b : Nat) (w : World) (e : Ending) (w' : World) : Prop := ∃ k p : Nat, e = .returned (.tuple #[.int .i64 (k : Int), .int .u64 (p : Int)]) ∧ Strd b k p ∧ w = w'
set_option maxHeartbeats 800000 in
set_option maxRecDepth 100000 in
theorem stretch_any (bI : Int) (b : Nat) (w : World) (hbI : bI = (b : Int)) (h2 : 2 ≤ b) (h36 : b ≤ 36) :
    Calls Tryd.prog 94 #[.int .i64 bI] w (RetStrd b w) := by
  have hb0 : 2 ≤ bI := by omega
  have hb1 : bI ≤ 36 := by omega
  have HB := Lib.hid hbI
  have hs0 : Strd b 1 b := ⟨by omega, by omega, by rw [Nat.pow_one], by omega⟩
  clear hbI h36
  go_enter Tryd.func94, Tryd.ntmps94
  go_wp2
  go_loop [4, 5] (fun vk vp => ∃ (k p : Nat) (pI : Int), Strd b k p ∧ Hid (pI = (p : Int)) ∧ vk = .int .i64 (k : Int) ∧ vp = .int .u64 pI) (fun vk _ => (32 - intOf vk).toNat)
  case atStart => exact ⟨1, b, bI, hs0, HB, rfl, rfl⟩
  case round =>
    clear hs0
    obtain ⟨k, p, pI, hS, HP, rfl, rfl⟩ := hrel
    have h1 := hS.1
    have h32 := hS.2.1
    have hp := hS.2.2.2
    have q0 : 0 ≤ pI := by have := HP.out; omega
    have q1 : pI ≤ 4294967295 := by have := HP.out; omega
    have m0 : (0 : Int) ≤ pI * bI := Int.mul_nonneg (by omega) (by omega)
    have m1 : pI * bI ≤ 154618822620 := Int.le_trans (Int.mul_le_mul_of_nonneg_right q1 (by omega)) (by omega)
    have em : ((p * b : Nat) : Int) = pI * bI := by rw [HP.out, HB.out, Int.natCast_mul]
    have EM := Lib.hid em
    by_cases hlt : p * b < 4294967296
    · have hd : decide (pI * bI < 4294967296) = true := by rw [decide_eq_true_eq]; omega
      have hN := hS.next h2 hlt
      have hk2 := hN.2.1
      clear hlt hp em
      go_wp2
      go_round
      case rel => exact ⟨k + 1, p * b, _, hN, EM.out.symm, by go_num, rfl⟩
      case measure => simp [intOf]; omega
    · have hd : decide (pI * bI < 4294967296) = false := by rw [decide_eq_false_iff_not]; omega
      clear hlt hp em
      go_wp2
      go_ret2
      have ep := HP.out
      subst ep
      exact ⟨k, p, rfl, hS, rfl⟩
end Go.Proofs.YtcmjbkgcknimlaaDoor.str
namespace Go.Proofs.YtcmjbkgcknimlaaDoor.mem
open Go.RowKit Go.Proofs.YtcmjbkgcknimlaaDoor.num
set_option linter.unusedVariables false
/-- Slice type t has elements of type e, bytes. -/
structure SliceB (P : Program) (t e : TypeId) : Prop where
  und : P.underlying t = some (.slice e)
  info : ∃ i, P.info? e = some i ∧ i.zero = some (.int .u8 0) ∧ i.size = 1 ∧ i.bytes = 1
section
variable {P : Program}
/-- 'make([]byte, n)'. -/
theorem wpList_make_b {w : World} {ops : Array Oper} {rest : List Oper} {o : Oper} {a : Act} {Q : Exit → Act → World → Prop} (hgd : o.guard = none) (lo co : Operand) {t : TypeId} (ho : o.op = Op.makeSlice t lo co)
    {base : Nat} {e : TypeId} (hT : SliceB P t e) {kl kc : IntKind} {L C : Int} (n : Nat) (hl : a.eval lo = .int kl L) (hc : a.eval co = .int kc C) (hL : L = (n : Int)) (hC : C = (n : Int)) (hn : n ≤ 10000000000000) (hbase : base ≤ w.heap.size)
    (h : ∀ w', Own w' base e .u8 (.slice (some ⟨w.heap.size, 0, none⟩) n n) (List.replicate n 0) → Below w.heap.size w w' → w.heap.size < w'.heap.size → wpList P ops Q rest (a.put o.dst (.slice (some ⟨w.heap.size, 0, none⟩) n n)) w') : wpList P ops Q (o :: rest) a w := by
  obtain ⟨i, hi, hz, hs, hb⟩ := hT.info
  refine wpList_make_full w hgd lo co t ho base e i (.int .u8 0) 1 hT.und hi hz hs kl kc L C n hl hc hL hC (by rw [hb]; omega) (by unfold maxLen; omega) hbase fun w' h1 h2 => ?_
  have hw := own_of_make h1
  refine h w' hw ((Below.refl _ w).grown h2 (Nat.le_refl _) (fun g hg => by cases hg)) ?_
  rcases h1.2 with ⟨h3, _⟩ | ⟨g, cap, cur, h3, _, h4, _⟩
  · cases h3
  · injection h3 with h3 _ _
    injection h3 with h3
    injection h3 with h3 _ _
    subst h3
    exact (Array.getElem?_eq_some_iff.1 h4).1
theorem run_append_b {w : World} {base : Nat} {t ty : TypeId} {e : TypeId} (hT : SliceB P t e) {v : Value} {l news : List Nat} (hown : Own w base e .u8 v l) {A : Option Addr} {m c : Nat} (hm : m = news.length) (hr : Rd w A .u8 news)
    (hlen : l.length + m ≤ 10000000000000) (hbase : base ≤ w.heap.size) :
    ∃ v' w', (Builtin.append_ #[t, t] ty #[v, .slice A m c]).run P w = .ok v' w' ∧ Own w' base e .u8 v' (l ++ news) ∧ w.grownBy w' v.ownBlock := by
  obtain ⟨i, hi, hz, hs, hb⟩ := hT.info
  subst hm
  rcases A with _ | ad
  · have hn : news = [] := by
      rcases news with _ | ⟨d, n⟩
      · rfl
      · obtain ⟨ad, h, _⟩ := hr 0 d (by simp); cases h
    subst hn
    refine ⟨v, w, ?_, by simpa using hown, World.grownBy.refl _ _⟩
    rcases hown.2 with ⟨rfl, h0⟩ | ⟨g, cap, cur, rfl, _, _, hnc, _⟩
    · simp [Builtin.append_, run_underlying hT.und, sizeOf, typeInfo, hi, Builtin.lenOf, Builtin.firstCells]
    · simp [Builtin.append_, run_underlying hT.und, sizeOf, typeInfo, hi, Builtin.lenOf, Builtin.firstCells, hnc, storeCells]
  · have hcells : ∀ j u, (nv .u8 news)[j]? = some u → w.cell? (ad.add j) = some u := by
      intro j u hu
      simp only [nv, List.getElem?_map, Option.map_eq_some_iff] at hu
      obtain ⟨d, hd, rfl⟩ := hu
      obtain ⟨ad', h, hc⟩ := hr j d hd
      injection h with h; subst h; exact hc
    obtain ⟨v', w', h1, h2, h3, _⟩ := run_append_own (P := P) w base t ty e i (.int .u8 0) 1 1 hT.und hi hz hs hb rfl (by decide) v l.length (nv .u8 l) hown ad news.length c (nv .u8 news) (by simp [nv]) hcells (nv_one .u8 news) (by unfold maxLen; omega) (by omega) hbase
    exact ⟨v', w', h1, Own.more h2, h3⟩
/-- 'append(out, xs...)', bytes. -/
theorem wpList_append_b {w : World} {ops : Array Oper} {rest : List Oper} {o : Oper} {a : Act} {Q : Exit → Act → World → Prop} (hgd : o.guard = none) (s x : Operand) {t : TypeId}
    (ho : o.op = .call { callee := .builtin .append, args := #[s, x], argTypes := #[t, t] })
    {base : Nat} {e : TypeId} (hT : SliceB P t e) {v : Value} {l news : List Nat} (hs : a.eval s = v) (hown : Own w base e .u8 v l) {A : Option Addr} {m c : Nat} (hx : a.eval x = .slice A m c) (hm : m = news.length) (hr : Rd w A .u8 news)
    (hlen : l.length + m ≤ 10000000000000) (hbase : base ≤ w.heap.size)
    (h : ∀ v' w', Own w' base e .u8 v' (l ++ news) → Below base w w' → w.grownBy w' v.ownBlock → wpList P ops Q rest (a.put o.dst v') w') : wpList P ops Q (o :: rest) a w :=
  wpList_plain hgd fun _ hK => by
    obtain ⟨v', w', hrun, h2, h3⟩ := run_append_b (P := P) (ty := o.type) hT hown (c := c) hm hr hlen hbase
    have h4 := hK _ _ (h v' w' h2 ((Below.refl base w).grown h3 hbase (Own.base_le hown)) h3)
    unfold Oper.wp execOp
    simp only [ho, resolve, invoke, builtin, Sem.run_bind, Sem.run_pure, Result.andThen_ok, List.map_toArray, List.map_cons, List.map_nil, hs, hx, hrun]
    exact h4
end
/-- Bytes as numbers. -/
def u8s (l : List UInt8) : List Nat := l.map UInt8.toNat
theorem u8s_len (l : List UInt8) : (u8s l).length = l.length := by simp [u8s]
theorem u8s_append (l m : List UInt8) : u8s (l ++ m) = u8s l ++ u8s m := by simp [u8s]
end Go.Proofs.YtcmjbkgcknimlaaDoor.mem
namespace Go.Proofs.YtcmjbkgcknimlaaDoor.str
open Go.RowKit Go.Proofs.YtcmjbkgcknimlaaDoor.num Go.Proofs.YtcmjbkgcknimlaaDoor.mem Go.Proofs.YtcmjbkgcknimlaaDoor.txt Go.Proofs.YtcmjbkgcknimlaaDoor.nat
set_option linter.unusedVariables false

theorem slb : SliceB Tryd.prog 109 5 := ⟨Tryd.underlying109, info_parts (P := Tryd.prog) (e := 5) (z := .int .u8 0) (size := 1) (bytes := 1) (by kernel_rfl)⟩
/-- 'string(text)'. -/
theorem own_string {w : World} {base : Nat} {A : Option Addr} {n cap : Nat} {l : List UInt8} (h : Own w base 5 .u8 (.slice A n cap) (u8s l)) (hA : A ≠ none) :
    ∃ R, StrIs R l ∧ (convert 109 9 (.slice A n cap)).run Tryd.prog w = .ok (.string R) w := by
  rcases A with _ | ad
  · exact absurd rfl hA
  · obtain rfl := h.len_eq
    rw [u8s_len]
    refine ⟨⟨l.toArray⟩, rfl, ?_⟩
    refine run_convert_bytes_back w _ _ 5 ad cap l Tryd.underlying109 Tryd.underlying5 Tryd.underlying9 fun j hj => ?_
    obtain ⟨A', c', e, _, _, hr⟩ := h.isS
    injection e with e _ _
    subst e
    obtain ⟨ad', e2, hc⟩ := hr j (l[j].toNat) (by simp [u8s, hj])
    injection e2 with e2
    subst e2
    exact hc
/-- The call ends with a string of these bytes; what was there is as it was. -/
def RetStrB (l : List UInt8) (w : World) (e : Ending) (w' : World) : Prop := ∃ R, e = .returned (.string R) ∧ StrIs R l ∧ Below w.heap.size w w'
/-- A text that is written from its end: p places are left. -/
def TX (p : Nat) (D : List Nat) : List UInt8 := List.replicate p 0 ++ D.reverse.map ch
theorem TX_cut (p : Nat) (D : List Nat) : TX (p + 1) D = List.replicate p 0 ++ (0 :: D.reverse.map ch) := by
  unfold TX
  rw [List.replicate_succ', List.append_assoc]; rfl
theorem TX_step {p d : Nat} {D : List Nat} : (u8s (TX (p + 1) D)).set p (ch d).toNat = u8s (TX p (D ++ [d])) := by
  have l1 : (u8s (List.replicate p 0)).length = p := by simp [u8s]
  rw [TX_cut, u8s_append, List.set_append_right _ _ (by omega), l1, Nat.sub_self]
  simp [u8s, TX]
theorem TX_at (p : Nat) (D : List Nat) : (u8s (TX (p + 1) D))[p]? = some 0 := by
  have l1 : (u8s (List.replicate p 0)).length = p := by simp [u8s]
  rw [TX_cut, u8s_append, List.getElem?_append_right (by omega), l1, Nat.sub_self]
  simp [u8s]
theorem TX_start (n : Nat) : u8s (TX n []) = List.replicate n 0 := by simp [TX, u8s]
theorem fig_at (S : ByteArray) (hS : StrIs S figs) (n : Nat) (h : n < S.size) : (S[n]'h).toNat = (ch n).toNat := by
  have h1 := hS.at_ h
  unfold ch
  rw [List.getD_eq_getElem?_getD, h1]; rfl
theorem pow_step {b i x : Nat} : x / b ^ i / b = x / b ^ (i + 1) := by rw [Nat.div_div_eq_div_mul, Nat.pow_succ]
theorem len1_of_lt {x : Nat} (h : x < 4294967296) : (digs 4294967296 x).length ≤ 1 := digs_len_le (by omega) (by rw [Nat.pow_one]; exact h)
theorem nbits63_of {x : Nat} (h : x < 4294967296) : nbits x ≤ 63 := Nat.le_trans (nbits_le_of (n := 32) h) (by omega)

set_option maxHeartbeats 3200000 in
set_option maxRecDepth 100000 in
theorem written_any (V : Value) (vs : List Value) (xs : List Nat) (sI bI : Int) (size b : Nat) (w : World) (hV : IsV w V vs) (hN : Nums w vs xs) (hl : vs.length ≤ 10000) (hsI : sI = (size : Int)) (hbI : bI = (b : Int)) (hs : size ≤ 32) (hb2 : 2 ≤ b) (hb36 : b ≤ 36) (hx : Lt 4294967296 xs) :
    Calls Tryd.prog 98 #[V, .int .i64 sI, .int .i64 bI] w (RetStrB ((pads b size xs).reverse.map ch) w) := by
  obtain ⟨A, c, rfl, hc, hcells⟩ := hV
  have HC := Lib.hid hcells
  have HN := Lib.hid hN
  have HX : Hid (vs.length = xs.length) := hN.1
  have HLX := Lib.hid hx
  obtain ⟨N, hNe⟩ : ∃ N, N = size * vs.length := ⟨_, rfl⟩
  have hM : sI * (vs.length : Int) = (N : Int) := by rw [hNe, hsI, Int.natCast_mul]
  have HM := Lib.hid hM
  have hN1 : N ≤ 320000 := by rw [hNe]; exact Nat.le_trans (Nat.mul_le_mul hs hl) (by omega)
  have m0 : 0 ≤ sI * (vs.length : Int) := by omega
  have m1 : sI * (vs.length : Int) ≤ 320000 := by omega
  have s0 : 0 ≤ sI := by omega
  have s1 : sI ≤ 32 := by omega
  have b0 : 2 ≤ bI := by omega
  have b1 : bI ≤ 36 := by omega
  have HB := Lib.hid hbI
  have HSI := Lib.hid hsI
  have HNE := Lib.hid hNe
  clear hcells hN hx hM hbI hsI hNe
  go_enter Tryd.func98, Tryd.ntmps98
  go_wp2_with (at_make; refine wpList_make_b rfl _ _ rfl slb N rfl rfl HM.out HM.out (by omega) (Nat.le_refl _) ?_; intro w1 hown1 hb1 hlt1)
  go_loopw [8, 22] (fun vp vi wr => ∃ k p : Nat, k ≤ vs.length ∧ Hid (p + size * k = N) ∧ Own wr w.heap.size 5 .u8 (.slice (some ⟨w.heap.size, 0, none⟩) N N) (u8s (TX p (pads b size (xs.take k)))) ∧ Below w.heap.size w wr ∧ vp = .int .i64 (p : Int) ∧ vi = .int .i64 (k : Int)) (fun _ vi _ => vs.length - (intOf vi).toNat)
  case atStart => exact ⟨0, N, by omega, by show _ = _; omega, by rw [List.take_zero]; show Own _ _ _ _ _ (u8s (TX N [])); rw [TX_start]; exact hown1, hb1, rfl, rfl⟩
  case round =>
    clear hown1 hb1 hlt1
    obtain ⟨k, p, hk, HP, hown, hb, rfl, rfl⟩ := hrel
    by_cases hlt : k < vs.length
    · obtain ⟨u, x, hu, hxx, hv⟩ := HN.out.at_ hlt
      obtain ⟨ad, rfl, hcell⟩ := HC.out k u hu
      have hcell2 := (hb.cell (World.block_lt_of_cell? w _ hcell)).trans hcell
      have hx32 := HLX.out.at hxx
      have hv2 := hv.below hb
      have hl1 := len1_of_lt hx32
      have hn63 := nbits63_of hx32
      obtain ⟨A2, c2, rfl, _⟩ := id hv2
      have hps : size ≤ p := by
        have h1 := HP.out
        have h2 := HNE.out
        have h3 : size * (k + 1) ≤ size * vs.length := Nat.mul_le_mul_left _ hlt
        rw [Nat.mul_add] at h3; omega
      have HXX := Lib.hid hxx
      have HX32 := Lib.hid hx32
      clear hu hcell hv hxx hx32
      go_wp2_with fail
      refine (small_yes _ x _ hv2 (by omega) hn63).mono ?_
      rintro e w' ⟨rfl, rfl⟩
      have x0 : (x : Int) ≤ 4294967295 := by have := HX32.out; omega
      clear hn63 hl1
      go_wp2
      go_loopw [8, 11, 32] (fun vp vc vi wt => ∃ (i q : Nat) (cI : Int), i ≤ size ∧ q + i = p ∧ Hid (cI = ((x / b ^ i : Nat) : Int)) ∧ 0 ≤ cI ∧ cI ≤ 4294967295 ∧ Own wt w.heap.size 5 .u8 (.slice (some ⟨w.heap.size, 0, none⟩) N N) (u8s (TX q (pads b size (xs.take k) ++ pad b i x))) ∧ Below w.heap.size w wt ∧ vp = .int .i64 (q : Int) ∧ vc = .int .u64 cI ∧ vi = .int .i64 (i : Int)) (fun _ _ vi _ => size - (intOf vi).toNat)
      case atStart => exact ⟨0, p, _, by omega, by omega, by show _ = _; rw [Nat.pow_zero, Nat.div_one], by omega, x0, by show Own _ _ _ _ _ (u8s (TX p (_ ++ []))); rw [List.append_nil]; exact hown, hb, rfl, rfl, rfl⟩
      case round =>
        clear hown hb hcell2 hv2 x0
        obtain ⟨i, q, cI, hi, hq, HCI, c0, c1, hown, hb, rfl, rfl, rfl⟩ := hrel
        by_cases hlt2 : i < size
        · have hiI : (i : Int) < sI := by have := HSI.out; omega
          obtain ⟨q, rfl⟩ : ∃ t, q = t + 1 := ⟨q - 1, by omega⟩
          have hqN : q < N := by have := HP.out; omega
          have d0 : 0 ≤ cI % bI := Int.emod_nonneg _ (by omega)
          have d1 : cI % bI < 36 := by have := Int.emod_lt_of_pos cI (show 0 < bI by omega); omega
          have e0 : 0 ≤ cI / bI := Int.ediv_nonneg c0 (by omega)
          have e1 : cI / bI ≤ 4294967295 := by have := Int.ediv_le_self bI c0; omega
          have hc0 := hown.cellAt (TX_at q _)
          have hf0 := hown.frozenAt q
          have HD : Hid ((cI % bI).toNat = x / b ^ i % b) := by show _ = _; rw [HCI.out, HB.out, ← Int.natCast_emod, Int.toNat_natCast]
          have HE : Hid (cI / bI = ((x / b ^ (i + 1) : Nat) : Int)) := by show _ = _; rw [HCI.out, HB.out, ← Int.natCast_ediv, pow_step]
          go_wp2
          go_roundw
          case rel =>
            refine ⟨i + 1, q, _, by omega, by omega, HE, e0, e1, ?_, hb.setCell (Nat.le_refl _) _, by go_num, rfl, by go_num⟩
            rw [pad_snoc, ← List.append_assoc, ← TX_step]
            exact hown.stored' q _ (by have e1 := fig_at ⟨figs.toArray⟩ rfl (cI % bI).toNat (by show _ < 36; omega); exact congrArg Nat.cast (e1.trans (by rw [HD.out])))
          case measure => simp [intOf]; omega
        · have hiI : sI ≤ (i : Int) := by have := HSI.out; omega
          obtain rfl : i = size := by omega
          have HQ : Hid (q + i * (k + 1) = N) := by have := HP.out; show _ = _; rw [Nat.mul_add]; omega
          have e : pads b i (xs.take k) ++ pad b i x = pads b i (xs.take (k + 1)) := by rw [take_step HXX.out, pads_snoc]
          rw [e] at hown
          clear e
          clear hlt2 hq
          go_wp2
          go_roundw
          case rel => exact ⟨k + 1, q, by omega, HQ, hown, hb, rfl, by go_num⟩
          case measure => simp [intOf]; omega
    · obtain rfl : k = vs.length := by omega
      obtain rfl : p = 0 := by have h1 := HP.out; have h2 := HNE.out; omega
      have e : u8s (TX 0 (pads b size (xs.take vs.length))) = u8s ((pads b size xs).reverse.map ch) := by
        rw [List.take_of_length_le (by have := HX.out; omega)]; simp [TX]
      rw [e] at hown
      obtain ⟨R, hR, hconv⟩ := own_string hown (by simp)
      clear e
      go_wp2
      go_ret
      exact ⟨R, rfl, hR, hb⟩
end Go.Proofs.YtcmjbkgcknimlaaDoor.str
namespace Go.Proofs.YtcmjbkgcknimlaaDoor.mem
open Go.RowKit Go.Proofs.YtcmjbkgcknimlaaDoor.num
set_option linter.unusedVariables false
section
variable {P : Program}
/-- 'all = append(all, x, y)', all a row of slices of the call's own. -/
theorem wpList_append_vals {w : World} {ops : Array Oper} {rest : List Oper} {o : Oper} {a : Act} {Q : Exit → Act → World → Prop} (hgd : o.guard = none) (s x : Operand) {t : TypeId}
    (ho : o.op = .call { callee := .builtin .append, args := #[s, x], argTypes := #[t, t] })
    {base : Nat} {e : TypeId} (hT : P.underlying t = some (.slice e)) (hI : ∃ i, P.info? e = some i ∧ i.zero = some (.slice none 0 0) ∧ i.size = 1 ∧ i.bytes = 24) {v u1 u2 : Value} {vs : List Value} (hs : a.eval s = v) (hown : RowV w base e v vs) (hx : a.eval x = .slice (some ⟨w.heap.size, 0, none⟩) 2 2) (hu : u1.oneCell' = true) (hu2 : u2.oneCell' = true)
    (hlen : vs.length ≤ 1000000000) (hbase : base ≤ w.heap.size)
    (h : ∀ v' w', RowV w' base e v' (vs ++ [u1, u2]) → Below base w w' → Hid (Keeps w w' v v') → wpList P ops Q rest (a.put o.dst v') w') : wpList P ops Q (o :: rest) a (w.alloc (.cells #[u1, u2] e)) := by
  obtain ⟨i, hi, hz, hsz, hby⟩ := hI
  refine wpList_append_lies (w.alloc (.cells #[u1, u2] e)) hgd s x t ho base e i (.slice none 0 0) 1 24 hT hi hz hsz hby rfl (by omega) v vs.length vs hs (World.ownsRow.alloc hown _) ⟨w.heap.size, 0, none⟩ 2 2 [u1, u2] hx rfl ?_ ?_ (by omega) (by unfold maxLen; omega) (by omega) (by simp; omega) _ rfl ?_
  · exact World.news_of_block (heap_alloc_new w _)
  · intro u' hu'
    rcases List.mem_cons.1 hu' with rfl | hu'
    · exact hu
    · obtain rfl := List.mem_singleton.1 hu'
      exact hu2
  · intro g cap w' h1 h2 h3 h4
    have h5 : w.grownBy w' v.ownBlock := grown_trans (World.grownBy_alloc w _ _) h2
    refine h _ w' (by unfold RowV; rw [List.length_append]; exact h1) ((Below.refl base w).grown h5 hbase hown.base_le) ?_
    show Keeps _ _ _ _
    intro k q l hq hf
    refine ⟨hq.farKept hf h5, ?_⟩
    rintro ad n c rfl hn
    rcases h3 with h3 | h3
    · have := hf ad n c rfl hn
      rw [h3] at this
      exact this
    · subst h3
      intro e1
      have e2 : ad.block = (w.alloc (.cells #[u1, u2] e)).heap.size := by simpa [Value.ownBlock] using e1
      obtain ⟨A, c', e3, g1, g2, g3⟩ := hq
      injection e3 with e3 e4 e5
      subst e3; subst e4
      obtain ⟨ad', he, hc⟩ := g3 0 _ (List.getElem?_eq_getElem hn)
      injection he with he; subst he
      have h6 := World.block_lt_of_cell? w _ hc
      rw [block_add] at h6
      simp at e2
      omega
end
end Go.Proofs.YtcmjbkgcknimlaaDoor.mem
namespace Go.Proofs.YtcmjbkgcknimlaaDoor.str
open Go.RowKit Go.Proofs.YtcmjbkgcknimlaaDoor.num Go.Proofs.YtcmjbkgcknimlaaDoor.mem Go.Proofs.YtcmjbkgcknimlaaDoor.txt Go.Proofs.YtcmjbkgcknimlaaDoor.nat
set_option linter.unusedVariables false

theorem nums1 {w : World} {v : Value} {x : Nat} (h : IsS w .u64 v (digs 4294967296 x)) : Nums w [v] [x] := by
  refine ⟨rfl, fun i a b ha hb => ?_⟩
  match i, ha, hb with
  | 0, ha, hb => simp at ha hb; subst ha; subst hb; exact h
theorem nums_snoc2 {w w' : World} {v v' u1 u2 : Value} {vs : List Value} {xs : List Nat} {x y : Nat} (h : NumsFar w v vs xs) (hk : Keeps w w' v v') (hu : IsS w .u64 u1 (digs 4294967296 x)) (hf : Far v u1) (hu2 : IsS w .u64 u2 (digs 4294967296 y)) (hf2 : Far v u2) : NumsFar w' v' (vs ++ [u1, u2]) (xs ++ [x] ++ [y]) := by
  have e : vs ++ [u1, u2] = (vs ++ [u1]) ++ [u2] := by simp
  rw [e]
  have h1 : NumsFar w' v' (vs ++ [u1]) (xs ++ [x]) := h.snoc hk hu hf
  refine h1.snoc (w := w') (v := v') ?_ (hk _ _ _ hu2 hf2).1 (hk _ _ _ hu2 hf2).2
  exact fun k u l hq hq2 => ⟨hq, hq2⟩
/-- The call ends with a row of numbers that a parts into, below p. -/
def RetParts (p a : Nat) (w : World) (e : Ending) (w' : World) : Prop := ∃ V vs xs, e = .returned V ∧ IsV w' V vs ∧ Nums w' vs xs ∧ Parts p a xs ∧ Below w.heap.size w w'
theorem rowV_nil (w : World) (base : Nat) (e : TypeId) : RowV w base e (.slice none 0 0) [] := World.ownsRow_nil w base e 1
theorem far_nil (u : Value) : Far (.slice none 0 0) u := by
  rintro ad n c rfl _ h
  simp [Value.ownBlock] at h
theorem one_of_isS {w : World} {k : IntKind} {v : Value} {l : List Nat} (h : IsS w k v l) : v.oneCell' = true := by
  obtain ⟨A, c, rfl, _⟩ := h
  rfl

theorem parts_len {p a m : Nat} {xs : List Nat} (hp : 2 ≤ p) (h : Parts p a xs) (ha : (digs 4294967296 a).length ≤ m) : xs.length ≤ 64 * m + 1 := by
  have h1 : a < 2 ^ (32 * m) := by
    rw [← pow32]
    exact Nat.lt_of_lt_of_le (digs_lt_pow (by omega) a) (Nat.pow_le_pow_right (by omega) ha)
  have := h.len hp h1
  omega
set_option maxHeartbeats 6400000 in
set_option maxRecDepth 100000 in
theorem split_all (n : Nat) : ∀ (a p : Nat) (v u : Value) (w : World), a + 1 ≤ n + p → 2 ≤ p → (digs 4294967296 a).length ≤ 1000 → (digs 4294967296 p).length ≤ 2000 → IsS w .u64 v (digs 4294967296 a) → IsS w .u64 u (digs 4294967296 p) →
    Calls Tryd.prog 99 #[v, u] w (RetParts p a w) := by
  induction n with
  | zero => 
    intro a p v u w hn hp la lp hv hu
    have hlt : a < p := by omega
    obtain ⟨A, c, rfl, _⟩ := id hv
    obtain ⟨A2, c2, rfl, _⟩ := id hu
    have HO : Hid ((-1 : Int) = ord a p) := (ord_lt hlt).symm
    clear hn
    go_enter Tryd.func99, Tryd.ntmps99
    go_wp2_with fail
    refine (cmp_any _ _ a p (-1) _ hv hu HO.out).mono ?_
    rintro e w1 ⟨rfl, b1⟩
    go_wp2
    go_ret
    refine ⟨_, [_], [a], rfl, isV_lit w1 _ [_], (nums1 (hv.below b1)).below (below_alloc (Nat.le_refl _) _), Parts.one hlt, b1.alloc b1.size _⟩
  | succ n ih =>
    intro a p v u w hn hp la lp hv hu
    obtain ⟨A, c, rfl, _⟩ := id hv
    obtain ⟨A2, c2, rfl, _⟩ := id hu
    by_cases hlt : a < p
    · have HO : Hid ((-1 : Int) = ord a p) := (ord_lt hlt).symm
      clear hn ih
      go_enter Tryd.func99, Tryd.ntmps99
      go_wp2_with fail
      refine (cmp_any _ _ a p (-1) _ hv hu HO.out).mono ?_
      rintro e w1 ⟨rfl, b1⟩
      go_wp2
      go_ret
      refine ⟨_, [_], [a], rfl, isV_lit w1 _ [_], (nums1 (hv.below b1)).below (below_alloc (Nat.le_refl _) _), Parts.one hlt, b1.alloc b1.size _⟩
    · have hpa : p ≤ a := by omega
      obtain ⟨t, ht⟩ : ∃ t, t = ord a p := ⟨_, rfl⟩
      have ht0 : ¬ t < 0 := by rw [ht, ord_lt0]; exact hlt
      have HO := Lib.hid ht
      obtain ⟨z, hz⟩ : ∃ z, z = p * p := ⟨_, rfl⟩
      have hz1 : p + 1 ≤ z := by
        have : 2 * p ≤ p * p := Nat.mul_le_mul_right _ hp
        omega
      have lpa : (digs 4294967296 p).length ≤ (digs 4294967296 a).length := digs_len_mono (by omega) hpa
      have lz : (digs 4294967296 z).length ≤ 2000 := by have := mul_len p p; rw [← hz] at this; omega
      have HZ := Lib.hid hz
      have HIH := Lib.hid ih
      clear ht hz ih hlt
      go_enter Tryd.func99, Tryd.ntmps99
      go_wp2_with fail
      refine (cmp_any _ _ a p t _ hv hu HO.out).mono ?_
      rintro e w1 ⟨rfl, b1⟩
      go_wp2_with fail
      refine (square_any _ p _ (hu.below b1) (by omega) z HZ.out).mono ?_
      rintro e w2 ⟨v2, rfl, k2, f2, b2⟩
      have b3 := b1.trans (b2.mono b1.size)
      go_wp2_with fail
      refine (HIH.out a z _ _ _ (by omega) (by omega) la lz (hv.below b3) k2).mono ?_
      rintro e w3 ⟨V, vs, ys, rfl, hV, hN, hP, b4⟩
      have b5 := b3.trans (b4.mono b3.size)
      obtain ⟨A3, c3, rfl, hc3, hcells⟩ := hV
      have HC := Lib.hid hcells
      have HN := Lib.hid hN
      have HX : Hid (vs.length = ys.length) := hN.1
      have hvl : vs.length ≤ 100000 := by
        have h1 := parts_len (by omega) hP la
        have := hN.1; omega
      have HP := Lib.hid hP
      have hu5 := hu.below b5
      clear hcells hN hP hv hu
      go_wp2
      go_loopw [5, 22] (fun vo vi wr => ∃ (k : Nat) (us : List Value) , k ≤ vs.length ∧ us.length = 2 * k ∧ RowV wr w3.heap.size 23 vo us ∧ NumsFar wr vo us (halves p (ys.take k)) ∧ Below w3.heap.size w3 wr ∧ vi = .int .i64 (k : Int)) (fun _ vi _ => vs.length - (intOf vi).toNat)
      case atStart => exact ⟨0, [], by omega, rfl, rowV_nil _ _ _, by rw [List.take_zero]; exact NumsFar.nil _ _, Below.refl _ _, rfl⟩
      case round =>
        obtain ⟨k, us, hk, hul, hrow, hnums, hb3, rfl⟩ := hrel
        by_cases hlt : k < vs.length
        · obtain ⟨u1, y, hu1, hy, hv1⟩ := HN.out.at_ hlt
          obtain ⟨ad, rfl, hcell⟩ := HC.out k u1 hu1
          have hcell2 := (hb3.cell (World.block_lt_of_cell? w3 _ hcell)).trans hcell
          have hyz := HP.out.1.at hy
          have hyl : (digs 4294967296 y).length ≤ 2000 := Nat.le_trans (digs_len_mono (by omega) (Nat.le_of_lt hyz)) lz
          have hv2 := hv1.below hb3
          have hup := hu5.below hb3
          have hH : Hid (halves p (ys.take (k + 1)) = halves p (ys.take k) ++ [y % p] ++ [y / p]) := by show _ = _; rw [take_step hy, halves_snoc]
          have HUL := Lib.hid hul
          have hsz := hb3.size
          obtain ⟨A4, c4, rfl, _⟩ := id hv1
          clear hu1 hy hv1 hcell hyz hul
          go_wp2_with fail
          refine (ddiv_ok _ _ y p _ hv2 hup (by omega) (by omega) (by omega)).mono ?_
          rintro e w4 ⟨q1, q2, rfl, kq1, kq2, fq1, fq2, b6⟩
          have fa := fq1.far hrow.under
          have fb := fq2.far hrow.under
          replace hrow := hrow.below b6
          replace hnums := hnums.below b6
          have hb5 := hb3.trans (b6.mono hb3.size)
          have o1 := one_of_isS kq1
          have o2 := one_of_isS kq2
          obtain ⟨A5, c5, rfl, _⟩ := id kq1
          obtain ⟨A6, c6, rfl, _⟩ := id kq2
          clear hb3 hcell2 hv2 hup
          go_wp2_with (at_builtin; refine wpList_append_vals rfl (.tmp 33) (.tmp 36) rfl Tryd.underlying81 info_nat rfl hrow rfl o2 o1 (by have := HUL.out; omega) hb5.size ?_; intro v2 wb hrow2 hb2 HK)
          have hnums2 := nums_snoc2 hnums HK.out kq2 fb kq1 fa
          rw [← hH.out] at hnums2
          have hb6 := hb5.trans hb2
          go_roundw
          case rel => exact ⟨k + 1, _, by omega, by have := HUL.out; simp; omega, hrow2, hnums2, hb6, by go_num⟩
          case measure => simp [intOf]; omega
        · obtain rfl : k = vs.length := by omega
          rw [List.take_of_length_le (by have := HX.out; omega)] at hnums
          have hPP : Parts p a (halves p ys) := by have h1 := HP.out; rw [HZ.out] at h1; exact Parts.more (by omega) hpa h1
          go_wp2
          go_ret
          exact ⟨_, us, _, rfl, RowV.isV hrow, hnums.1, hPP, b5.trans (hb3.mono b5.size)⟩
end Go.Proofs.YtcmjbkgcknimlaaDoor.str
namespace Go.Proofs.YtcmjbkgcknimlaaDoor.mem
open Go.RowKit Go.Proofs.YtcmjbkgcknimlaaDoor.num
set_option linter.unusedVariables false
section
variable {P : Program}
/-- append to a row of slices that the call made, from whatever slice of slices. -/
theorem run_append_row {w : World} {base : Nat} {t ty e : TypeId} (hT : P.underlying t = some (.slice e)) (hI : ∃ i, P.info? e = some i ∧ i.zero = some (.slice none 0 0) ∧ i.size = 1 ∧ i.bytes = 24) {v : Value} {vs news : List Value} (hown : RowV w base e v vs) {A : Option Addr} {m c : Nat} (hm : m = news.length)
    (hr : ∀ (i : Nat) (u : Value), news[i]? = some u → ∃ ad, A = some ad ∧ w.cell? (ad.add i) = some u) (h1 : ∀ u ∈ news, u.oneCell' = true) (hlen : vs.length + m ≤ 1000000000) (hbase : base ≤ w.heap.size) :
    ∃ v' w', (Builtin.append_ #[t, t] ty #[v, .slice A m c]).run P w = .ok v' w' ∧ RowV w' base e v' (vs ++ news) ∧ w.grownBy w' v.ownBlock ∧ (v'.ownBlock = v.ownBlock ∨ v'.ownBlock = some w.heap.size) := by
  obtain ⟨i, hi, hz, hs, hb⟩ := hI
  subst hm
  rcases A with _ | ad
  · have hn : news = [] := by
      rcases news with _ | ⟨d, n⟩
      · rfl
      · obtain ⟨ad, h, _⟩ := hr 0 d (by simp); cases h
    subst hn
    refine ⟨v, w, ?_, by simpa using hown, World.grownBy.refl _ _, Or.inl rfl⟩
    rcases hown.2 with ⟨rfl, h0⟩ | ⟨g, cap, cur, rfl, _, _, hnc, _⟩
    · simp [Builtin.append_, run_underlying hT, sizeOf, typeInfo, hi, Builtin.lenOf, Builtin.firstCells]
    · simp [Builtin.append_, run_underlying hT, sizeOf, typeInfo, hi, Builtin.lenOf, Builtin.firstCells, hnc, storeCells]
  · have hcells : ∀ j u, news[j]? = some u → w.cell? (ad.add j) = some u := by
      intro j u hu
      obtain ⟨ad', h, hc⟩ := hr j u hu
      injection h with h; subst h; exact hc
    obtain ⟨v', w', g1, g2, g3, _, g5⟩ := run_append_own_at (P := P) w base t ty e i (.slice none 0 0) 1 24 hT hi hz hs hb rfl (by decide) v vs.length vs hown ad news.length c news (by simp) hcells h1 (by unfold maxLen; omega) (by omega) hbase
    exact ⟨v', w', g1, by unfold RowV; rw [List.length_append]; exact g2, g3, g5⟩
theorem keeps_of {w w' : World} {v v' : Value} (hg : w.grownBy w' v.ownBlock) (h3 : v'.ownBlock = v.ownBlock ∨ v'.ownBlock = some w.heap.size) : Keeps w w' v v' := by
  intro k q l hq hf
  refine ⟨hq.farKept hf hg, ?_⟩
  rintro ad n c rfl hn
  rcases h3 with h3 | h3
  · rw [h3]; exact hf ad n c rfl hn
  · rw [h3]
    intro e1
    obtain ⟨A, c', e3, g1, g2, g3⟩ := hq
    injection e3 with e3 e4 e5
    subst e3; subst e4
    obtain ⟨ad', he, hc⟩ := g3 0 _ (List.getElem?_eq_getElem hn)
    injection he with he; subst he
    have h6 := World.block_lt_of_cell? w _ hc
    rw [block_add] at h6
    injection e1 with e1
    omega
theorem wp_append_row {w : World} {o : Oper} {a : Act} {K : Act → World → Prop} {Q : Exit → Act → World → Prop} (s x : Operand) {t : TypeId}
    (ho : o.op = .call { callee := .builtin .append, args := #[s, x], argTypes := #[t, t] })
    {base : Nat} {e : TypeId} (hT : P.underlying t = some (.slice e)) (hI : ∃ i, P.info? e = some i ∧ i.zero = some (.slice none 0 0) ∧ i.size = 1 ∧ i.bytes = 24) {v : Value} {vs news : List Value} (hs : a.eval s = v) (hown : RowV w base e v vs) {A : Option Addr} {m c : Nat} (hx : a.eval x = .slice A m c) (hm : m = news.length)
    (hr : ∀ (i : Nat) (u : Value), news[i]? = some u → ∃ ad, A = some ad ∧ w.cell? (ad.add i) = some u) (h1 : ∀ u ∈ news, u.oneCell' = true) (hlen : vs.length + m ≤ 1000000000) (hbase : base ≤ w.heap.size)
    (h : ∀ v' w', RowV w' base e v' (vs ++ news) → Below base w w' → Hid (Keeps w w' v v') → K (a.put o.dst v') w') : o.wp P a w K Q := by
  obtain ⟨v', w', hrun, h2, h3, h4⟩ := run_append_row (P := P) (ty := o.type) hT hI hown (c := c) hm hr h1 hlen hbase
  unfold Oper.wp execOp
  simp only [ho, resolve, invoke, builtin, Sem.run_bind, Sem.run_pure, Result.andThen_ok, List.map_toArray, List.map_cons, List.map_nil, hs, hx, hrun]
  exact h v' w' h2 ((Below.refl base w).grown h3 hbase hown.base_le) (keeps_of h3 h4)
theorem wpList_append_row {w : World} {ops : Array Oper} {rest : List Oper} {o : Oper} {a : Act} {Q : Exit → Act → World → Prop} (hgd : o.guard = none) (s x : Operand) {t : TypeId}
    (ho : o.op = .call { callee := .builtin .append, args := #[s, x], argTypes := #[t, t] })
    {base : Nat} {e : TypeId} (hT : P.underlying t = some (.slice e)) (hI : ∃ i, P.info? e = some i ∧ i.zero = some (.slice none 0 0) ∧ i.size = 1 ∧ i.bytes = 24) {v : Value} {vs news : List Value} (hs : a.eval s = v) (hown : RowV w base e v vs) {A : Option Addr} {m c : Nat} (hx : a.eval x = .slice A m c) (hm : m = news.length)
    (hr : ∀ (i : Nat) (u : Value), news[i]? = some u → ∃ ad, A = some ad ∧ w.cell? (ad.add i) = some u) (h1 : ∀ u ∈ news, u.oneCell' = true) (hlen : vs.length + m ≤ 1000000000) (hbase : base ≤ w.heap.size)
    (h : ∀ v' w', RowV w' base e v' (vs ++ news) → Below base w w' → Hid (Keeps w w' v v') → wpList P ops Q rest (a.put o.dst v') w') : wpList P ops Q (o :: rest) a w :=
  wpList_plain hgd fun _ hK => wp_append_row s x ho hT hI hs hown hx hm hr h1 hlen hbase fun v' w' h2 h3 h4 => hK _ _ (h v' w' h2 h3 h4)
theorem step_append_row {w : World} {ops : Array Oper} {o : Oper} {a : Act} {K : Act → World → Prop} {Q : Exit → Act → World → Prop} {E : Prop} (hgd : o.guard = none) (s x : Operand) {t : TypeId}
    (ho : o.op = .call { callee := .builtin .append, args := #[s, x], argTypes := #[t, t] })
    {base : Nat} {e : TypeId} (hT : P.underlying t = some (.slice e)) (hI : ∃ i, P.info? e = some i ∧ i.zero = some (.slice none 0 0) ∧ i.size = 1 ∧ i.bytes = 24) {v : Value} {vs news : List Value} (hs : a.eval s = v) (hown : RowV w base e v vs) {A : Option Addr} {m c : Nat} (hx : a.eval x = .slice A m c) (hm : m = news.length)
    (hr : ∀ (i : Nat) (u : Value), news[i]? = some u → ∃ ad, A = some ad ∧ w.cell? (ad.add i) = some u) (h1 : ∀ u ∈ news, u.oneCell' = true) (hlen : vs.length + m ≤ 1000000000) (hbase : base ≤ w.heap.size)
    (h : ∀ v' w', RowV w' base e v' (vs ++ news) → Below base w w' → Hid (Keeps w w' v v') → K (a.put o.dst v') w') :
    if Region.wanted o (yielded ops a.tmps) = true then Oper.wp P o a w K Q else E := by
  have hw : Region.wanted o (yielded ops a.tmps) = true := by simp [Region.wanted, hgd]
  rw [if_pos hw]
  exact wp_append_row s x ho hT hI hs hown hx hm hr h1 hlen hbase h
end
end Go.Proofs.YtcmjbkgcknimlaaDoor.mem
namespace Go.Proofs.YtcmjbkgcknimlaaDoor.str
open Go.RowKit Go.Proofs.YtcmjbkgcknimlaaDoor.num Go.Proofs.YtcmjbkgcknimlaaDoor.mem Go.Proofs.YtcmjbkgcknimlaaDoor.txt Go.Proofs.YtcmjbkgcknimlaaDoor.nat
set_option linter.unusedVariables false

theorem isV_one {w : World} {t : TypeId} {u : Value} : ∀ (i : Nat) (x : Value), [u][i]? = some x → ∃ ad, some (⟨w.heap.size, 0, none⟩ : Addr) = some ad ∧ (w.alloc (.cells #[u] t)).cell? (ad.add i) = some x := by
  intro i x hx
  obtain ⟨A, c, e, _, h⟩ := isV_lit w t [u]
  injection e with e _ _
  obtain ⟨ad, h1, h2⟩ := h i x hx
  exact ⟨ad, by rw [e]; exact h1, h2⟩
theorem add_zero_ (ad : Addr) : ad.add 0 = ad := by unfold Addr.add; simp
/-- The call ends with a row of these numbers. -/
def RetRow (xs : List Nat) (w : World) (e : Ending) (w' : World) : Prop := ∃ V vs, e = .returned V ∧ IsV w' V vs ∧ Nums w' vs xs ∧ Below w.heap.size w w'
theorem Nums.tail2 {w : World} {t1 t2 : Value} {ts : List Value} {z1 z2 : Nat} {zs : List Nat} (h : Nums w (t1 :: t2 :: ts) (z1 :: z2 :: zs)) : IsS w .u64 t1 (digs 4294967296 z1) ∧ IsS w .u64 t2 (digs 4294967296 z2) ∧ Nums w ts zs := by
  refine ⟨h.2 0 _ _ rfl rfl, h.2 1 _ _ rfl rfl, by have := h.1; simp at this; exact this, fun i u x hu hx => h.2 (i + 2) u x (by simpa using hu) (by simpa using hx)⟩
theorem IsV.tail2 {w : World} {ad : Addr} {t1 t2 : Value} {ts : List Value} {n c : Nat} (h : IsV w (.slice (some ad) n c) (t1 :: t2 :: ts)) : IsV w (.slice (if c = 2 then some ad else some (ad.add 2)) (n - 2) (c - 2)) ts := by
  obtain ⟨A, c', e, hc, hcell⟩ := h
  injection e with e1 e2 e3
  subst e1; subst e2; subst e3
  simp at hc
  by_cases h2 : c = 2
  · have : ts = [] := List.length_eq_zero_iff.1 (by omega)
    subst this
    exact ⟨_, _, rfl, by simp, fun i u hu => by simp at hu⟩
  · rw [if_neg h2]
    refine ⟨some (ad.add 2), c - 2, rfl, by omega, fun i u hu => ?_⟩
    obtain ⟨ad', ha, hc2⟩ := hcell (i + 2) u (by simpa using hu)
    injection ha with ha; subst ha
    refine ⟨_, rfl, ?_⟩
    have e : (ad.add 2).add i = ad.add (i + 2) := by
      unfold Addr.add
      by_cases hi : i = 0
      · simp [hi]
      · simp [hi]; omega
    rw [e]; exact hc2

set_option maxHeartbeats 6400000 in
set_option maxRecDepth 100000 in
theorem paired_any (V u : Value) (vs : List Value) (xs : List Nat) (p : Nat) (w : World) (hV : IsV w V vs) (hN : Nums w vs xs) (hu : IsS w .u64 u (digs 4294967296 p)) (hl : vs.length ≤ 1000000) (lp : (digs 4294967296 p).length ≤ 10000) (lx : ∀ x ∈ xs, (digs 4294967296 x).length ≤ 10000) :
    Calls Tryd.prog 108 #[V, u] w (RetRow (pairs p xs) w) := by
  obtain ⟨Au, cu, rfl, _⟩ := id hu
  have HVL := Lib.hid hl
  have HLX := Lib.hid lx
  clear hl lx
  obtain ⟨A0, c0, rfl, _⟩ := id hV
  go_enter Tryd.func108, Tryd.ntmps108
  go_wp2
  go_loopw [0, 5] (fun v0 vo wr => ∃ (ts us : List Value) (zs ys : List Nat), IsV w v0 ts ∧ Nums w ts zs ∧ Hid (ts.length ≤ 1000000 ∧ us.length ≤ 1000000 - ts.length) ∧ Hid (∀ x ∈ zs, (digs 4294967296 x).length ≤ 10000) ∧ RowV wr w.heap.size 23 vo us ∧ NumsFar wr vo us ys ∧ Hid (ys ++ pairs p zs = pairs p xs) ∧ Below w.heap.size w wr) (fun v0 _ _ => lenOf v0)
  case atStart => exact ⟨vs, [], xs, [], hV, hN, ⟨HVL.out, by simp⟩, HLX, rowV_nil _ _ _, NumsFar.nil _ _, by show _ = _; simp, Below.refl _ _⟩
  case round =>
    clear hV hN
    obtain ⟨ts, us, zs, ys, hV, hN, HL, HZ, hrow, hnums, HE, hb⟩ := hrel
    obtain ⟨A, c, rfl, hc, hcells⟩ := id hV
    by_cases hlt : 1 < ts.length
    · obtain ⟨t1, t2, tr, rfl⟩ : ∃ t1 t2 tr, ts = t1 :: t2 :: tr := by
        match ts, hlt with
        | a :: b :: r, _ => exact ⟨a, b, r, rfl⟩
      obtain ⟨z1, z2, zr, rfl⟩ : ∃ z1 z2 zr, zs = z1 :: z2 :: zr := by
        have h1 := hN.1
        match zs, h1 with
        | a :: b :: r, _ => exact ⟨a, b, r, rfl⟩
      obtain ⟨ad, rfl, hc0⟩ := hcells 0 t1 rfl
      obtain ⟨ad1, e1, hc1⟩ := hcells 1 t2 rfl
      injection e1 with e1; subst e1
      obtain ⟨hv1, hv2, hN2⟩ := Nums.tail2 hN
      have hV2 := IsV.tail2 hV
      have lz1 := HZ.out z1 (by simp)
      have lz2 := HZ.out z2 (by simp)
      have lm := mul_len z2 p
      have la := add_len z1 (z2 * p)
      have hk1 := World.block_lt_of_cell? w _ hc0
      have hk2 := World.block_lt_of_cell? w _ hc1
      have hc0r := (hb.cell hk1).trans hc0
      have hc1r := (hb.cell hk2).trans hc1
      rw [add_zero_] at hc0r
      have w1 : IsS wr.drew .u64 t1 (digs 4294967296 z1) := (hv1.below hb).drew
      have w2 : IsS wr.drew .u64 t2 (digs 4294967296 z2) := (hv2.below hb).drew
      have wu : IsS wr.drew .u64 (.slice Au (digs 4294967296 p).length cu) (digs 4294967296 p) := (hu.below hb).drew
      have rowd : RowV wr.drew w.heap.size 23 _ us := hrow
      have numsd : NumsFar wr.drew _ us ys := hnums.below (Below.refl _ _).drew
      obtain ⟨B1, d1, rfl, _⟩ := id hv1
      obtain ⟨B2, d2, rfl, _⟩ := id hv2
      generalize hn : (Value.slice B1 (digs 4294967296 z1).length d1 :: Value.slice B2 (digs 4294967296 z2).length d2 :: tr).length = n at hlt hV2 hc HL ⊢
      have hln : (1 : Int) < (n : Int) := by omega
      have hln2 : 0 < n := by omega
      have hln4 : 1 < n := by omega
      unfold Addr.add at hc1r
      simp only [Nat.one_ne_zero, if_false] at hc1r
      have hln3 : (2 : Int) ≤ (n : Int) := by omega
      have HNn := Lib.hid hn
      clear hcells hc0 hc1 hv1 hv2 hN hV hlt hrow hnums hn
      go_wp2
      go_region_law (first
        | (refine step_append_row rfl (.tmp 9) (.tmp 19) rfl Tryd.underlying81 info_nat (by rfl) (row2.below (below_alloc (Nat.le_refl _) _)) (by rfl) (news := [_]) rfl isV_one (by intro x hx; obtain rfl := List.mem_singleton.1 hx; rfl) (by have := HL.out; simp; omega) (Nat.le_trans bsz2 (by simp)) ?_; intro v3 w5 row3 bb3 HK)
        | (go_simp; go_at_call 47; refine (mul_any _ _ z2 p _ w2 wu (by omega) (by omega) (z2 * p) rfl).mono ?_; rintro e w3 ⟨v1, rfl, k1, f1, b1⟩; have row1 := rowd.below b1; have nums1 := numsd.below b1; have hc0r := (b1.cell (World.block_lt_of_cell? wr _ hc0r)).trans hc0r; have wt1 := w1.below b1)
        | (go_simp; go_at_call 43; refine (add_any _ _ z1 (z2 * p) _ wt1 k1 (z1 + z2 * p) rfl (by omega)).mono ?_; rintro e w4 ⟨v2, rfl, k2, f2, b2⟩; have row2 := row1.below b2; have nums2 := nums1.below b2; have fv2 := f2.far row1.under; obtain ⟨A5, d5, rfl, _⟩ := id k2; have bb2 := b1.trans (b2.mono b1.size); have bsz2 : w.heap.size ≤ w4.heap.size := Nat.le_trans hb.size bb2.size))
      all_goals
        have nums3 := (nums2.below (below_alloc (Nat.le_refl _) (.cells #[_] 23))).snoc HK.out (k2.below (below_alloc (Nat.le_refl _) _)) fv2
        have B4 : Below w.heap.size w w4 := hb.drew.trans (bb2.mono hb.size)
        have B5 : Below w.heap.size w w5 := (B4.alloc B4.size _).trans bb3
        have HE2 : Hid ((ys ++ [z1 + z2 * p]) ++ pairs p zr = pairs p xs) := by
          have h1 := HE.out
          show _ = _
          rw [← h1, pairs]; simp
        have HL2 : Hid (tr.length ≤ 1000000 ∧ (us ++ [Value.slice A5 (digs 4294967296 (z1 + z2 * p)).length d5]).length ≤ 1000000 - tr.length) := by
          have h1 := HL.out
          have h2 := HNn.out
          rw [List.length_cons, List.length_cons] at h2
          rw [List.length_append, List.length_singleton]
          exact ⟨by omega, by omega⟩
        have HZ2 : Hid (∀ x ∈ zr, (digs 4294967296 x).length ≤ 10000) := fun x hx => HZ.out x (by simp [hx])
        have hme : n - 2 < n := by omega
        by_cases hc2 : c = 2
        · rw [if_pos hc2, show c - 2 = 0 from by omega] at hV2
          clear B4 hb bb2 bb3 nums2 row2 k2 fv2 HK HE HL HZ hc0r hc1r
          go_wp2
          go_roundw
          case rel => exact ⟨tr, _, zr, _, hV2, hN2, HL2, HZ2, row3, nums3, HE2, B5⟩
          case measure => exact hme
        · rw [if_neg hc2] at hV2
          clear B4 hb bb2 bb3 nums2 row2 k2 fv2 HK HE HL HZ hc0r hc1r
          go_wp2
          go_roundw
          case rel => exact ⟨tr, _, zr, _, hV2, hN2, HL2, HZ2, row3, nums3, HE2, B5⟩
          case measure => exact hme
    · have hr : ∀ (i : Nat) (x : Value), ts[i]? = some x → ∃ ad, A = some ad ∧ wr.cell? (ad.add i) = some x := by
        intro i x hx
        obtain ⟨ad, h1, h2⟩ := hcells i x hx
        exact ⟨ad, h1, (hb.cell (World.block_lt_of_cell? w _ h2)).trans h2⟩
      have h1c : ∀ x ∈ ts, x.oneCell' = true := by
        intro x hx
        obtain ⟨i, hi⟩ := List.mem_iff_getElem?.1 hx
        have hi2 : i < ts.length := (List.getElem?_eq_some_iff.1 hi).1
        have hzl := hN.1
        exact one_of_isS (hN.2 i x _ hi (List.getElem?_eq_getElem (show i < zs.length by omega)))
      have HN := Lib.hid hN
      have HR := Lib.hid hr
      have H1 := Lib.hid h1c
      obtain ⟨n, hn⟩ : ∃ n, n = ts.length := ⟨_, rfl⟩
      have HNn := Lib.hid hn
      have hln : ¬ (1 : Int) < (n : Int) := by omega
      rw [← hn] at hc hV ⊢
      clear hcells hr h1c hN hV hlt hn
      go_wp2_with (at_builtin; refine wpList_append_row rfl (.tmp 23) (.tmp 24) rfl Tryd.underlying81 info_nat rfl hrow rfl HNn.out HR.out H1.out (by have h1 := HL.out; have h2 := HNn.out; omega) hb.size ?_; intro v3 w5 row3 bb3 HK)
      go_ret
      have hfar : ∀ x ∈ ts, Far _ x := fun x hx => (by
        obtain ⟨i, hi⟩ := List.mem_iff_getElem?.1 hx
        have hi2 : i < ts.length := (List.getElem?_eq_some_iff.1 hi).1
        have hzl := HN.out.1
        exact (HN.out.2 i x _ hi (List.getElem?_eq_getElem (show i < zs.length by omega))).farOld hrow.base_le)
      refine ⟨_, us ++ ts, rfl, RowV.isV row3, ?_, hb.trans bb3⟩
      rw [← HE.out]
      have hN := HN.out
      have hts : ts.length ≤ 1 := by have := HNn.out; omega
      match ts, zs, hN, hts, hfar with
      | [], [], hN, _, _ =>
        rw [List.append_nil]
        show Nums _ _ (ys ++ [])
        rw [List.append_nil]
        exact ⟨hnums.1.1, fun i a x ha hx => (HK.out _ _ _ (hnums.1.2 i a x ha hx) (hnums.2 a (List.mem_of_getElem? ha))).1⟩
      | [t], [z], hN, _, hfar => exact (hnums.snoc HK.out ((hN.2 0 t z rfl rfl).below hb) (hfar t (by simp))).1
      | [], z :: zr, hN, _, _ => exact absurd hN.1 (by simp)
      | [t], [], hN, _, _ => exact absurd hN.1 (by simp)
      | [t], z :: z2 :: zr, hN, _, _ => exact absurd hN.1 (by simp)
      | t :: t2 :: tr, zs, _, h, _ => exact absurd h (by simp)
end Go.Proofs.YtcmjbkgcknimlaaDoor.str
namespace Go.Proofs.YtcmjbkgcknimlaaDoor.mem
open Go.RowKit Go.Proofs.YtcmjbkgcknimlaaDoor.num
set_option linter.unusedVariables false
theorem RowV.stored {w : World} {base : Nat} {e : TypeId} {g n cap : Nat} {vs : List Value} (h : RowV w base e (.slice (some ⟨g, 0, none⟩) n cap) vs) (i : Nat) (u : Value) : RowV (w.setCell ⟨g, i, none⟩ u) base e (.slice (some ⟨g, 0, none⟩) n cap) (vs.set i u) := by
  unfold RowV at h ⊢
  rw [List.length_set]
  have hn : n = vs.length := by
    rcases h.2 with ⟨h1, h0⟩ | ⟨g', cap', cur, h1, _⟩
    · injection h1 with h1 _ _; cases h1
    · injection h1 with _ h1 _
  subst hn
  exact (World.ownsRow.stored h i u).1
theorem RowV.cellAt {w : World} {base : Nat} {e : TypeId} {g n cap : Nat} {vs : List Value} (h : RowV w base e (.slice (some ⟨g, 0, none⟩) n cap) vs) {i : Nat} {u : Value} (hu : vs[i]? = some u) : w.cell? ⟨g, i, none⟩ = some u := by
  have := World.ownsRow.cells h (g := g) rfl i u hu
  have ha : (⟨g, 0, none⟩ : Addr).add i = ⟨g, i, none⟩ := by unfold Addr.add; split <;> simp_all
  rwa [ha] at this
theorem RowV.frozenAt {w : World} {base : Nat} {e : TypeId} {g n cap : Nat} {vs : List Value} (h : RowV w base e (.slice (some ⟨g, 0, none⟩) n cap) vs) (i : Nat) : w.frozen? ⟨g, i, none⟩ = false := by
  unfold RowV at h
  have hn : n = vs.length := by
    rcases h.2 with ⟨h1, h0⟩ | ⟨g', cap', cur, h1, _⟩
    · injection h1 with h1 _ _; cases h1
    · injection h1 with _ h1 _
  subst hn
  exact World.ownsRow.frozenAt h i
section
variable {P : Program}
/-- 'make([]T, n)', T a slice type. -/
theorem wpList_make_row_ {w : World} {ops : Array Oper} {rest : List Oper} {o : Oper} {a : Act} {Q : Exit → Act → World → Prop} (hgd : o.guard = none) (lo co : Operand) {t : TypeId} (ho : o.op = Op.makeSlice t lo co)
    {base : Nat} {e : TypeId} (hT : P.underlying t = some (.slice e)) (hI : ∃ i, P.info? e = some i ∧ i.zero = some (.slice none 0 0) ∧ i.size = 1 ∧ i.bytes = 24) {kl kc : IntKind} {L C : Int} (n : Nat) (hl : a.eval lo = .int kl L) (hc : a.eval co = .int kc C) (hL : L = (n : Int)) (hC : C = (n : Int)) (hn : n ≤ 1000000000) (hbase : base ≤ w.heap.size)
    (h : ∀ w', RowV w' base e (.slice (some ⟨w.heap.size, 0, none⟩) n n) (List.replicate n (.slice none 0 0)) → Below w.heap.size w w' → wpList P ops Q rest (a.put o.dst (.slice (some ⟨w.heap.size, 0, none⟩) n n)) w') : wpList P ops Q (o :: rest) a w := by
  obtain ⟨i, hi, hz, hs, hb⟩ := hI
  refine wpList_make_full w hgd lo co t ho base e i (.slice none 0 0) 1 hT hi hz hs kl kc L C n hl hc hL hC (by rw [hb]; omega) (by unfold maxLen; omega) hbase fun w' h1 h2 => ?_
  refine h w' ?_ ((Below.refl _ w).grown h2 (Nat.le_refl _) (fun g hg => by cases hg))
  have e1 : (madeCells (Value.slice none 0 0).cells (n * 1)).toList = List.replicate n (.slice none 0 0) := by
    rw [Nat.mul_one]; exact toList_madeCells_one _ _
  rw [e1] at h1
  unfold RowV
  rw [List.length_replicate]
  exact h1
end
end Go.Proofs.YtcmjbkgcknimlaaDoor.mem
namespace Go.Proofs.YtcmjbkgcknimlaaDoor.str
open Go.RowKit Go.Proofs.YtcmjbkgcknimlaaDoor.num Go.Proofs.YtcmjbkgcknimlaaDoor.mem Go.Proofs.YtcmjbkgcknimlaaDoor.txt Go.Proofs.YtcmjbkgcknimlaaDoor.nat
set_option linter.unusedVariables false

/-- What the loop over neighbours keeps. -/
def JO (N tot p : Nat) (xs : List Nat) : Prop := Lt p xs ∧ val p xs = tot ∧ 1 ≤ xs.length ∧ (digs 4294967296 p).length ≤ N ∧ (digs 4294967296 p).length * (xs.length - 1) ≤ N
theorem JO.step {N tot p : Nat} {xs : List Nat} (h : JO N tot p xs) (h1 : (pairs p xs).length ≠ 1) : JO N tot (p * p) (pairs p xs) := by
  obtain ⟨g1, g2, g3, g4, g5⟩ := h
  have hl := pairs_len p xs
  have hm := mul_len p p
  obtain ⟨m, hm2⟩ : ∃ m, (pairs p xs).length = m + 2 := ⟨(pairs p xs).length - 2, by omega⟩
  have k1 : (digs 4294967296 (p * p)).length * (m + 1) ≤ N := by
    have a1 : (digs 4294967296 (p * p)).length * (m + 1) ≤ (2 * (digs 4294967296 p).length) * (m + 1) := Nat.mul_le_mul_right _ (by omega)
    have a2 : (digs 4294967296 p).length * (2 * (m + 1)) ≤ (digs 4294967296 p).length * (xs.length - 1) := Nat.mul_le_mul_left _ (by omega)
    have a3 : (2 * (digs 4294967296 p).length) * (m + 1) = (digs 4294967296 p).length * (2 * (m + 1)) := by rw [Nat.mul_comm 2, Nat.mul_assoc]
    omega
  refine ⟨pairs_lt g1, by rw [pairs_val]; exact g2, by omega, ?_, ?_⟩
  · exact Nat.le_trans (Nat.le_mul_of_pos_right _ (by omega)) k1
  · rw [hm2]; exact k1
theorem JO.done {N tot p x : Nat} {xs : List Nat} (h : JO N tot p xs) (h1 : pairs p xs = [x]) : x = tot := by
  have := pairs_val p xs
  rw [h1, h.2.1] at this
  simpa [val] using this
/-- The call ends with a slice that reads as the list; what was there is as it was. -/
def RetSb (k : IntKind) (l : List Nat) (w : World) (e : Ending) (w' : World) : Prop := ∃ v, e = .returned v ∧ IsS w' k v l ∧ Below w.heap.size w w'

set_option maxHeartbeats 6400000 in
set_option maxRecDepth 100000 in
theorem joined_any (v u : Value) (C : List Nat) (p tot N : Nat) (w : World) (hC : IsS w .u64 v C) (hu : IsS w .u64 u (digs 4294967296 p)) (hJ : JO N tot p C) (hN : N ≤ 10000) (hl : C.length ≤ 100000) (h64 : Lt 4294967296 C) :
    Calls Tryd.prog 96 #[v, u] w (RetSb .u64 (digs 4294967296 tot) w) := by
  obtain ⟨A, c, rfl, hc, hm, hr⟩ := id hC
  unfold maxLen at hm
  obtain ⟨Au, cu, rfl, _⟩ := id hu
  have HJ := Lib.hid hJ
  have H64 := Lib.hid h64
  have HR := Lib.hid hr
  clear hJ h64 hr hC
  go_enter Tryd.func96, Tryd.ntmps96
  go_wp2_with (at_make; refine wpList_make_row_ rfl _ _ rfl Tryd.underlying81 info_nat C.length rfl rfl rfl rfl (by omega) (Nat.le_refl _) ?_; intro w1 row1 b1)
  go_loopw [13] (fun vi wr => ∃ (k : Nat) (us : List Value), k ≤ C.length ∧ us.length = k ∧ RowV wr w.heap.size 23 (.slice (some ⟨w.heap.size, 0, none⟩) C.length C.length) (us ++ List.replicate (C.length - k) (.slice none 0 0)) ∧ NumsFar wr (.slice (some ⟨w.heap.size, 0, none⟩) C.length C.length) us (C.take k) ∧ Below w.heap.size w wr ∧ vi = .int .i64 (k : Int)) (fun vi _ => C.length - (intOf vi).toNat)
  case atStart => exact ⟨0, [], by omega, rfl, by simpa using row1, by rw [List.take_zero]; exact NumsFar.nil _ _, b1, rfl⟩
  case round =>
    clear row1 b1
    obtain ⟨k, us, hk, hul, hrow, hnums, hb, rfl⟩ := hrel
    by_cases hlt : k < C.length
    · obtain ⟨ad, d, rfl, hd, hcell⟩ := (HR.out.below hb).at_ hlt
      have hd32 := H64.out.at hd
      have d0 : (d : Int) ≤ 18446744073709551615 := by omega
      have HD := Lib.hid hd
      have HUL := Lib.hid hul
      clear hd hd32 hul
      go_wp2_with fail
      refine (of_any _ d _ rfl d0).mono ?_
      rintro e w2 ⟨v2, rfl, k2, f2, b2⟩
      have row2 := hrow.below b2
      have nums2 := hnums.below b2
      have fv2 := f2.far hrow.under
      have hat : (us ++ List.replicate (C.length - k) (Value.slice none 0 0))[k]? = some (.slice none 0 0) := by
        have := HUL.out
        rw [List.getElem?_append_right (by omega), List.getElem?_replicate, if_pos (by omega)]
      have hc0 := row2.cellAt hat
      have hf0 := row2.frozenAt k
      obtain ⟨A5, c5, rfl, _⟩ := id k2
      have row3 := row2.stored k (.slice A5 (digs 4294967296 d).length c5)
      have hse : (us ++ List.replicate (C.length - k) (Value.slice none 0 0)).set k (.slice A5 (digs 4294967296 d).length c5) = (us ++ [.slice A5 (digs 4294967296 d).length c5]) ++ List.replicate (C.length - (k + 1)) (.slice none 0 0) := by
        have h1 := HUL.out
        rw [List.set_append_right _ _ (by omega), h1, Nat.sub_self, show C.length - k = (C.length - (k + 1)) + 1 from by omega, List.replicate_succ, List.set_cons_zero, List.append_assoc]; rfl
      rw [hse] at row3
      have nums3 := nums2.snoc (keeps_of (grown_set w2 w.heap.size k (.slice A5 (digs 4294967296 d).length c5)) (Or.inl rfl)) k2 fv2
      rw [← take_step HD.out] at nums3
      have hb3 : Below w.heap.size w (w2.setCell ⟨w.heap.size, k, none⟩ (.slice A5 (digs 4294967296 d).length c5)) := (hb.trans (b2.mono hb.size)).setCell (Nat.le_refl _) _
      clear hrow hnums row2 nums2 hse hat
      go_wp2
      go_roundw
      case rel => exact ⟨k + 1, _, by omega, by have := HUL.out; simp; omega, row3, nums3, hb3, by go_num⟩
      case measure => simp [intOf]; omega
    · obtain rfl : k = C.length := by omega
      rw [Nat.sub_self, List.replicate_zero, List.append_nil] at hrow
      rw [List.take_length] at hnums
      have hV := RowV.isV hrow
      have hN2 := hnums.1
      have hu2 := hu.below hb
      have hCl : Hid (C.length ≤ 100000) := hl
      clear hrow hnums hlt hl
      go_wp2
      go_loopw [1, 5] (fun vp vo wt => ∃ (vs : List Value) (xs : List Nat) (q : Nat), IsV wt vo vs ∧ Nums wt vs xs ∧ Hid (vs.length ≤ 100000) ∧ IsS wt .u64 vp (digs 4294967296 q) ∧ Hid (JO N tot q xs) ∧ Below w.heap.size w wt) (fun _ vo _ => lenOf vo)
      case atStart => exact ⟨us, C, p, hV, hN2, by have h1 := hCl.out; show _ ≤ _; omega, hu2, HJ, hb⟩
      case round =>
        clear hV hN2 hu2 hb hu
        obtain ⟨vs, xs, q, hV, hN2, HL, hq, HJ2, hb⟩ := hrel
        obtain ⟨A1, c1, rfl, hc1, _⟩ := id hV
        obtain ⟨A2, c2, rfl, _⟩ := id hq
        have lq := HJ2.out.2.2.2.1
        have hxs := HJ2.out.2.2.1
        have hxl := hN2.1
        have hpl := pairs_len q xs
        have HXL := Lib.hid hxl
        have HPL := Lib.hid hpl
        have HLx : Hid (∀ x ∈ xs, (digs 4294967296 x).length ≤ 10000) := fun x hx => by
          have h1 := HJ2.out.1 x hx
          have h2 := digs_len_mono (B := 4294967296) (by omega) (Nat.le_of_lt h1)
          omega
        clear hxl hpl hc1
        go_wp2_with fail
        refine (paired_any _ _ vs xs q _ hV hN2 hq (by have := HL.out; omega) (by omega) HLx.out).mono ?_
        rintro e w3 ⟨V3, vs3, rfl, hV3, hN3, b3⟩
        have hl3 := hN3.1
        obtain ⟨A3, c3, rfl, hc3, hcells3⟩ := id hV3
        have hb3 := hb.trans (b3.mono hb.size)
        have hq3 := hq.below b3
        by_cases h1 : (pairs q xs).length = 1
        · obtain ⟨x, hx⟩ := List.length_eq_one_iff.1 h1
          obtain ⟨t, ht⟩ := List.length_eq_one_iff.1 (hl3.trans h1)
          subst ht
          have hxt := HJ2.out.done hx
          rw [hx] at hN3
          have ht2 := hN3.2 0 t x rfl rfl
          rw [hxt] at ht2
          obtain ⟨ad, rfl, hcell⟩ := hcells3 0 t rfl
          rw [add_zero_] at hcell
          clear hx hxt hcells3 h1 hl3
          go_wp2
          go_ret
          exact ⟨_, rfl, ht2, hb3⟩
        · have h2 : ¬ vs3.length = 1 := by omega
          have h3 : ((vs3.length : Int) == 1) = false := by rw [beq_eq_false_iff_ne]; omega
          have HJ3 := Lib.hid (HJ2.out.step h1)
          have HVL : Hid (vs3.length < vs.length ∧ vs3.length ≤ 100000) := by
            have g1 := HPL.out
            have g2 := HXL.out
            have g3 := HL.out
            have g4 : 1 ≤ (pairs q xs).length := by omega
            exact ⟨by omega, by omega⟩
          obtain ⟨n3, hn3⟩ : ∃ n, n = vs3.length := ⟨_, rfl⟩
          rw [← hn3] at h2 h3 hV3 hc3 ⊢
          have HN3 := Lib.hid hn3
          obtain ⟨n2, hn2⟩ : ∃ n, n = vs.length := ⟨_, rfl⟩
          have HN2 := Lib.hid hn2
          clear hcells3 hl3 h1 hn3 hc3 hn2
          go_wp2_with fail
          refine (square_any _ q _ hq3 (by omega) (q * q) rfl).mono ?_
          rintro e w4 ⟨v4, rfl, k4, f4, b4⟩
          go_wp2
          go_roundw
          case rel => exact ⟨vs3, _, _, hV3.below b4, hN3.below b4, HVL.out.2, k4, HJ3, hb3.trans (b4.mono hb3.size)⟩
          case measure => have h1 := HVL.out.1; have h2 := HN3.out; simp [lenOf]; omega
end Go.Proofs.YtcmjbkgcknimlaaDoor.str
namespace Go.Proofs.YtcmjbkgcknimlaaDoor.str
open Go.RowKit Go.Proofs.YtcmjbkgcknimlaaDoor.num Go.Proofs.YtcmjbkgcknimlaaDoor.mem Go.Proofs.YtcmjbkgcknimlaaDoor.txt Go.Proofs.YtcmjbkgcknimlaaDoor.nat
set_option linter.unusedVariables false

/-- The call ends with a string of these bytes, and an error; what was there is as it was. -/
def RetStrE (l : List UInt8) (x : Int) (w : World) (e : Ending) (w' : World) : Prop := ∃ R, e = .returned (.tuple #[.string R, .int .i64 x]) ∧ StrIs R l ∧ Below w.heap.size w w'
theorem strNil : StrIs ⟨#[]⟩ [] := rfl
set_option maxHeartbeats 400000 in
theorem din_no (v : Value) (b : Int) (w : World) (h : b < 2 ∨ 36 < b) :
    Calls Tryd.prog 80 #[v, .int .i64 b] w (RetStrE [] 2 w) := by
  go_enter Tryd.func80, Tryd.ntmps80
  go_wp2_with fail
  refine (isBase_no b _ h).mono ?_
  rintro e w' ⟨rfl, rfl⟩
  go_wp2
  go_ret2
  exact ⟨_, rfl, strNil, Below.refl _ _⟩

set_option maxHeartbeats 3200000 in
set_option maxRecDepth 100000 in
theorem din_ok (v : Value) (a : Nat) (bI : Int) (b : Nat) (w : World) (h : IsS w .u64 v (digs 4294967296 a)) (hl : (digs 4294967296 a).length ≤ 150) (hbI : bI = (b : Int)) (h2 : 2 ≤ b) (h36 : b ≤ 36) :
    Calls Tryd.prog 80 #[v, .int .i64 bI] w (RetStrE (txt b a) 0 w) := by
  obtain ⟨A, c, rfl, _⟩ := id h
  have HB := Lib.hid hbI
  have i2 : 2 ≤ bI := by omega
  have i36 : bI ≤ 36 := by omega
  clear hbI
  go_enter Tryd.func80, Tryd.ntmps80
  go_wp2_with fail
  refine (isBase_yes bI _ i2 i36).mono ?_
  rintro e w' ⟨rfl, rfl⟩
  go_wp2_with fail
  refine (stretch_any bI b _ HB.out h2 h36).mono ?_
  rintro e w' ⟨k, p, rfl, hS, rfl⟩
  obtain ⟨hk1, hk32, hp, hp32⟩ := hS
  have hp2 : 2 ≤ p := by
    rw [hp]
    have : b ^ 1 ≤ b ^ k := Nat.pow_le_pow_right (by omega) hk1
    rw [Nat.pow_one] at this; omega
  have HP := Lib.hid hp
  have H32 := Lib.hid hp32
  have hpu : (p : Int) ≤ 18446744073709551615 := by omega
  have lp1 := len1_of_lt hp32
  clear hp hp32
  go_wp2_with fail
  refine (of_any _ p _ rfl hpu).mono ?_
  rintro e w1 ⟨v1, rfl, k1, f1, b1⟩
  go_wp2_with fail
  refine (split_all (a + 1) a p _ v1 _ (by omega) hp2 (by omega) (by omega) (h.below b1) k1).mono ?_
  rintro e w2 ⟨V, vs, xs, rfl, hV, hN, hP, b2⟩
  have B2 := b1.trans (b2.mono b1.size)
  have hvl : vs.length ≤ 10000 := by have h1 := parts_len hp2 hP hl; have h3 := hN.1; omega
  have hx32 : Lt 4294967296 xs := hP.1.more (by have := H32.out; omega)
  have HPP := Lib.hid hP
  clear hP
  go_wp2_with fail
  refine (written_any V vs xs (k : Int) bI k b _ hV hN hvl rfl HB.out hk32 h2 h36 hx32).mono ?_
  rintro e w3 ⟨R, rfl, hR, b3⟩
  have B3 := B2.trans (b3.mono B2.size)
  go_wp2_with fail
  refine (trimLeft_any R _ _ hR).mono ?_
  rintro e w' ⟨R2, rfl, hR2, rfl⟩
  have hval : val b (pads b k xs) = a := by
    have h1 := HPP.out.1
    have h3 := HPP.out.2.1
    rw [HP.out] at h1 h3
    rw [pads_val h1, h3]
  rw [strip h2 h36 (pads_lt (by omega) k xs), hval] at hR2
  clear hval hR hV hN hx32
  by_cases h0 : a = 0
  · have e0 : (digs b a).reverse.map ch = [] := by rw [h0, digs_zero]; rfl
    rw [e0] at hR2
    have hcmp : R2.toList = [] := by rw [Lib.toList_data]; exact hR2
    have HT : Hid (txt b a = [48]) := by show _ = _; rw [h0, txt_zero]
    clear e0 h0
    go_wp2
    go_ret2
    exact ⟨_, rfl, by rw [HT.out]; rfl, B3⟩
  · have HT : Hid (txt b a = (digs b a).reverse.map ch) := txt_pos h0
    rw [← HT.out] at hR2
    have hne : R2.toList ≠ [] := by rw [Lib.toList_data, hR2]; exact txt_ne h2 a
    have hcmp : (R2.toList == []) = false := by rw [beq_eq_false_iff_ne]; exact hne
    clear h0
    go_wp2
    go_ret2
    exact ⟨_, rfl, hR2, B3⟩

set_option maxHeartbeats 400000 in
theorem print_any (v : Value) (a : Nat) (w : World) (h : IsS w .u64 v (digs 4294967296 a)) (hl : (digs 4294967296 a).length ≤ 150) :
    Calls Tryd.prog 64 #[v] w (RetStrB (txt 10 a) w) := by
  go_enter Tryd.func64, Tryd.ntmps64
  go_wp2_with fail
  refine (din_ok v a 10 10 _ h hl rfl (by omega) (by omega)).mono ?_
  rintro e w' ⟨R, rfl, hR, b⟩
  go_wp2
  go_ret
  exact ⟨R, rfl, hR, b⟩
end Go.Proofs.YtcmjbkgcknimlaaDoor.str
namespace Go.Proofs.YtcmjbkgcknimlaaDoor.str
open Go.RowKit Go.Proofs.YtcmjbkgcknimlaaDoor.num Go.Proofs.YtcmjbkgcknimlaaDoor.mem Go.Proofs.YtcmjbkgcknimlaaDoor.txt Go.Proofs.YtcmjbkgcknimlaaDoor.nat
set_option linter.unusedVariables false

/-- What a text is by a base: its number, or refused. -/
def FromR (b : Nat) (l : List UInt8) (x : Nat) (e : Int) : Prop := (okS b l ∧ x = numS b l ∧ e = 0) ∨ (¬ okS b l ∧ x = 0 ∧ e = 5)
theorem FromR.one {b : Nat} {l : List UInt8} {x y : Nat} {e f : Int} (h : FromR b l x e) (k : FromR b l y f) : y = x ∧ f = e := by
  rcases h with ⟨h1, h2, h3⟩ | ⟨h1, h2, h3⟩ <;> rcases k with ⟨k1, k2, k3⟩ | ⟨k1, k2, k3⟩
  · exact ⟨by rw [h2, k2], by rw [h3, k3]⟩
  · exact absurd h1 k1
  · exact absurd k1 h1
  · exact ⟨by rw [h2, k2], by rw [h3, k3]⟩
/-- The call ends with a slice that reads as the list, and an error; what was there is as it was. -/
def RetNE (l : List Nat) (x : Int) (w : World) (e : Ending) (w' : World) : Prop := ∃ v, e = .returned (.tuple #[v, .int .i64 x]) ∧ IsS w' .u64 v l ∧ Below w.heap.size w w'
/-- The same, the number that the text is. -/
def RetFr (b : Nat) (l : List UInt8) (w : World) (e : Ending) (w' : World) : Prop := ∃ x en, FromR b l x en ∧ RetNE (digs 4294967296 x) en w e w'
theorem nil_digs (w : World) : IsS w .u64 (.slice none 0 0) (digs 4294967296 0) := by rw [digs_zero]; exact isNil w .u64
set_option maxHeartbeats 400000 in
theorem dfrom_no (S : ByteArray) (b : Int) (w : World) (h : b < 2 ∨ 36 < b) :
    Calls Tryd.prog 79 #[.string S, .int .i64 b] w (RetNE [] 2 w) := by
  go_enter Tryd.func79, Tryd.ntmps79
  go_wp2_with fail
  refine (isBase_no b _ h).mono ?_
  rintro e w' ⟨rfl, rfl⟩
  go_wp2
  go_ret2
  exact ⟨_, rfl, isNil _ _, Below.refl _ _⟩
theorem rev_at {l : List UInt8} {k j : Nat} {c : UInt8} (h : l[k]? = some c) (hj : j + k + 1 = l.length) : (l.reverse.map dv)[j]? = some (dv c) := by
  have hk : k < l.length := (List.getElem?_eq_some_iff.1 h).1
  rw [List.getElem?_map, List.getElem?_reverse (by omega), show l.length - 1 - j = k from by omega, h]; rfl
theorem own_iterAt {w : World} {base : Nat} {e : TypeId} {kd : IntKind} {v : Value} {l : List Nat} {k : Nat} {s : ByteArray} {pos : Nat} (h : Own w base e kd v l) (hk : w.heap[k]? = some (.stringIter s pos)) (pos' : Nat) : Own (w.iterAt k s pos') base e kd v l := by
  obtain ⟨h1, h2⟩ := h
  refine ⟨h1, ?_⟩
  rcases h2 with h2 | ⟨g, cap, cur, a, b, c, d⟩
  · exact .inl h2
  · refine .inr ⟨g, cap, cur, a, b, ?_, d⟩
    rw [Lib.iterAt_other _ _ _ _ _ (by rintro rfl; rw [hk] at c; cases c)]; exact c
theorem iter_kept {w w' : World} {k : Nat} {s : ByteArray} {pos : Nat} (h : w.heap[k]? = some (.stringIter s pos)) (hb : Below w.heap.size w w') : w'.heap[k]? = some (.stringIter s pos) := by
  rw [hb.block k (Array.getElem?_eq_some_iff.1 h).1]; exact h
theorem iter_set {w : World} {k : Nat} {s : ByteArray} {pos : Nat} (h : w.heap[k]? = some (.stringIter s pos)) {g : Nat} (hg : g ≠ k) (o : Nat) (u : Value) : (w.setCell ⟨g, o, none⟩ u).heap[k]? = some (.stringIter s pos) := by
  rw [(grown_set w g o u).block k (Array.getElem?_eq_some_iff.1 h).1 (by intro e; injection e with e; exact hg e.symm)]; exact h
theorem iterPos_of {w : World} {k : Nat} {s : ByteArray} {p : Nat} (h : w.heap[k]? = some (.stringIter s p)) : w.iterPos k = p := by simp [World.iterPos, h]
theorem not_ok {b : Nat} {l : List UInt8} {k : Nat} {c : UInt8} (h : l[k]? = some c) (hc : ¬ dv c < b) : ¬ okS b l := fun h2 => hc (h2.2 c (List.mem_of_getElem? h))
theorem dv_high {c : UInt8} (h : 128 ≤ c.toNat) : dv c = 99 := by unfold dv; rw [if_neg (by omega), if_neg (by omega)]
theorem dvi_low (b : Nat) (c : UInt8) (h : c.toNat < 128) : dvi b (c.toNat : Int) = if dv c < b then (dv c : Int) else -1 := by
  unfold dvi
  have e : ((c.toNat : Int)).toNat.toUInt8 = c := by rw [Int.toNat_natCast]; simp [Nat.toUInt8]
  rw [e]
  by_cases hd : dv c < b
  · rw [if_pos ⟨by omega, hd⟩, if_pos hd]
  · rw [if_neg (fun h => hd h.2), if_neg hd]
theorem dvi_high (b : Nat) (r : Int) (h : 128 ≤ r) : dvi b r = -1 := if_neg (fun h2 => by omega)

set_option maxHeartbeats 400000 in
theorem dfrom_nil (S : ByteArray) (b : Int) (w : World) (hS : StrIs S []) (h2 : 2 ≤ b) (h36 : b ≤ 36) :
    Calls Tryd.prog 79 #[.string S, .int .i64 b] w (RetNE [] 5 w) := by
  have hcmp : S.toList = [] := by rw [Lib.toList_data]; exact hS
  go_enter Tryd.func79, Tryd.ntmps79
  go_wp2_with fail
  refine (isBase_yes b _ h2 h36).mono ?_
  rintro e w' ⟨rfl, rfl⟩
  go_wp2
  go_ret2
  exact ⟨_, rfl, isNil _ _, Below.refl _ _⟩

set_option maxHeartbeats 6400000 in
set_option maxRecDepth 100000 in
theorem dfrom_ok (S : ByteArray) (l : List UInt8) (bI : Int) (b : Nat) (w : World) (hS : StrIs S l) (hl : l.length ≤ 1000) (hne : l ≠ []) (hbI : bI = (b : Int)) (h2 : 2 ≤ b) (h36 : b ≤ 36) :
    Calls Tryd.prog 79 #[.string S, .int .i64 bI] w (RetFr b l w) := by
  have HB := Lib.hid hbI
  have i2 : 2 ≤ bI := by omega
  have i36 : bI ≤ 36 := by omega
  have hpos : 0 < l.length := List.length_pos_iff.2 hne
  have hne2 : S.toList ≠ [] := by rw [Lib.toList_data, hS]; exact hne
  have hcmp : (S.toList == []) = false := by rw [beq_eq_false_iff_ne]; exact hne2
  have HSZ := Lib.hid hS.size
  have hs1 : S.size ≤ 1000 := by have := hS.size; omega
  have hs0 : 0 < S.size := by have := hS.size; omega
  clear hbI hne hl hpos
  go_enter Tryd.func79, Tryd.ntmps79
  go_wp2_with fail
  refine (isBase_yes bI _ i2 i36).mono ?_
  rintro e w' ⟨rfl, rfl⟩
  go_wp2_with fail
  refine (stretch_any bI b _ HB.out h2 h36).mono ?_
  rintro e w' ⟨k, p, rfl, hK, rfl⟩
  obtain ⟨hk1, hk32, hp, hp32⟩ := hK
  have HP := Lib.hid hp
  have H32 := Lib.hid hp32
  have hpu : (p : Int) ≤ 18446744073709551615 := by omega
  obtain ⟨n, hn⟩ : ∃ n, n = (S.size + k - 1) / k := ⟨_, rfl⟩
  have hnI : ((S.size : Int) + (k : Int) - 1) / (k : Int) = (n : Int) := by
    rw [hn, show (S.size : Int) + (k : Int) - 1 = ((S.size + k - 1 : Nat) : Int) from by omega]
    exact (Int.natCast_ediv _ _).symm
  have hnk : n * k ≤ S.size + k - 1 := by rw [hn]; exact Nat.div_mul_le_self _ _
  have hnk2 : S.size ≤ n * k := by
    have h1 := Nat.lt_div_mul_add (a := S.size + k - 1) (b := k) (by omega)
    rw [← hn] at h1; omega
  have hn1000 : n ≤ 1100 := by
    rw [hn]
    refine Nat.le_trans (Nat.div_le_self _ _) ?_
    omega
  have HNI := Lib.hid hnI
  have HNK := Lib.hid (And.intro hnk hnk2)
  clear hp hp32 hn hnI hnk hnk2
  go_wp2_with (at_make; refine wpList_make_rd rfl _ _ rfl sl22 n rfl rfl HNI.out HNI.out (by omega) (Nat.le_refl _) ?_; intro w1 hown1 hb1 hlt1)
  obtain ⟨I, hI⟩ : ∃ I, I = w1.heap.size := ⟨_, rfl⟩
  have hgI : w.heap.size < I := by omega
  have hit0 : (w1.iter S 0).heap[I]? = some (.stringIter S 0) := by rw [hI]; exact World.iter_heap w1 S 0
  have hown0 : Own (w1.iter S 0) w.heap.size 74 .u64 (.slice (some ⟨w.heap.size, 0, none⟩) n n) (List.replicate n 0) := hown1.alloc _
  have hb0 : Below w.heap.size w (w1.iter S 0) := hb1.alloc hb1.size _
  obtain ⟨L, hLe⟩ : ∃ L, L = l.reverse.map dv := ⟨_, rfl⟩
  have hLl : L.length = S.size := by rw [hLe]; simp; have := HSZ.out; omega
  have hST0 : ST b k L S.size (List.replicate n 0) := by
    rw [← hLl]
    refine ST.start n ?_
    have := HNK.out; omega
  have HST0 := Lib.hid hST0
  have HLe := Lib.hid hLe
  have HLl := Lib.hid hLl
  rw [← hI]
  generalize w1.iter S 0 = W0 at hit0 hown0 hb0 ⊢
  clear hST0 hLe hLl hI hown1 hb1 hlt1
  go_loopw [9] (fun v9 wr => ∃ (i m : Nat) (C : List Nat), i + m = S.size ∧ wr.heap[I]? = some (.stringIter S i) ∧ Own wr w.heap.size 74 .u64 (.slice (some ⟨w.heap.size, 0, none⟩) n n) C ∧ Hid (C.length = n) ∧ Hid (ST b k L m C) ∧ Hid (Lt b (L.drop m)) ∧ Below w.heap.size w wr) (fun _ wr => S.size - wr.iterPos I)
  case atStart => exact ⟨0, S.size, _, by omega, hit0, hown0, by show _ = _; simp, HST0, by have h1 := HLl.out; show Lt b _; rw [List.drop_of_length_le (by omega)]; exact Lt.nil b, hb0⟩
  case round =>
    clear hit0 hown0 hb0
    obtain ⟨i, m, C, him, hit, hown, HCl, HST, HLT, hb⟩ := hrel
    have hpos0 := iterPos_of hit
    have hIlt : I < wr.heap.size := (Array.getElem?_eq_some_iff.1 hit).1
    by_cases hp : i < S.size
    · obtain ⟨d, hd⟩ : ∃ d, d = Utf8.decode S i := ⟨_, rfl⟩
      have hnx : ∀ ty, (Instr.next (.pointer (some ⟨I, 0, none⟩)) true ty).run Tryd.prog wr = _ := fun ty => Lib.run_next_any_at wr I S i ty hit hp
      have hat := hS.at_ hp
      rw [← hd] at hnx
      have hit2 := Lib.iterAt_heap wr I S i (i + d.2) hit
      have hb2 := Lib.below_iterAt hb (k := I) (by omega) S (i + d.2)
      have hown2 := own_iterAt hown hit (i + d.2)
      obtain ⟨W1, hW1⟩ : ∃ W1, W1 = wr.iterAt I S (i + d.2) := ⟨_, rfl⟩
      rw [← hW1] at hnx hit2 hb2 hown2
      have hr1 : d.1 ≤ 2147483647 := by rw [hd]; exact decode_le S i
      have hr0 : (0 : Int) ≤ (d.1 : Int) := by omega
      have hr2 : (d.1 : Int) ≤ 2147483647 := by omega
      have hfig : StrIs (ByteArray.extract ⟨figs.toArray⟩ 0 bI.toNat) (figs.take b) := by rw [HB.out, Int.toNat_natCast]; exact (StrIs.mk figs).to_ b
      by_cases hgood : (S[i]'hp).toNat < 128 ∧ dv (S[i]'hp) < b
      · obtain ⟨hlow, hdv⟩ := hgood
        have hdec : d = ((S[i]'hp).toNat, 1) := by rw [hd]; exact decode_ascii S i hp hlow
        have HT : Hid (((dv (S[i]'hp) : Nat) : Int) = dvi b (d.1 : Int)) := by show _ = _; rw [hdec, dvi_low b _ hlow, if_pos hdv]
        have hd2 : d.2 = 1 := by rw [hdec]
        rw [hd2] at hit2
        obtain ⟨dg, hdg⟩ : ∃ dg, dg = dv (S[i]'hp) := ⟨_, rfl⟩
        rw [← hdg] at hdv HT
        obtain ⟨m, rfl⟩ : ∃ t, m = t + 1 := ⟨m - 1, by omega⟩
        have hLat : L[m]? = some dg := by rw [HLe.out, hdg]; exact rev_at hat (by have := HSZ.out; omega)
        obtain ⟨q, hq⟩ : ∃ q, q = m / k := ⟨_, rfl⟩
        have hqn : q < n := by
          rw [hq]
          refine Nat.div_lt_of_lt_mul ?_
          have h1 := HNK.out.2
          rw [Nat.mul_comm]; omega
        have hqI : ((S.size : Int) - 1 - (i : Int)) / (k : Int) = (q : Int) := by
          rw [hq, show (S.size : Int) - 1 - (i : Int) = ((m : Nat) : Int) from by omega]
          exact (Int.natCast_ediv _ _).symm
        obtain ⟨cq, hcq⟩ : ∃ c, C[q]? = some c := ⟨_, List.getElem?_eq_getElem (by have := HCl.out; omega)⟩
        have hcb : cq < 4294967296 := by
          have h1 := HST.out.bound (by omega) HLT.out hcq
          rw [← HP.out] at h1
          have := H32.out; omega
        have HS2 : Hid (ST b k L m (C.set q (cq * b + dg))) := by
          show ST b k L m _
          rw [hq] at hcq ⊢
          exact HST.out.step (by omega) hLat hcq
        have HLT2 : Hid (Lt b (L.drop m)) := Lt.dropStep HLT.out hLat hdv
        obtain ⟨cI, hcI⟩ : ∃ cI : Int, cI = (cq : Int) := ⟨_, rfl⟩
        obtain ⟨tI, htI⟩ : ∃ tI : Int, tI = (dg : Int) := ⟨_, rfl⟩
        rw [← htI] at HT
        have c0 : 0 ≤ cI := by omega
        have c1 : cI ≤ 4294967295 := by omega
        have t0 : 0 ≤ tI := by omega
        have t1 : tI ≤ 36 := by omega
        have m0 : (0 : Int) ≤ cI * bI := Int.mul_nonneg c0 (by omega)
        have m1 : cI * bI ≤ 154618822620 := Int.le_trans (Int.mul_le_mul_of_nonneg_right c1 (by omega)) (by omega)
        have HX : Hid (cI * bI + tI = ((cq * b + dg : Nat) : Int)) := by show _ = _; rw [hcI, htI, HB.out, Int.natCast_add, Int.natCast_mul]
        have HCQ := Lib.hid hcq
        have HCI := Lib.hid hcI
        have HQI := Lib.hid hqI
        have hsize := hb2.size
        have HPOS := Lib.hid hpos0
        clear hdec hd2 hdg hLat hq hcb hcI htI hcq hqI hd hat hW1 hit hown hb hpos0
        go_wp2_with fail
        refine (idxFig_any _ b _ tI _ hfig h36 hr0 hr2 HT.out).mono ?_
        rintro e w3 ⟨rfl, b3⟩
        have hit3 := iter_kept hit2 b3
        have hown3 := hown2.below b3
        have hb3 := hb2.trans (b3.mono hb2.size)
        have hc0 := hown3.cellAt HCQ.out
        rw [← HCI.out] at hc0
        have hf0 := hown3.frozenAt q
        have hown4 := hown3.stored' q (cq * b + dg) HX.out
        have hit4 := iter_set hit3 (g := w.heap.size) (by omega) q (.int .u64 (cI * bI + tI))
        have hb4 : Below w.heap.size w (w3.setCell ⟨w.heap.size, q, none⟩ (.int .u64 (cI * bI + tI))) := hb3.setCell (Nat.le_refl _) _
        clear hown3 hown2 hit2 hit3 hb2 hb3
        go_upto_region 14 with (fail)
        rw [HQI.out]
        go_wp2
        go_roundw
        case rel => exact ⟨i + 1, m, _, by omega, hit4, hown4, by have := HCl.out; show _ = _; simp; omega, HS2, HLT2, hb4⟩
        case measure => rw [iterPos_of hit4, HPOS.out]; omega
      · have HT : Hid ((-1 : Int) = dvi b (d.1 : Int)) := by
          show _ = _
          by_cases hlow : (S[i]'hp).toNat < 128
          · have hdec : d = ((S[i]'hp).toNat, 1) := by rw [hd]; exact decode_ascii S i hp hlow
            rw [hdec, dvi_low b _ hlow, if_neg (fun h => hgood ⟨hlow, h⟩)]
          · have hh := (decode_high S i hp (by omega)).1
            rw [← hd] at hh
            rw [dvi_high b _ (by omega)]
        have hno : ¬ okS b l := by
          refine not_ok hat fun h => ?_
          by_cases hlow : (S[i]'hp).toNat < 128
          · exact hgood ⟨hlow, h⟩
          · have := dv_high (c := S[i]'hp) (by omega); omega
        clear hd hat hgood hW1 hit hown hb hpos0
        go_wp2_with fail
        refine (idxFig_any _ b _ (-1) _ hfig h36 hr0 hr2 HT.out).mono ?_
        rintro e w3 ⟨rfl, b3⟩
        go_wp2
        go_ret2
        exact ⟨0, 5, .inr ⟨hno, rfl, rfl⟩, _, rfl, nil_digs _, hb2.trans (b3.mono hb2.size)⟩
    · obtain rfl : m = 0 := by omega
      have hnx : ∀ ty, (Instr.next (.pointer (some ⟨I, 0, none⟩)) true ty).run Tryd.prog wr = _ := fun ty => Lib.run_next_end_at wr I S i ty hit hp
      have hLT := HLT.out
      rw [List.drop_zero] at hLT
      obtain ⟨g1, g2⟩ := ST.done (by omega) (by omega) hLT HST.out (by have h1 := HLl.out; have h3 := HCl.out; have h4 := HNK.out; rw [h3]; omega)
      rw [← HP.out] at g1 g2
      have htot : val p C = numS b l := by rw [g2, HLe.out]; rfl
      have hok : okS b l := by
        refine ⟨fun h0 => ?_, fun c hc => ?_⟩
        · have h1 := HSZ.out; rw [h0, List.length_nil] at h1; omega
        · refine hLT (dv c) ?_
          rw [HLe.out]
          exact List.mem_map.2 ⟨c, List.mem_reverse.2 hc, rfl⟩
      have lp1 := len1_of_lt H32.out
      have hCn := HCl.out
      have hn1 : 1 ≤ n := by
        rcases Nat.eq_zero_or_pos n with h0 | h0
        · have h1 := HNK.out.2; rw [h0] at h1; omega
        · exact h0
      have hJ : JO 2000 (numS b l) p C := by
        refine ⟨g1, htot, by omega, by omega, ?_⟩
        have : (digs 4294967296 p).length * (C.length - 1) ≤ 1 * (C.length - 1) := Nat.mul_le_mul_right _ lp1
        omega
      have h64 : Lt 4294967296 C := g1.more (by have := H32.out; omega)
      have HJ := Lib.hid hJ
      have hCl : C.length ≤ 100000 := by omega
      have kS := hown.isS
      clear hLT g1 g2 htot hJ hCn hit hpos0 hown
      go_wp2_with fail
      refine (of_any _ p _ rfl hpu).mono ?_
      rintro e w3 ⟨v1, rfl, k1, f1, b3⟩
      go_wp2_with fail
      refine (joined_any _ v1 C p (numS b l) 2000 _ (kS.below b3) k1 HJ.out (by omega) hCl h64).mono ?_
      rintro e w4 ⟨v2, rfl, k2, b4⟩
      have B3 := hb.trans (b3.mono hb.size)
      go_wp2
      go_ret2
      exact ⟨_, 0, .inl ⟨hok, rfl, rfl⟩, _, rfl, k2, B3.trans (b4.mono B3.size)⟩

/-- From, at every text of some bytes. -/
theorem dfrom_any (S : ByteArray) (l : List UInt8) (bI : Int) (b : Nat) (w : World) (hS : StrIs S l) (hl : l.length ≤ 1000) (hbI : bI = (b : Int)) (h2 : 2 ≤ b) (h36 : b ≤ 36) :
    Calls Tryd.prog 79 #[.string S, .int .i64 bI] w (RetFr b l w) := by
  by_cases hne : l = []
  · subst hne
    refine (dfrom_nil S bI w hS (by omega) (by omega)).mono ?_
    intro e w' h
    rw [← digs_zero 4294967296] at h
    exact ⟨0, 5, .inr ⟨fun h1 => h1.1 rfl, rfl, rfl⟩, h⟩
  · exact dfrom_ok S l bI b w hS hl hne hbI h2 h36
set_option maxHeartbeats 400000 in
theorem parse_any (S : ByteArray) (l : List UInt8) (w : World) (hS : StrIs S l) (hl : l.length ≤ 1000) :
    Calls Tryd.prog 62 #[.string S] w (RetFr 10 l w) := by
  go_enter Tryd.func62, Tryd.ntmps62
  go_wp2_with fail
  refine (dfrom_any S l 10 10 _ hS hl rfl (by omega) (by omega)).mono ?_
  rintro e w1 ⟨x, en, hF, v, rfl, hv, b⟩
  go_wp2
  go_ret2
  exact ⟨x, en, hF, v, rfl, hv, b⟩
end Go.Proofs.YtcmjbkgcknimlaaDoor.str
namespace Go.Proofs.YtcmjbkgcknimlaaDoor.str
open Go.RowKit Go.Proofs.YtcmjbkgcknimlaaDoor.num Go.Proofs.YtcmjbkgcknimlaaDoor.mem Go.Proofs.YtcmjbkgcknimlaaDoor.txt Go.Proofs.YtcmjbkgcknimlaaDoor.nat
set_option linter.unusedVariables false

set_option maxHeartbeats 1600000 in
theorem rdigit_any (cI bI tI : Int) (c : UInt8) (b : Nat) (w : World) (hc : cI = (c.toNat : Int)) (hb : bI = (b : Int)) (h2 : 2 ≤ b) (h36 : b ≤ 36) (ht : tI = if dv c < b then (dv c : Int) else -1) :
    Calls Tryd.prog 63 #[.int .u8 cI, .int .i64 bI] w fun e w' => e = .returned (.int .i64 tI) ∧ w = w' := by
  have hlt := c.toNat_lt
  have c0 : 0 ≤ cI := by omega
  have c1 : cI ≤ 255 := by omega
  have b0 : 2 ≤ bI := by omega
  have b1 : bI ≤ 36 := by omega
  by_cases h1 : 48 ≤ cI
  · by_cases h3 : cI ≤ 57
    · have h97 : ¬ 97 ≤ cI := by omega
      have hd : dv c = c.toNat - 48 := by unfold dv; rw [if_pos (by omega)]
      by_cases hge : bI ≤ cI - 48
      · have HT : Hid ((-1 : Int) = tI) := by show _ = _; rw [ht, if_neg (by omega)]
        clear ht hd hc hb hlt
        go_enter Tryd.func63, Tryd.ntmps63
        go_wp2
        go_ret
        exact ⟨by rw [← HT.out]; rfl, rfl⟩
      · have HT : Hid (cI - 48 = tI) := by show _ = _; rw [ht, if_pos (by omega)]; omega
        clear ht hd hc hb hlt
        go_enter Tryd.func63, Tryd.ntmps63
        go_wp2
        go_ret
        exact ⟨by rw [← HT.out]; rfl, rfl⟩
    · by_cases h4 : 97 ≤ cI
      · by_cases h5 : cI ≤ 122
        · have hd : dv c = c.toNat - 87 := by unfold dv; rw [if_neg (by omega), if_pos (by omega)]
          by_cases hge : bI ≤ cI - 97 + 10
          · have HT : Hid ((-1 : Int) = tI) := by show _ = _; rw [ht, if_neg (by omega)]
            clear ht hd hc hb hlt
            go_enter Tryd.func63, Tryd.ntmps63
            go_wp2
            go_ret
            exact ⟨by rw [← HT.out]; rfl, rfl⟩
          · have HT : Hid (cI - 97 + 10 = tI) := by show _ = _; rw [ht, if_pos (by omega)]; omega
            clear ht hd hc hb hlt
            go_enter Tryd.func63, Tryd.ntmps63
            go_wp2
            go_ret
            exact ⟨by rw [← HT.out]; rfl, rfl⟩
        · have hd : dv c = 99 := by unfold dv; rw [if_neg (by omega), if_neg (by omega)]
          have HT : Hid ((-1 : Int) = tI) := by show _ = _; rw [ht, if_neg (by omega)]
          clear ht hd hc hb hlt
          go_enter Tryd.func63, Tryd.ntmps63
          go_wp2
          go_ret
          exact ⟨by rw [← HT.out]; rfl, rfl⟩
      · have hd : dv c = 99 := by unfold dv; rw [if_neg (by omega), if_neg (by omega)]
        have HT : Hid ((-1 : Int) = tI) := by show _ = _; rw [ht, if_neg (by omega)]
        clear ht hd hc hb hlt
        go_enter Tryd.func63, Tryd.ntmps63
        go_wp2
        go_ret
        exact ⟨by rw [← HT.out]; rfl, rfl⟩
  · have hd : dv c = 99 := by unfold dv; rw [if_neg (by omega), if_neg (by omega)]
    have h97 : ¬ 97 ≤ cI := by omega
    have HT : Hid ((-1 : Int) = tI) := by show _ = _; rw [ht, if_neg (by omega)]
    clear ht hd hc hb hlt
    go_enter Tryd.func63, Tryd.ntmps63
    go_wp2
    go_ret
    exact ⟨by rw [← HT.out]; rfl, rfl⟩

set_option maxHeartbeats 400000 in
theorem rfrom_no (S : ByteArray) (b : Int) (w : World) (h : b < 2 ∨ 36 < b) :
    Calls Tryd.prog 37 #[.string S, .int .i64 b] w (RetNE [] 2 w) := by
  by_cases h2 : b < 2
  · clear h
    go_enter Tryd.func37, Tryd.ntmps37
    go_wp2
    go_ret2
    exact ⟨_, rfl, isNil _ _, Below.refl _ _⟩
  · have h36 : 36 < b := by omega
    clear h
    go_enter Tryd.func37, Tryd.ntmps37
    go_wp2
    go_ret2
    exact ⟨_, rfl, isNil _ _, Below.refl _ _⟩

theorem numS_step {b : Nat} {l : List UInt8} {i : Nat} {c : UInt8} (h : l[i]? = some c) : numS b (l.take (i + 1)) = numS b (l.take i) * b + dv c := by
  rw [List.take_add_one, h]; exact numS_snoc b _ c
theorem bound_step {x b d i : Nat} (h : x < 10000 ^ i) (hd : d < b) (hb : b ≤ 36) : x * b + d < 10000 ^ (i + 1) := by
  have h1 : (x + 1) * b ≤ 10000 ^ i * b := Nat.mul_le_mul_right _ h
  have h2 : 10000 ^ i * b ≤ 10000 ^ i * 10000 := Nat.mul_le_mul_left _ (by omega)
  rw [Nat.pow_succ]
  rw [Nat.add_mul] at h1
  omega

set_option maxHeartbeats 3200000 in
set_option maxRecDepth 100000 in
theorem rfrom_any (S : ByteArray) (l : List UInt8) (bI : Int) (b : Nat) (w : World) (hS : StrIs S l) (hl : l.length ≤ 1000) (hbI : bI = (b : Int)) (h2 : 2 ≤ b) (h36 : b ≤ 36) :
    Calls Tryd.prog 37 #[.string S, .int .i64 bI] w (RetFr b l w) := by
  have HB := Lib.hid hbI
  have i2 : 2 ≤ bI := by omega
  have i36 : bI ≤ 36 := by omega
  have HSZ := Lib.hid hS.size
  have hs1 : S.size ≤ 1000 := by have := hS.size; omega
  clear hbI
  by_cases h0 : S.size = 0
  · have hl0 : l = [] := List.length_eq_zero_iff.1 (by have := HSZ.out; omega)
    have h0I : ((S.size : Int) == 0) = true := by rw [beq_iff_eq]; omega
    clear h0
    go_enter Tryd.func37, Tryd.ntmps37
    go_wp2
    go_ret2
    exact ⟨0, 5, .inr ⟨fun h1 => h1.1 hl0, rfl, rfl⟩, _, rfl, nil_digs _, Below.refl _ _⟩
  · have h0I : ((S.size : Int) == 0) = false := by rw [beq_eq_false_iff_ne]; omega
    go_enter Tryd.func37, Tryd.ntmps37
    go_wp2
    go_loopw [6, 7] (fun vo vi wr => ∃ i x : Nat, i ≤ S.size ∧ Hid (x = numS b (l.take i)) ∧ Hid (x < 10000 ^ i) ∧ Hid (∀ c ∈ l.take i, dv c < b) ∧ IsS wr .i64 vo (digs 10000 x) ∧ Below w.heap.size w wr ∧ vi = .int .i64 (i : Int)) (fun _ vi _ => S.size - (intOf vi).toNat)
    case atStart => exact ⟨0, 0, by omega, rfl, by show 0 < 10000 ^ 0; decide, by intro c hc; simp at hc, by rw [digs_zero]; exact (own_lit0 w w.heap.size _ .i64 (Nat.le_refl _)).isS, below_alloc (Nat.le_refl _) _, rfl⟩
    case round =>
      obtain ⟨i, x, hi, HX, HXb, HA, kx, hb, rfl⟩ := hrel
      have lx : (digs 10000 x).length ≤ i := digs_len_le (by omega) HXb.out
      by_cases hp : i < S.size
      · have hat := hS.at_ hp
        obtain ⟨A, cp, rfl, _⟩ := id kx
        by_cases hd : dv (S[i]'hp) < b
        · obtain ⟨tI, htI⟩ : ∃ tI : Int, tI = ((dv (S[i]'hp) : Nat) : Int) := ⟨_, rfl⟩
          have HT : Hid (tI = if dv (S[i]'hp) < b then (dv (S[i]'hp) : Int) else -1) := by show _ = _; rw [if_pos hd]; exact htI
          have t0 : ¬ tI < 0 := by omega
          have HX2 : Hid (x * b + dv (S[i]'hp) = numS b (l.take (i + 1))) := by show _ = _; rw [numS_step hat, HX.out]
          have HXb2 : Hid (x * b + dv (S[i]'hp) < 10000 ^ (i + 1)) := bound_step HXb.out hd h36
          have HA2 : Hid (∀ c ∈ l.take (i + 1), dv c < b) := by
            intro c hc
            rw [List.take_add_one, hat] at hc
            rcases List.mem_append.1 hc with hc | hc
            · exact HA.out c hc
            · simp at hc; rw [hc]; exact hd
          obtain ⟨y, hy⟩ : ∃ y, y = x * b + dv (S[i]'hp) := ⟨_, rfl⟩
          have HY := Lib.hid hy
          have HTI := Lib.hid htI
          have hdb : dv (S[i]'hp) ≤ 4294967296 := by omega
          rw [← hy] at HX2 HXb2
          clear hat hd htI hy
          go_wp2_with fail
          refine (rdigit_any _ bI tI (S[i]'hp) b _ rfl HB.out h2 h36 HT.out).mono ?_
          rintro e w' ⟨rfl, rfl⟩
          go_wp2_with fail
          refine (mulAdd_any _ x bI tI b (dv (S[i]'hp)) _ HB.out HTI.out kx (by omega) (by omega) hdb y HY.out).mono ?_
          rintro e w3 ⟨v3, rfl, k3, f3, b3⟩
          have hb3 := hb.trans (b3.mono hb.size)
          go_wp2
          go_roundw
          case rel => exact ⟨i + 1, y, by omega, HX2, HXb2, HA2, k3, hb3, by go_num⟩
          case measure => simp [intOf]; omega
        · have HT : Hid ((-1 : Int) = if dv (S[i]'hp) < b then (dv (S[i]'hp) : Int) else -1) := by show _ = _; rw [if_neg hd]
          have hno := not_ok hat hd
          clear hat hd
          go_wp2_with fail
          refine (rdigit_any _ bI (-1) (S[i]'hp) b _ rfl HB.out h2 h36 HT.out).mono ?_
          rintro e w' ⟨rfl, rfl⟩
          go_wp2
          go_ret2
          exact ⟨0, 5, .inr ⟨hno, rfl, rfl⟩, _, rfl, nil_digs _, hb⟩
      · have hil : l.take i = l := List.take_of_length_le (by have := HSZ.out; omega)
        have hx := HX.out
        have hA := HA.out
        rw [hil] at hx hA
        have hok : okS b l := ⟨fun e => by have h1 := HSZ.out; rw [e, List.length_nil] at h1; omega, hA⟩
        have l32 : (digs 4294967296 x).length ≤ 100000 := by
          have h1 : (digs 4294967296 x).length ≤ i := digs_len_le (by omega) (Nat.lt_of_lt_of_le HXb.out (Nat.pow_le_pow_left (by omega) _))
          omega
        have HXX := Lib.hid hx
        clear hil hx hA
        go_wp2_with fail
        refine (refBack_any _ x _ kx (by omega) l32).mono ?_
        rintro e w3 ⟨v3, rfl, k3, f3, b3⟩
        go_wp2
        go_ret2
        exact ⟨x, 0, .inl ⟨hok, HXX.out, rfl⟩, _, rfl, k3, hb.trans (b3.mono hb.size)⟩
end Go.Proofs.YtcmjbkgcknimlaaDoor.str
namespace Go.Proofs.YtcmjbkgcknimlaaDoor.str
open Go.RowKit Go.Proofs.YtcmjbkgcknimlaaDoor.num Go.Proofs.YtcmjbkgcknimlaaDoor.mem Go.Proofs.YtcmjbkgcknimlaaDoor.txt Go.Proofs.YtcmjbkgcknimlaaDoor.nat
set_option linter.unusedVariables false

theorem rlen0 {x : Nat} (h : x = 0) : (digs 10000 x).length = 0 := by rw [h, digs_zero]; rfl
theorem rlenp {x : Nat} (h : 0 < x) : 0 < (digs 10000 x).length := by
  rcases Nat.eq_zero_or_pos (digs 10000 x).length with h0 | h0
  · have := (digs_len0 (B := 10000) (by omega)).1 h0; omega
  · exact h0
/-- The digits found so far, and those that are still to come. -/
def DG (b a y : Nat) (D : List Nat) : Prop := D ++ digs b y = digs b a
theorem DG.step {b a y : Nat} {D : List Nat} (hb : 2 ≤ b) (h : DG b a y D) (hy : 0 < y) : DG b a (y / b) (D ++ [y % b]) := by
  unfold DG at h ⊢
  rw [← h, digs_pos hb hy, List.append_assoc]; rfl
theorem u8s_one (c : UInt8) : u8s [c] = [c.toNat] := rfl

end Go.Proofs.YtcmjbkgcknimlaaDoor.str
namespace Go.Proofs.YtcmjbkgcknimlaaDoor.str
open Go.RowKit Go.Proofs.YtcmjbkgcknimlaaDoor.num Go.Proofs.YtcmjbkgcknimlaaDoor.mem Go.Proofs.YtcmjbkgcknimlaaDoor.txt Go.Proofs.YtcmjbkgcknimlaaDoor.nat
set_option linter.unusedVariables false

/-- The call ends with a number that the relation tells, and an error; what was there is as it was. -/
def RetGG (G : Nat → Int → Prop) (w : World) (e : Ending) (w' : World) : Prop := ∃ x en, G x en ∧ RetNE (digs 4294967296 x) en w e w'
theorem numS_len {b : Nat} (h36 : b ≤ 36) {l : List UInt8} (h : okS b l) : (digs 4294967296 (numS b l)).length ≤ l.length := by
  have h1 := val_lt h.lt
  rw [List.length_map, List.length_reverse] at h1
  exact digs_len_le (by omega) (Nat.lt_of_lt_of_le h1 (Nat.pow_le_pow_left (by omega) _))
theorem txt_len {b x : Nat} (h2 : 2 ≤ b) (h : (digs 4294967296 x).length ≤ 30) : (txt b x).length ≤ 1000 := by
  unfold txt
  split
  · simp
  · rw [List.length_map, List.length_reverse]
    have h1 : x < 4294967296 ^ (digs 4294967296 x).length := digs_lt_pow (by omega) x
    rw [pow32] at h1
    have h3 : 2 ^ (32 * (digs 4294967296 x).length) ≤ b ^ (32 * (digs 4294967296 x).length) := Nat.pow_le_pow_left h2 _
    exact Nat.le_trans (digs_len_le h2 (Nat.lt_of_lt_of_le h1 h3)) (by omega)
/-- The example's text. -/
def ex : List UInt8 := [52, 50, 57, 52, 57, 54, 55, 50, 57, 54]
theorem ex_ok : okS 10 ex := ⟨by simp [ex], by decide⟩
theorem ex_num : numS 10 ex = 4294967296 := by decide
theorem ex_txt : txt 10 4294967296 = ex := by
  have h := txt_num (b := 10) (by omega) (by omega) (c := 52) (s := [50, 57, 52, 57, 54, 55, 50, 57, 54]) ex_ok (by decide)
  rw [show numS 10 [52, 50, 57, 52, 57, 54, 55, 50, 57, 54] = 4294967296 from ex_num] at h
  exact h
theorem ex_digs : digs 4294967296 4294967296 = [0, 1] := by
  rw [digs_pos (by omega) (by omega), digs_pos (by omega) (by omega), show 4294967296 / 4294967296 / 4294967296 = 0 from by decide, digs_zero]
theorem lit_two (w : World) : IsS (w.alloc (.cells #[.int .u64 0, .int .u64 1] 74)) .u64 (.slice (some ⟨w.heap.size, 0, none⟩) 2 2) (digs 4294967296 4294967296) := by
  rw [ex_digs]
  exact (own_lit2 w 0 74 .u64 (d := 0) (f := 1) rfl rfl (Nat.zero_le _)).isS
end Go.Proofs.YtcmjbkgcknimlaaDoor.str
