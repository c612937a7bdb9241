/- Rows of bytes that the call makes; digits.written: stretches of digits as a text. Condition: as each says. -/
import Derived.Test.YtlepoheinemfcaaDoorDigA
import Derived.Test.YtlepoheinemfcaaDoorList
namespace Go.Proofs.YtlepoheinemfcaaDoor.mem
open Go.RowKit Go.Proofs.YtlepoheinemfcaaDoor.num
set_option linter.unusedVariables false
/-- Slice type t has elements of type e, bytes. -/
structure SliceB (P : Program) (t e : TypeId) : Prop where
  und : P.underlying t = some (.slice e)
  info : ∃ i, P.info? e = some i ∧ i.zero = some (.int .u8 0) ∧ i.size = 1 ∧ i.bytes = 1
section
variable {P : Program}
/-- 'make([]byte, n)'. -/
theorem wpList_make_b {w : World} {ops : Array Oper} {rest : List Oper} {o : Oper} {a : Act} {Q : Exit → Act → World → Prop} (hgd : o.guard = none) (lo co : Operand) {t : TypeId} (ho : o.op = Op.makeSlice t lo co)
    {base : Nat} {e : TypeId} (hT : SliceB P t e) {kl kc : IntKind} {L C : Int} (n : Nat) (hl : a.eval lo = .int kl L) (hc : a.eval co = .int kc C) (hL : L = (n : Int)) (hC : C = (n : Int)) (hn : n ≤ 10000000000000) (hbase : base ≤ w.heap.size)
    (h : ∀ w', Own w' base e .u8 (.slice (some ⟨w.heap.size, 0, none⟩) n n) (List.replicate n 0) → Below w.heap.size w w' → w.heap.size < w'.heap.size → wpList P ops Q rest (a.put o.dst (.slice (some ⟨w.heap.size, 0, none⟩) n n)) w') : wpList P ops Q (o :: rest) a w := by
  obtain ⟨i, hi, hz, hs, hb⟩ := hT.info
  refine wpList_make_full w hgd lo co t ho base e i (.int .u8 0) 1 hT.und hi hz hs kl kc L C n hl hc hL hC (by rw [hb]; omega) (by unfold maxLen; omega) hbase fun w' h1 h2 => ?_
  have hw := own_of_make h1
  refine h w' hw ((Below.refl _ w).grown h2 (Nat.le_refl _) (fun g hg => by cases hg)) ?_
  rcases h1.2 with ⟨h3, _⟩ | ⟨g, cap, cur, h3, _, h4, _⟩
  · cases h3
  · injection h3 with h3 _ _
    injection h3 with h3
    injection h3 with h3 _ _
    subst h3
    exact (Array.getElem?_eq_some_iff.1 h4).1
theorem run_append_b {w : World} {base : Nat} {t ty : TypeId} {e : TypeId} (hT : SliceB P t e) {v : Value} {l news : List Nat} (hown : Own w base e .u8 v l) {A : Option Addr} {m c : Nat} (hm : m = news.length) (hr : Rd w A .u8 news)
    (hlen : l.length + m ≤ 10000000000000) (hbase : base ≤ w.heap.size) :
    ∃ v' w', (Builtin.append_ #[t, t] ty #[v, .slice A m c]).run P w = .ok v' w' ∧ Own w' base e .u8 v' (l ++ news) ∧ w.grownBy w' v.ownBlock := by
  obtain ⟨i, hi, hz, hs, hb⟩ := hT.info
  subst hm
  rcases A with _ | ad
  · have hn : news = [] := by
      rcases news with _ | ⟨d, n⟩
      · rfl
      · obtain ⟨ad, h, _⟩ := hr 0 d (by simp); cases h
    subst hn
    refine ⟨v, w, ?_, by simpa using hown, World.grownBy.refl _ _⟩
    rcases hown.2 with ⟨rfl, h0⟩ | ⟨g, cap, cur, rfl, _, _, hnc, _⟩
    · simp [Builtin.append_, run_underlying hT.und, sizeOf, typeInfo, hi, Builtin.lenOf, Builtin.firstCells]
    · simp [Builtin.append_, run_underlying hT.und, sizeOf, typeInfo, hi, Builtin.lenOf, Builtin.firstCells, hnc, storeCells]
  · have hcells : ∀ j u, (nv .u8 news)[j]? = some u → w.cell? (ad.add j) = some u := by
      intro j u hu
      simp only [nv, List.getElem?_map, Option.map_eq_some_iff] at hu
      obtain ⟨d, hd, rfl⟩ := hu
      obtain ⟨ad', h, hc⟩ := hr j d hd
      injection h with h; subst h; exact hc
    obtain ⟨v', w', h1, h2, h3, _⟩ := run_append_own (P := P) w base t ty e i (.int .u8 0) 1 1 hT.und hi hz hs hb rfl (by decide) v l.length (nv .u8 l) hown ad news.length c (nv .u8 news) (by simp [nv]) hcells (nv_one .u8 news) (by unfold maxLen; omega) (by omega) hbase
    exact ⟨v', w', h1, Own.more h2, h3⟩
/-- 'append(out, xs...)', bytes. -/
theorem wpList_append_b {w : World} {ops : Array Oper} {rest : List Oper} {o : Oper} {a : Act} {Q : Exit → Act → World → Prop} (hgd : o.guard = none) (s x : Operand) {t : TypeId}
    (ho : o.op = .call { callee := .builtin .append, args := #[s, x], argTypes := #[t, t] })
    {base : Nat} {e : TypeId} (hT : SliceB P t e) {v : Value} {l news : List Nat} (hs : a.eval s = v) (hown : Own w base e .u8 v l) {A : Option Addr} {m c : Nat} (hx : a.eval x = .slice A m c) (hm : m = news.length) (hr : Rd w A .u8 news)
    (hlen : l.length + m ≤ 10000000000000) (hbase : base ≤ w.heap.size)
    (h : ∀ v' w', Own w' base e .u8 v' (l ++ news) → Below base w w' → w.grownBy w' v.ownBlock → wpList P ops Q rest (a.put o.dst v') w') : wpList P ops Q (o :: rest) a w :=
  wpList_plain hgd fun _ hK => by
    obtain ⟨v', w', hrun, h2, h3⟩ := run_append_b (P := P) (ty := o.type) hT hown (c := c) hm hr hlen hbase
    have h4 := hK _ _ (h v' w' h2 ((Below.refl base w).grown h3 hbase (Own.base_le hown)) h3)
    unfold Oper.wp execOp
    simp only [ho, resolve, invoke, builtin, Sem.run_bind, Sem.run_pure, Result.andThen_ok, List.map_toArray, List.map_cons, List.map_nil, hs, hx, hrun]
    exact h4
end
/-- Bytes as numbers. -/
def u8s (l : List UInt8) : List Nat := l.map UInt8.toNat
theorem u8s_len (l : List UInt8) : (u8s l).length = l.length := by simp [u8s]
theorem u8s_append (l m : List UInt8) : u8s (l ++ m) = u8s l ++ u8s m := by simp [u8s]
end Go.Proofs.YtlepoheinemfcaaDoor.mem
namespace Go.Proofs.YtlepoheinemfcaaDoor.str
open Go.RowKit Go.Proofs.YtlepoheinemfcaaDoor.num Go.Proofs.YtlepoheinemfcaaDoor.mem Go.Proofs.YtlepoheinemfcaaDoor.txt Go.Proofs.YtlepoheinemfcaaDoor.nat
set_option linter.unusedVariables false

theorem slb : SliceB Tryd.prog 50 5 := ⟨Tryd.underlying50, info_parts (P := Tryd.prog) (e := 5) (z := .int .u8 0) (size := 1) (bytes := 1) (by kernel_rfl)⟩
/-- 'string(text)'. -/
theorem own_string {w : World} {base : Nat} {A : Option Addr} {n cap : Nat} {l : List UInt8} (h : Own w base 5 .u8 (.slice A n cap) (u8s l)) (hA : A ≠ none) :
    ∃ R, StrIs R l ∧ (convert 50 9 (.slice A n cap)).run Tryd.prog w = .ok (.string R) w := by
  rcases A with _ | ad
  · exact absurd rfl hA
  · obtain rfl := h.len_eq
    rw [u8s_len]
    refine ⟨⟨l.toArray⟩, rfl, ?_⟩
    refine run_convert_bytes_back w _ _ 5 ad cap l Tryd.underlying50 Tryd.underlying5 Tryd.underlying9 fun j hj => ?_
    obtain ⟨A', c', e, _, _, hr⟩ := h.isS
    injection e with e _ _
    subst e
    obtain ⟨ad', e2, hc⟩ := hr j (l[j].toNat) (by simp [u8s, hj])
    injection e2 with e2
    subst e2
    exact hc
/-- The call ends with a string of these bytes; what was there is as it was. -/
def RetStrB (l : List UInt8) (w : World) (e : Ending) (w' : World) : Prop := ∃ R, e = .returned (.string R) ∧ StrIs R l ∧ Below w.heap.size w w'
/-- A text that is written from its end: p places are left. -/
def TX (p : Nat) (D : List Nat) : List UInt8 := List.replicate p 0 ++ D.reverse.map ch
theorem TX_cut (p : Nat) (D : List Nat) : TX (p + 1) D = List.replicate p 0 ++ (0 :: D.reverse.map ch) := by
  unfold TX
  rw [List.replicate_succ', List.append_assoc]; rfl
theorem TX_step {p d : Nat} {D : List Nat} : (u8s (TX (p + 1) D)).set p (ch d).toNat = u8s (TX p (D ++ [d])) := by
  have l1 : (u8s (List.replicate p 0)).length = p := by simp [u8s]
  rw [TX_cut, u8s_append, List.set_append_right _ _ (by omega), l1, Nat.sub_self]
  simp [u8s, TX]
theorem TX_at (p : Nat) (D : List Nat) : (u8s (TX (p + 1) D))[p]? = some 0 := by
  have l1 : (u8s (List.replicate p 0)).length = p := by simp [u8s]
  rw [TX_cut, u8s_append, List.getElem?_append_right (by omega), l1, Nat.sub_self]
  simp [u8s]
theorem TX_start (n : Nat) : u8s (TX n []) = List.replicate n 0 := by simp [TX, u8s]
theorem fig_at (S : ByteArray) (hS : StrIs S figs) (n : Nat) (h : n < S.size) : (S[n]'h).toNat = (ch n).toNat := by
  have h1 := hS.at_ h
  unfold ch
  rw [List.getD_eq_getElem?_getD, h1]; rfl
theorem pow_step {b i x : Nat} : x / b ^ i / b = x / b ^ (i + 1) := by rw [Nat.div_div_eq_div_mul, Nat.pow_succ]
theorem len1_of_lt {x : Nat} (h : x < 4294967296) : (digs 4294967296 x).length ≤ 1 := digs_len_le (by omega) (by rw [Nat.pow_one]; exact h)
theorem nbits63_of {x : Nat} (h : x < 4294967296) : nbits x ≤ 63 := Nat.le_trans (nbits_le_of (n := 32) h) (by omega)

set_option maxHeartbeats 3200000 in
set_option maxRecDepth 100000 in
theorem written_any (V : Value) (vs : List Value) (xs : List Nat) (sI bI : Int) (size b : Nat) (w : World) (hV : IsV w V vs) (hN : Nums w vs xs) (hl : vs.length ≤ 10000) (hsI : sI = (size : Int)) (hbI : bI = (b : Int)) (hs : size ≤ 32) (hb2 : 2 ≤ b) (hb36 : b ≤ 36) (hx : Lt 4294967296 xs) :
    Calls Tryd.prog 19 #[V, .int .i64 sI, .int .i64 bI] w (RetStrB ((pads b size xs).reverse.map ch) w) := by
  obtain ⟨A, c, rfl, hc, hcells⟩ := hV
  have HC := Lib.hid hcells
  have HN := Lib.hid hN
  have HX : Hid (vs.length = xs.length) := hN.1
  have HLX := Lib.hid hx
  obtain ⟨N, hNe⟩ : ∃ N, N = size * vs.length := ⟨_, rfl⟩
  have hM : sI * (vs.length : Int) = (N : Int) := by rw [hNe, hsI, Int.natCast_mul]
  have HM := Lib.hid hM
  have hN1 : N ≤ 320000 := by rw [hNe]; exact Nat.le_trans (Nat.mul_le_mul hs hl) (by omega)
  have m0 : 0 ≤ sI * (vs.length : Int) := by omega
  have m1 : sI * (vs.length : Int) ≤ 320000 := by omega
  have s0 : 0 ≤ sI := by omega
  have s1 : sI ≤ 32 := by omega
  have b0 : 2 ≤ bI := by omega
  have b1 : bI ≤ 36 := by omega
  have HB := Lib.hid hbI
  have HSI := Lib.hid hsI
  have HNE := Lib.hid hNe
  clear hcells hN hx hM hbI hsI hNe
  go_enter Tryd.func19, Tryd.ntmps19
  go_wp2_with (at_make; refine wpList_make_b rfl _ _ rfl slb N rfl rfl HM.out HM.out (by omega) (Nat.le_refl _) ?_; intro w1 hown1 hb1 hlt1)
  go_loopw [8, 22] (fun vp vi wr => ∃ k p : Nat, k ≤ vs.length ∧ Hid (p + size * k = N) ∧ Own wr w.heap.size 5 .u8 (.slice (some ⟨w.heap.size, 0, none⟩) N N) (u8s (TX p (pads b size (xs.take k)))) ∧ Below w.heap.size w wr ∧ vp = .int .i64 (p : Int) ∧ vi = .int .i64 (k : Int)) (fun _ vi _ => vs.length - (intOf vi).toNat)
  case atStart => exact ⟨0, N, by omega, by show _ = _; omega, by rw [List.take_zero]; show Own _ _ _ _ _ (u8s (TX N [])); rw [TX_start]; exact hown1, hb1, rfl, rfl⟩
  case round =>
    clear hown1 hb1 hlt1
    obtain ⟨k, p, hk, HP, hown, hb, rfl, rfl⟩ := hrel
    by_cases hlt : k < vs.length
    · obtain ⟨u, x, hu, hxx, hv⟩ := HN.out.at_ hlt
      obtain ⟨ad, rfl, hcell⟩ := HC.out k u hu
      have hcell2 := (hb.cell (World.block_lt_of_cell? w _ hcell)).trans hcell
      have hx32 := HLX.out.at hxx
      have hv2 := hv.below hb
      have hl1 := len1_of_lt hx32
      have hn63 := nbits63_of hx32
      obtain ⟨A2, c2, rfl, _⟩ := id hv2
      have hps : size ≤ p := by
        have h1 := HP.out
        have h2 := HNE.out
        have h3 : size * (k + 1) ≤ size * vs.length := Nat.mul_le_mul_left _ hlt
        rw [Nat.mul_add] at h3; omega
      have HXX := Lib.hid hxx
      have HX32 := Lib.hid hx32
      clear hu hcell hv hxx hx32
      go_wp2_with fail
      refine (small_yes _ x _ hv2 (by omega) hn63).mono ?_
      rintro e w' ⟨rfl, rfl⟩
      have x0 : (x : Int) ≤ 4294967295 := by have := HX32.out; omega
      clear hn63 hl1
      go_wp2
      go_loopw [8, 11, 32] (fun vp vc vi wt => ∃ (i q : Nat) (cI : Int), i ≤ size ∧ q + i = p ∧ Hid (cI = ((x / b ^ i : Nat) : Int)) ∧ 0 ≤ cI ∧ cI ≤ 4294967295 ∧ Own wt w.heap.size 5 .u8 (.slice (some ⟨w.heap.size, 0, none⟩) N N) (u8s (TX q (pads b size (xs.take k) ++ pad b i x))) ∧ Below w.heap.size w wt ∧ vp = .int .i64 (q : Int) ∧ vc = .int .u64 cI ∧ vi = .int .i64 (i : Int)) (fun _ _ vi _ => size - (intOf vi).toNat)
      case atStart => exact ⟨0, p, _, by omega, by omega, by show _ = _; rw [Nat.pow_zero, Nat.div_one], by omega, x0, by show Own _ _ _ _ _ (u8s (TX p (_ ++ []))); rw [List.append_nil]; exact hown, hb, rfl, rfl, rfl⟩
      case round =>
        clear hown hb hcell2 hv2 x0
        obtain ⟨i, q, cI, hi, hq, HCI, c0, c1, hown, hb, rfl, rfl, rfl⟩ := hrel
        by_cases hlt2 : i < size
        · have hiI : (i : Int) < sI := by have := HSI.out; omega
          obtain ⟨q, rfl⟩ : ∃ t, q = t + 1 := ⟨q - 1, by omega⟩
          have hqN : q < N := by have := HP.out; omega
          have d0 : 0 ≤ cI % bI := Int.emod_nonneg _ (by omega)
          have d1 : cI % bI < 36 := by have := Int.emod_lt_of_pos cI (show 0 < bI by omega); omega
          have e0 : 0 ≤ cI / bI := Int.ediv_nonneg c0 (by omega)
          have e1 : cI / bI ≤ 4294967295 := by have := Int.ediv_le_self bI c0; omega
          have hc0 := hown.cellAt (TX_at q _)
          have hf0 := hown.frozenAt q
          have HD : Hid ((cI % bI).toNat = x / b ^ i % b) := by show _ = _; rw [HCI.out, HB.out, ← Int.natCast_emod, Int.toNat_natCast]
          have HE : Hid (cI / bI = ((x / b ^ (i + 1) : Nat) : Int)) := by show _ = _; rw [HCI.out, HB.out, ← Int.natCast_ediv, pow_step]
          go_wp2
          go_roundw
          case rel =>
            refine ⟨i + 1, q, _, by omega, by omega, HE, e0, e1, ?_, hb.setCell (Nat.le_refl _) _, by go_num, rfl, by go_num⟩
            rw [pad_snoc, ← List.append_assoc, ← TX_step]
            exact hown.stored' q _ (by have e1 := fig_at ⟨figs.toArray⟩ rfl (cI % bI).toNat (by show _ < 36; omega); exact congrArg Nat.cast (e1.trans (by rw [HD.out])))
          case measure => simp [intOf]; omega
        · have hiI : sI ≤ (i : Int) := by have := HSI.out; omega
          obtain rfl : i = size := by omega
          have HQ : Hid (q + i * (k + 1) = N) := by have := HP.out; show _ = _; rw [Nat.mul_add]; omega
          have e : pads b i (xs.take k) ++ pad b i x = pads b i (xs.take (k + 1)) := by rw [take_step HXX.out, pads_snoc]
          rw [e] at hown
          clear e
          clear hlt2 hq
          go_wp2
          go_roundw
          case rel => exact ⟨k + 1, q, by omega, HQ, hown, hb, rfl, by go_num⟩
          case measure => simp [intOf]; omega
    · obtain rfl : k = vs.length := by omega
      obtain rfl : p = 0 := by have h1 := HP.out; have h2 := HNE.out; omega
      have e : u8s (TX 0 (pads b size (xs.take vs.length))) = u8s ((pads b size xs).reverse.map ch) := by
        rw [List.take_of_length_le (by have := HX.out; omega)]; simp [TX]
      rw [e] at hown
      obtain ⟨R, hR, hconv⟩ := own_string hown (by simp)
      clear e
      go_wp2
      go_ret
      exact ⟨R, rfl, hR, hb⟩
end Go.Proofs.YtlepoheinemfcaaDoor.str
