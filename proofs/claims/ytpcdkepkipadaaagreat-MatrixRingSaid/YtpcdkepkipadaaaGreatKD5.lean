/- Package matrix: Add, Mul. Condition: as each says.
Package matrix: Beside. Condition: as each says.
The chapter's example of layer 12; the statements' Among. Condition: as each says.
An append to a row of slices of the call's own: how what was there stays. Condition: as it says.
An argument as a slice of slices of fractions. Condition: it can be read as data.
Few: two rows of fractions of the call's own out of an argument; tables of such rows. Condition: as each says.
Few of a table: two tables of the call's own out of an argument. Condition: as it says.
Even: two tables of the call's own whose rows grow and are cut in place. Condition: as each says.
Products put together: what fits, what it comes to, how great it is. Condition: as each says.
A region that draws its order, cut in two: what stands ahead, in whatever order; then what waits for all of it. No program stands here.
Even: a table of the call's own out of an argument, all of whose rows have one length. Condition: as it says. -/
import Derived.Test.YtpcdkepkipadaaaGreatKD4
import Derived.Deep.RegionHeld3
import Derived.BigQuiet
import Derived.BigRegion
namespace Go.Proofs.YtpcdkepkipadaaaGreat.rat
open Go.RowKit Go.Proofs.YtpcdkepkipadaaaGreat.num Go.Proofs.YtpcdkepkipadaaaGreat.mem Go.Proofs.YtpcdkepkipadaaaGreat.nat Go.Proofs.YtpcdkepkipadaaaGreat.txt Go.Proofs.YtpcdkepkipadaaaGreat.str Go.Proofs.YtpcdkepkipadaaaGreat.flow Go.Proofs.YtpcdkepkipadaaaGreat.whl
set_option linter.unusedVariables false
set_option linter.unusedSimpArgs false
theorem ListT.tail {w : World} {ad : Addr} {n c : Nat} {ts : List (List (List Rat))} (h : ListT w (.slice (some ad) n c) ts) (hne : ts ≠ []) : ListT w (.slice (if c = 1 then some ad else some (ad.add 1)) (n - 1) (c - 1)) ts.tail := by
  obtain ⟨us, h1, ⟨A, c', e, hc, hcell⟩, h3, h4⟩ := h
  injection e with e1 e2 e3
  subst e1; subst e2; subst e3
  have hpos : 0 < ts.length := List.length_pos_iff.2 hne
  refine ⟨us.tail, by rw [List.length_tail, List.length_tail, h1], ?_, by rw [List.length_tail]; omega, fun i u t hu ht => ?_⟩
  · by_cases h2 : c = 1
    · have : us.tail = [] := List.length_eq_zero_iff.1 (by rw [List.length_tail]; omega)
      rw [this]
      exact ⟨_, _, by rw [show us.length - 1 = 0 by omega]; rfl, by simp, fun i u hu => by simp at hu⟩
    · rw [if_neg h2]
      refine ⟨some (ad.add 1), c - 1, by rw [List.length_tail], by rw [List.length_tail]; omega, fun i u hu => ?_⟩
      rw [List.getElem?_tail] at hu
      obtain ⟨ad', ha, hc2⟩ := hcell (i + 1) u hu
      injection ha with ha; subst ha
      refine ⟨_, rfl, ?_⟩
      have e : (ad.add 1).add i = ad.add (i + 1) := by
        unfold Addr.add
        by_cases hi : i = 0
        · simp [hi]
        · simp [hi]; omega
      rw [e]; exact hc2
  · rw [List.getElem?_tail] at hu ht
    exact h4 (i + 1) u t hu ht
/-- Does the table at this place fit: it may be, and it has as many rows as the one ahead has places. -/
def okAt (ts : List (List (List Rat))) (i : Nat) (t : List (List Rat)) : Prop := mayq t ∧ ∀ (s : List (List Rat)), 0 < i → ts[i - 1]? = some s → wideq s = t.length
/-- How long the numbers of a product of so many are. -/
def bnd : Nat → Nat
  | 0 => 10
  | n + 1 => (bnd n + bnd n + 1) * 4 + 1
theorem bnd_one (n : Nat) : 10 ≤ bnd n := by
  induction n with
  | zero => exact Nat.le_refl _
  | succ n ih => show 10 ≤ (bnd n + bnd n + 1) * 4 + 1; omega
theorem foldl_take_snoc {α β : Type} (f : α → β → α) (a : α) {l : List β} {j : Nat} {x : β} (h : l[j]? = some x) : (l.take (j + 1)).foldl f a = f ((l.take j).foldl f a) x := by
  rw [List.take_add_one, h]
  simp [List.foldl_append]
set_option maxHeartbeats 6400000 in
set_option maxRecDepth 100000 in
theorem mmul_any (a0 : Value) (ts : List (List (List Rat))) (w : World) (h0 : ListT w a0 ts) (hl : ts.length ≤ 3 ∧ ∀ t ∈ ts, t.length ≤ 4 ∧ (∀ r ∈ t, r.length ≤ 4) ∧ lenT t 10) :
    Calls Tryz.prog 31 #[a0] w (fun e w' => (fitsq ts ∧ RetTE (prodT ts) 0 w e w') ∨ (¬ fitsq ts ∧ RetTE [] 8 w e w')) := by
  have st0 := h0
  obtain ⟨A0, c0, rfl, hc0⟩ := h0.shape
  have HL := Lib.hid hl
  have hl3 : ts.length ≤ 3 := hl.1
  clear hl
  go_enter Tryz.func31, Tryz.ntmps31
  by_cases hn : ts = []
  · subst hn
    go_wp2
    go_ret2
    exact .inr ⟨fun h => h.1 rfl, retTE_no 8 (by decide) (Below.refl _ _)⟩
  have hpos : 0 < ts.length := List.length_pos_iff.2 hn
  have hne0 : ¬ ((ts.length : Nat) : Int) = 0 := by omega
  have hneb : (((ts.length : Nat) : Int) == 0) = false := by rw [beq_eq_false_iff_ne]; omega
  obtain ⟨ad, rfl⟩ := st0.place hn
  go_wp2
  go_loopw [14] (fun v14 wr => ∃ k : Nat, k ≤ ts.length ∧ Hid (∀ (i : Nat) (t : List (List Rat)), i < k → ts[i]? = some t → okAt ts i t) ∧ Below w.heap.size w wr ∧ v14 = .int .i64 (k : Int)) (fun v14 _ => ts.length - (intOf v14).toNat)
  case atStart => exact ⟨0, by omega, (by show ∀ i, _; intro i t hi; omega), Below.refl _ _, rfl⟩
  case round =>
    obtain ⟨k, hk, HA, bb, rfl⟩ := hrel
    by_cases hlt : k < ts.length
    · obtain ⟨t, ht⟩ : ∃ t, ts[k]? = some t := ⟨_, List.getElem?_eq_getElem hlt⟩
      have HT := Lib.hid ht
      obtain ⟨At, ct, hit, ect, stt⟩ := (st0.below bb).at2 ht
      clear ht
      by_cases hm : mayq t
      · have HM := Lib.hid hm
        clear hm
        go_wp2_with fail
        refine (mmay_any _ t true _ stt (decide_eq_true HM.out).symm).mono ?_
        rintro e w2 ⟨rfl, b2⟩
        have bb2 := bb.trans (b2.mono bb.size)
        have stt2 := stt.below b2
        clear ect stt b2
        by_cases hk0 : 0 < k
        · obtain ⟨j, rfl⟩ : ∃ j, k = j + 1 := ⟨k - 1, by omega⟩
          obtain ⟨s, hs⟩ : ∃ s, ts[j]? = some s := ⟨_, List.getElem?_eq_getElem (by omega)⟩
          have HS := Lib.hid hs
          obtain ⟨As, cs, his, ecs, sts⟩ := (st0.below bb2).at2 hs
          have hgt : (0 : Int) < ((j + 1 : Nat) : Int) := by omega
          clear hs
          go_wp2_with fail
          by_cases hf : wideq s = t.length
          · have HF := Lib.hid hf
            clear hf
            refine (mfit_any _ _ s t true _ sts stt2 (decide_eq_true HF.out).symm).mono ?_
            rintro e w3 ⟨rfl, b3⟩
            have bb3 := bb2.trans (b3.mono bb2.size)
            have HA2 : Hid (∀ (i : Nat) (t : List (List Rat)), i < j + 1 + 1 → ts[i]? = some t → okAt ts i t) := by
              show ∀ i, _
              intro i t' hi h'
              by_cases e : i = j + 1
              · subst e
                rw [HT.out] at h'
                injection h' with h'
                subst h'
                refine ⟨HM.out, fun s' _ hs' => ?_⟩
                rw [Nat.add_sub_cancel, HS.out] at hs'
                injection hs' with hs'
                subst hs'
                exact HF.out
              · exact HA.out i t' (by omega) h'
            have hsk : ts.length - (j + 1 + 1) < ts.length - (j + 1) := by omega
            clear ecs sts stt2 b3 HA
            go_wp2
            go_roundw
            case rel => exact ⟨j + 1 + 1, by omega, HA2, bb3, by go_num⟩
            case measure => simp [intOf]; omega
          · have HF := Lib.hid hf
            clear hf
            refine (mfit_any _ _ s t false _ sts stt2 (decide_eq_false HF.out).symm).mono ?_
            rintro e w3 ⟨rfl, b3⟩
            have bb3 := bb2.trans (b3.mono bb2.size)
            have HN : Hid (¬ fitsq ts) := fun h => HF.out ((h.2 (j + 1) t HT.out).2 s (by omega) (by rw [Nat.add_sub_cancel]; exact HS.out))
            clear ecs sts stt2 b3 HA
            go_wp2
            go_ret2
            exact .inr ⟨HN.out, retTE_no 8 (by decide) bb3⟩
        · have hgt : ¬ (0 : Int) < (k : Int) := by omega
          have HA2 : Hid (∀ (i : Nat) (t : List (List Rat)), i < k + 1 → ts[i]? = some t → okAt ts i t) := by
            show ∀ i, _
            intro i t' hi h'
            obtain rfl : i = k := by omega
            rw [HT.out] at h'
            injection h' with h'
            subst h'
            exact ⟨HM.out, fun s' h0' _ => absurd h0' hk0⟩
          have hsk : ts.length - (k + 1) < ts.length - k := by omega
          clear HA stt2
          go_wp2
          go_roundw
          case rel => exact ⟨k + 1, by omega, HA2, bb2, by go_num⟩
          case measure => simp [intOf]; omega
      · have HM := Lib.hid hm
        clear hm
        go_wp2_with fail
        refine (mmay_any _ t false _ stt (decide_eq_false HM.out).symm).mono ?_
        rintro e w2 ⟨rfl, b2⟩
        have bb2 := bb.trans (b2.mono bb.size)
        have HN : Hid (¬ fitsq ts) := fun h => HM.out (h.2 k t HT.out).1
        go_wp2
        go_ret2
        exact .inr ⟨HN.out, retTE_no 8 (by decide) bb2⟩
    · obtain rfl : k = ts.length := by omega
      have HF : Hid (fitsq ts) := ⟨hn, fun i t ht => HA.out i t (List.getElem?_eq_some_iff.1 ht).1 ht⟩
      obtain ⟨t0, ht0⟩ : ∃ t0, ts[0]? = some t0 := ⟨_, List.getElem?_eq_getElem hpos⟩
      have HT0 := Lib.hid ht0
      have bd := bb.drew
      obtain ⟨At, ct, hit, ecd, std⟩ := (st0.below bd).at2 ht0
      have HB0 : Hid (t0.length ≤ 4 ∧ (∀ r ∈ t0, r.length ≤ 4) ∧ lenT t0 10) := HL.out.2 t0 (List.mem_of_getElem? ht0)
      have ht04 : t0.length ≤ 4 := HB0.out.1
      have ead : ad.add 0 = ad := by simp [Addr.add]
      rw [ead] at ecd
      have ecz : wr.cell? ad = some (.slice At t0.length ct) := ecd
      clear ht0 HA
      go_upto_region 9 with (fail)
      go_region_law (first
        | (go_simp; go_at_call 63; refine (mbare_any _ t0.length _ rfl (by omega)).mono ?_; rintro e w4 ⟨g, rfl, TB, hg, b4⟩; have TO : TabR w4 wr.drew.heap.size _ _ _ := TB.owned hg (by omega); have ec4 := (b4.cell (World.block_lt_of_cell? _ _ ecd)).trans ecd)
        | (go_simp; go_at_call 66; refine (mjoined_any g t0.length t0.length _ _ _ t0 wr.drew w4 TO std b4 (by simp) rfl hg ⟨fun r hr => by rw [valq_nil] at hr; rw [(List.mem_replicate.1 hr).2]; exact Nat.zero_le _, fun r hr => Nat.le_trans (HB0.out.2.1 r hr) (by decide), HB0.out.2.2.mono (by decide)⟩).mono ?_; rintro e w5 ⟨us5, pss5, rfl, T5, V5, L5, b5⟩))
      all_goals
        have SA : SlT .u64 4294967296 w5 (.slice (some ⟨g, 0, none⟩) t0.length t0.length) t0 := by
          have h := T5.slT
          rw [V5, valq_nil, joinq_nil] at h
          exact h
        have bb5 : Below w.heap.size w w5 := bd.trans ((b4.trans b5).mono bd.size)
        obtain ⟨A', hA', stT⟩ : ∃ A' : Addr, (if c0 = 1 then some ad else some ({ block := ad.block, off := ad.off + 1 } : Addr)) = some A' ∧ ListT w (.slice (some A') (ts.length - 1) (c0 - 1)) ts.tail := by
          have h := st0.tail hn
          by_cases hc1 : c0 = 1
          · rw [if_pos hc1] at h
            exact ⟨ad, by rw [if_pos hc1], h⟩
          · rw [if_neg hc1] at h
            exact ⟨_, by rw [if_neg hc1]; simp [Addr.add], h⟩
        have h1n : (1 : Int) ≤ ((ts.length : Nat) : Int) := by omega
        have HTL : Hid (ts.tail.length = ts.length - 1) := List.length_tail
        clear T5 V5 L5 TB TO b4 b5 std ecz ecd bb bd
        go_wp2
        go_loopw [6, 49] (fun v6 v49 wr => ∃ (j : Nat) (ans : List (List Rat)), j ≤ ts.length - 1 ∧ SlT .u64 4294967296 wr v6 ans ∧ Hid (ans = (ts.tail.take j).foldl mulq t0) ∧ Hid ((∀ s, ts[j]? = some s → ∀ r ∈ ans, r.length = wideq s) ∧ ans.length ≤ 4 ∧ lenT ans (bnd j)) ∧ Below w.heap.size w wr ∧ v49 = .int .i64 (j : Int)) (fun _ v49 _ => (ts.length - 1) - (intOf v49).toNat)
        case atStart => exact ⟨0, t0, by omega, SA, by show _ = _; rw [List.take_zero]; rfl, ⟨fun s hs r hr => by rw [HT0.out] at hs; injection hs with hs; subst hs; exact ((HF.out.2 0 t0 HT0.out).1.2.2 r hr), HB0.out.1, HB0.out.2.2⟩, bb5, rfl⟩
        case round =>
          clear SA bb5
          obtain ⟨j, ans, hj, SA, HAN, HAB, bb, rfl⟩ := hrel
          obtain ⟨AA, cA, eA, _, _⟩ := SA.shape
          subst eA
          by_cases hlt2 : j < ts.length - 1
          · obtain ⟨t, ht⟩ : ∃ t, ts.tail[j]? = some t := ⟨_, List.getElem?_eq_getElem (by rw [HTL.out]; exact hlt2)⟩
            have HT := Lib.hid ht
            obtain ⟨At1, ct1, hit1, ect, stt⟩ := (stT.below bb).at2 ht
            have ht1 : ts[j + 1]? = some t := by rw [List.getElem?_tail] at ht; exact ht
            obtain ⟨s, hs⟩ : ∃ s, ts[j]? = some s := ⟨_, List.getElem?_eq_getElem (by omega)⟩
            have hok := HF.out.2 (j + 1) t ht1
            have htm := List.mem_of_getElem? ht1
            have hws : wideq s = t.length := hok.2 s (by omega) (by rw [Nat.add_sub_cancel]; exact hs)
            have hj1 : bnd j ≤ 85 := by
              rcases (by omega : j = 0 ∨ j = 1) with rfl | rfl
              · decide
              · decide
            have htl : t.length ≤ 4 := (HL.out.2 t htm).1
            have hrows : ∀ r ∈ ans, r.length = t.length := fun r hr => by rw [HAB.out.1 s hs r hr, hws]
            have hmul : (10 + bnd j + 1) * t.length + 1 ≤ 900 := by
              have := Nat.mul_le_mul (show 10 + bnd j + 1 ≤ 96 by omega) htl
              omega
            have HPR : Hid ((∀ r ∈ ans, r.length = t.length) ∧ ans.length ≤ 1000 ∧ t.length ≤ 1000 ∧ wideq t ≤ 1000 ∧ evenq t ∧ lenT ans (bnd j) ∧ lenT t 10 ∧ 1 ≤ 10 ∧ 10 ≤ 900 ∧ (10 + bnd j + 1) * t.length + 1 ≤ 900) := ⟨hrows, by have := HAB.out.2.1; omega, by omega, Nat.le_trans hok.1.2.1 (by decide), hok.1.2.2, HAB.out.2.2, (HL.out.2 t htm).2.2, by decide, by decide, hmul⟩
            have HAN2 : Hid (mulq ans t = (ts.tail.take (j + 1)).foldl mulq t0) := by show _ = _; rw [foldl_take_snoc mulq t0 HT.out, HAN.out]
            have HAB2 : Hid ((∀ s, ts[j + 1]? = some s → ∀ r ∈ mulq ans t, r.length = wideq s) ∧ (mulq ans t).length ≤ 4 ∧ lenT (mulq ans t) (bnd (j + 1))) := by
              refine ⟨fun s' hs' r hr => ?_, by rw [mulq_len]; exact HAB.out.2.1, ?_⟩
              · rw [ht1] at hs'
                injection hs' with hs'
                subst hs'
                exact mulq_rows r hr
              · exact lenT_mul HAB.out.2.2 ((HL.out.2 t htm).2.2.mono (bnd_one j)) (Nat.le_trans (by decide) (bnd_one j)) hrows htl
            clear ht ht1 hs hok htm hws hrows hmul
            go_wp2_with fail
            refine (mproduct_any _ _ ans t (bnd j) 10 _ SA stt HPR.out.1 HPR.out.2).mono ?_
            rintro e w7 ⟨V7, rfl, S7, b7⟩
            have bb7 := bb.trans (b7.mono bb.size)
            have hsk : ts.length - 1 - (j + 1) < ts.length - 1 - j := by omega
            obtain ⟨A7, c7, e7, _, _⟩ := S7.shape
            subst e7
            clear SA stt ect HAN HAB
            go_wp2
            go_roundw
            case rel => exact ⟨j + 1, mulq ans t, by omega, S7, HAN2, HAB2, bb7, by go_num⟩
            case measure => simp [intOf]; omega
          · obtain rfl : j = ts.length - 1 := by omega
            have HE : Hid (ans = prodT ts) := by
              show _ = _
              rw [HAN.out, List.take_of_length_le (by rw [HTL.out]; exact Nat.le_refl _), prodT]
              congr 1
              cases ts with
              | nil => exact absurd rfl hn
              | cons a l => have h := HT0.out; simpa using h.symm
            have hS : SlT .u64 4294967296 wr (.slice AA ans.length cA) (prodT ts) := by rw [← HE.out]; exact SA
            clear SA HAN HAB
            go_wp2
            go_ret2
            exact .inl ⟨HF.out, _, rfl, by rw [if_pos rfl]; exact hS, bb⟩
theorem sum_take_le : ∀ (l : List Nat) (j : Nat), (l.take j).sum ≤ l.sum
  | [], j => by simp
  | x :: l, 0 => by simp
  | x :: l, j + 1 => by have := sum_take_le l j; simp; omega
theorem slT_two {k : IntKind} {B : Nat} {w : World} {v u0 u1 : Value} {r0 r1 : List Rat} (h : IsV w v [u0, u1]) (h0 : SlF k B w u0 r0) (h1 : SlF k B w u1 r1) (hc : ∀ A n c, v = .slice A n c → c ≤ maxLen) : SlT k B w v [r0, r1] := by
  obtain ⟨A, c, e, h2, h3⟩ := h
  refine ⟨[u0, u1], rfl, ⟨A, c, e, h2, hc _ _ _ e, h3⟩, fun i x y hx hy => ?_⟩
  rcases i with _ | _ | i
  · obtain rfl : u0 = x := by simpa using hx
    obtain rfl : r0 = y := by simpa using hy
    exact h0
  · obtain rfl : u1 = x := by simpa using hx
    obtain rfl : r1 = y := by simpa using hy
    exact h1
  · simp at hx
/-- Two rows of two, written out. -/
theorem tab22 (w : World) {a b c d : Rat} {ua ta ub tb uc tc ud td : Value} (ha : IsS w .u64 ua (digs 4294967296 a.num.natAbs)) (ha2 : IsS w .u64 ta (digs 4294967296 a.den)) (hb : IsS w .u64 ub (digs 4294967296 b.num.natAbs)) (hb2 : IsS w .u64 tb (digs 4294967296 b.den)) (hc : IsS w .u64 uc (digs 4294967296 c.num.natAbs)) (hc2 : IsS w .u64 tc (digs 4294967296 c.den)) (hd : IsS w .u64 ud (digs 4294967296 d.num.natAbs)) (hd2 : IsS w .u64 td (digs 4294967296 d.den)) :
    SlT .u64 4294967296 (((w.alloc (.cells #[.bool (ngB a.num), ua, ta, .bool (ngB b.num), ub, tb] 36)).alloc (.cells #[.bool (ngB c.num), uc, tc, .bool (ngB d.num), ud, td] 36)).alloc (.cells #[.slice (some ⟨w.heap.size, 0, none⟩) 2 2, .slice (some ⟨w.heap.size + 1, 0, none⟩) 2 2] 53)) (.slice (some ⟨w.heap.size + 1 + 1, 0, none⟩) 2 2) [[a, b], [c, d]] ∧ Below w.heap.size w (((w.alloc (.cells #[.bool (ngB a.num), ua, ta, .bool (ngB b.num), ub, tb] 36)).alloc (.cells #[.bool (ngB c.num), uc, tc, .bool (ngB d.num), ud, td] 36)).alloc (.cells #[.slice (some ⟨w.heap.size, 0, none⟩) 2 2, .slice (some ⟨w.heap.size + 1, 0, none⟩) 2 2] 53)) := by
  have s1 := slF_lit2 w 36 ha ha2 hb hb2
  have b1 := below_alloc (w := w) (Nat.le_refl _) (.cells #[.bool (ngB a.num), ua, ta, .bool (ngB b.num), ub, tb] 36)
  have hs1 : (w.alloc (.cells #[.bool (ngB a.num), ua, ta, .bool (ngB b.num), ub, tb] 36)).heap.size = w.heap.size + 1 := by simp
  obtain ⟨w1, hw1⟩ : ∃ w1, w1 = w.alloc (.cells #[.bool (ngB a.num), ua, ta, .bool (ngB b.num), ub, tb] 36) := ⟨_, rfl⟩
  rw [← hw1] at s1 b1 hs1 ⊢
  have s2 := slF_lit2 w1 36 (hc.below b1) (hc2.below b1) (hd.below b1) (hd2.below b1)
  have b2 := below_alloc (w := w1) (Nat.le_refl _) (.cells #[.bool (ngB c.num), uc, tc, .bool (ngB d.num), ud, td] 36)
  have hs2 : (w1.alloc (.cells #[.bool (ngB c.num), uc, tc, .bool (ngB d.num), ud, td] 36)).heap.size = w.heap.size + 1 + 1 := by simpa using hs1
  obtain ⟨w2, hw2⟩ : ∃ w2, w2 = w1.alloc (.cells #[.bool (ngB c.num), uc, tc, .bool (ngB d.num), ud, td] 36) := ⟨_, rfl⟩
  rw [← hw2] at s2 b2 hs2 ⊢
  rw [hs1] at s2
  have b3 := below_alloc (w := w2) (Nat.le_refl _) (.cells #[.slice (some ⟨w.heap.size, 0, none⟩) 2 2, .slice (some ⟨w.heap.size + 1, 0, none⟩) 2 2] 53)
  have hv := isV_lit w2 53 [.slice (some ⟨w.heap.size, 0, none⟩) 2 2, .slice (some ⟨w.heap.size + 1, 0, none⟩) 2 2]
  rw [hs2] at hv
  refine ⟨slT_two hv ((s1.below b2).below b3) (s2.below b3) (fun A n c e => by injection e with _ _ e3; subst e3; unfold maxLen; simp), ?_⟩
  exact b1.trans ((b2.mono b1.size).trans (b3.mono (Nat.le_trans b1.size b2.size)))
set_option maxHeartbeats 6400000 in
set_option maxRecDepth 100000 in
theorem works12_any (w : World) : Calls Tryz.prog 29 #[] w (RetV (.bool true) w) := by
  obtain ⟨Z, hZ⟩ : ∃ Z : Rat, Z = ((0 : Int) : Rat) := ⟨_, rfl⟩
  obtain ⟨O, hO⟩ : ∃ O : Rat, O = ((1 : Int) : Rat) := ⟨_, rfl⟩
  have HZ := Lib.hid hZ
  have HO := Lib.hid hO
  have CZ : Calls Tryz.prog 53 #[.int .i64 0] w (RetQ Z w) := by rw [hZ]; exact of8_any 0 _ (by omega) (by omega)
  have CO : ∀ w, Calls Tryz.prog 53 #[.int .i64 1] w (RetQ O w) := fun w => by rw [hO]; exact of8_any 1 _ (by omega) (by omega)
  clear hZ hO
  go_enter Tryz.func29, Tryz.ntmps29
  go_wp2_with fail
  refine CZ.mono ?_
  rintro e w1 ⟨v0, rfl, k0, f0, b1⟩
  obtain ⟨u0, t0, rfl, q0, d0⟩ := k0
  obtain ⟨A0, c0, rfl, _⟩ := id q0
  obtain ⟨D0, e0, rfl, _⟩ := id d0
  go_wp2_with fail
  refine (CO _).mono ?_
  rintro e w2 ⟨v1, rfl, k1, f1, b2⟩
  obtain ⟨u1, t1, rfl, q1, d1⟩ := k1
  obtain ⟨A1, c1, rfl, _⟩ := id q1
  obtain ⟨D1, e1, rfl, _⟩ := id d1
  have q02 := q0.below b2
  have d02 := d0.below b2
  clear CZ CO f0 f1 q0 d0
  go_upto_region 2 with (fail)
  have B0 := (Blk.new w2 36 #[.bool (ngB Z.num), .slice A0 (digs 4294967296 Z.num.natAbs).length c0, .slice D0 (digs 4294967296 Z.den).length e0]).alloc (.cells #[.bool (ngB O.num), .slice A1 (digs 4294967296 O.num.natAbs).length c1, .slice D1 (digs 4294967296 O.den).length e1] 36)
  have hs1 : (w2.alloc (.cells #[.bool (ngB Z.num), .slice A0 (digs 4294967296 Z.num.natAbs).length c0, .slice D0 (digs 4294967296 Z.den).length e0] 36)).heap.size = w2.heap.size + 1 := by simp
  have B1 := Blk.new (w2.alloc (.cells #[.bool (ngB Z.num), .slice A0 (digs 4294967296 Z.num.natAbs).length c0, .slice D0 (digs 4294967296 Z.den).length e0] 36)) 36 #[.bool (ngB O.num), .slice A1 (digs 4294967296 O.num.natAbs).length c1, .slice D1 (digs 4294967296 O.den).length e1]
  have ba := below_alloc (w := w2) (Nat.le_refl _) (.cells #[.bool (ngB Z.num), .slice A0 (digs 4294967296 Z.num.natAbs).length c0, .slice D0 (digs 4294967296 Z.den).length e0] 36)
  have ba2 := below_alloc (w := w2.alloc (.cells #[.bool (ngB Z.num), .slice A0 (digs 4294967296 Z.num.natAbs).length c0, .slice D0 (digs 4294967296 Z.den).length e0] 36)) (Nat.le_refl _) (.cells #[.bool (ngB O.num), .slice A1 (digs 4294967296 O.num.natAbs).length c1, .slice D1 (digs 4294967296 O.den).length e1] 36)
  have bb2 := ba.trans (ba2.mono ba.size)
  rw [hs1] at B1
  obtain ⟨g, hg⟩ : ∃ g, g = w2.heap.size := ⟨_, rfl⟩
  have q03 := q02.below bb2
  have d03 := d02.below bb2
  have q13 := q1.below bb2
  have d13 := d1.below bb2
  have bb := (b1.trans (b2.mono b1.size)).trans (bb2.mono (Nat.le_trans b1.size b2.size))
  obtain ⟨w3, hw3⟩ : ∃ w3, w3 = (w2.alloc (.cells #[.bool (ngB Z.num), .slice A0 (digs 4294967296 Z.num.natAbs).length c0, .slice D0 (digs 4294967296 Z.den).length e0] 36)).alloc (.cells #[.bool (ngB O.num), .slice A1 (digs 4294967296 O.num.natAbs).length c1, .slice D1 (digs 4294967296 O.den).length e1] 36) := ⟨_, rfl⟩
  rw [← hw3] at B0 B1 q03 d03 q13 d13 bb ⊢
  rw [← hg] at B0 B1 ⊢
  clear hw3 hg hs1 ba ba2 bb2 b1 b2 q02 d02 q1 d1
  obtain ⟨z00, z01, z02, _, _, _⟩ := three B0
  obtain ⟨z10, z11, z12, _, _, _⟩ := three B1
  obtain ⟨T, hT⟩ : ∃ T, T = [[Z, O], [Z, Z]] := ⟨_, rfl⟩
  have ST := tab22 w3 q03 d03 q13 d13 q03 d03 q03 d03
  obtain ⟨y00, y01, y02, _, _, _⟩ := three (B0.alloc (.cells #[.bool (ngB Z.num), .slice A0 (digs 4294967296 Z.num.natAbs).length c0, .slice D0 (digs 4294967296 Z.den).length e0, .bool (ngB O.num), .slice A1 (digs 4294967296 O.num.natAbs).length c1, .slice D1 (digs 4294967296 O.den).length e1] 36))
  go_upto_region 3 with (fail)
  obtain ⟨w4, hw4⟩ : ∃ w4, w4 = (((w3.alloc (.cells #[.bool (ngB Z.num), .slice A0 (digs 4294967296 Z.num.natAbs).length c0, .slice D0 (digs 4294967296 Z.den).length e0, .bool (ngB O.num), .slice A1 (digs 4294967296 O.num.natAbs).length c1, .slice D1 (digs 4294967296 O.den).length e1] 36)).alloc (.cells #[.bool (ngB Z.num), .slice A0 (digs 4294967296 Z.num.natAbs).length c0, .slice D0 (digs 4294967296 Z.den).length e0, .bool (ngB Z.num), .slice A0 (digs 4294967296 Z.num.natAbs).length c0, .slice D0 (digs 4294967296 Z.den).length e0] 36)).alloc (.cells #[.slice (some ⟨w3.heap.size, 0, none⟩) 2 2, .slice (some ⟨w3.heap.size + 1, 0, none⟩) 2 2] 53)) := ⟨_, rfl⟩
  rw [← hw4] at ST ⊢
  obtain ⟨h4, hh4⟩ : ∃ h4, h4 = w3.heap.size + 1 + 1 := ⟨_, rfl⟩
  rw [← hh4] at ST ⊢
  obtain ⟨ST, b4⟩ := ST
  rw [← hT] at ST
  have bb4 := bb.trans (b4.mono bb.size)
  have B04 := B0.below b4
  have q04 := q03.below b4
  have d04 := d03.below b4
  have lz : lenQ Z 1 := by rw [HZ.out]; exact ⟨digs_len_le (k := 1) (by omega) (by decide +kernel), digs_len_le (k := 1) (by omega) (by decide +kernel)⟩
  have lo : lenQ O 1 := by rw [HO.out]; exact ⟨digs_len_le (k := 1) (by omega) (by decide +kernel), digs_len_le (k := 1) (by omega) (by decide +kernel)⟩
  have lT : T.length ≤ 4 ∧ (∀ r ∈ T, r.length ≤ 4) ∧ lenT T 10 := by
    rw [hT]
    refine ⟨by simp, fun r hr => ?_, fun r hr x hx => ?_⟩
    · simp at hr; rcases hr with rfl | rfl <;> simp
    · simp at hr
      rcases hr with rfl | rfl
      · simp at hx; rcases hx with rfl | rfl
        · exact lz.mono (by omega)
        · exact lo.mono (by omega)
      · simp at hx; rw [hx]; exact lz.mono (by omega)
  have mT : mayq T := by rw [hT]; exact ⟨by simp, by show 2 ≤ 200; omega, fun r hr => by simp at hr; rcases hr with rfl | rfl <;> rfl⟩
  have mI : mayq (identq 2) := ⟨by rw [identq_len]; omega, by rw [identq_wide]; omega, identq_even 2⟩
  have HL1 : Hid (([T, T] : List (List (List Rat))).length ≤ 3 ∧ ∀ t ∈ [T, T], t.length ≤ 4 ∧ (∀ r ∈ t, r.length ≤ 4) ∧ lenT t 10) := ⟨by simp, fun t ht => by simp at ht; rw [ht]; exact lT⟩
  have HL2 : Hid (([identq 2, T] : List (List (List Rat))).length ≤ 3 ∧ ∀ t ∈ [identq 2, T], t.length ≤ 4 ∧ (∀ r ∈ t, r.length ≤ 4) ∧ lenT t 10) := ⟨by simp, fun t ht => by
    simp at ht
    rcases ht with rfl | rfl
    · exact ⟨by rw [identq_len]; omega, fun r hr => by rw [identq_rows r hr]; omega, (lenT_ident 2).mono (by omega)⟩
    · exact lT⟩
  have lT2 : T.length = 2 := by rw [hT]; rfl
  have wT2 : wideq T = 2 := by rw [hT]; rfl
  have HF1 : Hid (fitsq [T, T]) := ⟨by simp, fun i t ht => by
    rcases i with _ | _ | i
    · obtain rfl : T = t := by simpa using ht
      exact ⟨mT, fun s h => by omega⟩
    · obtain rfl : T = t := by simpa using ht
      exact ⟨mT, fun s _ hs => by obtain rfl : T = s := by simpa using hs; ; rw [wT2, lT2]⟩
    · simp at ht⟩
  have HF2 : Hid (fitsq [identq 2, T]) := ⟨by simp, fun i t ht => by
    rcases i with _ | _ | i
    · obtain rfl : identq 2 = t := by simpa using ht
      exact ⟨mI, fun s h => by omega⟩
    · obtain rfl : T = t := by simpa using ht
      exact ⟨mT, fun s _ hs => by obtain rfl : identq 2 = s := by simpa using hs; ; rw [identq_wide, lT2]⟩
    · simp at ht⟩
  obtain ⟨P, hP⟩ : ∃ P, P = prodT [T, T] := ⟨_, rfl⟩
  obtain ⟨Q, hQ⟩ : ∃ Q, Q = prodT [identq 2, T] := ⟨_, rfl⟩
  obtain ⟨I2, hI2⟩ : ∃ I2, I2 = identq 2 := ⟨_, rfl⟩
  have HP2 : Hid (P = [[Z, Z], [Z, Z]]) := by show _ = _; rw [hP, hT, HZ.out, HO.out]; decide +kernel
  have HQ2 : Hid (Q = T) := by show _ = _; rw [hQ]; exact identq_mul mT.2.2 lT2
  have HPP := Lib.hid hP.symm
  have HQQ := Lib.hid hQ.symm
  have HII := Lib.hid hI2.symm
  have HT := Lib.hid hT
  clear hw4 hh4 B0 B1 z00 z01 z02 z10 z11 z12 y00 y01 y02 q03 d03 q13 d13 hT hP hQ hI2 bb lz lo lT mT mI lT2 wT2 b4
  have HLa := listT_two (isV_lit w4 52 [.slice (some ⟨h4, 0, none⟩) 2 2, .slice (some ⟨h4, 0, none⟩) 2 2]) (ST.below (below_alloc (Nat.le_refl _) _)) (ST.below (below_alloc (Nat.le_refl _) _))
  have ba := below_alloc (w := w4) (Nat.le_refl _) (.cells #[.slice (some ⟨h4, 0, none⟩) 2 2, .slice (some ⟨h4, 0, none⟩) 2 2] 52)
  go_wp2_with fail
  refine (mmul_any _ [T, T] _ HLa HL1.out).mono ?_
  rintro e w5 h5
  obtain ⟨VP, rfl, SP, b5⟩ : RetTE (prodT [T, T]) 0 _ e w5 := by
    rcases h5 with ⟨_, h5⟩ | ⟨h5, _⟩
    · exact h5
    · exact absurd HF1.out h5
  rw [if_pos rfl, HPP.out] at SP
  obtain ⟨AP, cP, rfl, _, _⟩ := SP.shape
  have b45 := ba.trans (b5.mono ba.size)
  have bb5 := bb4.trans (b45.mono bb4.size)
  clear HLa ba b5
  go_wp2_with fail
  refine (mident_ok 2 2 _ rfl (by omega)).mono ?_
  rintro e w6 ⟨VI, rfl, SI, b6⟩
  rw [if_pos rfl, HII.out] at SI
  obtain ⟨AI, cI, rfl, _, _⟩ := SI.shape
  have ST6 := (ST.below b45).below b6
  have HLb := listT_two (isV_lit w6 52 [.slice AI I2.length cI, .slice (some ⟨h4, 0, none⟩) 2 2]) (SI.below (below_alloc (Nat.le_refl _) _)) (ST6.below (below_alloc (Nat.le_refl _) _))
  have ba := below_alloc (w := w6) (Nat.le_refl _) (.cells #[.slice AI I2.length cI, .slice (some ⟨h4, 0, none⟩) 2 2] 52)
  rw [← HII.out] at HLb
  go_wp2_with fail
  refine (mmul_any _ [identq 2, T] _ (by rw [HII.out] at HLb ⊢; exact HLb) HL2.out).mono ?_
  rintro e w7 h7
  obtain ⟨VQ, rfl, SQ, b7⟩ : RetTE (prodT [identq 2, T]) 0 _ e w7 := by
    rcases h7 with ⟨_, h7⟩ | ⟨h7, _⟩
    · exact h7
    · exact absurd HF2.out h7
  rw [if_pos rfl, HQQ.out] at SQ
  obtain ⟨AQ, cQ, rfl, _, _⟩ := SQ.shape
  have b57 := b6.trans ((ba.trans (b7.mono ba.size)).mono b6.size)
  have b47 := b45.trans (b57.mono b45.size)
  have bb7 := bb4.trans (b47.mono bb4.size)
  have SP7 := SP.below b57
  have ST7 := ST.below b47
  have S22 := tab22 w7 (q04.below b47) (d04.below b47) (q04.below b47) (d04.below b47) (q04.below b47) (d04.below b47) (q04.below b47) (d04.below b47)
  have B07 := B04.below b47
  obtain ⟨z00, z01, z02, _, _, _⟩ := three B07
  obtain ⟨y00, y01, y02, _, _, _⟩ := three (B07.alloc (.cells #[.bool (ngB Z.num), .slice A0 (digs 4294967296 Z.num.natAbs).length c0, .slice D0 (digs 4294967296 Z.den).length e0, .bool (ngB Z.num), .slice A0 (digs 4294967296 Z.num.natAbs).length c0, .slice D0 (digs 4294967296 Z.den).length e0] 36))
  clear SP ST HLb ba b6 b7 b57 b45 B04 B07 q04 d04 SI ST6
  go_wp2_with fail
  refine (msame_any _ _ P [[Z, Z], [Z, Z]] true _ (SP7.below S22.2) S22.1 (decide_eq_true HP2.out).symm).mono ?_
  rintro e w8 ⟨rfl, b8⟩
  have b78 := S22.2.trans (b8.mono S22.2.size)
  have bb8 := bb7.trans (b78.mono bb7.size)
  have SQ8 := SQ.below b78
  have ST8 := ST7.below b78
  clear SP7 ST7 SQ S22 b8 b78
  go_wp2_with fail
  refine (msame_any _ _ Q T true _ SQ8 (by rw [HT.out] at ST8 ⊢; exact ST8) (decide_eq_true HQ2.out).symm).mono ?_
  rintro e w9 ⟨rfl, b9⟩
  have bb9 := bb8.trans (b9.mono bb8.size)
  go_wp2
  go_ret
  exact ⟨rfl, bb9⟩
section
variable {P : Program}
/-- 'all = append(all, x)', all a row of slices of the call's own. -/
theorem wpList_append_w {w : World} {ops : Array Oper} {rest : List Oper} {o : Oper} {a : Act} {Q : Exit → Act → World → Prop} (hgd : o.guard = none) (s x : Operand) {t : TypeId}
    (ho : o.op = .call { callee := .builtin .append, args := #[s, x], argTypes := #[t, t] })
    {base : Nat} {T : TypeId} (hT : P.underlying t = some (.slice T)) (hI : ∃ i, P.info? T = some i ∧ i.zero = some (.slice none 0 0) ∧ i.size = 1 ∧ i.bytes = 24) {v u : Value} {vs : List Value} (hs : a.eval s = v) (hown : RowV w base T v vs) (hx : a.eval x = .slice (some ⟨w.heap.size, 0, none⟩) 1 1) (hu : u.oneCell' = true)
    (hlen : vs.length ≤ 1000000000) (hbase : base ≤ w.heap.size)
    (h : ∀ v' w', RowV w' base T v' (vs ++ [u]) → Below base w w' → Hid (Grew w w' v v') → wpList P ops Q rest (a.put o.dst v') w') : wpList P ops Q (o :: rest) a (w.alloc (.cells #[u] T)) := by
  obtain ⟨i, hi, hz, hsz, hby⟩ := hI
  refine wpList_append_lies (w.alloc (.cells #[u] T)) hgd s x t ho base T i (.slice none 0 0) 1 24 hT hi hz hsz hby rfl (by omega) v vs.length vs hs (World.ownsRow.alloc hown _) ⟨w.heap.size, 0, none⟩ 1 1 [u] hx rfl ?_ ?_ (by omega) (by unfold maxLen; omega) (by omega) (by simp; omega) _ rfl ?_
  · exact World.news_of_block (heap_alloc_new w _)
  · intro u' hu'
    obtain rfl := List.mem_singleton.1 hu'
    exact hu
  · intro g cap w' g1 g2 g3 g4
    have h5 : w.grownBy w' v.ownBlock := grown_trans (World.grownBy_alloc w _ _) g2
    refine h _ w' (by unfold RowV; rw [List.length_append]; exact g1) ((Below.refl base w).grown h5 hbase hown.base_le) ?_
    refine ⟨?_, h5, fun k hk hne e1 => ?_⟩
    · intro k q l hq hf
      refine ⟨hq.farKept hf h5, ?_⟩
      rintro ad n c rfl hn
      rcases g3 with h3 | h3
      · have := hf ad n c rfl hn
        rw [h3] at this
        exact this
      · subst h3
        intro e1
        have e2 : ad.block = (w.alloc (.cells #[u] T)).heap.size := by simpa [Value.ownBlock] using e1
        obtain ⟨A, c', e3, k1, k2, k3⟩ := hq
        injection e3 with e3 e4 e5
        subst e3; subst e4
        obtain ⟨ad', he, hc⟩ := k3 0 _ (List.getElem?_eq_getElem hn)
        injection he with he; subst he
        have h6 := World.block_lt_of_cell? w _ hc
        rw [Go.ChangeShapes.block_add] at h6
        simp at e2
        omega
    · have e2 : g = k := by simpa [Value.ownBlock] using e1
      subst e2
      rcases g3 with h3 | h3
      · exact hne h3
      · simp at h3; omega
end
end Go.Proofs.YtpcdkepkipadaaaGreat.rat
namespace Go.Proofs.YtpcdkepkipadaaaGreat.rat
open Go.RowKit Go.ChangeShapes Go.WideShapes Go.ChangeAt Go.Joins Go.Deep Go.Proofs.YtpcdkepkipadaaaGreat.num Go.Proofs.YtpcdkepkipadaaaGreat.mem Go.Proofs.YtpcdkepkipadaaaGreat.nat Go.Proofs.YtpcdkepkipadaaaGreat.txt Go.Proofs.YtpcdkepkipadaaaGreat.str Go.Proofs.YtpcdkepkipadaaaGreat.flow Go.Proofs.YtpcdkepkipadaaaGreat.whl
set_option linter.unusedVariables false
/-- A slice of slices of structs of a sign, limbs, and limbs, as it came in. -/
def ArgT (w : World) (v : Value) : Prop := ∃ A n c, v = .slice A n c ∧ n ≤ c ∧ c ≤ maxLen ∧ ∀ i, i < n → ∃ ad u, A = some ad ∧ w.cell? (ad.add i) = some u ∧ ArgQs w u
theorem ArgT.below {w w' : World} {v : Value} (h : ArgT w v) (hb : Below w.heap.size w w') : ArgT w' v := by
  obtain ⟨A, n, c, e, h1, h2, h3⟩ := h
  refine ⟨A, n, c, e, h1, h2, fun i hi => ?_⟩
  obtain ⟨ad, u, a1, e0, k⟩ := h3 i hi
  exact ⟨ad, u, a1, (hb.cell (World.block_lt_of_cell? w _ e0)).trans e0, ArgQs.below k hb⟩
theorem trod_qs {H : Type} {enc : TypeId × Value → H} {P : Program} {W : World} {fuel : Nat} {ts t e : TypeId} {f0 f1 g0 g1 : Field} {v : Value} {x : DataW H × List MemPlace} (ht : P.underlying ts = some (.slice t)) (hs : P.underlying t = some (.struct #[f0, f1])) (hC : P.cellsOf t = 3) (ho : (f0.offset == 0 && f1.offset == 2 && P.cellsOf f0.type == 2 && P.cellsOf f1.type == 1) = true)
    (hs2 : P.underlying f0.type = some (.struct #[g0, g1])) (hone : oneCellFields P #[g0, g1] = true) (hb : P.underlying g0.type = some .bool) (hsl : P.underlying g1.type = some (.slice e)) (hsl2 : P.underlying f1.type = some (.slice e)) (he : P.underlying e = some (.int .u64)) (ce : P.cellsOf e = 1)
    (hf : DataW.trod enc P W 0 (fun _ => true) true fuel ts [v] = some x) : ArgQs W v := by
  rcases Go.Deep.open_slice ht hf with ⟨hcs, hx⟩ | ⟨a, len', cap', m, n, D, Pl, hcs, _, hl, hm, hmm, hx, hrows⟩
  · injection hcs with hcs
    subst hcs
    exact ⟨none, 0, 0, rfl, by omega, by simp, fun i hi => by omega⟩
  · injection hcs with hcs
    subst hcs
    refine ⟨some a, len', cap', rfl, hl, hm, fun i hi => ?_⟩
    obtain ⟨cs', h1, h2⟩ := hrows i (by simp at hmm; omega)
    rw [hC] at h1
    obtain ⟨_, hlen, hcell⟩ := World.cells?_some h1
    match cs', hlen with
    | [c0, c1, c2], _ =>
      obtain ⟨b, l, m', e0, k1, k2, k3, k4⟩ := trod_q hs ho hs2 hone hb hsl hsl2 he ce h2
      subst e0
      have g0 := hcell 0 (by omega)
      have g1 := hcell 1 (by omega)
      have g2 := hcell 2 (by omega)
      rw [add_add] at g0 g1 g2
      exact ⟨a, b, c1, c2, l, m', rfl, by simpa using g0, by simpa using g1, by simpa using g2, k1, k2, k3, k4⟩
theorem arg_t {H : Type} {enc : TypeId × Value → H} {P : Program} {W : World} {base : Nat} {tt ts t e : TypeId} {f0 f1 g0 g1 : Field} {v : Value} {d : DataW H} {p : List MemPlace} (htt : P.underlying tt = some (.slice ts)) (hC1 : P.cellsOf ts = 1) (ht : P.underlying ts = some (.slice t)) (hs : P.underlying t = some (.struct #[f0, f1])) (hC : P.cellsOf t = 3) (ho : (f0.offset == 0 && f1.offset == 2 && P.cellsOf f0.type == 2 && P.cellsOf f1.type == 1) = true)
    (hs2 : P.underlying f0.type = some (.struct #[g0, g1])) (hone : oneCellFields P #[g0, g1] = true) (hb : P.underlying g0.type = some .bool) (hsl : P.underlying g1.type = some (.slice e)) (hsl2 : P.underlying f1.type = some (.slice e)) (he : P.underlying e = some (.int .u64)) (ce : P.cellsOf e = 1)
    (hv : Value.okWide P W .any base tt v) (h : DataW.Trod enc P W 0 (fun _ => true) true tt v d p) : ArgT W v := by
  obtain ⟨a0, len, cap, rfl⟩ := okWide_slice htt hv
  obtain ⟨fuel, hf⟩ := h
  rcases Go.Deep.open_slice htt hf with ⟨hcs, hx⟩ | ⟨a, len', cap', m, n, D, Pl, hcs, _, hl, hm, hmm, hx, hrows⟩
  · simp [Value.cells] at hcs
    obtain ⟨rfl, rfl, rfl⟩ := hcs
    exact ⟨none, 0, 0, rfl, by omega, by simp, fun i hi => by omega⟩
  · simp [Value.cells] at hcs
    obtain ⟨rfl, rfl, rfl⟩ := hcs
    refine ⟨some a, len, cap, rfl, hl, hm, fun i hi => ?_⟩
    obtain ⟨cs', h1, h2⟩ := hrows i (by simp at hmm; omega)
    rw [hC1] at h1
    obtain ⟨_, hlen, hcell⟩ := World.cells?_some h1
    match cs', hlen with
    | [c0], _ =>
      have g0 := hcell 0 (by omega)
      rw [add_add] at g0
      exact ⟨a, c0, rfl, by simpa using g0, trod_qs ht hs hC ho hs2 hone hb hsl hsl2 he ce h2⟩
end Go.Proofs.YtpcdkepkipadaaaGreat.rat
namespace Go.Proofs.YtpcdkepkipadaaaGreat.rat
open Go.RowKit Go.Proofs.YtpcdkepkipadaaaGreat.num Go.Proofs.YtpcdkepkipadaaaGreat.mem Go.Proofs.YtpcdkepkipadaaaGreat.nat Go.Proofs.YtpcdkepkipadaaaGreat.txt Go.Proofs.YtpcdkepkipadaaaGreat.str Go.Proofs.YtpcdkepkipadaaaGreat.flow Go.Proofs.YtpcdkepkipadaaaGreat.whl
set_option linter.unusedVariables false
/-- Two rows of the call's own, of the same fractions, limbs in new memory. -/
def RetFewW (n : Nat) (w : World) (e : Ending) (w' : World) : Prop := ∃ V U ps rs, e = .returned (.tuple #[V, U]) ∧ TwoRows w w' V U ps rs ∧ NewL w.heap.size ps ∧ NewL w.heap.size rs ∧ rs.map (·.1) = ps.map (·.1) ∧ ps.length = n ∧ (∀ p ∈ ps, lenQ p.1 1)
set_option maxHeartbeats 6400000 in
set_option maxRecDepth 100000 in
theorem few11_two (A0 : Option Addr) (n0 c0 M : Nat) (w : World) (h0 : ArgQs w (.slice A0 n0 c0)) (hM : M ≤ 8) :
    Calls Tryz.prog 18 #[.slice A0 n0 c0, .int .i64 (M : Int)] w (RetFewW (min n0 M) w) := by
  obtain ⟨A0_, n0_, c0_, e_, hn0, hc0, hel⟩ := h0
  injection e_ with e1_ e2_ e3_
  subst e1_
  subst e2_
  subst e3_
  have HEL := Lib.hid hel
  clear hel
  unfold maxLen at hc0
  have bb : Below w.heap.size w w := Below.refl _ _
  go_enter Tryz.func18, Tryz.ntmps18
  go_wp2
  go_loopw [6, 7, 8] (fun v4 v5 v6 wr => ∃ (k : Nat) (ps rs : List Elt), k ≤ M ∧ k ≤ n0 ∧ Hid (ps.length = k) ∧ Hid (rs.map (·.1) = ps.map (·.1)) ∧ Hid (∀ p ∈ ps, lenQ p.1 1) ∧ TwoRows w wr v4 v5 ps rs ∧ NewL w.heap.size ps ∧ NewL w.heap.size rs ∧ v6 = .int .i64 (k : Int)) (fun _ _ v6 _ => M - (intOf v6).toNat)
  case atStart =>
    have r0 := rowF_lit0 36 w w.heap.size (Nat.le_refl _)
    have r1 := rowF_lit0 47 (w.alloc (.cells #[] 36)) w.heap.size (by simp)
    have r0' := r0.below (below_alloc (Nat.le_refl _) (.cells #[] 47))
    refine ⟨0, [], [], by omega, by omega, rfl, rfl, (by show ∀ p ∈ _, _; intro p hp; cases hp), ⟨r0', ?_, ⟨FarF.nil _ _ _ _, FarF.nil _ _ _ _⟩, ⟨FarF.nil _ _ _ _, FarF.nil _ _ _ _⟩, ?_, (below_alloc (Nat.le_refl _) _).alloc (by simp) _⟩, NewL.nil _, NewL.nil _, rfl⟩
    · simpa using r1
    · intro g h1 h2
      simp [Value.ownBlock] at h1 h2
      omega
  case round =>
    obtain ⟨k, ps, rs, hk8, hkn, HPL, HRP, HLQ, hTR, hNP, hNR, rfl⟩ := hrel
    obtain ⟨u4, hu4⟩ : ∃ u4, u4 = u6 := ⟨_, rfl⟩
    obtain ⟨u5, hu5⟩ : ∃ u5, u5 = u7 := ⟨_, rfl⟩
    subst hu4
    subst hu5
    have bb' := hTR.2.2.2.2.2
    clear bb
    have bb := bb'
    clear bb'
    by_cases hlt : k < n0 ∧ k < M
    · obtain ⟨hlt1, hlt2⟩ := hlt
      obtain ⟨ad, b, ue, te, l, m, hA0, e0, e1, e2, hu, lu, ht, lt⟩ := HEL.out k hlt1
      subst hA0
      obtain ⟨Ae, ce, rfl, _⟩ := id hu
      obtain ⟨De, ee, rfl, _⟩ := id ht
      replace e0 := (bb.cell (World.block_lt_of_cell? w _ e0)).trans e0
      replace e1 := (bb.cell (World.block_lt_of_cell? w _ e1)).trans e1
      replace e2 := (bb.cell (World.block_lt_of_cell? w _ e2)).trans e2
      replace hu := hu.below bb
      replace ht := ht.below bb
      obtain ⟨q, hq⟩ : ∃ q, q = cleanQ b l m 1 := ⟨_, rfl⟩
      have lq : lenQ q 1 := by rw [hq]; exact cleanQ_len _ _ _ (by omega)
      have HQ := Lib.hid hq.symm
      clear hq
      have bl : Below wr.heap.size wr wr := Below.refl _ _
      have hszr := bb.size
      go_upto_region 5 with (fail)
      refine flowp 6 [Pd.eq (.slice (some ad) n0 c0), Pd.eq (.int .i64 (k : Int)), Pd.eq (.pointer (some (ad.add (k * 3)))), Pd.eq (.agg #[.bool b, .slice Ae l.length ce, .slice De m.length ee]), pq (q) wr.heap.size, pn 36 #[.bool false, .slice none 0 0, .slice none 0 0] wr.heap.size] (by kernel_rfl) ?ob1 ?done1
      case ob1 =>
        refine And.intro (ob_move rfl (wt_none rfl) (ev_far rfl rfl) (fun _ _ h => h)) ?_
        refine And.intro (ob_move rfl (wt_none rfl) (ev_far rfl rfl) (fun _ _ h => h)) ?_
        refine And.intro (ob_indexAddr rfl (wt_none rfl) (ev_dep (j := 0) (by kernel_rfl) rfl rfl) (ev_dep (j := 1) (by kernel_rfl) rfl rfl) (fun _ _ _ hx hy => ⟨_, by rw [hx, hy]; exact index3_any Tryz.underlying53 (by kernel_rfl) ad hlt1 _, rfl⟩)) ?_
        refine And.intro (ob_load rfl (wt_none rfl) (ev_dep (j := 2) (by kernel_rfl) rfl rfl) (fun w2 hb => load3_any Tryz.underlying36 rfl (by kernel_rfl) ((hb.cell (World.block_lt_of_cell? wr _ e0)).trans e0) ((hb.cell (World.block_lt_of_cell? wr _ e1)).trans e1) ((hb.cell (World.block_lt_of_cell? wr _ e2)).trans e2)) (fun _ _ => rfl)) ?_
        refine And.intro (ob_call2 rfl Tryz.func9 (by kernel_rfl) (wt_none rfl) (ev_dep (j := 3) (by kernel_rfl) rfl rfl) (ev_const _) (fun w2 u0 u1 hb h0 h1 => by obtain rfl := h0; obtain rfl := h1; exact (HQ.out ▸ qclean_any b _ _ l m 1 1 _ rfl (hu.below hb) lu (ht.below hb) lt (by omega) (by omega)).mono fun e w3 h => RetQ.pd h hb.size)) ?_
        refine And.intro (ob_alloc (z := .agg #[.bool false, .slice none 0 0, .slice none 0 0]) rfl rfl (fun _ => by kernel_rfl) (fun _ _ hB h => ⟨_, rfl, hB, h⟩)) ?_
        trivial
      case done1 =>
        refine fun w2 hb2 v0 h0 v1 h1 v2 h2 v3 h3 v4 h4 v5 h5 d5 b hbf => ?_
        obtain rfl := h0; obtain rfl := h1; obtain rfl := h2; obtain rfl := h3
        obtain ⟨q4, f4⟩ := h4
        obtain ⟨g1_5, rfl, hg5, B5⟩ := h5
        simp only [Act.put, List.setIfInBounds_toArray, List.set_cons_zero, List.set_cons_succ] at hbf
        subst hbf
        replace bb := bb.trans (hb2.mono bb.size)
        have hsz2 := bb.size
        replace bl := bl.trans (hb2.mono bl.size)
        have BA9 := B5
        obtain ⟨u4, t4, rfl, q4, d4⟩ := q4
        obtain ⟨A7, c7, rfl, _⟩ := id q4
        obtain ⟨D7, e7, rfl, _⟩ := id d4
        refine ops_store (i := 6) rfl rfl rfl rfl rfl rfl (cells := [.bool (ngB (q).num), .slice A7 (digs 4294967296 (q).num.natAbs).length c7, .slice D7 (digs 4294967296 (q).den).length e7]) rfl BA9 rfl (by kernel_rfl) (one3 rfl rfl rfl) fun w3 hg3 BN3 => ?_
        replace q4 := off q4 BA9 no_ints3 hg3
        replace d4 := off d4 BA9 no_ints3 hg3
        replace bb := bb.trans ((Below.refl _ _).grown hg3 bb.size (fun g hg => by injection hg with hg; omega))
        have hsz3 := bb.size
        have B7 : Blk w3 (g1_5) _ _ := BN3
        have k7s := q4
        have k7d := d4
        have k7z : IsZ w3 (.agg #[.bool (ngB (q).num), .slice A7 (digs 4294967296 (q).num.natAbs).length c7]) ((q).num) := ⟨_, rfl, k7s⟩
        have k7 : IsQ w3 (.agg #[.bool (ngB (q).num), .slice A7 (digs 4294967296 (q).num.natAbs).length c7, .slice D7 (digs 4294967296 (q).den).length e7]) (q) := ⟨_, _, rfl, k7s, k7d⟩
        have hq_ := bl.size
        replace bl := bl.trans ((Below.refl _ _).grown hg3 bl.size (fun g hg => by injection hg with hg; omega))
        clear hq_
        refine ops_done ?_
        have g1 := (f4 _ _ _ rfl).1
        have g2 := (f4 _ _ _ rfl).2
        have under4 := hTR.1.under
        have under5 := hTR.2.1.under
        have far4 : Far u4 (.slice A7 (digs 4294967296 (q).num.natAbs).length c7) ∧ Far u4 (.slice D7 (digs 4294967296 (q).den).length e7) := ⟨g1.far under4, g2.far under4⟩
        have far5 : Far u5 (.slice A7 (digs 4294967296 (q).num.natAbs).length c7) ∧ Far u5 (.slice D7 (digs 4294967296 (q).den).length e7) := ⟨g1.far under5, g2.far under5⟩
        have hT2 := hTR.below bl
        have HT2 := Lib.hid hT2
        have hr4 : RowF 36 w3 w.heap.size u4 ps := hT2.1
        have hszT : w.heap.size ≤ w3.heap.size := hT2.2.2.2.2.2.size
        have hne4 : u4.ownBlock ≠ some g1_5 := fun e => by have := under4 _ e; omega
        obtain ⟨x70, x71, x72, _, _, _⟩ := three B7
        obtain ⟨P1, hP1⟩ : ∃ P1 : Elt, P1 = (q, .slice A7 (digs 4294967296 (q).num.natAbs).length c7, .slice D7 (digs 4294967296 (q).den).length e7) := ⟨_, rfl⟩
        have HP1 := Lib.hid hP1
        have k7d_ : IsE .u64 4294967296 w3 (q, .slice A7 (digs 4294967296 (q).num.natAbs).length c7, .slice D7 (digs 4294967296 (q).den).length e7) := ⟨k7s, k7d⟩
        have lq3 : lenQ q 30000 := ⟨Nat.le_trans lq.1 (by decide), Nat.le_trans lq.2 (by decide)⟩
        have HL8 : Hid (ps.length ≤ 1000000000 ∧ rs.length ≤ 1000000000) := by
          have h1 := HPL.out
          have h2 := congrArg List.length HRP.out
          rw [List.length_map, List.length_map] at h2
          exact ⟨by omega, by omega⟩
        clear hT2 hTR e0 e1 e2 hu ht lu lt hP1
        obtain ⟨cA0, cA1, cA2⟩ := new_cells w3 36 (.bool (ngB (q).num)) (.slice A7 (digs 4294967296 (q).num.natAbs).length c7) (.slice D7 (digs 4294967296 (q).den).length e7)
        have bA := below_alloc (w := w3) (Nat.le_refl _) (.cells #[.bool (ngB (q).num), .slice A7 (digs 4294967296 (q).num.natAbs).length c7, .slice D7 (digs 4294967296 (q).den).length e7] 36)
        obtain ⟨wA, hwA⟩ : ∃ wA, wA = w3.alloc (.cells #[.bool (ngB (q).num), .slice A7 (digs 4294967296 (q).num.natAbs).length c7, .slice D7 (digs 4294967296 (q).den).length e7] 36) := ⟨_, rfl⟩
        have HWA := Lib.hid hwA
        rw [← hwA] at cA0 cA1 cA2 bA
        replace bA := bA.drew
        have rA := hr4.below bA
        have eA := k7d_.below bA
        have tA := HT2.out.below bA
        have BA_ := B7.below bA
        have hszA : w.heap.size ≤ wA.drew.heap.size := tA.2.2.2.2.2.size
        have TA := Lib.hid tA
        clear tA
        subst hwA
        obtain ⟨xA0, xA1, xA2, _, _, _⟩ := three BA_
        go_upto_region 6 with (fail)
        go_region_law (first
          | (refine step_append_q rfl (.tmp 28) (.tmp 30) rfl Tryz.underlying53 info_rat (v := u4) (p := (q, .slice A7 (digs 4294967296 (q).num.natAbs).length c7, .slice D7 (digs 4294967296 (q).den).length e7)) (ps := ps) (by rfl) (by exact rA) (ad := ⟨w3.heap.size, 0, none⟩) (c := 1) (by rfl) (by exact cA0) (by exact cA1) (by exact cA2) rfl rfl HL8.out.1 (by exact hszA) ?_; intro v5 w5 row5 bb5 HK5; have T5 := Lib.hid (TA.out.one row5 HK5.out bb5 eA far4 far5); have s5 := (HK5.out.1 _ _ _ eA.1 far4.1).1; have d5 := (HK5.out.1 _ _ _ eA.2 far4.2).1; have B5_ := BA_.other HK5.out.2.1 hne4; obtain ⟨x50, x51, x52, _, _, _⟩ := three B5_)
          | (go_simp; go_at_call 12; refine (qoff_any _ q _ ⟨_, _, rfl, (by exact s5), (by exact d5)⟩ lq3).mono ?_; rintro e w6 ⟨v6, rfl, k6, f6, b6⟩; have T6 := Lib.hid (T5.out.below b6); have row6 := T6.out.2.1; obtain ⟨u6, t6, rfl, q6, d6⟩ := k6; obtain ⟨A6, c6, rfl, _⟩ := id q6; obtain ⟨D6, e6, rfl, _⟩ := id d6; have hsz6 : w.heap.size ≤ w6.heap.size := T6.out.2.2.2.2.2.size; obtain ⟨cC0, cC1, cC2⟩ := new_cells w6 47 (.bool (ngB (q).num)) (.slice A6 (digs 10000 (q).num.natAbs).length c6) (.slice D6 (digs 10000 (q).den).length e6); have rC := row6.below (below_alloc (Nat.le_refl _) (.cells #[.bool (ngB (q).num), .slice A6 (digs 10000 (q).num.natAbs).length c6, .slice D6 (digs 10000 (q).den).length e6] 47)); have hszC := Nat.le_trans hsz6 (below_alloc (w := w6) (Nat.le_refl _) (.cells #[.bool (ngB (q).num), .slice A6 (digs 10000 (q).num.natAbs).length c6, .slice D6 (digs 10000 (q).den).length e6] 47)).size)
          | (refine step_append_q rfl (.tmp 32) (.tmp 35) rfl Tryz.underlying57 info_q (v := u5) (p := (q, .slice A6 (digs 10000 (q).num.natAbs).length c6, .slice D6 (digs 10000 (q).den).length e6)) (ps := rs) (by rfl) (by exact rC) (ad := ⟨w6.heap.size, 0, none⟩) (c := 1) (by rfl) (by exact cC0) (by exact cC1) (by exact cC2) rfl rfl HL8.out.2 (by exact hszC) ?_; intro v7 w7 row7 bb7 HK7))
        all_goals
          have ba6 := below_alloc (w := w6) (Nat.le_refl _) (.cells #[.bool (ngB (q).num), .slice A6 (digs 10000 (q).num.natAbs).length c6, .slice D6 (digs 10000 (q).den).length e6] 47)
          have TC := T6.out.below ba6
          have EC : IsE .i64 10000 (w6.alloc (.cells #[.bool (ngB (q).num), .slice A6 (digs 10000 (q).num.natAbs).length c6, .slice D6 (digs 10000 (q).den).length e6] 47)) (q, .slice A6 (digs 10000 (q).num.natAbs).length c6, .slice D6 (digs 10000 (q).den).length e6) := ⟨q6.below ba6, d6.below ba6⟩
          have j1 := (f6 _ _ _ rfl).1
          have j2 := (f6 _ _ _ rfl).2
          have n4 := T5.out.1.under
          have n5 := T5.out.2.1.under
          have T7 := TC.two row7 HK7.out bb7 EC ⟨j1.far n4, j2.far n4⟩ ⟨j1.far n5, j2.far n5⟩
          have NP7 := hNP.snoc (p := (q, .slice A7 (digs 4294967296 (q).num.natAbs).length c7, .slice D7 (digs 4294967296 (q).den).length e7)) (g1.mono hszr) (g2.mono hszr)
          have hs5 : w.heap.size ≤ w5.heap.size := T5.out.2.2.2.2.2.size
          have NR7 := hNR.snoc (p := (q, .slice A6 (digs 10000 (q).num.natAbs).length c6, .slice D6 (digs 10000 (q).den).length e6)) (j1.mono hs5) (j2.mono hs5)
          have HPL7 : Hid ((ps ++ [((q, .slice A7 (digs 4294967296 (q).num.natAbs).length c7, .slice D7 (digs 4294967296 (q).den).length e7) : Elt)]).length = k + 1) := by show _ = _; rw [List.length_append, HPL.out]; rfl
          have HRP7 : Hid ((rs ++ [((q, .slice A6 (digs 10000 (q).num.natAbs).length c6, .slice D6 (digs 10000 (q).den).length e6) : Elt)]).map (·.1) = (ps ++ [((q, .slice A7 (digs 4294967296 (q).num.natAbs).length c7, .slice D7 (digs 4294967296 (q).den).length e7) : Elt)]).map (·.1)) := by show _ = _; rw [List.map_append, List.map_append, HRP.out]; rfl
          have HLQ7 : Hid (∀ p ∈ ps ++ [((q, .slice A7 (digs 4294967296 (q).num.natAbs).length c7, .slice D7 (digs 4294967296 (q).den).length e7) : Elt)], lenQ p.1 1) := fun p hp => by
            rcases List.mem_append.1 hp with hp | hp
            · exact HLQ.out p hp
            · rw [List.mem_singleton.1 hp]; exact lq
          have hme : M - (k + 1) < M - k := by omega
          go_wp2
          go_roundw
          case rel => exact ⟨k + 1, _, _, by omega, by omega, HPL7, HRP7, HLQ7, T7, NP7, NR7, rfl⟩
          case measure => exact hme
    · have HEND : Hid (TwoRows w wr u4 u5 ps rs ∧ NewL w.heap.size ps ∧ NewL w.heap.size rs ∧ rs.map (·.1) = ps.map (·.1) ∧ ps.length = min n0 M ∧ (∀ p ∈ ps, lenQ p.1 1)) := ⟨hTR, hNP, hNR, HRP.out, by rw [HPL.out]; omega, HLQ.out⟩
      clear hTR HRP HLQ HPL hNP hNR
      have hx : ¬ k < n0 ∨ (k < n0 ∧ ¬ k < M) := by omega
      rcases hx with hx | ⟨hx1, hx2⟩
      all_goals
        go_wp2
        go_ret2
        exact ⟨_, _, ps, rs, rfl, HEND.out.1, HEND.out.2.1, HEND.out.2.2.1, HEND.out.2.2.2.1, HEND.out.2.2.2.2.1, HEND.out.2.2.2.2.2⟩
theorem RowF.weak {T : TypeId} {w : World} {base base' : Nat} {v : Value} {ps : List Elt} (h : RowF T w base v ps) (hb : base' ≤ base) : RowF T w base' v ps := by
  refine ⟨h.1, ?_⟩
  rcases h.2 with h2 | ⟨g, cap, cur, e, h1, h2⟩
  · exact .inl h2
  · exact .inr ⟨g, cap, cur, e, Nat.le_trans hb h1, h2⟩
theorem flat3_take : ∀ (ps : List Elt) (m : Nat), flat3 (ps.take m) = (flat3 ps).take (m * 3)
  | [], m => by simp [flat3]
  | p :: ps, 0 => by simp [flat3]
  | p :: ps, m + 1 => by
    rw [List.take_succ_cons, flat3_cons, flat3_cons, flat3_take ps m, show (m + 1) * 3 = m * 3 + 3 from by omega, List.take_append, cells3_len, List.take_of_length_le (l := cells3 p) (by rw [cells3_len]; omega), Nat.add_sub_cancel]
/-- A row's front is a row of the call's own. -/
theorem RowF.take {T : TypeId} {w : World} {base n c m : Nat} {A : Option Addr} {ps : List Elt} (h : RowF T w base (.slice A n c) ps) (hm : m ≤ ps.length) : RowF T w base (.slice A m c) (ps.take m) := by
  have hl : (ps.take m).length = m := by rw [List.length_take]; omega
  unfold RowF
  rw [hl]
  refine ⟨by rw [flat3_len, hl], ?_⟩
  rcases h.2 with ⟨e, h0⟩ | ⟨g, cap, cur, e, h1, h2, h3, h4, h5, h6⟩
  · injection e with e1 e2 e3
    subst e1; subst e3
    have : m = 0 := by omega
    subst this
    exact .inl ⟨rfl, rfl⟩
  · injection e with e1 e2 e3
    subst e1; subst e3
    refine .inr ⟨g, c, cur, rfl, h1, h2, by omega, h4, h5, ?_⟩
    rw [flat3_take, ← h6, List.take_take, Nat.min_eq_left (by omega)]
/-- A table whose rows the call owns, each in a block of its own, whatever its elements' limbs are. -/
structure TabK (T : TypeId) (w : World) (base : Nat) (TS : TypeId) (V : Value) (us : List Value) (pss : List (List Elt)) : Prop where
  row : RowV w base TS V us
  len : us.length = pss.length
  own : ∀ (i : Nat) (u : Value) (ps : List Elt), us[i]? = some u → pss[i]? = some ps → RowF T w base u ps
  apart : ∀ (i j : Nat) (u v : Value), i ≠ j → us[i]? = some u → us[j]? = some v → ∀ h, u.ownBlock = some h → v.ownBlock ≠ some h
theorem TabO.k {k : IntKind} {B : Nat} {T : TypeId} {w : World} {base : Nat} {TS : TypeId} {V : Value} {us : List Value} {pss : List (List Elt)} (h : TabO k B T w base TS V us pss) : TabK T w base TS V us pss := ⟨h.row, h.len, h.own, h.apart⟩
theorem TabK.mem {T : TypeId} {w : World} {base : Nat} {TS : TypeId} {V : Value} {us : List Value} {pss : List (List Elt)} (h : TabK T w base TS V us pss) {u : Value} (hu : u ∈ us) : ∃ ps, RowF T w base u ps := by
  obtain ⟨i, hi⟩ := List.mem_iff_getElem?.1 hu
  have hp : pss[i]? = some (pss[i]'(by rw [← h.len]; exact (List.getElem?_eq_some_iff.1 hi).1)) := List.getElem?_eq_getElem _
  exact ⟨_, h.own i u _ hi hp⟩
theorem RowV.kept {w w' : World} {base : Nat} {TS : TypeId} {V : Value} {us : List Value} {row : Option Nat} (h : RowV w base TS V us) (hg : w.grownBy w' row) (hV : ∀ g, V.ownBlock = some g → row ≠ some g) : RowV w' base TS V us :=
  World.ownsRow.kept (row := row) h hg (by
    cases hv : V.ownBlock with
    | none => exact .inl rfl
    | some g => exact .inr fun e => hV g hv e.symm)
theorem TabK.kept {T : TypeId} {w w' : World} {base : Nat} {TS : TypeId} {V : Value} {us : List Value} {pss : List (List Elt)} {row : Option Nat} (h : TabK T w base TS V us pss) (hg : w.grownBy w' row) (hV : ∀ g, V.ownBlock = some g → row ≠ some g) (hu : ∀ u ∈ us, ∀ g, u.ownBlock = some g → row ≠ some g) : TabK T w' base TS V us pss :=
  ⟨RowV.kept h.row hg hV, h.len, fun i u ps hi hp => (h.own i u ps hi hp).other hg (fun g e => hu u (List.mem_of_getElem? hi) g e), h.apart⟩
theorem TabK.below {T : TypeId} {w w' : World} {base : Nat} {TS : TypeId} {V : Value} {us : List Value} {pss : List (List Elt)} (h : TabK T w base TS V us pss) (hb : Below w.heap.size w w') : TabK T w' base TS V us pss :=
  ⟨h.row.below hb, h.len, fun i u ps hi hp => (h.own i u ps hi hp).below hb, h.apart⟩
theorem TabO.kept {k : IntKind} {B : Nat} {T : TypeId} {w w' : World} {base : Nat} {TS : TypeId} {V : Value} {us : List Value} {pss : List (List Elt)} {row : Option Nat} (h : TabO k B T w base TS V us pss) (hg : w.grownBy w' row) (hV : ∀ g, V.ownBlock = some g → row ≠ some g) (hu : ∀ u ∈ us, ∀ g, u.ownBlock = some g → row ≠ some g)
    (hf : ∀ ps ∈ pss, ∀ p ∈ ps, (∀ ad n c, p.2.1 = .slice (some ad) n c → 0 < n → some ad.block ≠ row) ∧ (∀ ad n c, p.2.2 = .slice (some ad) n c → 0 < n → some ad.block ≠ row)) : TabO k B T w' base TS V us pss := by
  have hk := h.k.kept hg hV hu
  refine ⟨hk.row, hk.len, hk.own, fun u hu' ps hp p hpp => ?_, fun ps hp p hpp => ?_, hk.apart⟩
  · obtain ⟨e1, f1⟩ := h.far u hu' ps hp p hpp
    exact ⟨⟨e1.1.farKept (hf ps hp p hpp).1 hg, e1.2.farKept (hf ps hp p hpp).2 hg⟩, f1⟩
  · obtain ⟨e1, f1⟩ := h.farV ps hp p hpp
    exact ⟨⟨e1.1.farKept (hf ps hp p hpp).1 hg, e1.2.farKept (hf ps hp p hpp).2 hg⟩, f1⟩
/-- A row of the call's own is put behind the others. -/
theorem TabO.snoc {k : IntKind} {B : Nat} {T : TypeId} {w w' : World} {base : Nat} {TS : TypeId} {V V' u : Value} {us : List Value} {pss : List (List Elt)} {ps : List Elt} (hT : T ≠ TS) (h : TabO k B T w base TS V us pss) (hrow : RowV w' base TS V' (us ++ [u])) (hg : Grew w w' V V') (hu : RowF T w base u ps)
    (hap : ∀ v ∈ us, ∀ g, v.ownBlock = some g → u.ownBlock ≠ some g) (hf1 : FarF k B w u ps) (hf2 : ∀ v ∈ us, ∀ p ∈ ps, Far v p.2.1 ∧ Far v p.2.2) (hf3 : ∀ p ∈ ps, Far V p.2.1 ∧ Far V p.2.2) (hf4 : ∀ qs ∈ pss, ∀ p ∈ qs, Far u p.2.1 ∧ Far u p.2.2) : TabO k B T w' base TS V' (us ++ [u]) (pss ++ [ps]) := by
  obtain ⟨k1, k2, k3⟩ := hg
  have hlen := h.len
  have own' : ∀ {v : Value} {qs : List Elt}, RowF T w base v qs → RowF T w' base v qs := fun r => r.other k2 fun g e e2 => r.notRow h.row hT g e e2
  have at_ : ∀ {i : Nat} {v : Value}, (us ++ [u])[i]? = some v → (us[i]? = some v ∧ i < us.length) ∨ (i = us.length ∧ v = u) := by
    intro i v hi
    by_cases hl : i < us.length
    · rw [List.getElem?_append_left hl] at hi
      exact .inl ⟨hi, hl⟩
    · rw [List.getElem?_append_right (by omega)] at hi
      rcases hj : i - us.length with _ | j
      · rw [hj] at hi
        refine .inr ⟨by omega, ?_⟩
        simpa using hi.symm
      · rw [hj] at hi; simp at hi
  have all : ∀ qs ∈ pss ++ [ps], ∀ p ∈ qs, (IsE k B w' p ∧ Far V' p.2.1 ∧ Far V' p.2.2) ∧ (∀ v ∈ us, Far v p.2.1 ∧ Far v p.2.2) ∧ Far u p.2.1 ∧ Far u p.2.2 := by
    intro qs hqs p hp
    have main : IsE k B w p → Far V p.2.1 → Far V p.2.2 → IsE k B w' p ∧ Far V' p.2.1 ∧ Far V' p.2.2 := fun a b c => by
      have x1 := k1 _ _ _ a.1 b
      have x2 := k1 _ _ _ a.2 c
      exact ⟨⟨x1.1, x2.1⟩, x1.2, x2.2⟩
    rcases List.mem_append.1 hqs with hqs | hqs
    · obtain ⟨e1, f1, f2⟩ := h.farV qs hqs p hp
      exact ⟨main e1 f1 f2, fun v hv => (h.far v hv qs hqs p hp).2, hf4 qs hqs p hp⟩
    · rw [List.mem_singleton.1 hqs] at hp
      obtain ⟨e1, f1, f2⟩ := hf1 p hp
      exact ⟨main e1 (hf3 p hp).1 (hf3 p hp).2, fun v hv => hf2 v hv p hp, f1, f2⟩
  refine ⟨hrow, by rw [List.length_append, List.length_append, hlen]; rfl, fun i v qs hv hq => ?_, fun v hv qs hqs p hp => ?_, fun qs hqs p hp => (all qs hqs p hp).1, fun i j a b hij ha hb g hga hgb => ?_⟩
  · rcases at_ hv with ⟨hv, hl⟩ | ⟨rfl, rfl⟩
    · rw [List.getElem?_append_left (by omega)] at hq
      exact own' (h.own i v qs hv hq)
    · rw [List.getElem?_append_right (by omega), hlen, Nat.sub_self] at hq
      obtain rfl : ps = qs := by simpa using hq
      exact own' hu
  · refine ⟨(all qs hqs p hp).1.1, ?_⟩
    rcases List.mem_append.1 hv with hv | hv
    · exact (all qs hqs p hp).2.1 v hv
    · rw [List.mem_singleton.1 hv]; exact (all qs hqs p hp).2.2
  · rcases at_ ha with ⟨ha1, hl⟩ | ⟨hi, rfl⟩
    · rcases at_ hb with ⟨hb1, hl2⟩ | ⟨hj, rfl⟩
      · exact h.apart i j a b hij ha1 hb1 g hga hgb
      · exact hap a (List.mem_of_getElem? ha1) g hga hgb
    · rcases at_ hb with ⟨hb1, hl2⟩ | ⟨hj, rfl⟩
      · exact hap b (List.mem_of_getElem? hb1) g hgb hga
      · exact hij (by omega)
set_option linter.unusedSimpArgs false
theorem ArgT.shape {w : World} {v : Value} (h : ArgT w v) : ∃ A n c, v = .slice A n c ∧ n ≤ c ∧ c ≤ maxLen := by
  obtain ⟨A, n, c, e, h1, h2, _⟩ := h
  exact ⟨A, n, c, e, h1, h2⟩
theorem RowV.notV {w : World} {base base' : Nat} {TS TS' : TypeId} {V U : Value} {us vs : List Value} (h : RowV w base TS V us) (h' : RowV w base' TS' U vs) (hne : TS ≠ TS') : ∀ g, V.ownBlock = some g → U.ownBlock ≠ some g := by
  intro g e e2
  rcases h.2 with ⟨rfl, _⟩ | ⟨g', cap, cur, rfl, _, hg, _⟩
  · cases e
  · rcases h'.2 with ⟨rfl, _⟩ | ⟨g2, cap2, cur2, rfl, _, hg2, _⟩
    · cases e2
    · have e1 : g' = g := by simpa [Value.ownBlock] using e
      have e3 : g2 = g := by simpa [Value.ownBlock] using e2
      subst e1; subst e3
      rw [hg] at hg2
      injection hg2 with hg2
      injection hg2 with _ hg2
      exact hne hg2
theorem RowF.notF {w : World} {base base' : Nat} {T T' : TypeId} {v u : Value} {ps qs : List Elt} (h : RowF T w base v ps) (h' : RowF T' w base' u qs) (hne : T ≠ T') : ∀ g, v.ownBlock = some g → u.ownBlock ≠ some g := by
  intro g e e2
  rcases h.2 with ⟨rfl, _⟩ | ⟨g', cap, cur, rfl, _, hg, _⟩
  · cases e
  · rcases h'.2 with ⟨rfl, _⟩ | ⟨g2, cap2, cur2, rfl, _, hg2, _⟩
    · cases e2
    · have e1 : g' = g := by simpa [Value.ownBlock] using e
      have e3 : g2 = g := by simpa [Value.ownBlock] using e2
      subst e1; subst e3
      rw [hg] at hg2
      injection hg2 with hg2
      injection hg2 with _ hg2
      exact hne hg2
theorem RowV.slice {w : World} {base : Nat} {TS : TypeId} {V : Value} {us : List Value} (h : RowV w base TS V us) : ∃ A c, V = .slice A us.length c := by
  rcases h.2 with ⟨e, h0⟩ | ⟨g, cap, cur, e, _⟩
  · exact ⟨none, 0, by rw [e, h0]⟩
  · exact ⟨_, _, e⟩
/-- Two tables that grow side by side: each one's limbs lie elsewhere than both tables and all rows. -/
structure TwoTabO (w wr : World) (V U : Value) (us vs : List Value) (pss qss : List (List Elt)) : Prop where
  p : TabO .u64 4294967296 36 wr w.heap.size 53 V us pss
  q : TabO .i64 10000 47 wr w.heap.size 57 U vs qss
  c1 : ∀ ps ∈ pss, ∀ p ∈ ps, (∀ v ∈ vs, Far v p.2.1 ∧ Far v p.2.2) ∧ Far U p.2.1 ∧ Far U p.2.2
  c2 : ∀ qs ∈ qss, ∀ p ∈ qs, (∀ v ∈ us, Far v p.2.1 ∧ Far v p.2.2) ∧ Far V p.2.1 ∧ Far V p.2.2
  below : Below w.heap.size w wr
theorem TwoTabO.step {w wr w2 w3 w4 : World} {V U a b V3 U4 : Value} {us vs : List Value} {pss qss : List (List Elt)} {ps rs : List Elt} (h : TwoTabO w wr V U us vs pss qss) (hT : TwoRows wr w2 a b ps rs) (n1 : NewL wr.heap.size ps) (n2 : NewL wr.heap.size rs) (r3 : RowV w3 w.heap.size 53 V3 (us ++ [a])) (g3 : Grew w2 w3 V V3) (b3 : Below w.heap.size w2 w3) (r4 : RowV w4 w.heap.size 57 U4 (vs ++ [b])) (g4 : Grew w3 w4 U U4) (b4 : Below w.heap.size w3 w4) :
    TwoTabO w w4 V3 U4 (us ++ [a]) (vs ++ [b]) (pss ++ [ps]) (qss ++ [rs]) := by
  obtain ⟨t1, t2, ⟨t3, t4⟩, ⟨t5, t6⟩, t7, b2⟩ := hT
  have hw : w.heap.size ≤ wr.heap.size := h.below.size
  have pu : ∀ v ∈ us, ∀ g, v.ownBlock = some g → g < wr.heap.size := fun v hv g e => by
    obtain ⟨qs, hq⟩ := h.p.k.mem hv
    exact hq.under g e
  have qu : ∀ v ∈ vs, ∀ g, v.ownBlock = some g → g < wr.heap.size := fun v hv g e => by
    obtain ⟨qs, hq⟩ := h.q.k.mem hv
    exact hq.under g e
  have pV := h.p.row.under
  have qU := h.q.row.under
  have a0 := t1.base_le
  have b0 := t2.base_le
  have p2 := h.p.below b2
  have q2 := h.q.below b2
  have oldp : ∀ qs ∈ pss, ∀ p ∈ qs, IsE .u64 4294967296 wr p := fun qs hq p hp => (h.p.farV qs hq p hp).1
  have oldq : ∀ qs ∈ qss, ∀ p ∈ qs, IsE .i64 10000 wr p := fun qs hq p hp => (h.q.farV qs hq p hp).1
  have P3 := p2.snoc (by decide) r3 g3 (t1.weak hw) (fun v hv g e e2 => by have := pu v hv g e; have := a0 g e2; omega) t3 (fun v hv => n1.far (pu v hv)) (n1.far pV) (fun qs hq p hp => ⟨(oldp qs hq p hp).1.farOld a0, (oldp qs hq p hp).2.farOld a0⟩)
  have Q3 := q2.kept g3.2.1 (fun g e e2 => RowV.notV p2.row q2.row (by decide) g e2 e) (fun v hv g e e2 => by
    obtain ⟨qs, hq⟩ := q2.k.mem hv
    exact hq.notRow p2.row (by decide) g e e2) (fun qs hq p hp => ⟨(h.c2 qs hq p hp).2.1, (h.c2 qs hq p hp).2.2⟩)
  have hb3 : RowF 47 w3 wr.heap.size b rs := t2.other g3.2.1 fun g e e2 => t2.notRow p2.row (by decide) g e e2
  have n2V := n2.far pV
  have e3 : ∀ p ∈ rs, IsE .i64 10000 w3 p ∧ Far V3 p.2.1 ∧ Far V3 p.2.2 := fun p hp => by
    have x1 := g3.1 _ _ _ (t6 p hp).1.1 (n2V p hp).1
    have x2 := g3.1 _ _ _ (t6 p hp).1.2 (n2V p hp).2
    exact ⟨⟨x1.1, x2.1⟩, x1.2, x2.2⟩
  have Q4 := Q3.snoc (by decide) r4 g4 (hb3.weak hw) (fun v hv g e e2 => by have := qu v hv g e; have := b0 g e2; omega) (fun p hp => ⟨(e3 p hp).1, (t6 p hp).2⟩) (fun v hv => n2.far (qu v hv)) (n2.far qU) (fun qs hq p hp => ⟨(oldq qs hq p hp).1.farOld b0, (oldq qs hq p hp).2.farOld b0⟩)
  have n1U := n1.far qU
  have c1U : ∀ qs ∈ pss ++ [ps], ∀ p ∈ qs, Far U p.2.1 ∧ Far U p.2.2 := fun qs hq p hp => by
    rcases List.mem_append.1 hq with hq | hq
    · exact (h.c1 qs hq p hp).2
    · rw [List.mem_singleton.1 hq] at hp; exact n1U p hp
  have P4 := P3.kept g4.2.1 (fun g e e2 => RowV.notV P3.row Q3.row (by decide) g e e2) (fun v hv g e e2 => by
    obtain ⟨qs, hq⟩ := P3.k.mem hv
    exact hq.notRow Q3.row (by decide) g e e2) c1U
  refine ⟨P4, Q4, fun qs hq p hp => ?_, fun qs hq p hp => ?_, h.below.trans ((b2.mono hw).trans (b3.trans b4))⟩
  · have eU : Far U4 p.2.1 ∧ Far U4 p.2.2 := by
      have e1 := (P3.farV qs hq p hp).1
      exact ⟨(g4.1 _ _ _ e1.1 (c1U qs hq p hp).1).2, (g4.1 _ _ _ e1.2 (c1U qs hq p hp).2).2⟩
    refine ⟨fun v hv => ?_, eU⟩
    rcases List.mem_append.1 hq with hq | hq
    · rcases List.mem_append.1 hv with hv | hv
      · exact (h.c1 qs hq p hp).1 v hv
      · rw [List.mem_singleton.1 hv]; exact ⟨(oldp qs hq p hp).1.farOld b0, (oldp qs hq p hp).2.farOld b0⟩
    · rw [List.mem_singleton.1 hq] at hp
      rcases List.mem_append.1 hv with hv | hv
      · exact n1.far (qu v hv) p hp
      · rw [List.mem_singleton.1 hv]; exact (t4 p hp).2
  · rcases List.mem_append.1 hq with hq | hq
    · have eV : Far V3 p.2.1 ∧ Far V3 p.2.2 := by
        have e1 := (q2.farV qs hq p hp).1
        have f := (h.c2 qs hq p hp).2
        exact ⟨(g3.1 _ _ _ e1.1 f.1).2, (g3.1 _ _ _ e1.2 f.2).2⟩
      refine ⟨fun v hv => ?_, eV⟩
      rcases List.mem_append.1 hv with hv | hv
      · exact (h.c2 qs hq p hp).1 v hv
      · rw [List.mem_singleton.1 hv]; exact ⟨(oldq qs hq p hp).1.farOld a0, (oldq qs hq p hp).2.farOld a0⟩
    · rw [List.mem_singleton.1 hq] at hp
      refine ⟨fun v hv => ?_, (e3 p hp).2⟩
      rcases List.mem_append.1 hv with hv | hv
      · exact n2.far (pu v hv) p hp
      · rw [List.mem_singleton.1 hv]; exact (t5 p hp).2
/-- Two tables of the call's own, of the same small fractions, so many rows of so many places at most. -/
def RetFewX (M : Nat) (w : World) (e : Ending) (w' : World) : Prop := ∃ V U us vs pss qss, e = .returned (.tuple #[V, U]) ∧ TwoTabO w w' V U us vs pss qss ∧ valq qss = valq pss ∧ us.length ≤ M ∧ (∀ r ∈ valq pss, r.length ≤ M ∧ ∀ x ∈ r, lenQ x 1)
set_option maxHeartbeats 6400000 in
set_option maxRecDepth 100000 in
theorem fewt_own (a0 : Value) (M : Nat) (w : World) (h0 : ArgT w a0) (hM : M ≤ 8) :
    Calls Tryz.prog 17 #[a0, .int .i64 (M : Int)] w (RetFewX M w) := by
  have at0 := h0
  obtain ⟨A0, n0, c0, rfl, hc0, hm0⟩ := h0.shape
  unfold maxLen at hm0
  go_enter Tryz.func17, Tryz.ntmps17
  go_wp2
  go_loopw [6, 7, 8] (fun v6 v7 v8 wr => ∃ (k : Nat) (us vs : List Value) (pss qss : List (List Elt)), k ≤ n0 ∧ k ≤ M ∧ Hid (us.length = k) ∧ TwoTabO w wr v6 v7 us vs pss qss ∧ Hid (valq qss = valq pss) ∧ Hid (∀ r ∈ valq pss, r.length ≤ M ∧ ∀ x ∈ r, lenQ x 1) ∧ v8 = .int .i64 (k : Int)) (fun _ _ v8 _ => M - (intOf v8).toNat)
  case atStart =>
    have r0 := rowV_lit0 w w.heap.size 53 (Nat.le_refl _)
    have ba := below_alloc (w := w) (Nat.le_refl _) (.cells #[] 53)
    have r1 := rowV_lit0 (w.alloc (.cells #[] 53)) w.heap.size 57 ba.size
    have bb := below_alloc (w := w.alloc (.cells #[] 53)) (Nat.le_refl _) (.cells #[] 57)
    refine ⟨0, [], [], [], [], by omega, by omega, rfl, ⟨⟨r0.below bb, rfl, fun i u ps hu => by simp at hu, fun u hu => by simp at hu, fun u hu => by simp at hu, fun i j u v _ hu => by simp at hu⟩, ⟨?_, rfl, fun i u ps hu => by simp at hu, fun u hu => by simp at hu, fun u hu => by simp at hu, fun i j u v _ hu => by simp at hu⟩, fun ps hp => by simp at hp, fun ps hp => by simp at hp, ba.trans (bb.mono ba.size)⟩, rfl, (by show ∀ r ∈ _, _; intro r hr; simp [valq] at hr), rfl⟩
    simpa using r1
  case round =>
    obtain ⟨k, us, vs, pss, qss, hk, hkM, HUL, hT, HQP, HVL, rfl⟩ := hrel
    obtain ⟨A6, c6, e6⟩ := RowV.slice hT.p.row
    obtain ⟨A7, c7, e7⟩ := RowV.slice hT.q.row
    subst e6
    subst e7
    by_cases hlt : k < n0 ∧ k < M
    · obtain ⟨hlt1, hlt2⟩ := hlt
      obtain ⟨A_, n_, c_, e_, _, _, hel⟩ := at0.below hT.below
      injection e_ with e1 e2 e3
      subst e1; subst e2; subst e3
      obtain ⟨ad, ue, rfl, ec, hq⟩ := hel k hlt1
      have HT := Lib.hid hT
      clear hel hT
      obtain ⟨Aq, nq, cq, rfl, _⟩ := id hq
      go_wp2_with fail
      refine (few11_two Aq nq cq M _ hq hM).mono ?_
      rintro e w2 ⟨a, b, ps, rs, rfl, hTR, n1, n2, hrs, hpl, hlq⟩
      have b2 := hTR.2.2.2.2.2
      have hw2 : w.heap.size ≤ w2.heap.size := Nat.le_trans HT.out.below.size b2.size
      have P2 := HT.out.p.row.below b2
      have Q2 := HT.out.q.row.below b2
      have HTR := Lib.hid hTR
      have HULb : Hid (us.length ≤ 1000000000 ∧ vs.length ≤ 1000000000) := by
        have h1 := HUL.out
        have h2 := congrArg List.length HQP.out
        rw [valq_len, valq_len, ← HT.out.q.len, ← HT.out.p.len] at h2
        exact ⟨by omega, by omega⟩
      obtain ⟨Aa, ca, ea, _⟩ := hTR.1.isVF
      obtain ⟨Ab, cb, eb, _⟩ := hTR.2.1.isVF
      subst ea
      subst eb
      have HPL := Lib.hid hpl
      clear hTR ec hpl
      go_wp2_with (first
        | (at_builtin; refine wpList_append_w rfl (.tmp 33) (.tmp 35) rfl Tryz.underlying52 info_vec rfl P2 rfl rfl HULb.out.1 hw2 ?_; intro V3 w3 row3 b3 K3; have Q3 : RowV w3 w.heap.size 57 (.slice A7 vs.length c7) vs := RowV.kept Q2 K3.out.2.1 (fun g e e2 => RowV.notV P2 Q2 (by decide) g e2 e); have hw3 : w.heap.size ≤ w3.heap.size := Nat.le_trans hw2 b3.size)
        | (at_builtin; refine wpList_append_w rfl (.tmp 37) (.tmp 39) rfl Tryz.underlying54 info_veq rfl Q3 rfl rfl HULb.out.2 hw3 ?_; intro U4 w4 row4 b4 K4))
      have T4 := HT.out.step HTR.out n1 n2 row3 K3.out b3 row4 K4.out b4
      have HUL4 : Hid ((us ++ [Value.slice Aa ps.length ca]).length = k + 1) := by show _ = _; rw [List.length_append, HUL.out]; rfl
      have HQP4 : Hid (valq (qss ++ [rs]) = valq (pss ++ [ps])) := by
        show _ = _
        have h1 := HQP.out
        unfold valq at h1 ⊢
        rw [List.map_append, List.map_append, h1, List.map_cons, List.map_cons, hrs]; try rfl
      have HVL4 : Hid (∀ r ∈ valq (pss ++ [ps]), r.length ≤ M ∧ ∀ x ∈ r, lenQ x 1) := by
        show ∀ r ∈ _, _
        intro r hr
        unfold valq at hr
        rw [List.map_append] at hr
        rcases List.mem_append.1 hr with hr | hr
        · exact HVL.out r hr
        · obtain rfl : r = ps.map (·.1) := by simpa using hr
          refine ⟨by rw [List.length_map, HPL.out]; omega, fun x hx => ?_⟩
          obtain ⟨p, hp, rfl⟩ := List.mem_map.1 hx
          exact hlq p hp
      have hsk : M - (k + 1) < M - k := by omega
      clear P2 Q2 Q3 K3 K4 row3 row4 n1 n2 hlq hrs HTR
      go_wp2
      go_roundw
      case rel => exact ⟨k + 1, _, _, _, _, by omega, by omega, HUL4, T4, HQP4, HVL4, by go_num⟩
      case measure => simp [intOf]; omega
    · have hx : ¬ k < n0 ∨ (k < n0 ∧ ¬ k < M) := by omega
      have HEND : Hid (RetFewX M w (.returned (.tuple #[.slice A6 us.length c6, .slice A7 vs.length c7])) wr) := ⟨_, _, us, vs, pss, qss, rfl, hT, HQP.out, by rw [HUL.out]; exact hkM, HVL.out⟩
      clear hT HQP HVL
      rcases hx with hx | ⟨hx1, hx2⟩
      all_goals
        go_wp2
        go_ret2
        exact HEND.out
/-- A table of the call's own whose cells hold these values, and rows of the call's own that may be about to be stored. -/
structure TabJ (T : TypeId) (w : World) (base : Nat) (TS : TypeId) (V : Value) (us0 us : List Value) (pss : List (List Elt)) : Prop where
  row : RowV w base TS V us0
  len : us.length = pss.length
  own : ∀ (i : Nat) (u : Value) (ps : List Elt), us[i]? = some u → pss[i]? = some ps → RowF T w base u ps
  apart : ∀ (i j : Nat) (u v : Value), i ≠ j → us[i]? = some u → us[j]? = some v → ∀ h, u.ownBlock = some h → v.ownBlock ≠ some h
section
variable {T TS : TypeId} {w w1 : World} {base : Nat} {V : Value} {us0 us : List Value} {pss : List (List Elt)}
theorem TabK.j (h : TabK T w base TS V us pss) : TabJ T w base TS V us us pss := ⟨h.row, h.len, h.own, h.apart⟩
theorem TabJ.mem (h : TabJ T w base TS V us0 us pss) {u : Value} (hu : u ∈ us) : ∃ ps, RowF T w base u ps := by
  obtain ⟨i, hi⟩ := List.mem_iff_getElem?.1 hu
  have hp : pss[i]? = some (pss[i]'(by rw [← h.len]; exact (List.getElem?_eq_some_iff.1 hi).1)) := List.getElem?_eq_getElem _
  exact ⟨_, h.own i u _ hi hp⟩
theorem TabJ.at (h : TabJ T w base TS V us0 us pss) {i : Nat} {u : Value} (hu : us[i]? = some u) : ∃ ps, pss[i]? = some ps ∧ RowF T w base u ps := by
  have hp : pss[i]? = some (pss[i]'(by rw [← h.len]; exact (List.getElem?_eq_some_iff.1 hu).1)) := List.getElem?_eq_getElem _
  exact ⟨_, hp, h.own i u _ hu hp⟩
theorem TabJ.kept {row : Option Nat} (h : TabJ T w base TS V us0 us pss) (hg : w.grownBy w1 row) (hV : ∀ g, V.ownBlock = some g → row ≠ some g) (hu : ∀ u ∈ us, ∀ g, u.ownBlock = some g → row ≠ some g) : TabJ T w1 base TS V us0 us pss :=
  ⟨RowV.kept h.row hg hV, h.len, fun i u ps hi hp => (h.own i u ps hi hp).other hg (fun g e => hu u (List.mem_of_getElem? hi) g e), h.apart⟩
theorem TabJ.below (h : TabJ T w base TS V us0 us pss) (hb : Below w.heap.size w w1) : TabJ T w1 base TS V us0 us pss :=
  ⟨h.row.below hb, h.len, fun i u ps hi hp => (h.own i u ps hi hp).below hb, h.apart⟩
/-- One row becomes another: it grows, or is cut. -/
theorem TabJ.grow {i : Nat} {u u' : Value} {ps' : List Elt} (hT : T ≠ TS) (h : TabJ T w base TS V us0 us pss) (hu : us[i]? = some u) (hr : RowF T w1 base u' ps') (hg : w.grownBy w1 u.ownBlock) (hn : ∀ g, g < w.heap.size → u.ownBlock ≠ some g → u'.ownBlock ≠ some g) : TabJ T w1 base TS V us0 (us.set i u') (pss.set i ps') := by
  obtain ⟨ps, hps, hui⟩ := h.at hu
  refine ⟨RowV.kept h.row hg fun g e e2 => hui.notRow h.row hT g e2 e, by rw [List.length_set, List.length_set]; exact h.len, fun j x y hx hy => ?_, fun a b x y hab hx hy q hq hq2 => ?_⟩
  · rcases mem_set_at hx with ⟨rfl, rfl⟩ | ⟨hj, hx⟩
    · rcases mem_set_at hy with ⟨_, rfl⟩ | ⟨hj, _⟩
      · exact hr
      · exact absurd rfl hj
    · rcases mem_set_at hy with ⟨e, _⟩ | ⟨_, hy⟩
      · exact absurd e hj
      · exact (h.own j x y hx hy).other hg fun q hq e => h.apart i j u x hj hu hx q e hq
  · rcases mem_set_at hx with ⟨rfl, rfl⟩ | ⟨ha, hx1⟩
    · rcases mem_set_at hy with ⟨e, _⟩ | ⟨_, hy⟩
      · exact hab e
      · obtain ⟨pb, _, hpb⟩ := h.at hy
        exact hn q (hpb.under q hq2) (fun e => h.apart i b u y hab hu hy q e hq2) hq
    · rcases mem_set_at hy with ⟨rfl, rfl⟩ | ⟨hb, hy1⟩
      · obtain ⟨pa, _, hpa⟩ := h.at hx1
        exact hn q (hpa.under q hq) (fun e => h.apart i a u x ha hu hx1 q e hq) hq2
      · exact h.apart a b x y hab hx1 hy1 q hq hq2
end
theorem TabJ.store {T TS : TypeId} {w : World} {base g n c i : Nat} {us0 us : List Value} {pss : List (List Elt)} (hT : T ≠ TS) (h : TabJ T w base TS (.slice (some ⟨g, 0, none⟩) n c) us0 us pss) (u : Value) : TabJ T (w.setCell ⟨g, i, none⟩ u) base TS (.slice (some ⟨g, 0, none⟩) n c) (us0.set i u) us pss :=
  ⟨h.row.stored i u, h.len, fun j x y hx hy => (h.own j x y hx hy).other (grown_set w g i u) fun q hq e => (h.own j x y hx hy).notRow h.row hT q hq e, h.apart⟩
/-- Elements whose limbs lie elsewhere than all of these. -/
def Els (L : List Value) (w : World) (es : List Elt) : Prop := ∀ e ∈ es, IsE .u64 4294967296 w e ∧ ∀ v ∈ L, Far v e.2.1 ∧ Far v e.2.2
theorem Els.below {L : List Value} {w w' : World} {es : List Elt} (h : Els L w es) (hb : Below w.heap.size w w') : Els L w' es := fun e he => ⟨⟨(h e he).1.1.below hb, (h e he).1.2.below hb⟩, (h e he).2⟩
theorem Els.sub {L : List Value} {w : World} {es es' : List Elt} (h : Els L w es) (hs : ∀ e ∈ es', e ∈ es) : Els L w es' := fun e he => h e (hs e he)
theorem Els.less {L L' : List Value} {w : World} {es : List Elt} (h : Els L w es) (hl : ∀ v ∈ L', ∃ u ∈ L, v.ownBlock = u.ownBlock) : Els L' w es := fun e he => ⟨(h e he).1, fun v hv => by
  obtain ⟨u, hu, eu⟩ := hl v hv
  obtain ⟨f1, f2⟩ := (h e he).2 u hu
  unfold Far at f1 f2 ⊢
  rw [eu]
  exact ⟨f1, f2⟩⟩
theorem Els.grow {L : List Value} {w w1 : World} {es : List Elt} {u u' : Value} (h : Els L w es) (hu : u ∈ L) (hg : Grew w w1 u u') : Els (u' :: L) w1 es := fun e he => by
  obtain ⟨e1, e2⟩ := h e he
  obtain ⟨f1, f2⟩ := e2 u hu
  have x1 := hg.1 _ _ _ e1.1 f1
  have x2 := hg.1 _ _ _ e1.2 f2
  refine ⟨⟨x1.1, x2.1⟩, fun v hv => ?_⟩
  rcases List.mem_cons.1 hv with rfl | hv
  · exact ⟨x1.2, x2.2⟩
  · exact e2 v hv
theorem Els.kept {L : List Value} {w w1 : World} {es : List Elt} {u : Value} (h : Els L w es) (hu : u ∈ L) (hg : w.grownBy w1 u.ownBlock) : Els L w1 es := fun e he => by
  obtain ⟨e1, e2⟩ := h e he
  obtain ⟨f1, f2⟩ := e2 u hu
  exact ⟨⟨e1.1.farKept f1 hg, e1.2.farKept f2 hg⟩, e2⟩
theorem flatten_set {pss : List (List Elt)} {i : Nat} {ps : List Elt} {e : Elt} (h : e ∈ (pss.set i ps).flatten) : e ∈ pss.flatten ∨ e ∈ ps := by
  obtain ⟨qs, hq, he⟩ := List.mem_flatten.1 h
  rcases List.mem_or_eq_of_mem_set hq with hq | rfl
  · exact .inl (List.mem_flatten.2 ⟨qs, hq, he⟩)
  · exact .inr he
theorem mem_flat {pss : List (List Elt)} {i : Nat} {ps : List Elt} {e : Elt} (hp : pss[i]? = some ps) (he : e ∈ ps) : e ∈ pss.flatten := List.mem_flatten.2 ⟨ps, List.mem_of_getElem? hp, he⟩
/-- The two tables of the call's own: the program's, and the document's beside it. -/
structure TwoE (w wr : World) (V U : Value) (us0 us vs0 vs : List Value) (pss qss : List (List Elt)) : Prop where
  p : TabJ 36 wr w.heap.size 53 V us0 us pss
  q : TabJ 47 wr w.heap.size 57 U vs0 vs qss
  x : Els (V :: U :: (us ++ vs)) wr pss.flatten
  below : Below w.heap.size w wr
section
variable {w wr w1 : World} {V U : Value} {us0 us vs0 vs : List Value} {pss qss : List (List Elt)}
theorem TwoTabO.e (h : TwoTabO w wr V U us vs pss qss) : TwoE w wr V U us us vs vs pss qss := ⟨h.p.k.j, h.q.k.j, fun e he => by
  obtain ⟨ps, hp, he⟩ := List.mem_flatten.1 he
  have f := h.p.farV ps hp e he
  have c := h.c1 ps hp e he
  refine ⟨f.1, fun v hv => ?_⟩
  rcases List.mem_cons.1 hv with rfl | hv
  · exact f.2
  · rcases List.mem_cons.1 hv with rfl | hv
    · exact c.2
    · rcases List.mem_append.1 hv with hv | hv
      · exact (h.p.far v hv ps hp e he).2
      · exact c.1 v hv, h.below⟩
theorem TwoE.to (h : TwoE w wr V U us0 us vs0 vs pss qss) (hb : Below wr.heap.size wr w1) : TwoE w w1 V U us0 us vs0 vs pss qss := ⟨h.p.below hb, h.q.below hb, h.x.below hb, h.below.trans (hb.mono h.below.size)⟩
theorem TwoE.growP {i : Nat} {u u' : Value} {ps : List Elt} {e : Elt} (h : TwoE w wr V U us0 us vs0 vs pss qss) (hu : us[i]? = some u) (hps : pss[i]? = some ps) (hr : RowF 36 w1 w.heap.size u' (ps ++ [e])) (hg : Grew wr w1 u u') (hn : Els (V :: U :: (us ++ vs)) wr [e]) (hb : Below w.heap.size wr w1) : TwoE w w1 V U us0 (us.set i u') vs0 vs (pss.set i (ps ++ [e])) qss := by
  have hum := List.mem_of_getElem? hu
  obtain ⟨_, _, hui⟩ := h.p.at hu
  have huL : u ∈ V :: U :: (us ++ vs) := List.mem_cons_of_mem _ (List.mem_cons_of_mem _ (List.mem_append_left _ hum))
  refine ⟨h.p.grow (by decide) hu hr hg.2.1 hg.2.2, h.q.kept hg.2.1 (fun g a b => hui.notRow h.q.row (by decide) g b a) (fun v hv g a b => ?_), ?_, h.below.trans hb⟩
  · obtain ⟨rs, hrs⟩ := h.q.mem hv
    exact hrs.notF hui (by decide) g a b
  · have x1 := (h.x.grow huL hg).less (L' := V :: U :: (us.set i u' ++ vs)) fun v hv => ?_
    · have x2 := (hn.grow huL hg).less (L' := V :: U :: (us.set i u' ++ vs)) fun v hv => ?_
      · intro e' he'
        rcases flatten_set he' with he' | he'
        · exact x1 e' he'
        · rcases List.mem_append.1 he' with he' | he'
          · exact x1 e' (mem_flat hps he')
          · exact x2 e' he'
      · refine ⟨v, ?_, rfl⟩
        rcases List.mem_cons.1 hv with rfl | hv
        · simp
        · rcases List.mem_cons.1 hv with rfl | hv
          · simp
          · rcases List.mem_append.1 hv with hv | hv
            · rcases List.mem_or_eq_of_mem_set hv with hv | rfl
              · simp [hv]
              · simp
            · simp [hv]
    · refine ⟨v, ?_, rfl⟩
      rcases List.mem_cons.1 hv with rfl | hv
      · simp
      · rcases List.mem_cons.1 hv with rfl | hv
        · simp
        · rcases List.mem_append.1 hv with hv | hv
          · rcases List.mem_or_eq_of_mem_set hv with hv | rfl
            · simp [hv]
            · simp
          · simp [hv]
theorem TwoE.growQ {i : Nat} {u u' : Value} {rs' : List Elt} (h : TwoE w wr V U us0 us vs0 vs pss qss) (hu : vs[i]? = some u) (hr : RowF 47 w1 w.heap.size u' rs') (hg : Grew wr w1 u u') (hb : Below w.heap.size wr w1) : TwoE w w1 V U us0 us vs0 (vs.set i u') pss (qss.set i rs') := by
  have hum := List.mem_of_getElem? hu
  obtain ⟨_, _, hui⟩ := h.q.at hu
  have huL : u ∈ V :: U :: (us ++ vs) := List.mem_cons_of_mem _ (List.mem_cons_of_mem _ (List.mem_append_right _ hum))
  refine ⟨h.p.kept hg.2.1 (fun g a b => hui.notRow h.p.row (by decide) g b a) (fun v hv g a b => ?_), h.q.grow (by decide) hu hr hg.2.1 hg.2.2, (h.x.grow huL hg).less fun v hv => ?_, h.below.trans hb⟩
  · obtain ⟨rs, hrs⟩ := h.p.mem hv
    exact hrs.notF hui (by decide) g a b
  · refine ⟨v, ?_, rfl⟩
    rcases List.mem_cons.1 hv with rfl | hv
    · simp
    · rcases List.mem_cons.1 hv with rfl | hv
      · simp
      · rcases List.mem_append.1 hv with hv | hv
        · simp [hv]
        · rcases List.mem_or_eq_of_mem_set hv with hv | rfl
          · simp [hv]
          · simp
theorem TwoE.cutP {i : Nat} {u u' : Value} {ps ps' : List Elt} (h : TwoE w wr V U us0 us vs0 vs pss qss) (hu : us[i]? = some u) (hps : pss[i]? = some ps) (hr : RowF 36 wr w.heap.size u' ps') (ho : u'.ownBlock = u.ownBlock) (hs : ∀ e ∈ ps', e ∈ ps) : TwoE w wr V U us0 (us.set i u') vs0 vs (pss.set i ps') qss := by
  have hum := List.mem_of_getElem? hu
  refine ⟨h.p.grow (by decide) hu hr ⟨rfl, rfl, rfl, Nat.le_refl _, fun _ _ _ => rfl⟩ (fun g _ a => by rw [ho]; exact a), h.q, (h.x.sub (es' := (pss.set i ps').flatten) fun e he => ?_).less fun v hv => ?_, h.below⟩
  · rcases flatten_set he with he | he
    · exact he
    · exact mem_flat hps (hs e he)
  · rcases List.mem_cons.1 hv with rfl | hv
    · exact ⟨v, by simp, rfl⟩
    · rcases List.mem_cons.1 hv with rfl | hv
      · exact ⟨v, by simp, rfl⟩
      · rcases List.mem_append.1 hv with hv | hv
        · rcases List.mem_or_eq_of_mem_set hv with hv | rfl
          · exact ⟨v, by simp [hv], rfl⟩
          · exact ⟨u, by simp [hum], ho⟩
        · exact ⟨v, by simp [hv], rfl⟩
theorem TwoE.cutQ {i : Nat} {u u' : Value} {rs' : List Elt} (h : TwoE w wr V U us0 us vs0 vs pss qss) (hu : vs[i]? = some u) (hr : RowF 47 wr w.heap.size u' rs') (ho : u'.ownBlock = u.ownBlock) : TwoE w wr V U us0 us vs0 (vs.set i u') pss (qss.set i rs') := by
  have hum := List.mem_of_getElem? hu
  refine ⟨h.p, h.q.grow (by decide) hu hr ⟨rfl, rfl, rfl, Nat.le_refl _, fun _ _ _ => rfl⟩ (fun g _ a => by rw [ho]; exact a), h.x.less fun v hv => ?_, h.below⟩
  rcases List.mem_cons.1 hv with rfl | hv
  · exact ⟨v, by simp, rfl⟩
  · rcases List.mem_cons.1 hv with rfl | hv
    · exact ⟨v, by simp, rfl⟩
    · rcases List.mem_append.1 hv with hv | hv
      · exact ⟨v, by simp [hv], rfl⟩
      · rcases List.mem_or_eq_of_mem_set hv with hv | rfl
        · exact ⟨v, by simp [hv], rfl⟩
        · exact ⟨u, by simp [hum], ho⟩
theorem TwoE.storeP {g n c i : Nat} (h : TwoE w wr (.slice (some ⟨g, 0, none⟩) n c) U us0 us vs0 vs pss qss) (u : Value) : TwoE w (wr.setCell ⟨g, i, none⟩ u) (.slice (some ⟨g, 0, none⟩) n c) U (us0.set i u) us vs0 vs pss qss := by
  have hg := grown_set wr g i u
  refine ⟨h.p.store (by decide) u, h.q.kept hg (fun q a b => ?_) (fun v hv q a b => ?_), h.x.kept (u := .slice (some ⟨g, 0, none⟩) n c) (by simp) hg, h.below.setCell (p := ⟨g, i, none⟩) (h.p.row.base_le g rfl) u⟩
  · exact RowV.notV h.q.row h.p.row (by decide) q a b
  · obtain ⟨rs, hrs⟩ := h.q.mem hv
    exact hrs.notRow h.p.row (by decide) q a b
theorem TwoE.storeQ {g n c i : Nat} (h : TwoE w wr V (.slice (some ⟨g, 0, none⟩) n c) us0 us vs0 vs pss qss) (u : Value) : TwoE w (wr.setCell ⟨g, i, none⟩ u) V (.slice (some ⟨g, 0, none⟩) n c) us0 us (vs0.set i u) vs pss qss := by
  have hg := grown_set wr g i u
  refine ⟨h.p.kept hg (fun q a b => ?_) (fun v hv q a b => ?_), h.q.store (by decide) u, h.x.kept (u := .slice (some ⟨g, 0, none⟩) n c) (by simp) hg, h.below.setCell (p := ⟨g, i, none⟩) (h.q.row.base_le g rfl) u⟩
  · exact RowV.notV h.p.row h.q.row (by decide) q a b
  · obtain ⟨rs, hrs⟩ := h.p.mem hv
    exact hrs.notRow h.q.row (by decide) q a b
theorem TwoE.slT (h : TwoE w wr V U us us vs vs pss qss) : SlT .u64 4294967296 wr V (valq pss) := by
  refine ⟨us, by rw [valq, List.length_map]; exact h.p.len, ?_, fun i u r hu hr => ?_⟩
  · rcases h.p.row.2 with ⟨rfl, h0⟩ | ⟨g, cap, cur, rfl, _, hg, hn, hm, _, _⟩
    · obtain rfl : us = [] := List.length_eq_zero_iff.1 h0
      exact ⟨none, 0, rfl, by simp, by unfold maxLen; omega, fun i u hu => by simp at hu⟩
    · exact ⟨_, cap, rfl, hn, hm, fun i u hu => ⟨_, rfl, World.ownsRow.cells h.p.row (g := g) rfl i u hu⟩⟩
  rw [valq, List.getElem?_map] at hr
  cases hp : pss[i]? with
  | none => rw [hp] at hr; cases hr
  | some ps =>
    rw [hp] at hr
    obtain rfl : ps.map (·.1) = r := by simpa using hr
    exact (h.p.own i u ps hu hp).sl fun e he => by
      obtain ⟨e1, e2⟩ := h.x e (mem_flat hp he)
      exact ⟨e1, e2 u (by simp [List.mem_of_getElem? hu])⟩
/-- Limbs in new memory lie elsewhere than all that there is. -/
theorem TwoE.new (h : TwoE w wr V U us0 us vs0 vs pss qss) {e : Elt} (hb : Below wr.heap.size wr w1) (he : IsE .u64 4294967296 w1 e) (f1 : Fresh wr.heap.size e.2.1) (f2 : Fresh wr.heap.size e.2.2) : Els (V :: U :: (us ++ vs)) w1 [e] := fun e' he' => by
  rw [List.mem_singleton.1 he']
  refine ⟨he, fun v hv => ?_⟩
  have hu : ∀ g, v.ownBlock = some g → g < wr.heap.size := by
    rcases List.mem_cons.1 hv with rfl | hv
    · exact h.p.row.under
    · rcases List.mem_cons.1 hv with rfl | hv
      · exact h.q.row.under
      · rcases List.mem_append.1 hv with hv | hv
        · obtain ⟨_, hp⟩ := h.p.mem hv; exact hp.under
        · obtain ⟨_, hp⟩ := h.q.mem hv; exact hp.under
  exact ⟨f1.far hu, f2.far hu⟩
end
theorem lenQ_small (k : Nat) (hk : k ≤ 1000) : lenQ ((k : Int) : Rat) 1 := lenQ_of (digs_len_le (k := 1) (by omega) (by simp; omega)) (digs_len_le (k := 1) (by omega) (by simp))
theorem add_zero_addr (ad : Addr) : ad.add 0 = ad := by
  obtain ⟨b, o, s⟩ := ad
  cases s <;> simp [Addr.add]
theorem fits2 {a b : List (List Rat)} : fitsq [a, b] ↔ mayq a ∧ mayq b ∧ wideq a = b.length := by
  refine ⟨fun h => ⟨(h.2 0 a rfl).1, (h.2 1 b rfl).1, (h.2 1 b rfl).2 a (by omega) rfl⟩, fun h => ⟨by simp, fun i t ht => ?_⟩⟩
  rcases i with _ | _ | i
  · obtain rfl : a = t := by simpa using ht
    exact ⟨h.1, fun s h0 => by omega⟩
  · obtain rfl : b = t := by simpa using ht
    exact ⟨h.2.1, fun s _ hs => by obtain rfl : a = s := by simpa using hs; ; exact h.2.2⟩
  · simp at ht
theorem fits3 {a b c : List (List Rat)} : fitsq [a, b, c] ↔ mayq a ∧ mayq b ∧ mayq c ∧ wideq a = b.length ∧ wideq b = c.length := by
  refine ⟨fun h => ⟨(h.2 0 a rfl).1, (h.2 1 b rfl).1, (h.2 2 c rfl).1, (h.2 1 b rfl).2 a (by omega) rfl, (h.2 2 c rfl).2 b (by omega) rfl⟩, fun h => ⟨by simp, fun i t ht => ?_⟩⟩
  rcases i with _ | _ | _ | i
  · obtain rfl : a = t := by simpa using ht
    exact ⟨h.1, fun s h0 => by omega⟩
  · obtain rfl : b = t := by simpa using ht
    exact ⟨h.2.1, fun s _ hs => by obtain rfl : a = s := by simpa using hs; ; exact h.2.2.2.1⟩
  · obtain rfl : c = t := by simpa using ht
    exact ⟨h.2.2.1, fun s _ hs => by obtain rfl : b = s := by simpa using hs; ; exact h.2.2.2.2⟩
  · simp at ht
/-- Small enough to be multiplied. -/
def sml (t : List (List Rat)) : Prop := t.length ≤ 4 ∧ (∀ r ∈ t, r.length ≤ 4) ∧ lenT t 10
/-- A table such as the law makes. -/
def few3 (t : List (List Rat)) : Prop := evenq t ∧ t.length ≤ 3 ∧ wideq t ≤ 3 ∧ lenT t 1
theorem few3.may {t : List (List Rat)} (h : few3 t) : mayq t := ⟨Nat.le_trans h.2.1 (by decide), Nat.le_trans h.2.2.1 (by decide), h.1⟩
theorem few3.small {t : List (List Rat)} (h : few3 t) : sml t := ⟨Nat.le_trans h.2.1 (by decide), fun r hr => by rw [h.1 r hr]; exact Nat.le_trans h.2.2.1 (by decide), h.2.2.2.mono (by decide)⟩
theorem wide_mul {a b : List (List Rat)} (h : wideq a = b.length) : wideq (mulq a b) = wideq b := by
  by_cases hn : a = []
  · subst hn
    have : b = [] := List.length_eq_zero_iff.1 h.symm
    rw [this]; rfl
  · exact mulq_wide hn
theorem few3.mul {a b : List (List Rat)} (ha : few3 a) (hb : few3 b) (h : wideq a = b.length) : sml (mulq a b) ∧ mayq (mulq a b) ∧ wideq (mulq a b) = wideq b := by
  refine ⟨⟨by rw [mulq_len]; exact Nat.le_trans ha.2.1 (by decide), fun r hr => by rw [mulq_rows r hr]; exact Nat.le_trans hb.2.2.1 (by decide), ?_⟩, ⟨by rw [mulq_len]; exact Nat.le_trans ha.2.1 (by decide), by rw [wide_mul h]; exact Nat.le_trans hb.2.2.1 (by decide), mulq_even _ _⟩, wide_mul h⟩
  exact (lenT_mul ha.2.2.2 hb.2.2.2 (Nat.le_refl _) (fun r hr => by rw [ha.1 r hr, h]) hb.2.1).mono (by decide)
theorem few3.turn {t : List (List Rat)} (h : few3 t) : few3 (turnq t) := by
  refine ⟨turnq_even t, by rw [turnq_len]; exact h.2.2.1, ?_, fun r hr x hx => ?_⟩
  · by_cases hn : turnq t = []
    · rw [hn]; exact Nat.zero_le _
    · rw [wideq_of hn turnq_rows]; exact h.2.1
  · obtain ⟨j, _, rfl⟩ := List.mem_map.1 hr
    obtain ⟨s, hs, rfl⟩ := List.mem_map.1 hx
    exact lenQ_getD (h.2.2.2 s hs) (Nat.le_refl _)
theorem turn_wide {t : List (List Rat)} (h : 0 < wideq t) : wideq (turnq t) = t.length := wideq_of (fun e => by
  have h1 := turnq_len t
  rw [e] at h1
  have : wideq t = 0 := h1.symm
  omega) turnq_rows
theorem few3.ident {n : Nat} (hn : n ≤ 3) : few3 (identq n) ∧ wideq (identq n) = n := by
  have hro : ∀ r ∈ identq n, r.length = n := fun r hr => by
    obtain ⟨j, _, rfl⟩ := List.mem_map.1 hr
    exact unitq_len _ _
  have hw : wideq (identq n) = n := by
    by_cases h0 : n = 0
    · subst h0; rfl
    · exact wideq_of (fun e => by have h1 := identq_len n; rw [e] at h1; exact h0 h1.symm) hro
  refine ⟨⟨evenq_of hro, by rw [identq_len]; exact hn, by rw [hw]; exact hn, fun r hr x hx => ?_⟩, hw⟩
  obtain ⟨j, _, rfl⟩ := List.mem_map.1 hr
  rcases unitq_mem hx with rfl | rfl
  · exact lenQ_zero 0
  · exact ⟨digs_len_le (k := 1) (by omega) (by decide +kernel), digs_len_le (k := 1) (by omega) (by decide +kernel)⟩
/-- A table and a way, read only. -/
def RetTW (t : List (List Rat)) (n : Int) (w : World) (e : Ending) (w' : World) : Prop := ∃ A c, e = .returned (.tuple #[.slice A t.length c, .int .i64 n]) ∧ SlT .u64 4294967296 w' (.slice A t.length c) t ∧ Below w.heap.size w w'
theorem RetTE.ok {t : List (List Rat)} {w w' : World} {e : Ending} (h : RetTE t 0 w e w') : RetTW t 0 w e w' := by
  obtain ⟨V, he, hs, hb⟩ := h
  rw [if_pos rfl] at hs
  obtain ⟨A, c, rfl, _, _⟩ := hs.shape
  exact ⟨A, c, he, hs, hb⟩
theorem RetTE.no {t : List (List Rat)} {w w' : World} {e : Ending} (h : RetTE t 8 w e w') : RetTW [] 8 w e w' := by
  obtain ⟨V, he, hs, hb⟩ := h
  rw [if_neg (by decide)] at hs
  obtain ⟨A, c, rfl, _, _⟩ := hs.shape
  exact ⟨A, c, he, hs, hb⟩
theorem sml2 {a b : List (List Rat)} (ha : sml a) (hb : sml b) : ([a, b] : List (List (List Rat))).length ≤ 3 ∧ ∀ t ∈ [a, b], t.length ≤ 4 ∧ (∀ r ∈ t, r.length ≤ 4) ∧ lenT t 10 := ⟨by simp, fun t ht => by
  simp at ht
  rcases ht with rfl | rfl
  · exact ha
  · exact hb⟩
theorem sml3 {a b c : List (List Rat)} (ha : sml a) (hb : sml b) (hc : sml c) : ([a, b, c] : List (List (List Rat))).length ≤ 3 ∧ ∀ t ∈ [a, b, c], t.length ≤ 4 ∧ (∀ r ∈ t, r.length ≤ 4) ∧ lenT t 10 := ⟨by simp, fun t ht => by
  simp at ht
  rcases ht with rfl | rfl | rfl
  · exact ha
  · exact hb
  · exact hc⟩
theorem mul2_ok (v : Value) (a b : List (List Rat)) (w : World) (h : ListT w v [a, b]) (ha : sml a) (hb : sml b) (hf : fitsq [a, b]) : Calls Tryz.prog 31 #[v] w (RetTW (mulq a b) 0 w) :=
  (mmul_any v [a, b] w h (sml2 ha hb)).mono fun e w' h => by
    rcases h with ⟨_, h⟩ | ⟨h, _⟩
    · exact h.ok
    · exact absurd hf h
theorem mul2_no (v : Value) (a b : List (List Rat)) (w : World) (h : ListT w v [a, b]) (ha : sml a) (hb : sml b) (hf : ¬ fitsq [a, b]) : Calls Tryz.prog 31 #[v] w (RetTW [] 8 w) :=
  (mmul_any v [a, b] w h (sml2 ha hb)).mono fun e w' h => by
    rcases h with ⟨h, _⟩ | ⟨_, h⟩
    · exact absurd h hf
    · exact h.no
theorem mul2_any (v : Value) (a b : List (List Rat)) (w : World) (h : ListT w v [a, b]) (ha : few3 a) (hb : few3 b) : Calls Tryz.prog 31 #[v] w (fun e w' => ∃ (MM : List (List Rat)) (E : Int), ((wideq a = b.length ∧ MM = mulq a b ∧ E = 0) ∨ (¬ wideq a = b.length ∧ MM = [] ∧ E = 8)) ∧ RetTW MM E w e w') := by
  by_cases hc : wideq a = b.length
  · exact (mul2_ok v a b w h ha.small hb.small (fits2.2 ⟨ha.may, hb.may, hc⟩)).mono fun e w' k => ⟨_, _, .inl ⟨hc, rfl, rfl⟩, k⟩
  · exact (mul2_no v a b w h ha.small hb.small (fun k => hc (fits2.1 k).2.2)).mono fun e w' k => ⟨_, _, .inr ⟨hc, rfl, rfl⟩, k⟩
theorem mul3_ok (v : Value) (a b c : List (List Rat)) (w : World) (h : ListT w v [a, b, c]) (ha : sml a) (hb : sml b) (hc : sml c) (hf : fitsq [a, b, c]) : Calls Tryz.prog 31 #[v] w (RetTW (mulq (mulq a b) c) 0 w) :=
  (mmul_any v [a, b, c] w h (sml3 ha hb hc)).mono fun e w' h => by
    rcases h with ⟨_, h⟩ | ⟨h, _⟩
    · exact h.ok
    · exact absurd hf h
theorem turn_ok (v : Value) (t : List (List Rat)) (w : World) (h : SlT .u64 4294967296 w v t) (hl : lenT t 10) (hm : mayq t) : Calls Tryz.prog 33 #[v] w (RetTW (turnq t) 0 w) :=
  (mturn_any v t w h (hl.mono (by decide))).mono fun e w' h => by
    rcases h with ⟨_, h⟩ | ⟨h, _⟩
    · exact h.ok
    · exact absurd hm h
theorem ident_ok (n : Nat) (w : World) (hn : n ≤ 3) : Calls Tryz.prog 32 #[.int .i64 (n : Int)] w (RetTW (identq n) 0 w) :=
  (mident_ok (n : Int) n w rfl (by omega)).mono fun e w' h => h.ok
theorem ident_mul_ident {p : List (List Rat)} (hp : evenq p) : mulq (mulq (identq p.length) p) (identq (wideq p)) = p := by
  rw [identq_mul hp rfl, mulq_ident hp (.inr rfl)]
/-- A table of the call's own, even, and the document's beside it. -/
def RetEven (M : Nat) (w : World) (e : Ending) (w' : World) : Prop := ∃ V U p, e = .returned (.tuple #[V, U]) ∧ SlT .u64 4294967296 w' V p ∧ evenq p ∧ p.length ≤ M ∧ wideq p ≤ M ∧ lenT p 1 ∧ Below w.heap.size w w'
end Go.Proofs.YtpcdkepkipadaaaGreat.rat
namespace Go.Proofs.YtpcdkepkipadaaaGreat.flow
open Go
set_option linter.unusedVariables false
set_option linter.unusedSimpArgs false
/-- Q, but at the end N. -/
def Behind (N : Act → World → Prop) (Q : Exit → Act → World → Prop) : Exit → Act → World → Prop
  | .normal, a, w => N a w
  | e, a, w => Q e a w
theorem wp_behind {P : Program} {Q : Exit → Act → World → Prop} {N K K' : Act → World → Prop} {o : Oper} {a : Act} {w : World} (h : ∀ a w, K a w → K' a w) (hh : o.wp P a w K (Behind N Q)) : o.wp P a w K' Q := by
  unfold Oper.wp at *
  generalize (execOp a.eval o).run P w = r at *
  cases r with
  | ok n w' =>
    cases n <;> simp only [Oper.upon] at hh ⊢ <;>
      first
        | exact h _ _ hh
        | exact Calls.mono hh (fun e w'' he => by cases e <;> first | exact h _ _ he | exact he)
        | exact Rows.mono hh (fun _ _ he => h _ _ he)
  | halt x w' => cases x <;> simp only [Oper.upon] at hh ⊢ <;> exact hh
theorem mem_ready {md : Region.Mode} {ops : Array Oper} {listed : Array Bool} {i : Nat} : i ∈ Region.ready md ops listed ↔ i < ops.size ∧ listed.getD i true = false ∧ ∃ o, ops[i]? = some o ∧ ∀ e ∈ o.after, Region.binds md e = true → listed.getD e.on false = true := by
  unfold Region.ready
  rw [List.mem_filter, List.mem_range]
  cases h : ops[i]? with
  | none => simp
  | some o =>
    simp only [Bool.and_eq_true, Bool.not_eq_true', Option.map_some, Option.getD_some, Array.all_eq_true_iff_forall_mem, Bool.or_eq_true]
    constructor
    · rintro ⟨h1, h2, h3⟩
      refine ⟨h1, h2, o, rfl, fun e he hb => ?_⟩
      rcases h3 e he with h4 | h4
      · rw [hb] at h4; cases h4
      · exact h4
    · rintro ⟨h1, h2, o', h3, h4⟩
      injection h3 with h3
      subst h3
      refine ⟨h1, h2, fun e he => ?_⟩
      cases hb : Region.binds md e with
      | false => exact .inl rfl
      | true => exact .inr (h4 e he hb)
theorem gd (l : List Bool) (i : Nat) (d : Bool) : l.toArray.getD i d = (l[i]?).getD d := by simp [Array.getD_eq_getD_getElem?]
theorem least_false : ∀ (l : List Bool), 0 < l.countP (!·) → ∃ j : Nat, l[j]? = some false ∧ ∀ i : Nat, i < j → l[i]? = some true
  | [], h => by simp at h
  | false :: l, _ => ⟨0, rfl, fun i hi => absurd hi (Nat.not_lt_zero _)⟩
  | true :: l, h => by
    obtain ⟨j, h1, h2⟩ := least_false l (by simpa using h)
    refine ⟨j + 1, by simpa using h1, fun i hi => ?_⟩
    cases i with
    | zero => rfl
    | succ i => simpa using h2 i (by omega)
theorem all_true : ∀ (l : List Bool), l.countP (!·) = 0 → l = List.replicate l.length true
  | [], _ => rfl
  | false :: l, h => by simp at h
  | true :: l, h => by
    have ih := all_true l (by simpa using h)
    rw [List.length_cons, List.replicate_succ, ← ih]
theorem count_set : ∀ (l : List Bool) (i k : Nat), l[i]? = some false → l.countP (!·) = k + 1 → (l.set i true).countP (!·) = k
  | [], i, k, h, _ => by simp at h
  | b :: l, 0, k, h, hc => by
    obtain rfl : b = false := by simpa using h
    simp at hc ⊢
    omega
  | b :: l, i + 1, k, h, hc => by
    have h' : l[i]? = some false := by simpa using h
    rw [List.set_cons_succ, List.countP_cons]
    rw [List.countP_cons] at hc
    cases b with
    | true => simp at hc ⊢; exact count_set l i k h' hc
    | false =>
      simp at hc ⊢
      have h0 : 0 < l.countP (!·) := List.countP_pos_iff.2 ⟨false, List.mem_of_getElem? h', rfl⟩
      obtain ⟨k', rfl⟩ : ∃ k', k = k' + 1 := ⟨k - 1, by omega⟩
      rw [count_set l i k' h' hc]
/-- Whatever is listed, what it waits for is listed. -/
def Closed (A : List Oper) (l : List Bool) : Prop := ∀ (i : Nat) (o : Oper), A[i]? = some o → l[i]? = some true → ∀ e ∈ o.after, Region.binds .any e = true → l[e.on]? = some true
/-- An operation, and what it waits for, so many steps down. -/
def anc (A : List Oper) : Nat → Nat → List Nat
  | 0, k => [k]
  | f + 1, k => k :: (match A[k]? with
    | some o => o.after.toList.flatMap fun e => if Region.binds .any e = true then anc A f e.on else []
    | none => [])
theorem anc_true {A : List Oper} {l : List Bool} (hc : Closed A l) : ∀ (f k : Nat), l[k]? = some true → ∀ x ∈ anc A f k, l[x]? = some true
  | 0, k, hk, x, hx => by
    obtain rfl := List.mem_singleton.1 hx
    exact hk
  | f + 1, k, hk, x, hx => by
    rcases List.mem_cons.1 hx with rfl | hx
    · exact hk
    · cases ho : A[k]? with
      | none => rw [ho] at hx; cases hx
      | some o =>
        rw [ho] at hx
        obtain ⟨e, he, hx⟩ := List.mem_flatMap.1 hx
        by_cases hb : Region.binds .any e = true
        · rw [if_pos hb] at hx
          exact anc_true hc f e.on (hc k o ho hk e (Array.mem_toList_iff.1 he) hb) x hx
        · rw [if_neg hb] at hx; cases hx
theorem split_main {P : Program} {Q : Exit → Act → World → Prop} {A B : List Oper} {l0 lB : List Bool} {m : Nat} (hlB : lB.length = B.length) (hG : ∀ o ∈ A, o.guard = none) (hback : ∀ (i : Nat) (o : Oper), A[i]? = some o → ∀ e ∈ o.after, Region.binds .any e = true → e.on < i) (hcov : ∀ (i : Nat) (o : Oper), B[i]? = some o → lB[i]? = some false → ∀ k : Nat, l0[k]? = some false → ∃ e ∈ o.after, Region.binds .any e = true ∧ e.on < A.length ∧ k ∈ anc A 20 e.on) :
    ∀ (k : Nat) (l : List Bool) (a : Act) (w : World), Closed A l → (∀ j : Nat, l[j]? = some false → l0[j]? = some false) → l.length = A.length → l.countP (!·) = k →
      wpAny P .any A.toArray (Behind (fun a w => wpAny P .any (A ++ B).toArray Q m (List.replicate A.length true ++ lB).toArray a w) Q) k l.toArray a w →
      wpAny P .any (A ++ B).toArray Q (k + m) (l ++ lB).toArray a w
  | 0, l, a, w, hcl, hmo, hl, hc, h => by
    have e := all_true l hc
    rw [hl] at e
    rw [Nat.zero_add, e]
    exact h.2
  | k + 1, l, a, w, hcl, hmo, hl, hc, h => by
    rw [Nat.add_right_comm]
    obtain ⟨j, hj, hlow⟩ := least_false l (by omega)
    have hjl := (List.getElem?_eq_some_iff.1 hj).1
    have hA : ∀ i, i < A.length → (A ++ B)[i]? = A[i]? := fun i hi => List.getElem?_append_left hi
    have hL : ∀ i, i < A.length → (l ++ lB)[i]? = l[i]? := fun i hi => List.getElem?_append_left (by omega)
    refine ⟨fun hr => ?_, fun i hi => ?_⟩
    · exfalso
      have hjA : j < A.length := by omega
      have hm : j ∈ Region.ready .any (A ++ B).toArray (l ++ lB).toArray := by
        refine mem_ready.2 ⟨by simp; omega, by rw [gd, hL j hjA, hj]; rfl, A[j], by rw [List.getElem?_toArray, hA j hjA]; exact List.getElem?_eq_getElem hjA, fun e he hb => ?_⟩
        have h1 := hback j _ (List.getElem?_eq_getElem hjA) e he hb
        rw [gd, hL e.on (by omega), hlow e.on h1]; rfl
      rw [hr] at hm
      cases hm
    · obtain ⟨h1, h2, o, h3, h4⟩ := mem_ready.1 hi
      rw [List.getElem?_toArray] at h3
      have hiA : i < A.length := by
        rcases Nat.lt_or_ge i A.length with h5 | h5
        · exact h5
        · exfalso
          rw [List.getElem?_append_right h5] at h3
          have h8 : lB[i - A.length]? = some false := by
            rw [gd, List.getElem?_append_right (by omega), hl] at h2
            cases hh : lB[i - A.length]? with
            | none => rw [hh] at h2; cases h2
            | some b => rw [hh] at h2; simp at h2; rw [h2]
          obtain ⟨e, he, hb, hon, hanc⟩ := hcov _ o h3 h8 j (hmo j hj)
          have h6 := h4 e he hb
          rw [gd, hL e.on hon] at h6
          have h9 : l[e.on]? = some true := by
            cases hh : l[e.on]? with
            | none => rw [hh] at h6; cases h6
            | some b => rw [hh] at h6; simp at h6; rw [h6]
          have h10 := anc_true hcl 20 e.on h9 j hanc
          rw [hj] at h10
          cases h10
      rw [hA i hiA] at h3
      have hli : l[i]? = some false := by
        rw [gd, hL i hiA] at h2
        cases hh : l[i]? with
        | none => rw [hh] at h2; cases h2
        | some b => rw [hh] at h2; simp at h2; rw [h2]
      have hiR : i ∈ Region.ready .any A.toArray l.toArray := by
        refine mem_ready.2 ⟨by simpa using hiA, by rw [gd, hli]; rfl, o, by rw [List.getElem?_toArray]; exact h3, fun e he hb => ?_⟩
        have h5 := h4 e he hb
        have h6 := hback i o h3 e he hb
        rw [gd, hL e.on (by omega)] at h5
        rw [gd]; exact h5
      have h7 := h.2 i hiR
      have hg := hG o (List.mem_of_getElem? h3)
      have hw : ∀ (ops : Array Oper), Region.wanted o (yielded ops a.tmps) = true := fun ops => by simp [Region.wanted, hg]
      have hA3 : A.toArray[i]? = some o := by rw [List.getElem?_toArray]; exact h3
      have hB3 : (A ++ B).toArray[i]? = some o := by rw [List.getElem?_toArray, hA i hiA]; exact h3
      unfold wpOp at h7 ⊢
      simp only [hA3, hB3, hw, if_true] at h7 ⊢
      refine h7.imp (wp_behind fun a' w' hk => ?_) id
      have hset : (l ++ lB).toArray.setIfInBounds i true = (l.set i true ++ lB).toArray := by
        rw [List.setIfInBounds_toArray, List.set_append_left _ _ (by omega)]
      rw [hset]
      have hcl' : Closed A (l.set i true) := fun x ox hx hlx e he hb => by
        rw [List.getElem?_set]
        by_cases e1 : i = e.on
        · rw [if_pos e1, if_pos (by omega)]
        · rw [if_neg e1]
          rw [List.getElem?_set] at hlx
          by_cases e2 : i = x
          · subst e2
            rw [h3] at hx
            injection hx with hx
            subst hx
            have h5 := h4 e he hb
            have h6 := hback i o h3 e he hb
            rw [gd, hL e.on (by omega)] at h5
            cases hh : l[e.on]? with
            | none => rw [hh] at h5; cases h5
            | some b => rw [hh] at h5; simp at h5; rw [h5]
          · rw [if_neg e2] at hlx
            exact hcl x ox hx hlx e he hb
      refine split_main hlB hG hback hcov k (l.set i true) a' w' hcl' (fun j' hj' => by
        rw [List.getElem?_set] at hj'
        by_cases e : i = j'
        · rw [if_pos e] at hj'
          split at hj' <;> cases hj'
        · rw [if_neg e] at hj'
          exact hmo j' hj') (by rw [List.length_set]; exact hl) (count_set l i k hli hc) ?_
      rw [← List.setIfInBounds_toArray]
      exact hk
/-- May the region be cut there? -/
def cutB (A B : List Oper) (l lB : List Bool) : Bool :=
  (A.all fun o => o.guard.isNone) && ((List.range A.length).all fun i => ((A[i]?).map fun o => o.after.all fun e => !Region.binds .any e || decide (e.on < i)).getD true) && ((List.range B.length).all fun i => lB[i]? == some true || ((B[i]?).map fun o => (List.range l.length).all fun k => l[k]? == some true || o.after.any fun e => Region.binds .any e && (decide (e.on < A.length) && (anc A 20 e.on).contains k)).getD true) && (decide (l.length = A.length) && decide (lB.length = B.length)) && ((List.range A.length).all fun i => !(l[i]? == some true) || ((A[i]?).map fun o => o.after.all fun e => !Region.binds .any e || l[e.on]? == some true).getD true)
theorem any_cut {P : Program} {Q : Exit → Act → World → Prop} {ops : Array Oper} (n : Nat) (l lB : List Bool) (m : Nat) {a : Act} {w : World} (hB : cutB (ops.toList.take n) (ops.toList.drop n) l lB = true)
    (h : wpAny P .any (ops.toList.take n).toArray (Behind (fun a w => wpAny P .any ops Q m (List.replicate (ops.toList.take n).length true ++ lB).toArray a w) Q) (l.countP (!·)) l.toArray a w) : wpAny P .any ops Q (l.countP (!·) + m) (l ++ lB).toArray a w := by
  have hop : (ops.toList.take n ++ ops.toList.drop n).toArray = ops := by rw [List.take_append_drop]
  generalize ops.toList.take n = A at *
  generalize ops.toList.drop n = B at *
  subst hop
  unfold cutB at hB
  simp only [Bool.and_eq_true, List.all_eq_true, Option.isNone_iff_eq_none, List.mem_range, decide_eq_true_eq] at hB
  obtain ⟨⟨⟨⟨h1, h2⟩, h3⟩, h4, h5⟩, h0⟩ := hB
  refine split_main (P := P) (Q := Q) (A := A) (B := B) (l0 := l) (m := m) h5 h1 (fun i o hi e he hb => by
    have h4 := h2 i (List.getElem?_eq_some_iff.1 hi).1
    rw [hi] at h4
    simp only [Option.map_some, Option.getD_some, Array.all_eq_true_iff_forall_mem, Bool.or_eq_true, Bool.not_eq_true', decide_eq_true_eq] at h4
    rcases h4 e he with h5 | h5
    · rw [hb] at h5; cases h5
    · exact h5) (fun i o ho hb0 k hk => by
    have h6 := h3 i (List.getElem?_eq_some_iff.1 ho).1
    rw [ho, hb0] at h6
    simp only [Option.map_some, Option.getD_some, Bool.or_eq_true, List.all_eq_true, List.mem_range, Array.any_eq_true', Bool.and_eq_true, beq_iff_eq, decide_eq_true_eq, List.contains_iff_mem] at h6
    rcases h6 with h6 | h6
    · cases h6
    · rcases h6 k (List.getElem?_eq_some_iff.1 hk).1 with h7 | ⟨e, he, hb, hon⟩
      · rw [hk] at h7; cases h7
      · exact ⟨e, he, hb, hon⟩) _ l a w (fun i o hi hli e he hb => by
    have h7 := h0 i (List.getElem?_eq_some_iff.1 hi).1
    rw [hi, hli] at h7
    simp only [Option.map_some, Option.getD_some, Bool.or_eq_true, Bool.not_eq_true', Array.all_eq_true_iff_forall_mem, beq_self_eq_true, Bool.true_eq_false, false_or, beq_iff_eq, reduceCtorEq] at h7
    rcases h7 e he with h8 | h8
    · rw [hb] at h8; cases h8
    · exact h8) (fun j hj => hj) h4 rfl h
theorem any_cut_at {P : Program} {Q : Exit → Act → World → Prop} {ops : Array Oper} {fuel : Nat} {listed : Array Bool} (n : Nat) (l lB : List Bool) (k m : Nat) {a : Act} {w : World} (hB : cutB (ops.toList.take n) (ops.toList.drop n) l lB = true) (hk : l.countP (!·) = k) (hf : fuel = k + m) (hl : listed = (l ++ lB).toArray)
    (h : wpAny P .any (ops.toList.take n).toArray (Behind (fun a w => wpAny P .any ops Q m (List.replicate l.length true ++ lB).toArray a w) Q) k l.toArray a w) : wpAny P .any ops Q fuel listed a w := by
  subst hf; subst hl; subst hk
  have e : l.length = (ops.toList.take n).length := by
    unfold cutB at hB
    simp only [Bool.and_eq_true, decide_eq_true_eq] at hB
    exact hB.1.2.1
  rw [e] at h
  exact any_cut n l lB m hB h
end Go.Proofs.YtpcdkepkipadaaaGreat.flow
namespace Go.Proofs.YtpcdkepkipadaaaGreat.rat
open Go.RowKit Go.Proofs.YtpcdkepkipadaaaGreat.num Go.Proofs.YtpcdkepkipadaaaGreat.mem Go.Proofs.YtpcdkepkipadaaaGreat.nat Go.Proofs.YtpcdkepkipadaaaGreat.txt Go.Proofs.YtpcdkepkipadaaaGreat.str Go.Proofs.YtpcdkepkipadaaaGreat.flow Go.Proofs.YtpcdkepkipadaaaGreat.whl
set_option linter.unusedVariables false
set_option linter.unusedSimpArgs false
/-- So far as row i, all rows are as long as the first one. -/
structure EvF (M n i : Nat) (pss qss : List (List Elt)) : Prop where
  len : pss.length = n
  same : qss.map List.length = pss.map List.length
  low : ∀ (j : Nat) (ps p0 : List Elt), j < i → pss[j]? = some ps → pss[0]? = some p0 → ps.length = p0.length
  most : ∀ ps ∈ pss, ps.length ≤ M
  small : ∀ e ∈ pss.flatten, lenQ e.1 1
theorem EvF.pair {M n i : Nat} {pss qss : List (List Elt)} (h : EvF M n i pss qss) {j : Nat} {ps qs : List Elt} (hp : pss[j]? = some ps) (hq : qss[j]? = some qs) : qs.length = ps.length := by
  have h1 := congrArg (fun l => l[j]?) h.same
  simp only [List.getElem?_map, hp, hq, Option.map_some] at h1
  exact Option.some.inj h1
theorem same_set {pss qss : List (List Elt)} (h : qss.map List.length = pss.map List.length) (i : Nat) {a b : List Elt} (he : b.length = a.length) : (qss.set i b).map List.length = (pss.set i a).map List.length := by
  rw [List.map_set, List.map_set, h, he]
theorem EvF.grow {M n i : Nat} {pss qss : List (List Elt)} (h : EvF M n i pss qss) {ps qs p0 : List Elt} {a b : Elt} (hp : pss[i]? = some ps) (hq : qss[i]? = some qs) (h0 : pss[0]? = some p0) (hlt : ps.length < p0.length) (hs : lenQ a.1 1) : EvF M n i (pss.set i (ps ++ [a])) (qss.set i (qs ++ [b])) := by
  have hi : i ≠ 0 := fun e => by
    subst e
    rw [hp] at h0
    injection h0 with h0
    subst h0
    omega
  have hm0 := h.most p0 (List.mem_of_getElem? h0)
  refine ⟨by rw [List.length_set]; exact h.len, same_set h.same i (by rw [List.length_append, List.length_append, h.pair hp hq]; rfl), fun j x y hj hx hy => ?_, fun x hx => ?_, fun e he => ?_⟩
  · rw [List.getElem?_set_ne (by omega)] at hx
    rw [List.getElem?_set_ne hi] at hy
    exact h.low j x y hj hx hy
  · rcases List.mem_or_eq_of_mem_set hx with hx | rfl
    · exact h.most x hx
    · rw [List.length_append, List.length_singleton]; omega
  · rcases flatten_set he with he | he
    · exact h.small e he
    · rcases List.mem_append.1 he with he | he
      · exact h.small e (mem_flat hp he)
      · rw [List.mem_singleton.1 he]; exact hs
theorem EvF.cut {M n i : Nat} {pss qss : List (List Elt)} (h : EvF M n i pss qss) {ps qs p0 : List Elt} (hp : pss[i]? = some ps) (hq : qss[i]? = some qs) (h0 : pss[0]? = some p0) (hle : p0.length ≤ ps.length) : EvF M n (i + 1) (pss.set i (ps.take p0.length)) (qss.set i (qs.take p0.length)) := by
  have hlen : (ps.take p0.length).length = p0.length := by rw [List.length_take]; omega
  have hlen2 : (qs.take p0.length).length = p0.length := by rw [List.length_take, h.pair hp hq]; omega
  have hm0 := h.most p0 (List.mem_of_getElem? h0)
  have hz : ∀ y, (pss.set i (ps.take p0.length))[0]? = some y → y.length = p0.length := fun y hy => by
    rcases mem_set_at hy with ⟨_, rfl⟩ | ⟨_, hy⟩
    · exact hlen
    · rw [h0] at hy
      injection hy with hy
      rw [hy]
  refine ⟨by rw [List.length_set]; exact h.len, same_set h.same i (by rw [hlen, hlen2]), fun j x y hj hx hy => ?_, fun x hx => ?_, fun e he => ?_⟩
  · rw [hz y hy]
    rcases mem_set_at hx with ⟨_, rfl⟩ | ⟨hji, hx⟩
    · exact hlen
    · exact h.low j x p0 (by omega) hx h0
  · rcases List.mem_or_eq_of_mem_set hx with hx | rfl
    · exact h.most x hx
    · rw [hlen]; exact hm0
  · rcases flatten_set he with he | he
    · exact h.small e he
    · exact h.small e (mem_flat hp (List.mem_of_mem_take he))
theorem EvF.start {M : Nat} {pss qss : List (List Elt)} (h : valq qss = valq pss) (hl : ∀ r ∈ valq pss, r.length ≤ M ∧ ∀ x ∈ r, lenQ x 1) : EvF M pss.length 0 pss qss := by
  refine ⟨rfl, ?_, fun j _ _ hj => absurd hj (Nat.not_lt_zero _), fun ps hp => ?_, fun e he => ?_⟩
  · have h1 := congrArg (List.map List.length) h
    simp only [valq, List.map_map] at h1
    simpa [Function.comp_def] using h1
  · have h1 := (hl (ps.map (·.1)) (List.mem_map.2 ⟨ps, hp, rfl⟩)).1
    rwa [List.length_map] at h1
  · obtain ⟨ps, hp, he⟩ := List.mem_flatten.1 he
    exact (hl (ps.map (·.1)) (List.mem_map.2 ⟨ps, hp, rfl⟩)).2 e.1 (List.mem_map.2 ⟨e, he, rfl⟩)
theorem EvF.done {M n : Nat} {pss qss : List (List Elt)} (h : EvF M n n pss qss) : evenq (valq pss) ∧ wideq (valq pss) ≤ M ∧ lenT (valq pss) 1 := by
  refine ⟨fun r hr => ?_, ?_, fun r hr x hx => ?_⟩
  · obtain ⟨ps, hp, rfl⟩ := List.mem_map.1 hr
    obtain ⟨j, hj⟩ := List.mem_iff_getElem?.1 hp
    have hjn : j < pss.length := (List.getElem?_eq_some_iff.1 hj).1
    obtain ⟨p0, h0⟩ : ∃ p0, pss[0]? = some p0 := ⟨_, List.getElem?_eq_getElem (by omega)⟩
    rw [wideq_at (valq_at h0), List.length_map, List.length_map]
    exact h.low j ps p0 (by rw [← h.len]; exact hjn) hj h0
  · cases hz : pss[0]? with
    | none =>
      have : pss = [] := List.length_eq_zero_iff.1 (by have := List.getElem?_eq_none_iff.1 hz; omega)
      rw [this]; exact Nat.zero_le _
    | some p0 =>
      rw [wideq_at (valq_at hz), List.length_map]
      exact h.most p0 (List.mem_of_getElem? hz)
  · obtain ⟨ps, hp, rfl⟩ := List.mem_map.1 hr
    obtain ⟨e, he, rfl⟩ := List.mem_map.1 hx
    exact h.small e (List.mem_flatten.2 ⟨ps, hp, he⟩)
/-- How long the slice in a cell is. -/
def lenAt (w : World) (g i : Nat) : Nat := match w.cell? ⟨g, i, none⟩ with
  | some (.slice _ n _) => n
  | _ => 0
theorem lenAt_of {w : World} {g i n c : Nat} {A : Option Addr} (h : w.cell? ⟨g, i, none⟩ = some (.slice A n c)) : lenAt w g i = n := by unfold lenAt; rw [h]
theorem RowV.placed {w : World} {base n c : Nat} {TS : TypeId} {A : Option Addr} {us : List Value} (h : RowV w base TS (.slice A n c) us) (hn : 0 < us.length) : ∃ g, A = some ⟨g, 0, none⟩ := by
  rcases h.2 with ⟨_, h0⟩ | ⟨g', cap, cur, e, _⟩
  · omega
  · injection e with e1 e2 e3
    exact ⟨g', e1⟩
theorem RowF.shape {T : TypeId} {w : World} {base : Nat} {v : Value} {ps : List Elt} (h : RowF T w base v ps) : ∃ A c, v = .slice A ps.length c ∧ ps.length ≤ c ∧ c ≤ maxLen := by
  obtain ⟨A, c, e, h1, h2, _⟩ := h.isVF
  exact ⟨A, c, e, h1, h2⟩
set_option maxHeartbeats 6400000 in
set_option maxRecDepth 100000 in
theorem even_any (a0 : Value) (M : Nat) (w : World) (h0 : ArgT w a0) (hM : M ≤ 8) :
    Calls Tryz.prog 30 #[a0, .int .i64 (M : Int)] w (RetEven M w) := by
  obtain ⟨A0, n0, c0, rfl, hc0, hm0⟩ := h0.shape
  go_enter Tryz.func30, Tryz.ntmps30
  go_wp2_with fail
  refine (fewt_own _ M _ h0 hM).mono ?_
  rintro e w1 ⟨V, U, us0, vs0, pss0, qss0, rfl, hT, hvq, hul, hvl⟩
  obtain ⟨AV, cV, eV⟩ := RowV.slice hT.p.row
  obtain ⟨AU, cU, eU⟩ := RowV.slice hT.q.row
  subst eV
  subst eU
  have HE0 := Lib.hid (EvF.start hvq hvl)
  have hpq : vs0.length = us0.length := by
    have h1 := congrArg List.length hvq
    rw [valq_len, valq_len] at h1
    rw [hT.p.len, hT.q.len, h1]
  have hpn := hT.p.len
  have TE0 := Lib.hid hT.e
  rw [hpq] at TE0
  rw [hpq]
  rw [← hpn] at HE0
  obtain ⟨n, hn⟩ : ∃ n, us0.length = n := ⟨_, rfl⟩
  rw [hn] at TE0 HE0 hul
  rw [hn]
  clear hT hvq hvl hpq hpn hn
  go_wp2
  go_loopw [8] (fun v8 wr => ∃ (i : Nat) (us vs : List Value) (pss qss : List (List Elt)), i ≤ n ∧ Hid (TwoE w wr (.slice AV n cV) (.slice AU n cU) us us vs vs pss qss) ∧ Hid (EvF M n i pss qss) ∧ v8 = .int .i64 (i : Int)) (fun v8 _ => n - (intOf v8).toNat)
  case atStart => exact ⟨0, _, _, _, _, by omega, TE0, HE0, rfl⟩
  case round =>
    obtain ⟨i, us, vs, pss, qss, hi, TE, EF, rfl⟩ := hrel
    clear TE0 HE0
    by_cases hlt : i < n
    · obtain ⟨g, hg⟩ := RowV.placed TE.out.p.row (by rw [TE.out.p.len, EF.out.len]; omega)
      obtain ⟨f, hf⟩ := RowV.placed TE.out.q.row (by
        have h1 := congrArg List.length EF.out.same
        rw [List.length_map, List.length_map, EF.out.len] at h1
        rw [TE.out.q.len, h1]; omega)
      subst hg
      subst hf
      go_wp2
      go_loopw [] (fun wr => ∃ (us vs : List Value) (pss qss : List (List Elt)), Hid (TwoE w wr (.slice (some ⟨g, 0, none⟩) n cV) (.slice (some ⟨f, 0, none⟩) n cU) us us vs vs pss qss) ∧ Hid (EvF M n i pss qss)) (fun wr => lenAt wr g 0 - lenAt wr g i)
      case atStart => exact ⟨us, vs, pss, qss, TE, EF⟩
      case round =>
        clear TE EF
        obtain ⟨us, vs, pss, qss, TE, EF⟩ := hrel
        have hqn : qss.length = n := by
          have h1 := congrArg List.length EF.out.same
          rwa [List.length_map, List.length_map, EF.out.len] at h1
        obtain ⟨u, hu⟩ : ∃ u, us[i]? = some u := ⟨_, List.getElem?_eq_getElem (by rw [TE.out.p.len, EF.out.len]; exact hlt)⟩
        obtain ⟨z, hz⟩ : ∃ z, us[0]? = some z := ⟨_, List.getElem?_eq_getElem (by rw [TE.out.p.len, EF.out.len]; omega)⟩
        obtain ⟨v, hv⟩ : ∃ v, vs[i]? = some v := ⟨_, List.getElem?_eq_getElem (by rw [TE.out.q.len, hqn]; exact hlt)⟩
        obtain ⟨ps, hps, ru⟩ := TE.out.p.at hu
        obtain ⟨p0, hp0, rz⟩ := TE.out.p.at hz
        obtain ⟨qs, hqs, rv⟩ := TE.out.q.at hv
        have hle := EF.out.pair hps hqs
        have hm1 := EF.out.most ps (List.mem_of_getElem? hps)
        have hm0' := EF.out.most p0 (List.mem_of_getElem? hp0)
        obtain ⟨Au, cu, eu, hcu, hxu⟩ := ru.shape
        obtain ⟨Az, cz, ez, hcz, hxz⟩ := rz.shape
        obtain ⟨Av, cv, ev, hcv, hxv⟩ := rv.shape
        rw [hle] at ev hcv
        subst eu
        subst ez
        subst ev
        have HU := Lib.hid hu
        have HV := Lib.hid hv
        have HPS := Lib.hid hps
        have HQS := Lib.hid hqs
        have HP0 := Lib.hid hp0
        have HLE := Lib.hid hle
        have lI := Lib.hid (lenAt_of (TE.out.p.row.cellAt hu))
        have l0 := Lib.hid (lenAt_of (TE.out.p.row.cellAt hz))
        have TD := Lib.hid (TE.out.to (Below.refl _ wr).drew)
        have cI := TD.out.p.row.cellAt hu
        have c0 := TD.out.p.row.cellAt hz
        have h0n : 0 < n := by omega
        have HZ := Lib.hid hz
        clear hu hz hv hps hqs hp0 hle ru rz rv
        unfold maxLen at hxu hxz hxv
        by_cases hlt2 : ps.length < p0.length
        · go_upto_region 5 with (fail)
          go_region
          all_goals
            clear cI c0
            obtain ⟨W0, hW0⟩ : ∃ W0, W0 = wr.drew := ⟨_, rfl⟩
            rw [← hW0] at TD ⊢
            clear hW0
            have T0 := Lib.hid (TD.out.to (Below.refl _ W0).drew)
            have cI := T0.out.p.row.cellAt HU.out
            have cVV := T0.out.q.row.cellAt HV.out
            have HL8 : Hid (ps.length ≤ 1000000000 ∧ qs.length ≤ 1000000000) := ⟨by omega, by have := HLE.out; omega⟩
            obtain ⟨X, hX⟩ : ∃ X : Rat, X = (((ps.length + i : Nat) : Int) : Rat) := ⟨_, rfl⟩
            obtain ⟨Y, hY⟩ : ∃ Y : Rat, Y = mkRat ((ps.length + i : Nat) : Int) 1 := ⟨_, rfl⟩
            have hwI : IntKind.i64.wrap ((ps.length : Int) + (i : Int)) = ((ps.length + i : Nat) : Int) := by simp [IntKind.wrap, IntKind.bits, IntKind.signed]; omega
            have CO : ∀ w, Calls Tryz.prog 53 #[.int .i64 (IntKind.i64.wrap ((ps.length : Int) + (i : Int)))] w (RetQ X w) := fun w => by
              rw [hX, hwI]
              exact of8_any _ w (by omega) (by omega)
            have CN : ∀ w, Calls Tryz.prog 35 #[.int .i64 (IntKind.i64.wrap ((ps.length : Int) + (i : Int))), .int .i64 1] w (RetPF Y w) := fun w => by
              rw [hY, hwI]
              exact qnum_any _ 1 w 1 rfl (by omega) (by omega) (by omega) (by omega)
            have HXL : Hid (lenQ X 1) := by show lenQ _ _; rw [hX]; exact lenQ_small (ps.length + i) (by omega)
            have hi0 : i ≠ 0 := fun e => by
              subst e
              have h1 := HPS.out
              rw [HP0.out] at h1
              injection h1 with h1
              rw [h1] at hlt2
              exact Nat.lt_irrefl _ hlt2
            clear hX hY TD hwI
            go_upto_region 6 with (fail)
            refine wp_region_any (by kernel_rfl) (show wpAny _ _ _ _ _ _ _ W0.drew from ?_)
            refine wpAny_take (i := 2) (v := .slice (some ⟨f, 0, none⟩) n cU) rfl (by kernel_rfl) (by kernel_rfl) (by kernel_rfl) (fun _ _ _ h => h) (Or.inl ⟨by rfl, fun w => by (go_simp; first | done | with_reducible rfl)⟩) ?_
            simp only [Act.put, List.setIfInBounds_toArray, List.set_cons_zero, List.set_cons_succ]
            refine wpAny_take (i := 3) (v := .int .i64 (i : Int)) rfl (by kernel_rfl) (by kernel_rfl) (by kernel_rfl) (fun _ _ _ h => h) (Or.inl ⟨by rfl, fun w => by (go_simp; first | done | with_reducible rfl)⟩) ?_
            simp only [Act.put, List.setIfInBounds_toArray, List.set_cons_zero, List.set_cons_succ]
            refine any_cut_at 32 [false, false, true, true, false, false, false, false, false, false, false, false, false, false, false, false, false, false, false, false, false, false, false, false, false, false, false, false, false, false, false, false] [false, false, false, false] 30 4 (by kernel_rfl) (by kernel_rfl) (by kernel_rfl) (by kernel_rfl) ?_
            simp only [List.take_succ_cons, List.take_zero]
            have hHeld : (fun w2 : World => w2.cell? ⟨g, i, none⟩ = some (.slice Au ps.length cu) ∧ w2.cell? ⟨f, i, none⟩ = some (.slice Av ps.length cv)) W0.drew := ⟨cI, cVV⟩
            refine wpAny_of_held (S := fun w2 : World => w2.cell? ⟨g, i, none⟩ = some (.slice Au ps.length cu) ∧ w2.cell? ⟨f, i, none⟩ = some (.slice Av ps.length cv)) _ _ _ _ ?_
            refine wpAnyH_take (i := 0) (v := .slice (some ⟨g, 0, none⟩) n cV) rfl (by kernel_rfl) (by kernel_rfl) (by kernel_rfl) (fun _ _ _ h => h) (Or.inl ⟨by rfl, fun w hSw => by (obtain ⟨hS1, hS2⟩ := hSw; go_simp; first | done | with_reducible rfl)⟩) hHeld ?_
            simp only [Act.put, List.setIfInBounds_toArray, List.set_cons_zero, List.set_cons_succ]
            refine wpAnyH_take (i := 1) (v := .int .i64 (i : Int)) rfl (by kernel_rfl) (by kernel_rfl) (by kernel_rfl) (fun _ _ _ h => h) (Or.inl ⟨by rfl, fun w hSw => by (obtain ⟨hS1, hS2⟩ := hSw; go_simp; first | done | with_reducible rfl)⟩) hHeld ?_
            simp only [Act.put, List.setIfInBounds_toArray, List.set_cons_zero, List.set_cons_succ]
            refine wpAnyH_take (i := 4) (v := .slice (some ⟨g, 0, none⟩) n cV) rfl (by kernel_rfl) (by kernel_rfl) (by kernel_rfl) (fun _ _ _ h => h) (Or.inl ⟨by rfl, fun w hSw => by (obtain ⟨hS1, hS2⟩ := hSw; go_simp; first | done | with_reducible rfl)⟩) hHeld ?_
            simp only [Act.put, List.setIfInBounds_toArray, List.set_cons_zero, List.set_cons_succ]
            refine wpAnyH_take (i := 5) (v := .int .i64 (i : Int)) rfl (by kernel_rfl) (by kernel_rfl) (by kernel_rfl) (fun _ _ _ h => h) (Or.inl ⟨by rfl, fun w hSw => by (obtain ⟨hS1, hS2⟩ := hSw; go_simp; first | done | with_reducible rfl)⟩) hHeld ?_
            simp only [Act.put, List.setIfInBounds_toArray, List.set_cons_zero, List.set_cons_succ]
            refine wpAnyH_take (i := 6) (v := .pointer (some ⟨g, i, none⟩)) rfl (by kernel_rfl) (by kernel_rfl) (by kernel_rfl) (fun _ _ _ h => h) (Or.inl ⟨by rfl, fun w hSw => by (obtain ⟨hS1, hS2⟩ := hSw; go_simp; first | done | with_reducible rfl)⟩) hHeld ?_
            simp only [Act.put, List.setIfInBounds_toArray, List.set_cons_zero, List.set_cons_succ]
            refine wpAnyH_take (i := 7) (v := .slice Au ps.length cu) rfl (by kernel_rfl) (by kernel_rfl) (by kernel_rfl) (fun _ _ _ h => h) (Or.inl ⟨by rfl, fun w hSw => by (obtain ⟨hS1, hS2⟩ := hSw; go_simp; first | done | with_reducible rfl)⟩) hHeld ?_
            simp only [Act.put, List.setIfInBounds_toArray, List.set_cons_zero, List.set_cons_succ]
            refine wpAnyH_take (i := 8) (v := .slice (some ⟨g, 0, none⟩) n cV) rfl (by kernel_rfl) (by kernel_rfl) (by kernel_rfl) (fun _ _ _ h => h) (Or.inl ⟨by rfl, fun w hSw => by (obtain ⟨hS1, hS2⟩ := hSw; go_simp; first | done | with_reducible rfl)⟩) hHeld ?_
            simp only [Act.put, List.setIfInBounds_toArray, List.set_cons_zero, List.set_cons_succ]
            refine wpAnyH_take (i := 9) (v := .int .i64 (i : Int)) rfl (by kernel_rfl) (by kernel_rfl) (by kernel_rfl) (fun _ _ _ h => h) (Or.inl ⟨by rfl, fun w hSw => by (obtain ⟨hS1, hS2⟩ := hSw; go_simp; first | done | with_reducible rfl)⟩) hHeld ?_
            simp only [Act.put, List.setIfInBounds_toArray, List.set_cons_zero, List.set_cons_succ]
            refine wpAnyH_take (i := 10) (v := .pointer (some ⟨g, i, none⟩)) rfl (by kernel_rfl) (by kernel_rfl) (by kernel_rfl) (fun _ _ _ h => h) (Or.inl ⟨by rfl, fun w hSw => by (obtain ⟨hS1, hS2⟩ := hSw; go_simp; first | done | with_reducible rfl)⟩) hHeld ?_
            simp only [Act.put, List.setIfInBounds_toArray, List.set_cons_zero, List.set_cons_succ]
            refine wpAnyH_take (i := 11) (v := .slice Au ps.length cu) rfl (by kernel_rfl) (by kernel_rfl) (by kernel_rfl) (fun _ _ _ h => h) (Or.inl ⟨by rfl, fun w hSw => by (obtain ⟨hS1, hS2⟩ := hSw; go_simp; first | done | with_reducible rfl)⟩) hHeld ?_
            simp only [Act.put, List.setIfInBounds_toArray, List.set_cons_zero, List.set_cons_succ]
            refine wpAnyH_take (i := 12) (v := .int .i64 ((ps.length : Nat) : Int)) rfl (by kernel_rfl) (by kernel_rfl) (by kernel_rfl) (fun _ _ _ h => h) (Or.inl ⟨by rfl, fun w hSw => by (obtain ⟨hS1, hS2⟩ := hSw; go_simp; first | done | with_reducible rfl)⟩) hHeld ?_
            simp only [Act.put, List.setIfInBounds_toArray, List.set_cons_zero, List.set_cons_succ]
            refine wpAnyH_take (i := 13) (v := .int .i64 (i : Int)) rfl (by kernel_rfl) (by kernel_rfl) (by kernel_rfl) (fun _ _ _ h => h) (Or.inl ⟨by rfl, fun w hSw => by (obtain ⟨hS1, hS2⟩ := hSw; go_simp; first | done | with_reducible rfl)⟩) hHeld ?_
            simp only [Act.put, List.setIfInBounds_toArray, List.set_cons_zero, List.set_cons_succ]
            refine wpAnyH_take (i := 14) (v := .int .i64 (IntKind.i64.wrap ((ps.length : Int) + (i : Int)))) rfl (by kernel_rfl) (by kernel_rfl) (by kernel_rfl) (fun _ _ _ h => h) (Or.inl ⟨by rfl, fun w hSw => by (obtain ⟨hS1, hS2⟩ := hSw; go_simp; first | done | with_reducible rfl)⟩) hHeld ?_
            simp only [Act.put, List.setIfInBounds_toArray, List.set_cons_zero, List.set_cons_succ]
            refine wpAnyH_take (i := 18) (v := .slice (some ⟨f, 0, none⟩) n cU) rfl (by kernel_rfl) (by kernel_rfl) (by kernel_rfl) (fun _ _ _ h => h) (Or.inl ⟨by rfl, fun w hSw => by (obtain ⟨hS1, hS2⟩ := hSw; go_simp; first | done | with_reducible rfl)⟩) hHeld ?_
            simp only [Act.put, List.setIfInBounds_toArray, List.set_cons_zero, List.set_cons_succ]
            refine wpAnyH_take (i := 19) (v := .int .i64 (i : Int)) rfl (by kernel_rfl) (by kernel_rfl) (by kernel_rfl) (fun _ _ _ h => h) (Or.inl ⟨by rfl, fun w hSw => by (obtain ⟨hS1, hS2⟩ := hSw; go_simp; first | done | with_reducible rfl)⟩) hHeld ?_
            simp only [Act.put, List.setIfInBounds_toArray, List.set_cons_zero, List.set_cons_succ]
            refine wpAnyH_take (i := 20) (v := .pointer (some ⟨f, i, none⟩)) rfl (by kernel_rfl) (by kernel_rfl) (by kernel_rfl) (fun _ _ _ h => h) (Or.inl ⟨by rfl, fun w hSw => by (obtain ⟨hS1, hS2⟩ := hSw; go_simp; first | done | with_reducible rfl)⟩) hHeld ?_
            simp only [Act.put, List.setIfInBounds_toArray, List.set_cons_zero, List.set_cons_succ]
            refine wpAnyH_take (i := 21) (v := .slice Av ps.length cv) rfl (by kernel_rfl) (by kernel_rfl) (by kernel_rfl) (fun _ _ _ h => h) (Or.inl ⟨by rfl, fun w hSw => by (obtain ⟨hS1, hS2⟩ := hSw; go_simp; first | done | with_reducible rfl)⟩) hHeld ?_
            simp only [Act.put, List.setIfInBounds_toArray, List.set_cons_zero, List.set_cons_succ]
            refine wpAnyH_take (i := 22) (v := .slice (some ⟨f, 0, none⟩) n cU) rfl (by kernel_rfl) (by kernel_rfl) (by kernel_rfl) (fun _ _ _ h => h) (Or.inl ⟨by rfl, fun w hSw => by (obtain ⟨hS1, hS2⟩ := hSw; go_simp; first | done | with_reducible rfl)⟩) hHeld ?_
            simp only [Act.put, List.setIfInBounds_toArray, List.set_cons_zero, List.set_cons_succ]
            refine wpAnyH_take (i := 23) (v := .int .i64 (i : Int)) rfl (by kernel_rfl) (by kernel_rfl) (by kernel_rfl) (fun _ _ _ h => h) (Or.inl ⟨by rfl, fun w hSw => by (obtain ⟨hS1, hS2⟩ := hSw; go_simp; first | done | with_reducible rfl)⟩) hHeld ?_
            simp only [Act.put, List.setIfInBounds_toArray, List.set_cons_zero, List.set_cons_succ]
            refine wpAnyH_take (i := 24) (v := .pointer (some ⟨f, i, none⟩)) rfl (by kernel_rfl) (by kernel_rfl) (by kernel_rfl) (fun _ _ _ h => h) (Or.inl ⟨by rfl, fun w hSw => by (obtain ⟨hS1, hS2⟩ := hSw; go_simp; first | done | with_reducible rfl)⟩) hHeld ?_
            simp only [Act.put, List.setIfInBounds_toArray, List.set_cons_zero, List.set_cons_succ]
            refine wpAnyH_take (i := 25) (v := .slice Av ps.length cv) rfl (by kernel_rfl) (by kernel_rfl) (by kernel_rfl) (fun _ _ _ h => h) (Or.inl ⟨by rfl, fun w hSw => by (obtain ⟨hS1, hS2⟩ := hSw; go_simp; first | done | with_reducible rfl)⟩) hHeld ?_
            simp only [Act.put, List.setIfInBounds_toArray, List.set_cons_zero, List.set_cons_succ]
            refine wpAnyH_take (i := 26) (v := .int .i64 ((ps.length : Nat) : Int)) rfl (by kernel_rfl) (by kernel_rfl) (by kernel_rfl) (fun _ _ _ h => h) (Or.inl ⟨by rfl, fun w hSw => by (obtain ⟨hS1, hS2⟩ := hSw; go_simp; first | done | with_reducible rfl)⟩) hHeld ?_
            simp only [Act.put, List.setIfInBounds_toArray, List.set_cons_zero, List.set_cons_succ]
            refine wpAnyH_take (i := 27) (v := .int .i64 (i : Int)) rfl (by kernel_rfl) (by kernel_rfl) (by kernel_rfl) (fun _ _ _ h => h) (Or.inl ⟨by rfl, fun w hSw => by (obtain ⟨hS1, hS2⟩ := hSw; go_simp; first | done | with_reducible rfl)⟩) hHeld ?_
            simp only [Act.put, List.setIfInBounds_toArray, List.set_cons_zero, List.set_cons_succ]
            refine wpAnyH_take (i := 28) (v := .int .i64 (IntKind.i64.wrap ((ps.length : Int) + (i : Int)))) rfl (by kernel_rfl) (by kernel_rfl) (by kernel_rfl) (fun _ _ _ h => h) (Or.inl ⟨by rfl, fun w hSw => by (obtain ⟨hS1, hS2⟩ := hSw; go_simp; first | done | with_reducible rfl)⟩) hHeld ?_
            simp only [Act.put, List.setIfInBounds_toArray, List.set_cons_zero, List.set_cons_succ]
            refine wpAnyH_ready (rs := [15]) (by kernel_rfl) (by simp) ?_
            refine AllReadyH.cons rfl (fun K hK => ?_) AllReadyH.nil
            go_simp
            go_at_call 53
            refine (CO _).mono ?_
            rintro e w6 ⟨v6, rfl, k6, f6, b6⟩
            have T6 := Lib.hid (T0.out.to b6)
            have c6I := T6.out.p.row.cellAt HU.out
            have c6V := T6.out.q.row.cellAt HV.out
            obtain ⟨u6, t6, rfl, q6, d6⟩ := k6
            obtain ⟨A6, c6, rfl, _⟩ := id q6
            obtain ⟨D6, e6, rfl, _⟩ := id d6
            obtain ⟨cC0, cC1, cC2⟩ := new_cells w6 36 (.bool (ngB X.num)) (.slice A6 (digs 4294967296 X.num.natAbs).length c6) (.slice D6 (digs 4294967296 X.den).length e6)
            have ba6 := below_alloc (w := w6) (Nat.le_refl _) (.cells #[.bool (ngB X.num), .slice A6 (digs 4294967296 X.num.natAbs).length c6, .slice D6 (digs 4294967296 X.den).length e6] 36)
            have TC := Lib.hid (T6.out.to ba6)
            have rC := TC.out.p.own i _ ps HU.out HPS.out
            have hszC := TC.out.below.size
            have cCI := TC.out.p.row.cellAt HU.out
            have cCV := TC.out.q.row.cellAt HV.out
            have NE : Hid (Els _ _ [((X, .slice A6 (digs 4294967296 X.num.natAbs).length c6, .slice D6 (digs 4294967296 X.den).length e6) : Elt)]) := T0.out.new (e := (X, .slice A6 (digs 4294967296 X.num.natAbs).length c6, .slice D6 (digs 4294967296 X.den).length e6)) (b6.trans (ba6.mono b6.size)) ⟨q6.below ba6, d6.below ba6⟩ (f6 _ _ _ rfl).1 (f6 _ _ _ rfl).2
            refine hK.out _ _ ⟨c6I, c6V⟩ (fun hHeld => ?_)
            clear hK K
            simp only [Act.put, List.setIfInBounds_toArray, List.set_cons_zero, List.set_cons_succ]
            refine wpAnyH_ready (rs := [16]) (by kernel_rfl) (by simp) ?_
            refine AllReadyH.cons rfl (fun K hK => ?_) AllReadyH.nil
            go_simp
            refine hK.out _ _ ⟨cCI, cCV⟩ (fun hHeld => ?_)
            clear hK K
            simp only [Act.put, List.setIfInBounds_toArray, List.set_cons_zero, List.set_cons_succ]
            refine wpAnyH_ready (rs := [17]) (by kernel_rfl) (by simp) ?_
            refine AllReadyH.cons rfl (fun K hK => ?_) AllReadyH.nil
            refine step_append_q rfl (.tmp 38) (.tmp 47) rfl Tryz.underlying53 info_rat (v := .slice Au ps.length cu) (p := (X, .slice A6 (digs 4294967296 X.num.natAbs).length c6, .slice D6 (digs 4294967296 X.den).length e6)) (ps := ps) (by rfl) (by exact rC) (ad := ⟨w6.heap.size, 0, none⟩) (c := 1) (by rfl) (by exact cC0) (by exact cC1) (by exact cC2) rfl rfl HL8.out.1 (by exact hszC) ?_
            intro v5 w5 row5 bb5 HK5
            have T5 := Lib.hid (TC.out.growP HU.out HPS.out row5 HK5.out NE.out bb5)
            obtain ⟨A5, c5, e5, _, _⟩ := row5.shape
            rw [List.length_append, List.length_singleton] at e5
            subst e5
            have c5V := T5.out.q.row.cellAt HV.out
            have c5I := T5.out.p.row.cellAt HU.out
            refine hK.out _ _ ⟨c5I, c5V⟩ (fun hHeld => ?_)
            clear hK K
            simp only [Act.put, List.setIfInBounds_toArray, List.set_cons_zero, List.set_cons_succ]
            refine wpAnyH_ready (rs := [29]) (by kernel_rfl) (by simp) ?_
            refine AllReadyH.cons rfl (fun K hK => ?_) AllReadyH.nil
            go_simp
            go_at_call 35
            refine (CN _).mono ?_
            rintro e w8 ⟨v8, rfl, k8, f8, b8⟩
            have T8 := Lib.hid (T5.out.to b8)
            have c8V := T8.out.q.row.cellAt HV.out
            obtain ⟨u8, t8, rfl, q8, d8⟩ := k8
            obtain ⟨A8, c8, rfl, _⟩ := id q8
            obtain ⟨D8, e8, rfl, _⟩ := id d8
            obtain ⟨cN0, cN1, cN2⟩ := new_cells w8 47 (.bool (ngB Y.num)) (.slice A8 (digs 10000 Y.num.natAbs).length c8) (.slice D8 (digs 10000 Y.den).length e8)
            have ba8 := below_alloc (w := w8) (Nat.le_refl _) (.cells #[.bool (ngB Y.num), .slice A8 (digs 10000 Y.num.natAbs).length c8, .slice D8 (digs 10000 Y.den).length e8] 47)
            have TN := Lib.hid (T8.out.to ba8)
            have rN := TN.out.q.own i _ qs HV.out HQS.out
            have hszN := TN.out.below.size
            have cNV := TN.out.q.row.cellAt HV.out
            refine hK.out _ _ ⟨T8.out.p.row.cellAt HU.out, c8V⟩ (fun hHeld => ?_)
            clear hK K
            simp only [Act.put, List.setIfInBounds_toArray, List.set_cons_zero, List.set_cons_succ]
            refine wpAnyH_ready (rs := [30]) (by kernel_rfl) (by simp) ?_
            refine AllReadyH.cons rfl (fun K hK => ?_) AllReadyH.nil
            go_simp
            refine hK.out _ _ ⟨TN.out.p.row.cellAt HU.out, cNV⟩ (fun hHeld => ?_)
            clear hK K
            simp only [Act.put, List.setIfInBounds_toArray, List.set_cons_zero, List.set_cons_succ]
            refine wpAnyH_ready (rs := [31]) (by kernel_rfl) (by simp) ?_
            refine AllReadyH.cons rfl (fun K hK => ?_) AllReadyH.nil
            refine step_append_q rfl (.tmp 52) (.tmp 61) rfl Tryz.underlying57 info_q (v := .slice Av ps.length cv) (p := (Y, .slice A8 (digs 10000 Y.num.natAbs).length c8, .slice D8 (digs 10000 Y.den).length e8)) (ps := qs) (by rfl) (by exact rN) (ad := ⟨w8.heap.size, 0, none⟩) (c := 1) (by rfl) (by exact cN0) (by exact cN1) (by exact cN2) rfl rfl HL8.out.2 (by exact hszN) ?_
            intro v7 w7 row7 bb7 HK7
            have T7 := Lib.hid (TN.out.growQ HV.out row7 HK7.out bb7)
            obtain ⟨A7, c7, e7, _, _⟩ := row7.shape
            rw [List.length_append, List.length_singleton, HLE.out] at e7
            subst e7
            have c7I := T7.out.p.row.cellAt HU.out
            have f7I := T7.out.p.row.frozenAt i
            have c7V := T7.out.q.row.cellAt HV.out
            have f7V := T7.out.q.row.frozenAt i
            have T7p := Lib.hid (T7.out.storeP (i := i) (.slice A5 (ps.length + 1) c5))
            have c9V := T7p.out.q.row.cellAt HV.out
            have f9V := T7p.out.q.row.frozenAt i
            refine hK.out _ _ ⟨c7I, c7V⟩ (fun hHeld => ?_)
            clear hK K
            simp only [Act.put, List.setIfInBounds_toArray, List.set_cons_zero, List.set_cons_succ]
            refine wpAnyH_done (by kernel_rfl) ?_ _
            dsimp only [Behind]
            refine wpAny_take (i := 32) (v := .pointer (some ⟨g, i, none⟩)) rfl (by kernel_rfl) (by kernel_rfl) (by kernel_rfl) (fun _ _ _ h => h) (Or.inl ⟨by rfl, fun w => by (go_simp; first | done | with_reducible rfl)⟩) ?_
            simp only [Act.put, List.setIfInBounds_toArray, List.set_cons_zero, List.set_cons_succ]
            refine wpAny_ready (rs := [33]) (by kernel_rfl) (by simp) ?_
            refine AllReady.cons rfl (fun K hK => ?_) AllReady.nil
            go_simp
            refine hK _ _ ?_
            clear hK K
            simp only [Act.put, List.setIfInBounds_toArray, List.set_cons_zero, List.set_cons_succ]
            refine wpAny_take (i := 34) (v := .pointer (some ⟨f, i, none⟩)) rfl (by kernel_rfl) (by kernel_rfl) (by kernel_rfl) (fun _ _ _ h => h) (Or.inl ⟨by rfl, fun w => by (go_simp; first | done | with_reducible rfl)⟩) ?_
            simp only [Act.put, List.setIfInBounds_toArray, List.set_cons_zero, List.set_cons_succ]
            refine wpAny_ready (rs := [35]) (by kernel_rfl) (by simp) ?_
            refine AllReady.cons rfl (fun K hK => ?_) AllReady.nil
            go_simp
            refine hK _ _ ?_
            clear hK K
            simp only [Act.put, List.setIfInBounds_toArray, List.set_cons_zero, List.set_cons_succ]
            refine wpAny_done (by kernel_rfl) ?_ _
            have TE9 := Lib.hid (T7p.out.storeQ (i := i) (.slice A7 (ps.length + 1) c7))
            have EF9 := Lib.hid (EF.out.grow (a := (X, .slice A6 (digs 4294967296 X.num.natAbs).length c6, .slice D6 (digs 4294967296 X.den).length e6)) (b := (Y, .slice A8 (digs 10000 Y.num.natAbs).length c8, .slice D8 (digs 10000 Y.den).length e8)) HPS.out HQS.out HP0.out hlt2 HXL.out)
            have l9 := Lib.hid (lenAt_of (TE9.out.p.row.cellAt (i := i) (List.getElem?_set_self (List.getElem?_eq_some_iff.1 HU.out).1)))
            have l90 := Lib.hid (lenAt_of (TE9.out.p.row.cellAt (i := 0) ((List.getElem?_set_ne hi0).trans HZ.out)))
            clear CO CN c7I f7I c7V f7V c9V f9V cI cVV row5 row7 HK5 HK7 rC rN
            go_wp2
            go_roundw
            case rel => exact ⟨_, _, _, _, TE9, EF9⟩
            case measure => rw [l9.out, l90.out, lI.out, l0.out]; omega
        · go_upto_region 5 with (fail)
          go_region
          all_goals
            clear cI c0
            obtain ⟨W0, hW0⟩ : ∃ W0, W0 = wr.drew := ⟨_, rfl⟩
            rw [← hW0] at TD ⊢
            clear hW0
            have T0 := Lib.hid (TD.out.to (Below.refl _ W0).drew)
            have cI := T0.out.p.row.cellAt HU.out
            have fI := T0.out.p.row.frozenAt i
            have c0 := T0.out.p.row.cellAt HZ.out
            have cV := T0.out.q.row.cellAt HV.out
            have fV := T0.out.q.row.frozenAt i
            have hk1 : p0.length ≤ cu := by omega
            have hk2 : p0.length ≤ cv := by omega
            have T1 := Lib.hid (TD.out.cutP HU.out HPS.out ((TD.out.p.own i _ ps HU.out HPS.out).take (m := p0.length) (by omega)) (by cases Au <;> rfl) (fun e he => List.mem_of_mem_take he))
            have T2 := Lib.hid (T1.out.cutQ HV.out ((TD.out.q.own i _ qs HV.out HQS.out).take (m := p0.length) (by have := HLE.out; omega)) (by cases Av <;> rfl))
            have T3 := Lib.hid (T2.out.storeP (i := i) (.slice Au p0.length cu))
            have T3d := Lib.hid (T3.out.to (Below.refl _ _).drew)
            have c3V := T3d.out.q.row.cellAt HV.out
            have f3V := T3d.out.q.row.frozenAt i
            have T4 := Lib.hid ((T3.out.storeQ (i := i) (.slice Av p0.length cv)).to (Below.refl _ _).drew)
            have EF4 := Lib.hid (EF.out.cut HPS.out HQS.out HP0.out (by omega))
            have HI := Lib.hid hi
            clear TD
            go_upto_region 7 with (fail)
            go_region
            all_goals
              clear cI fI c0 cV fV c3V f3V
              go_wp2
              refine ⟨⟨i + 1, _, _, _, _, by omega, T4, EF4, by go_num⟩, ?_⟩
              simp [intOf]; omega
    · obtain rfl : i = n := by omega
      have hS := TE.out.slT
      have hF := EF.out.done
      have hb := TE.out.below
      have hL := EF.out.len
      have HEND := Lib.hid (⟨_, _, _, rfl, hS, hF.1, by rw [valq_len, hL]; omega, hF.2.1, hF.2.2, hb⟩ : RetEven M w (.returned (.tuple #[.slice AV i cV, .slice AU i cU])) wr)
      clear hS hF hb hL TE EF
      go_wp2
      go_ret2
      exact HEND.out
end Go.Proofs.YtpcdkepkipadaaaGreat.rat
