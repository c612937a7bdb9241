/- digits.From, Parse. Condition: a text of some bytes. -/
import Derived.Test.YtlepoheinemfcaaDoorDigF
import Derived.Lib.OthersKept
import Derived.Deep.Cut
namespace Go.Proofs.YtlepoheinemfcaaDoor.str
open Go.RowKit Go.Proofs.YtlepoheinemfcaaDoor.num Go.Proofs.YtlepoheinemfcaaDoor.mem Go.Proofs.YtlepoheinemfcaaDoor.txt Go.Proofs.YtlepoheinemfcaaDoor.nat
set_option linter.unusedVariables false

/-- What a text is by a base: its number, or refused. -/
def FromR (b : Nat) (l : List UInt8) (x : Nat) (e : Int) : Prop := (okS b l ∧ x = numS b l ∧ e = 0) ∨ (¬ okS b l ∧ x = 0 ∧ e = 5)
theorem FromR.one {b : Nat} {l : List UInt8} {x y : Nat} {e f : Int} (h : FromR b l x e) (k : FromR b l y f) : y = x ∧ f = e := by
  rcases h with ⟨h1, h2, h3⟩ | ⟨h1, h2, h3⟩ <;> rcases k with ⟨k1, k2, k3⟩ | ⟨k1, k2, k3⟩
  · exact ⟨by rw [h2, k2], by rw [h3, k3]⟩
  · exact absurd h1 k1
  · exact absurd k1 h1
  · exact ⟨by rw [h2, k2], by rw [h3, k3]⟩
/-- The call ends with a slice that reads as the list, and an error; what was there is as it was. -/
def RetNE (l : List Nat) (x : Int) (w : World) (e : Ending) (w' : World) : Prop := ∃ v, e = .returned (.tuple #[v, .int .i64 x]) ∧ IsS w' .u64 v l ∧ Below w.heap.size w w'
/-- The same, the number that the text is. -/
def RetFr (b : Nat) (l : List UInt8) (w : World) (e : Ending) (w' : World) : Prop := ∃ x en, FromR b l x en ∧ RetNE (digs 4294967296 x) en w e w'
theorem nil_digs (w : World) : IsS w .u64 (.slice none 0 0) (digs 4294967296 0) := by rw [digs_zero]; exact isNil w .u64
set_option maxHeartbeats 400000 in
theorem dfrom_no (S : ByteArray) (b : Int) (w : World) (h : b < 2 ∨ 36 < b) :
    Calls Tryd.prog 12 #[.string S, .int .i64 b] w (RetNE [] 2 w) := by
  go_enter Tryd.func12, Tryd.ntmps12
  go_wp2_with fail
  refine (isBase_no b _ h).mono ?_
  rintro e w' ⟨rfl, rfl⟩
  go_wp2
  go_ret2
  exact ⟨_, rfl, isNil _ _, Below.refl _ _⟩
theorem rev_at {l : List UInt8} {k j : Nat} {c : UInt8} (h : l[k]? = some c) (hj : j + k + 1 = l.length) : (l.reverse.map dv)[j]? = some (dv c) := by
  have hk : k < l.length := (List.getElem?_eq_some_iff.1 h).1
  rw [List.getElem?_map, List.getElem?_reverse (by omega), show l.length - 1 - j = k from by omega, h]; rfl
theorem own_iterAt {w : World} {base : Nat} {e : TypeId} {kd : IntKind} {v : Value} {l : List Nat} {k : Nat} {s : ByteArray} {pos : Nat} (h : Own w base e kd v l) (hk : w.heap[k]? = some (.stringIter s pos)) (pos' : Nat) : Own (w.iterAt k s pos') base e kd v l := by
  obtain ⟨h1, h2⟩ := h
  refine ⟨h1, ?_⟩
  rcases h2 with h2 | ⟨g, cap, cur, a, b, c, d⟩
  · exact .inl h2
  · refine .inr ⟨g, cap, cur, a, b, ?_, d⟩
    rw [Lib.iterAt_other _ _ _ _ _ (by rintro rfl; rw [hk] at c; cases c)]; exact c
theorem iter_kept {w w' : World} {k : Nat} {s : ByteArray} {pos : Nat} (h : w.heap[k]? = some (.stringIter s pos)) (hb : Below w.heap.size w w') : w'.heap[k]? = some (.stringIter s pos) := by
  rw [hb.block k (Array.getElem?_eq_some_iff.1 h).1]; exact h
theorem iter_set {w : World} {k : Nat} {s : ByteArray} {pos : Nat} (h : w.heap[k]? = some (.stringIter s pos)) {g : Nat} (hg : g ≠ k) (o : Nat) (u : Value) : (w.setCell ⟨g, o, none⟩ u).heap[k]? = some (.stringIter s pos) := by
  rw [(grown_set w g o u).block k (Array.getElem?_eq_some_iff.1 h).1 (by intro e; injection e with e; exact hg e.symm)]; exact h
theorem iterPos_of {w : World} {k : Nat} {s : ByteArray} {p : Nat} (h : w.heap[k]? = some (.stringIter s p)) : w.iterPos k = p := by simp [World.iterPos, h]
theorem not_ok {b : Nat} {l : List UInt8} {k : Nat} {c : UInt8} (h : l[k]? = some c) (hc : ¬ dv c < b) : ¬ okS b l := fun h2 => hc (h2.2 c (List.mem_of_getElem? h))
theorem dv_high {c : UInt8} (h : 128 ≤ c.toNat) : dv c = 99 := by unfold dv; rw [if_neg (by omega), if_neg (by omega)]
theorem dvi_low (b : Nat) (c : UInt8) (h : c.toNat < 128) : dvi b (c.toNat : Int) = if dv c < b then (dv c : Int) else -1 := by
  unfold dvi
  have e : ((c.toNat : Int)).toNat.toUInt8 = c := by rw [Int.toNat_natCast]; simp [Nat.toUInt8]
  rw [e]
  by_cases hd : dv c < b
  · rw [if_pos ⟨by omega, hd⟩, if_pos hd]
  · rw [if_neg (fun h => hd h.2), if_neg hd]
theorem dvi_high (b : Nat) (r : Int) (h : 128 ≤ r) : dvi b r = -1 := if_neg (fun h2 => by omega)

set_option maxHeartbeats 400000 in
theorem dfrom_nil (S : ByteArray) (b : Int) (w : World) (hS : StrIs S []) (h2 : 2 ≤ b) (h36 : b ≤ 36) :
    Calls Tryd.prog 12 #[.string S, .int .i64 b] w (RetNE [] 5 w) := by
  have hcmp : S.toList = [] := by rw [Lib.toList_data]; exact hS
  go_enter Tryd.func12, Tryd.ntmps12
  go_wp2_with fail
  refine (isBase_yes b _ h2 h36).mono ?_
  rintro e w' ⟨rfl, rfl⟩
  go_wp2
  go_ret2
  exact ⟨_, rfl, isNil _ _, Below.refl _ _⟩

set_option maxHeartbeats 6400000 in
set_option maxRecDepth 100000 in
theorem dfrom_ok (S : ByteArray) (l : List UInt8) (bI : Int) (b : Nat) (w : World) (hS : StrIs S l) (hl : l.length ≤ 1000) (hne : l ≠ []) (hbI : bI = (b : Int)) (h2 : 2 ≤ b) (h36 : b ≤ 36) :
    Calls Tryd.prog 12 #[.string S, .int .i64 bI] w (RetFr b l w) := by
  have HB := Lib.hid hbI
  have i2 : 2 ≤ bI := by omega
  have i36 : bI ≤ 36 := by omega
  have hpos : 0 < l.length := List.length_pos_iff.2 hne
  have hne2 : S.toList ≠ [] := by rw [Lib.toList_data, hS]; exact hne
  have hcmp : (S.toList == []) = false := by rw [beq_eq_false_iff_ne]; exact hne2
  have HSZ := Lib.hid hS.size
  have hs1 : S.size ≤ 1000 := by have := hS.size; omega
  have hs0 : 0 < S.size := by have := hS.size; omega
  clear hbI hne hl hpos
  go_enter Tryd.func12, Tryd.ntmps12
  go_wp2_with fail
  refine (isBase_yes bI _ i2 i36).mono ?_
  rintro e w' ⟨rfl, rfl⟩
  go_wp2_with fail
  refine (stretch_any bI b _ HB.out h2 h36).mono ?_
  rintro e w' ⟨k, p, rfl, hK, rfl⟩
  obtain ⟨hk1, hk32, hp, hp32⟩ := hK
  have HP := Lib.hid hp
  have H32 := Lib.hid hp32
  have hpu : (p : Int) ≤ 18446744073709551615 := by omega
  obtain ⟨n, hn⟩ : ∃ n, n = (S.size + k - 1) / k := ⟨_, rfl⟩
  have hnI : ((S.size : Int) + (k : Int) - 1) / (k : Int) = (n : Int) := by
    rw [hn, show (S.size : Int) + (k : Int) - 1 = ((S.size + k - 1 : Nat) : Int) from by omega]
    exact (Int.natCast_ediv _ _).symm
  have hnk : n * k ≤ S.size + k - 1 := by rw [hn]; exact Nat.div_mul_le_self _ _
  have hnk2 : S.size ≤ n * k := by
    have h1 := Nat.lt_div_mul_add (a := S.size + k - 1) (b := k) (by omega)
    rw [← hn] at h1; omega
  have hn1000 : n ≤ 1100 := by
    rw [hn]
    refine Nat.le_trans (Nat.div_le_self _ _) ?_
    omega
  have HNI := Lib.hid hnI
  have HNK := Lib.hid (And.intro hnk hnk2)
  clear hp hp32 hn hnI hnk hnk2
  go_wp2_with (at_make; refine wpList_make_rd rfl _ _ rfl sl22 n rfl rfl HNI.out HNI.out (by omega) (Nat.le_refl _) ?_; intro w1 hown1 hb1 hlt1)
  obtain ⟨I, hI⟩ : ∃ I, I = w1.heap.size := ⟨_, rfl⟩
  have hgI : w.heap.size < I := by omega
  have hit0 : (w1.iter S 0).heap[I]? = some (.stringIter S 0) := by rw [hI]; exact World.iter_heap w1 S 0
  have hown0 : Own (w1.iter S 0) w.heap.size 38 .u64 (.slice (some ⟨w.heap.size, 0, none⟩) n n) (List.replicate n 0) := hown1.alloc _
  have hb0 : Below w.heap.size w (w1.iter S 0) := hb1.alloc hb1.size _
  obtain ⟨L, hLe⟩ : ∃ L, L = l.reverse.map dv := ⟨_, rfl⟩
  have hLl : L.length = S.size := by rw [hLe]; simp; have := HSZ.out; omega
  have hST0 : ST b k L S.size (List.replicate n 0) := by
    rw [← hLl]
    refine ST.start n ?_
    have := HNK.out; omega
  have HST0 := Lib.hid hST0
  have HLe := Lib.hid hLe
  have HLl := Lib.hid hLl
  rw [← hI]
  generalize w1.iter S 0 = W0 at hit0 hown0 hb0 ⊢
  clear hST0 hLe hLl hI hown1 hb1 hlt1
  go_loopw [9] (fun v9 wr => ∃ (i m : Nat) (C : List Nat), i + m = S.size ∧ wr.heap[I]? = some (.stringIter S i) ∧ Own wr w.heap.size 38 .u64 (.slice (some ⟨w.heap.size, 0, none⟩) n n) C ∧ Hid (C.length = n) ∧ Hid (ST b k L m C) ∧ Hid (Lt b (L.drop m)) ∧ Below w.heap.size w wr) (fun _ wr => S.size - wr.iterPos I)
  case atStart => exact ⟨0, S.size, _, by omega, hit0, hown0, by show _ = _; simp, HST0, by have h1 := HLl.out; show Lt b _; rw [List.drop_of_length_le (by omega)]; exact Lt.nil b, hb0⟩
  case round =>
    clear hit0 hown0 hb0
    obtain ⟨i, m, C, him, hit, hown, HCl, HST, HLT, hb⟩ := hrel
    have hpos0 := iterPos_of hit
    have hIlt : I < wr.heap.size := (Array.getElem?_eq_some_iff.1 hit).1
    by_cases hp : i < S.size
    · obtain ⟨d, hd⟩ : ∃ d, d = Utf8.decode S i := ⟨_, rfl⟩
      have hnx : ∀ ty, (Instr.next (.pointer (some ⟨I, 0, none⟩)) true ty).run Tryd.prog wr = _ := fun ty => Lib.run_next_any_at wr I S i ty hit hp
      have hat := hS.at_ hp
      rw [← hd] at hnx
      have hit2 := Lib.iterAt_heap wr I S i (i + d.2) hit
      have hb2 := Lib.below_iterAt hb (k := I) (by omega) S (i + d.2)
      have hown2 := own_iterAt hown hit (i + d.2)
      obtain ⟨W1, hW1⟩ : ∃ W1, W1 = wr.iterAt I S (i + d.2) := ⟨_, rfl⟩
      rw [← hW1] at hnx hit2 hb2 hown2
      have hr1 : d.1 ≤ 2147483647 := by rw [hd]; exact decode_le S i
      have hr0 : (0 : Int) ≤ (d.1 : Int) := by omega
      have hr2 : (d.1 : Int) ≤ 2147483647 := by omega
      have hfig : StrIs (ByteArray.extract ⟨figs.toArray⟩ 0 bI.toNat) (figs.take b) := by rw [HB.out, Int.toNat_natCast]; exact (StrIs.mk figs).to_ b
      by_cases hgood : (S[i]'hp).toNat < 128 ∧ dv (S[i]'hp) < b
      · obtain ⟨hlow, hdv⟩ := hgood
        have hdec : d = ((S[i]'hp).toNat, 1) := by rw [hd]; exact decode_ascii S i hp hlow
        have HT : Hid (((dv (S[i]'hp) : Nat) : Int) = dvi b (d.1 : Int)) := by show _ = _; rw [hdec, dvi_low b _ hlow, if_pos hdv]
        have hd2 : d.2 = 1 := by rw [hdec]
        rw [hd2] at hit2
        obtain ⟨dg, hdg⟩ : ∃ dg, dg = dv (S[i]'hp) := ⟨_, rfl⟩
        rw [← hdg] at hdv HT
        obtain ⟨m, rfl⟩ : ∃ t, m = t + 1 := ⟨m - 1, by omega⟩
        have hLat : L[m]? = some dg := by rw [HLe.out, hdg]; exact rev_at hat (by have := HSZ.out; omega)
        obtain ⟨q, hq⟩ : ∃ q, q = m / k := ⟨_, rfl⟩
        have hqn : q < n := by
          rw [hq]
          refine Nat.div_lt_of_lt_mul ?_
          have h1 := HNK.out.2
          rw [Nat.mul_comm]; omega
        have hqI : ((S.size : Int) - 1 - (i : Int)) / (k : Int) = (q : Int) := by
          rw [hq, show (S.size : Int) - 1 - (i : Int) = ((m : Nat) : Int) from by omega]
          exact (Int.natCast_ediv _ _).symm
        obtain ⟨cq, hcq⟩ : ∃ c, C[q]? = some c := ⟨_, List.getElem?_eq_getElem (by have := HCl.out; omega)⟩
        have hcb : cq < 4294967296 := by
          have h1 := HST.out.bound (by omega) HLT.out hcq
          rw [← HP.out] at h1
          have := H32.out; omega
        have HS2 : Hid (ST b k L m (C.set q (cq * b + dg))) := by
          show ST b k L m _
          rw [hq] at hcq ⊢
          exact HST.out.step (by omega) hLat hcq
        have HLT2 : Hid (Lt b (L.drop m)) := Lt.dropStep HLT.out hLat hdv
        obtain ⟨cI, hcI⟩ : ∃ cI : Int, cI = (cq : Int) := ⟨_, rfl⟩
        obtain ⟨tI, htI⟩ : ∃ tI : Int, tI = (dg : Int) := ⟨_, rfl⟩
        rw [← htI] at HT
        have c0 : 0 ≤ cI := by omega
        have c1 : cI ≤ 4294967295 := by omega
        have t0 : 0 ≤ tI := by omega
        have t1 : tI ≤ 36 := by omega
        have m0 : (0 : Int) ≤ cI * bI := Int.mul_nonneg c0 (by omega)
        have m1 : cI * bI ≤ 154618822620 := Int.le_trans (Int.mul_le_mul_of_nonneg_right c1 (by omega)) (by omega)
        have HX : Hid (cI * bI + tI = ((cq * b + dg : Nat) : Int)) := by show _ = _; rw [hcI, htI, HB.out, Int.natCast_add, Int.natCast_mul]
        have HCQ := Lib.hid hcq
        have HCI := Lib.hid hcI
        have HQI := Lib.hid hqI
        have hsize := hb2.size
        have HPOS := Lib.hid hpos0
        clear hdec hd2 hdg hLat hq hcb hcI htI hcq hqI hd hat hW1 hit hown hb hpos0
        go_wp2_with fail
        refine (idxFig_any _ b _ tI _ hfig h36 hr0 hr2 HT.out).mono ?_
        rintro e w3 ⟨rfl, b3⟩
        have hit3 := iter_kept hit2 b3
        have hown3 := hown2.below b3
        have hb3 := hb2.trans (b3.mono hb2.size)
        have hc0 := hown3.cellAt HCQ.out
        rw [← HCI.out] at hc0
        have hf0 := hown3.frozenAt q
        have hown4 := hown3.stored' q (cq * b + dg) HX.out
        have hit4 := iter_set hit3 (g := w.heap.size) (by omega) q (.int .u64 (cI * bI + tI))
        have hb4 : Below w.heap.size w (w3.setCell ⟨w.heap.size, q, none⟩ (.int .u64 (cI * bI + tI))) := hb3.setCell (Nat.le_refl _) _
        clear hown3 hown2 hit2 hit3 hb2 hb3
        go_upto_region 14 with (fail)
        rw [HQI.out]
        go_wp2
        go_roundw
        case rel => exact ⟨i + 1, m, _, by omega, hit4, hown4, by have := HCl.out; show _ = _; simp; omega, HS2, HLT2, hb4⟩
        case measure => rw [iterPos_of hit4, HPOS.out]; omega
      · have HT : Hid ((-1 : Int) = dvi b (d.1 : Int)) := by
          show _ = _
          by_cases hlow : (S[i]'hp).toNat < 128
          · have hdec : d = ((S[i]'hp).toNat, 1) := by rw [hd]; exact decode_ascii S i hp hlow
            rw [hdec, dvi_low b _ hlow, if_neg (fun h => hgood ⟨hlow, h⟩)]
          · have hh := (decode_high S i hp (by omega)).1
            rw [← hd] at hh
            rw [dvi_high b _ (by omega)]
        have hno : ¬ okS b l := by
          refine not_ok hat fun h => ?_
          by_cases hlow : (S[i]'hp).toNat < 128
          · exact hgood ⟨hlow, h⟩
          · have := dv_high (c := S[i]'hp) (by omega); omega
        clear hd hat hgood hW1 hit hown hb hpos0
        go_wp2_with fail
        refine (idxFig_any _ b _ (-1) _ hfig h36 hr0 hr2 HT.out).mono ?_
        rintro e w3 ⟨rfl, b3⟩
        go_wp2
        go_ret2
        exact ⟨0, 5, .inr ⟨hno, rfl, rfl⟩, _, rfl, nil_digs _, hb2.trans (b3.mono hb2.size)⟩
    · obtain rfl : m = 0 := by omega
      have hnx : ∀ ty, (Instr.next (.pointer (some ⟨I, 0, none⟩)) true ty).run Tryd.prog wr = _ := fun ty => Lib.run_next_end_at wr I S i ty hit hp
      have hLT := HLT.out
      rw [List.drop_zero] at hLT
      obtain ⟨g1, g2⟩ := ST.done (by omega) (by omega) hLT HST.out (by have h1 := HLl.out; have h3 := HCl.out; have h4 := HNK.out; rw [h3]; omega)
      rw [← HP.out] at g1 g2
      have htot : val p C = numS b l := by rw [g2, HLe.out]; rfl
      have hok : okS b l := by
        refine ⟨fun h0 => ?_, fun c hc => ?_⟩
        · have h1 := HSZ.out; rw [h0, List.length_nil] at h1; omega
        · refine hLT (dv c) ?_
          rw [HLe.out]
          exact List.mem_map.2 ⟨c, List.mem_reverse.2 hc, rfl⟩
      have lp1 := len1_of_lt H32.out
      have hCn := HCl.out
      have hn1 : 1 ≤ n := by
        rcases Nat.eq_zero_or_pos n with h0 | h0
        · have h1 := HNK.out.2; rw [h0] at h1; omega
        · exact h0
      have hJ : JO 2000 (numS b l) p C := by
        refine ⟨g1, htot, by omega, by omega, ?_⟩
        have : (digs 4294967296 p).length * (C.length - 1) ≤ 1 * (C.length - 1) := Nat.mul_le_mul_right _ lp1
        omega
      have h64 : Lt 4294967296 C := g1.more (by have := H32.out; omega)
      have HJ := Lib.hid hJ
      have hCl : C.length ≤ 100000 := by omega
      have kS := hown.isS
      clear hLT g1 g2 htot hJ hCn hit hpos0 hown
      go_wp2_with fail
      refine (of_any _ p _ rfl hpu).mono ?_
      rintro e w3 ⟨v1, rfl, k1, f1, b3⟩
      go_wp2_with fail
      refine (joined_any _ v1 C p (numS b l) 2000 _ (kS.below b3) k1 HJ.out (by omega) hCl h64).mono ?_
      rintro e w4 ⟨v2, rfl, k2, b4⟩
      have B3 := hb.trans (b3.mono hb.size)
      go_wp2
      go_ret2
      exact ⟨_, 0, .inl ⟨hok, rfl, rfl⟩, _, rfl, k2, B3.trans (b4.mono B3.size)⟩

/-- From, at every text of some bytes. -/
theorem dfrom_any (S : ByteArray) (l : List UInt8) (bI : Int) (b : Nat) (w : World) (hS : StrIs S l) (hl : l.length ≤ 1000) (hbI : bI = (b : Int)) (h2 : 2 ≤ b) (h36 : b ≤ 36) :
    Calls Tryd.prog 12 #[.string S, .int .i64 bI] w (RetFr b l w) := by
  by_cases hne : l = []
  · subst hne
    refine (dfrom_nil S bI w hS (by omega) (by omega)).mono ?_
    intro e w' h
    rw [← digs_zero 4294967296] at h
    exact ⟨0, 5, .inr ⟨fun h1 => h1.1 rfl, rfl, rfl⟩, h⟩
  · exact dfrom_ok S l bI b w hS hl hne hbI h2 h36
set_option maxHeartbeats 400000 in
theorem parse_any (S : ByteArray) (l : List UInt8) (w : World) (hS : StrIs S l) (hl : l.length ≤ 1000) :
    Calls Tryd.prog 14 #[.string S] w (RetFr 10 l w) := by
  go_enter Tryd.func14, Tryd.ntmps14
  go_wp2_with fail
  refine (dfrom_any S l 10 10 _ hS hl rfl (by omega) (by omega)).mono ?_
  rintro e w1 ⟨x, en, hF, v, rfl, hv, b⟩
  go_wp2
  go_ret2
  exact ⟨x, en, hF, v, rfl, hv, b⟩
end Go.Proofs.YtlepoheinemfcaaDoor.str
