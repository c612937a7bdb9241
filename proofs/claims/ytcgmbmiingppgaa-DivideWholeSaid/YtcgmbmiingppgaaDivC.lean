/- Package divide: long, Div, Exact, Mod, Divides. Condition: slices read as limbs. -/
import Derived.Test.YtcgmbmiingppgaaDivB
namespace Go.Proofs.Ytcgmbmiingppgaa.mem
open Go.RowKit Go.Proofs.Ytcgmbmiingppgaa.num
set_option linter.unusedVariables false
section
variable {P : Program}
/-- 'out = append(out, x)', and where the new slice lies. -/
theorem wpList_append_lie {w : World} {ops : Array Oper} {rest : List Oper} {o : Oper} {a : Act} {Q : Exit → Act → World → Prop} (hgd : o.guard = none) (s x : Operand) {t : TypeId}
    (ho : o.op = .call { callee := .builtin .append, args := #[s, x], argTypes := #[t, t] })
    {base : Nat} {e : TypeId} {k : IntKind} (hT : SliceT P t e k) {v : Value} {l : List Nat} (d : Nat) {y : Int} (hs : a.eval s = v) (hown : Own w base e k v l) (hx : a.eval x = .slice (some ⟨w.heap.size, 0, none⟩) 1 1) (hd : y = (d : Int))
    (hlen : l.length ≤ 1000000000) (hbase : base ≤ w.heap.size)
    (h : ∀ g cap w', Own w' base e k (.slice (some ⟨g, 0, none⟩) (l.length + 1) cap) (l ++ [d]) → Below base w w' → w.grownBy w' v.ownBlock → (v.ownBlock = some g ∨ w.heap.size ≤ g) → base ≤ g → g < w'.heap.size → wpList P ops Q rest (a.put o.dst (.slice (some ⟨g, 0, none⟩) (l.length + 1) cap)) w') : wpList P ops Q (o :: rest) a (w.alloc (.cells #[.int k y] e)) := by
  obtain ⟨i, hi, hz, hsz, hby⟩ := hT.info
  subst hd
  refine wpList_append_lies (w.alloc (.cells #[.int k (d : Int)] e)) hgd s x t ho base e i (.int k 0) 1 8 hT.und hi hz hsz hby rfl (by omega) v l.length (nv k l) hs (World.ownsRow.alloc hown _) ⟨w.heap.size, 0, none⟩ 1 1 [.int k (d : Int)] hx rfl ?_ ?_ (by omega) (by unfold maxLen; omega) (by omega) (by simp; omega) _ rfl ?_
  · exact World.news_of_block (heap_alloc_new w _)
  · intro u' hu'
    obtain rfl := List.mem_singleton.1 hu'
    rfl
  · intro g cap w' h1 h2 h3 h4
    have h5 : w.grownBy w' v.ownBlock := grown_trans (World.grownBy_alloc w _ _) h2
    have hown' : Own w' base e k (.slice (some ⟨g, 0, none⟩) (l.length + 1) cap) (l ++ [d]) := Own.snoc h1
    refine h g cap w' hown' ((Below.refl base w).grown h5 hbase hown.base_le) h5 ?_ (hown'.base_le g rfl) h4
    rcases h3 with h3 | h3
    · exact .inl h3
    · right; simp at h3; omega
end
/-- A slice of numbers of an old block lies elsewhere than what was made since. -/
theorem IsS.apartNew {w : World} {k : IntKind} {u : Value} {l : List Nat} {g : Nat} (h : IsS w k u l) (hg : w.heap.size ≤ g) : Apart g u := by
  rintro ad n c rfl hn e
  obtain ⟨A, c', e1, h1, h2, h3⟩ := h
  injection e1 with e1 e2 e3
  subst e1; subst e2
  obtain ⟨ad', he, hc⟩ := h3 0 _ (List.getElem?_eq_getElem hn)
  injection he with he; subst he
  have h4 := World.block_lt_of_cell? w _ hc
  rw [block_add] at h4
  omega
theorem IsS.grownFar {w w' : World} {k : IntKind} {u : Value} {l : List Nat} {row : Option Nat} (h : IsS w k u l) (hf : ∀ g, row = some g → Apart g u) (hg : w.grownBy w' row) : IsS w' k u l := by
  rcases row with _ | g
  · exact h.grown (g := w.heap.size) (h.apartNew (Nat.le_refl _)) ⟨hg.os, hg.tape, hg.output, hg.size, fun k hk _ => hg.block k hk (by simp)⟩
  · exact h.grown (hf g rfl) hg
theorem Own.grown {w w' : World} {base : Nat} {e : TypeId} {k : IntKind} {v : Value} {l : List Nat} {g : Nat} (h : Own w base e k v l) (hg : w.grownBy w' (some g)) (hne : v.ownBlock ≠ some g) : Own w' base e k v l := World.ownsRow.kept h hg (.inr hne)
theorem Fresh.apart {B g : Nat} {u : Value} (h : Fresh B u) (hg : g < B) : Apart g u := by
  rintro ad n c rfl hn e
  have := h ad n c rfl
  omega
end Go.Proofs.Ytcgmbmiingppgaa.mem
namespace Go.Proofs.Ytcgmbmiingppgaa.nat
open Go.RowKit Go.Proofs.Ytcgmbmiingppgaa.num Go.Proofs.Ytcgmbmiingppgaa.mem Go.Proofs.Ytcgmbmiingppgaa.limb
set_option linter.unusedVariables false

theorem step_len (base g n cap s c ln : Nat) (X p Y bl : List Nat) (vb : Value) (w : World) (hln : ln = p.length) (hM : Mid w base g n cap s X p Y) (lp : Lt 4294967296 p) (hp : p.length = bl.length + 1) (hpc : p.length ≤ c) (hcm : c ≤ maxLen) (hb : IsS w .u64 vb bl) (lb : Lt 4294967296 bl) (hf : Apart g vb) (hb2 : 2 ≤ bl.length) (hbl : bl.length ≤ 900000) (hnz : ∀ d, bl[bl.length - 1]? = some d → 0 < d) (hVD : val 4294967296 p < 4294967296 * val 4294967296 bl) :
    Calls Try.prog 46 #[.slice (some ⟨g, s, none⟩) ln c, vb] w (RetSt base g n cap s X p Y bl w) := by
  rw [hln]; exact step_any base g n cap s c X p Y bl vb w hM lp hp hpc hcm hb lb hf hb2 hbl hnz hVD
set_option maxHeartbeats 3200000 in
theorem dlong_any (w0 : World) (v vb : Value) (x y : Nat) (w : World) (hown : Own w w0.heap.size 30 .u64 v (digs 4294967296 x)) (hb0 : Below w0.heap.size w0 w) (hvb : IsS w .u64 vb (digs 4294967296 y)) (hfar : ∀ g, v.ownBlock = some g → Apart g vb) (hl : (digs 4294967296 x).length ≤ 100000) (hl' : (digs 4294967296 y).length ≤ 100000) (h2 : 2 ≤ (digs 4294967296 y).length) :
    Calls Try.prog 27 #[v, vb] w (RetSS .u64 (digs 4294967296 (x / y)) (digs 4294967296 (x % y)) w0) := by
  obtain ⟨Q, hQ⟩ : ∃ Q, Q = (digs 4294967296 x).length + 1 - (digs 4294967296 y).length := ⟨_, rfl⟩
  have ly := digs_lt (B := 4294967296) (by omega) y
  have hyp := digs_pow_le (B := 4294967296) (by omega) y (n := (digs 4294967296 y).length - 1) (by omega)
  have hym := digs_lt_pow (B := 4294967296) (by omega) y
  have hy0 : 0 < y := Nat.lt_of_lt_of_le (Nat.pow_pos (by omega)) hyp
  have HKD : Hid (KD 4294967296 x y ((digs 4294967296 x).length + 1) (digs 4294967296 x ++ [0]) (List.replicate Q 0) Q) := KD.start (by omega) hyp (by omega) (by omega)
  have hlast : Hid (∀ d, (digs 4294967296 y)[(digs 4294967296 y).length - 1]? = some d → 0 < d) := fun d hd => by
    have := digs_last (B := 4294967296) (by omega) y (n := (digs 4294967296 y).length - 1) (by omega) hd
    omega
  have HYM := Lib.hid hym
  obtain ⟨A, k, rfl, hk, hmx, hr⟩ := id hvb
  have hsz0 := hb0.size
  have hQl : Q ≤ 100001 := by omega
  obtain ⟨Aa, ca, rfl, _, _, _⟩ := id hown.isS
  rcases (show ((digs 4294967296 y).length : Int) < (digs 4294967296 x).length + 1 ∨ ((digs 4294967296 x).length : Int) + 1 ≤ ((digs 4294967296 y).length : Int) from by omega) with hle | hle
  · have HQ : Hid ((max 0 (((digs 4294967296 x).length : Int) + 1 - ((digs 4294967296 y).length : Int))) = (Q : Int) ∧ (0 < Q → Q + (digs 4294967296 y).length = (digs 4294967296 x).length + 1)) := by refine ⟨?_, ?_⟩ <;> omega
    clear hQ hyp hym
    go_enter Try.func27, Try.ntmps27
    go_wp2_with (first
      | (at_builtin; refine wpList_append_lie rfl _ _ rfl sl24 0 (v := .slice Aa (digs 4294967296 x).length ca) rfl hown rfl rfl (by omega) hsz0 ?_; intro g cap w1 hown1 hb1 hg1 hlie hbg hgs)
      | (at_make; refine wpList_make_rd rfl _ _ rfl sl24 Q rfl rfl (by have := HQ.out.1; omega) (by have := HQ.out.1; omega) (by omega) (Nat.le_refl _) ?_; intro w2 hown2 hb2 hs2))
    have hap : Apart g (.slice A (digs 4294967296 y).length k) := by
      rcases hlie with h | h
      · exact hfar g h
      · exact hvb.apartNew h
    have hvb1 := hvb.grownFar hfar hg1
    have hap2 : Apart w1.heap.size (.slice A (digs 4294967296 y).length k) := hvb1.apartNew (Nat.le_refl _)
    have hvb2 := hvb1.below hb2
    have hownP := hown1.below hb2
    have B1 := hb0.trans hb1
    have hs1 := B1.size
    have B2 := B1.trans (hb2.mono hs1)
    have hcap : (digs 4294967296 x).length + 1 ≤ cap ∧ cap ≤ maxLen := by
      obtain ⟨_, _, e, h1, h2, _⟩ := hown1.isS
      injection e with _ e1 e2
      subst e2
      rw [List.length_append] at h1
      exact ⟨h1, h2⟩
    clear hown hfar hvb hr hown1 hvb1 hg1 hlie hb1 hb2 B1 hb0
    go_loopw [22] (fun vi wr => ∃ (i : Nat) (P O : List Nat), i ≤ Q ∧ Hid (KD 4294967296 x y ((digs 4294967296 x).length + 1) P O (Q - i) ∧ O.length = Q) ∧ Own wr w0.heap.size 30 .u64 (.slice (some ⟨g, 0, none⟩) ((digs 4294967296 x).length + 1) cap) P ∧ Own wr w1.heap.size 30 .u64 (.slice (some ⟨w1.heap.size, 0, none⟩) Q Q) O ∧ IsS wr .u64 (.slice A (digs 4294967296 y).length k) (digs 4294967296 y) ∧ Below w0.heap.size w0 wr ∧ vi = .int .i64 (i : Int)) (fun vi _ => Q - (intOf vi).toNat)
    case atStart => exact ⟨0, _, _, by omega, ⟨HKD.out, by simp⟩, hownP, hown2, hvb2, B2, rfl⟩
    case round =>
      clear hownP hown2 hvb2 B2 HKD
      obtain ⟨i, P, O, hi, HK, hownP, hownO, hvbr, Br, rfl⟩ := hrel
      by_cases hlt : i < Q
      · obtain ⟨s, hs⟩ : ∃ s, s = Q - 1 - i := ⟨_, rfl⟩
        have hsI : (Q : Int) - 1 - (i : Int) = (s : Int) := by omega
        have HS : Hid (Q - i = s + 1 ∧ Q - (i + 1) = s) := ⟨by omega, by omega⟩
        have hsq : s < Q := by omega
        have hfit : s + (digs 4294967296 y).length + 1 ≤ (digs 4294967296 x).length + 1 := by have := HQ.out.2 (by omega); omega
        have hfitI : (s : Int) + ((digs 4294967296 y).length : Int) + 1 ≤ (cap : Int) := by omega
        have hk1 := HK.out.1
        rw [HS.out.1] at hk1
        have HO : Hid (O.length = Q) := HK.out.2
        have HK1 := Lib.hid hk1
        have HPL : Hid ((seg P s (digs 4294967296 y).length).length = (digs 4294967296 y).length + 1) := seg_len hk1.2.1 hfit
        obtain ⟨q1, q2, q3⟩ := hk1.at hfit (Nat.le_of_lt HYM.out)
        have hM : Mid wr w0.heap.size g ((digs 4294967296 x).length + 1) cap s (P.take s) (seg P s (digs 4294967296 y).length) (P.drop (s + (digs 4294967296 y).length + 1)) := ⟨by rw [seg_split hk1.2.1 hfit]; exact hownP, by have := hk1.2.1; simp; omega⟩
        have Q2 : Hid (val 4294967296 (seg P s (digs 4294967296 y).length) < 4294967296 * val 4294967296 (digs 4294967296 y)) := by show _ < _; rw [val_digs (by omega)]; exact q2
        clear hs hk1 q2 q3 HK
        go_wp2_with fail
        refine (step_len w0.heap.size g _ cap s _ _ _ _ _ (digs 4294967296 y) _ _ (by rw [HPL.out]; omega) hM q1 HPL.out (by rw [HPL.out]; omega) (by omega) hvbr ly hap h2 (by omega) hlast.out Q2.out).mono ?_
        rintro e w3 ⟨t, p', rfl, ht, htB, lp', hlen', hv', hM3, hg3⟩
        rw [val_digs (by omega)] at ht hv'
        have HK2 : Hid (KD 4294967296 x y ((digs 4294967296 x).length + 1) (P.take s ++ p' ++ P.drop (s + (digs 4294967296 y).length + 1)) (O.set s t) s ∧ (O.set s t).length = Q) := ⟨HK1.out.step hfit (by rw [HO.out]; exact hsq) (Nat.le_of_lt HYM.out) hy0 ht htB lp' hlen' hv', by rw [List.length_set]; exact HO.out⟩
        have hne : g ≠ w1.heap.size := by omega
        have hownO3 := hownO.grown hg3 (by simp [Value.ownBlock]; omega)
        obtain ⟨a', ha'⟩ : ∃ a', O[s]? = some a' := ⟨_, List.getElem?_eq_getElem (by rw [HO.out]; exact hsq)⟩
        have hc0 := hownO3.cellAt ha'
        have hf0 := hownO3.frozenAt s
        have hgs := grown_set w3 w1.heap.size s (.int .u64 (t : Int))
        have hownO4 := hownO3.stored s t
        have hownP4 := Own.grown hM3.1 hgs (by simp [Value.ownBlock]; omega)
        have hvb4 := (hvbr.grown hap hg3).grown hap2 hgs
        have B4 : Below w0.heap.size w0 (w3.setCell ⟨w1.heap.size, s, none⟩ (.int .u64 (t : Int))) := (Br.grown hg3 Br.size (fun k hk => by injection hk with hk; omega)).setCell hs1 _
        clear ht hv' hlen' ha' hgs hg3
        go_wp2
        go_roundw
        case rel => exact ⟨i + 1, _, _, by omega, by rw [HS.out.2]; exact HK2, hownP4, hownO4, hvb4, B4, by go_num⟩
        case measure => simp [intOf]; omega
      · obtain rfl : i = Q := by omega
        have hk1 := HK.out.1
        rw [Nat.sub_self] at hk1
        obtain ⟨z1, z2, z3, z4⟩ := hk1.done
        have hT1 := trim_digs (by omega) z2
        have hT2 := trim_digs (by omega) z1
        rw [z3] at hT1
        rw [z4] at hT2
        have T1 := Lib.hid hT1
        have T2 := Lib.hid hT2
        obtain ⟨A1, c1, e1, hc1, hm1, hr1⟩ := hownO.isS
        obtain ⟨A2, c2, e2, hc2, hm2, hr2⟩ := hownP.isS
        injection e1 with e1 e3 e5
        injection e2 with e2 e4 e6
        subst e1; subst e2; subst e5; subst e6
        have hf1 := hownO.fresh
        have hf2 := hownP.fresh
        have L1 := Lib.hid e3
        have L2 := Lib.hid e4
        clear hk1 z3 z4 hT1 hT2 HK e3 e4
        go_wp2_with fail
        refine (dtrimmed_any _ _ _ O _ L1.out hc1 hm1 hr1).mono ?_
        rintro e w' ⟨rfl, rfl⟩
        rw [T1.out]
        go_wp2_with fail
        refine (dtrimmed_any _ _ _ P _ L2.out hc2 hm2 hr2).mono ?_
        rintro e w' ⟨rfl, rfl⟩
        rw [T2.out]
        go_wp2
        go_ret2
        refine ⟨_, _, rfl, ?_, ?_, (hf1.cut _ _).mono hs1, hf2.cut _ _, Br⟩
        · rw [← T1.out]; exact hr1.isTrim hc1 hm1
        · rw [← T2.out]; exact hr2.isTrim hc2 hm2
  · have HQ : Hid ((max 0 (((digs 4294967296 x).length : Int) + 1 - ((digs 4294967296 y).length : Int))) = (Q : Int) ∧ (0 < Q → Q + (digs 4294967296 y).length = (digs 4294967296 x).length + 1)) := by refine ⟨?_, ?_⟩ <;> omega
    clear hQ hyp hym
    go_enter Try.func27, Try.ntmps27
    go_wp2_with (first
      | (at_builtin; refine wpList_append_lie rfl _ _ rfl sl24 0 (v := .slice Aa (digs 4294967296 x).length ca) rfl hown rfl rfl (by omega) hsz0 ?_; intro g cap w1 hown1 hb1 hg1 hlie hbg hgs)
      | (at_make; refine wpList_make_rd rfl _ _ rfl sl24 Q rfl rfl (by have := HQ.out.1; omega) (by have := HQ.out.1; omega) (by omega) (Nat.le_refl _) ?_; intro w2 hown2 hb2 hs2))
    have hap : Apart g (.slice A (digs 4294967296 y).length k) := by
      rcases hlie with h | h
      · exact hfar g h
      · exact hvb.apartNew h
    have hvb1 := hvb.grownFar hfar hg1
    have hap2 : Apart w1.heap.size (.slice A (digs 4294967296 y).length k) := hvb1.apartNew (Nat.le_refl _)
    have hvb2 := hvb1.below hb2
    have hownP := hown1.below hb2
    have B1 := hb0.trans hb1
    have hs1 := B1.size
    have B2 := B1.trans (hb2.mono hs1)
    have hcap : (digs 4294967296 x).length + 1 ≤ cap ∧ cap ≤ maxLen := by
      obtain ⟨_, _, e, h1, h2, _⟩ := hown1.isS
      injection e with _ e1 e2
      subst e2
      rw [List.length_append] at h1
      exact ⟨h1, h2⟩
    clear hown hfar hvb hr hown1 hvb1 hg1 hlie hb1 hb2 B1 hb0
    go_loopw [22] (fun vi wr => ∃ (i : Nat) (P O : List Nat), i ≤ Q ∧ Hid (KD 4294967296 x y ((digs 4294967296 x).length + 1) P O (Q - i) ∧ O.length = Q) ∧ Own wr w0.heap.size 30 .u64 (.slice (some ⟨g, 0, none⟩) ((digs 4294967296 x).length + 1) cap) P ∧ Own wr w1.heap.size 30 .u64 (.slice (some ⟨w1.heap.size, 0, none⟩) Q Q) O ∧ IsS wr .u64 (.slice A (digs 4294967296 y).length k) (digs 4294967296 y) ∧ Below w0.heap.size w0 wr ∧ vi = .int .i64 (i : Int)) (fun vi _ => Q - (intOf vi).toNat)
    case atStart => exact ⟨0, _, _, by omega, ⟨HKD.out, by simp⟩, hownP, hown2, hvb2, B2, rfl⟩
    case round =>
      clear hownP hown2 hvb2 B2 HKD
      obtain ⟨i, P, O, hi, HK, hownP, hownO, hvbr, Br, rfl⟩ := hrel
      by_cases hlt : i < Q
      · exfalso; have := HQ.out.2 (by omega); omega
      · obtain rfl : i = Q := by omega
        have hk1 := HK.out.1
        rw [Nat.sub_self] at hk1
        obtain ⟨z1, z2, z3, z4⟩ := hk1.done
        have hT1 := trim_digs (by omega) z2
        have hT2 := trim_digs (by omega) z1
        rw [z3] at hT1
        rw [z4] at hT2
        have T1 := Lib.hid hT1
        have T2 := Lib.hid hT2
        obtain ⟨A1, c1, e1, hc1, hm1, hr1⟩ := hownO.isS
        obtain ⟨A2, c2, e2, hc2, hm2, hr2⟩ := hownP.isS
        injection e1 with e1 e3 e5
        injection e2 with e2 e4 e6
        subst e1; subst e2; subst e5; subst e6
        have hf1 := hownO.fresh
        have hf2 := hownP.fresh
        have L1 := Lib.hid e3
        have L2 := Lib.hid e4
        clear hk1 z3 z4 hT1 hT2 HK e3 e4
        go_wp2_with fail
        refine (dtrimmed_any _ _ _ O _ L1.out hc1 hm1 hr1).mono ?_
        rintro e w' ⟨rfl, rfl⟩
        rw [T1.out]
        go_wp2_with fail
        refine (dtrimmed_any _ _ _ P _ L2.out hc2 hm2 hr2).mono ?_
        rintro e w' ⟨rfl, rfl⟩
        rw [T2.out]
        go_wp2
        go_ret2
        refine ⟨_, _, rfl, ?_, ?_, (hf1.cut _ _).mono hs1, hf2.cut _ _, Br⟩
        · rw [← T1.out]; exact hr1.isTrim hc1 hm1
        · rw [← T2.out]; exact hr2.isTrim hc2 hm2
end Go.Proofs.Ytcgmbmiingppgaa.nat
