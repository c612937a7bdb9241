/- Slices of texts; the keywords; slices.Contains of texts; Keyword and Name, the program's and the document's. Condition: as each says. -/
import Derived.Test.YtagaabooccnamaaNamB
namespace Go.Proofs.Ytagaabooccnamaa.str
open Go.RowKit Go.Proofs.Ytagaabooccnamaa.num Go.Proofs.Ytagaabooccnamaa.mem Go.Proofs.Ytagaabooccnamaa.txt
set_option linter.unusedVariables false
theorem bool_of (p : Prop) : ∃ b : Bool, b = true ↔ p := by
  by_cases h : p
  · exact ⟨true, fun _ => h, fun _ => rfl⟩
  · exact ⟨false, fun e => Bool.noConfusion e, fun e => absurd e h⟩
/-- A slice reads as these texts. -/
def IsT (w : World) (v : Value) (ss : List (List UInt8)) : Prop := ∃ A c, v = .slice A ss.length c ∧ ss.length ≤ c ∧ ∀ (i : Nat) (s : List UInt8), ss[i]? = some s → ∃ ad, A = some ad ∧ w.cell? (ad.add i) = some (.string ⟨s.toArray⟩)
theorem IsT.below {w w' : World} {v : Value} {ss : List (List UInt8)} (h : IsT w v ss) (hb : Below w.heap.size w w') : IsT w' v ss := by
  obtain ⟨A, c, rfl, h1, h2⟩ := h
  refine ⟨A, c, rfl, h1, fun i s hs => ?_⟩
  obtain ⟨ad, e, hc⟩ := h2 i s hs
  exact ⟨ad, e, (hb.cell (World.block_lt_of_cell? w _ hc)).trans hc⟩
theorem isT_lit (w : World) (t : TypeId) (ss : List (List UInt8)) (vs : Array Value) (h : vs = (ss.map fun s => Value.string ⟨s.toArray⟩).toArray) : IsT (w.alloc (.cells vs t)) (.slice (some ⟨w.heap.size, 0, none⟩) ss.length ss.length) ss := by
  subst h
  refine ⟨_, _, rfl, Nat.le_refl _, fun i s hs => ⟨_, rfl, ?_⟩⟩
  have e : (⟨w.heap.size, 0, none⟩ : Addr).add i = ⟨w.heap.size, i, none⟩ := by unfold Addr.add; split <;> simp_all
  rw [e, World.cell?_alloc_new]
  simp [hs]
/-- The keywords. -/
def keyws : List (List UInt8) := [[110, 101, 116, 119, 111, 114, 107], [110, 111, 100, 101], [104, 111, 109, 101], [108, 105, 110, 107], [102, 97, 105, 108], [114, 117, 108, 101], [100, 114, 111, 112], [118, 105, 97], [101, 108, 115, 101], [112, 114, 111, 98], [104, 111, 112, 115], [119, 105, 116, 104, 105, 110], [99, 111, 109, 112, 97, 114, 101]]
def RetT (ss : List (List UInt8)) (w : World) (e : Ending) (w' : World) : Prop := ∃ v, e = .returned v ∧ IsT w' v ss ∧ Below w.heap.size w w'
set_option maxRecDepth 100000 in
theorem keywords_any (w : World) : Calls Try.prog 17 #[] w (RetT keyws w) := by
  go_enter Try.func17, Try.ntmps17
  go_wp2
  go_ret
  exact ⟨_, rfl, isT_lit w _ keyws _ rfl, (Below.refl _ w).alloc (Nat.le_refl _) _⟩
set_option maxRecDepth 100000 in
theorem rkeywords_any (w : World) : Calls Try.prog 18 #[] w (RetT keyws w) := by
  go_enter Try.func18, Try.ntmps18
  go_wp2
  go_ret
  exact ⟨_, rfl, isT_lit w _ keyws _ rfl, (Below.refl _ w).alloc (Nat.le_refl _) _⟩
/-- Where a text stands first. -/
def posT (ss : List (List UInt8)) (l : List UInt8) : Int := if l ∈ ss then ((ss.findIdx fun s => s == l : Nat) : Int) else -1
def notTo (ss : List (List UInt8)) (l : List UInt8) (k : Nat) : Prop := ∀ i, i < k → ss[i]? ≠ some l
theorem notTo_all {ss : List (List UInt8)} {l : List UInt8} (h : notTo ss l ss.length) : l ∉ ss := fun hm => by
  obtain ⟨i, hi⟩ := List.mem_iff_getElem?.1 hm
  exact h i (List.getElem?_eq_some_iff.1 hi).1 hi
theorem notTo_succ {ss : List (List UInt8)} {l s : List UInt8} {k : Nat} (h : notTo ss l k) (hs : ss[k]? = some s) (hne : s ≠ l) : notTo ss l (k + 1) := fun i hi e => by
  by_cases ek : i = k
  · subst ek
    rw [hs] at e
    injection e with e
    exact hne e
  · exact h i (by omega) e
set_option maxHeartbeats 1600000 in
set_option maxRecDepth 100000 in
theorem indexT_any (a0 : Value) (ss : List (List UInt8)) (S : ByteArray) (l : List UInt8) (w : World) (h0 : IsT w a0 ss) (hS : StrIs S l) (hm : ss.length ≤ 1000000) : Calls Try.prog 22 #[a0, .string S] w (fun e w' => w' = w ∧ ((l ∈ ss ∧ ∃ k : Nat, k < ss.length ∧ e = .returned (.int .i64 (k : Int))) ∨ (l ∉ ss ∧ e = .returned (.int .i64 (-1))))) := by
  obtain ⟨A0, c0, rfl, hc0, hv0⟩ := h0
  obtain ⟨n, hn⟩ : ∃ n, n = ss.length := ⟨_, rfl⟩
  have HN := Lib.hid hn
  have HV := Lib.hid hv0
  have HS := Lib.hid hS
  rw [← hn] at hm hc0 ⊢
  clear hv0 hS hn
  go_enter Try.func22, Try.ntmps22
  go_wp2
  go_loop [8] (fun v8 => ∃ k : Nat, k ≤ n ∧ Hid (notTo ss l k) ∧ v8 = .int .i64 (k : Int)) (fun v8 => n - (intOf v8).toNat)
  case atStart => exact ⟨0, by omega, fun i h => by omega, rfl⟩
  case round =>
    obtain ⟨k, hk, HT, rfl⟩ := hrel
    by_cases hlt : k < n
    · obtain ⟨s, hs⟩ : ∃ s, ss[k]? = some s := ⟨_, List.getElem?_eq_getElem (by rw [← HN.out]; exact hlt)⟩
      obtain ⟨ad, rfl, ec⟩ := HV.out k s hs
      have hb : (S.toList == s) = (l == s) := by rw [Lib.toList_data, show S.data.toList = l from HS.out]
      have HSS := Lib.hid hs
      clear hs
      by_cases he : l = s
      · subst he
        rw [beq_self_eq_true] at hb
        have HM : Hid (l ∈ ss) := List.mem_of_getElem? HSS.out
        go_wp2
        go_ret
        exact ⟨rfl, .inl ⟨HM.out, k, hlt, rfl⟩⟩
      · rw [beq_eq_false_iff_ne.2 he] at hb
        have HT2 : Hid (notTo ss l (k + 1)) := notTo_succ HT.out HSS.out (fun e => he e.symm)
        clear HT he
        go_wp2
        go_round
        case rel => exact ⟨k + 1, by omega, HT2, by go_num⟩
        case measure => simp [intOf]; omega
    · have HM : Hid (l ∉ ss) := notTo_all (by rw [← HN.out, show n = k by omega]; exact HT.out)
      clear HT
      go_wp2
      go_ret
      exact ⟨rfl, .inr ⟨HM.out, rfl⟩⟩
set_option maxRecDepth 100000 in
theorem containsT_any (a0 : Value) (ss : List (List UInt8)) (S : ByteArray) (l : List UInt8) (b : Bool) (w : World) (h0 : IsT w a0 ss) (hS : StrIs S l) (hm : ss.length ≤ 1000000) (hb : b = true ↔ l ∈ ss) : Calls Try.prog 21 #[a0, .string S] w (RetSame (.bool b) w) := by
  have CI := indexT_any a0 ss S l w h0 hS hm
  obtain ⟨A0, c0, rfl, hc0, hv0⟩ := h0
  have HB := Lib.hid hb
  clear hv0 hb
  go_enter Try.func21, Try.ntmps21
  go_wp2_with fail
  refine CI.mono ?_
  rintro e w2 ⟨rfl, (⟨h1, k, h2, rfl⟩ | ⟨h1, rfl⟩)⟩
  · obtain rfl : b = true := HB.out.2 h1
    clear h1
    have hz : (0 : Int) ≤ (k : Int) := by omega
    go_wp2
    go_ret
    exact ⟨rfl, rfl⟩
  · obtain rfl : b = false := Bool.eq_false_iff.2 fun h => h1 (HB.out.1 h)
    clear h1
    go_wp2
    go_ret
    exact ⟨rfl, rfl⟩
set_option maxRecDepth 100000 in
theorem keyword_any (S : ByteArray) (l : List UInt8) (b : Bool) (w : World) (hS : StrIs S l) (hb : b = true ↔ l ∈ keyws) : Calls Try.prog 8 #[.string S] w (RetV (.bool b) w) := by
  go_enter Try.func8, Try.ntmps8
  go_wp2_with fail
  refine (keywords_any _).mono ?_
  rintro e w2 ⟨v, rfl, hv, b2⟩
  have CC := containsT_any v keyws S l b w2 hv hS (by decide) hb
  obtain ⟨A0, c0, rfl, -, -⟩ := hv
  go_wp2_with fail
  refine CC.mono ?_
  rintro e w3 ⟨rfl, rfl⟩
  go_wp2
  go_ret
  exact ⟨rfl, b2⟩
set_option maxHeartbeats 1600000 in
set_option maxRecDepth 100000 in
theorem rkeyword_any (S : ByteArray) (l : List UInt8) (b : Bool) (w : World) (hS : StrIs S l) (hb : b = true ↔ l ∈ keyws) : Calls Try.prog 9 #[.string S] w (RetV (.bool b) w) := by
  have HB := Lib.hid hb
  have HS := Lib.hid hS
  clear hb hS
  go_enter Try.func9, Try.ntmps9
  go_wp2_with fail
  refine (rkeywords_any _).mono ?_
  rintro e w2 ⟨v, rfl, hv, b2⟩
  obtain ⟨A0, c0, rfl, hc0, hv0⟩ := hv
  have HV := Lib.hid hv0
  obtain ⟨n, hn⟩ : ∃ n, n = keyws.length := ⟨_, rfl⟩
  have hn13 : n = 13 := hn
  have HN := Lib.hid hn
  rw [← hn] at hc0 ⊢
  clear hv0 hn
  go_wp2
  go_loop [4] (fun v4 => ∃ k : Nat, k ≤ n ∧ Hid (notTo keyws l k) ∧ v4 = .int .i64 (k : Int)) (fun v4 => n - (intOf v4).toNat)
  case atStart => exact ⟨0, by omega, fun i h => by omega, rfl⟩
  case round =>
    obtain ⟨k, hk, HT, rfl⟩ := hrel
    by_cases hlt : k < n
    · obtain ⟨s, hs⟩ : ∃ s, keyws[k]? = some s := ⟨_, List.getElem?_eq_getElem (by rw [← HN.out]; exact hlt)⟩
      obtain ⟨ad, rfl, ec⟩ := HV.out k s hs
      have hbq : (s == S.toList) = (s == l) := by rw [Lib.toList_data, show S.data.toList = l from HS.out]
      have HSS := Lib.hid hs
      clear hs
      by_cases he : s = l
      · subst he
        rw [beq_self_eq_true] at hbq
        obtain rfl : b = true := HB.out.2 (List.mem_of_getElem? HSS.out)
        go_wp2
        go_ret
        exact ⟨rfl, b2⟩
      · rw [beq_eq_false_iff_ne.2 he] at hbq
        have HT2 : Hid (notTo keyws l (k + 1)) := notTo_succ HT.out HSS.out he
        clear HT he
        go_wp2
        go_round
        case rel => exact ⟨k + 1, by omega, HT2, by go_num⟩
        case measure => simp [intOf]; omega
    · obtain rfl : b = false := Bool.eq_false_iff.2 fun h => notTo_all (by rw [← HN.out, show n = k by omega]; exact HT.out) (HB.out.1 h)
      clear HT
      go_wp2
      go_ret
      exact ⟨rfl, b2⟩
/-- A name: a word that is no keyword. -/
def nameS (l : List UInt8) : Prop := wordS l ∧ l ∉ keyws
set_option maxRecDepth 100000 in
theorem name_any (S : ByteArray) (l : List UInt8) (b : Bool) (w : World) (hS : StrIs S l) (hl : l.length ≤ 1000000) (hb : b = true ↔ nameS l) : Calls Try.prog 10 #[.string S] w (RetV (.bool b) w) := by
  have HB := Lib.hid hb
  clear hb
  go_enter Try.func10, Try.ntmps10
  by_cases hw : wordS l
  · have CW := fun w => word_any S l true w hS hl ⟨fun _ => hw, fun _ => rfl⟩
    go_wp2_with fail
    refine (CW _).mono ?_
    rintro e w2 ⟨rfl, b2⟩
    by_cases hk : l ∈ keyws
    · have CK := fun w => keyword_any S l true w hS ⟨fun _ => hk, fun _ => rfl⟩
      obtain rfl : b = false := Bool.eq_false_iff.2 fun h => (HB.out.1 h).2 hk
      clear hk
      go_wp2_with fail
      refine (CK _).mono ?_
      rintro e w3 ⟨rfl, b3⟩
      go_wp2
      go_ret
      exact ⟨rfl, b2.trans (b3.mono b2.size)⟩
    · have CK := fun w => keyword_any S l false w hS ⟨fun h => Bool.noConfusion h, fun h => absurd h hk⟩
      obtain rfl : b = true := HB.out.2 ⟨hw, hk⟩
      clear hk
      go_wp2_with fail
      refine (CK _).mono ?_
      rintro e w3 ⟨rfl, b3⟩
      go_wp2
      go_ret
      exact ⟨rfl, b2.trans (b3.mono b2.size)⟩
  · have CW := fun w => word_any S l false w hS hl ⟨fun h => Bool.noConfusion h, fun h => absurd h hw⟩
    obtain rfl : b = false := Bool.eq_false_iff.2 fun h => hw (HB.out.1 h).1
    clear hw
    go_wp2_with fail
    refine (CW _).mono ?_
    rintro e w2 ⟨rfl, b2⟩
    go_wp2
    go_ret
    exact ⟨rfl, b2⟩
set_option maxRecDepth 100000 in
theorem rname_any (S : ByteArray) (l : List UInt8) (b : Bool) (w : World) (hS : StrIs S l) (hl : l.length ≤ 1000000) (hb : b = true ↔ nameS l) : Calls Try.prog 11 #[.string S] w (RetV (.bool b) w) := by
  have HB := Lib.hid hb
  clear hb
  go_enter Try.func11, Try.ntmps11
  by_cases hw : wordS l
  · have CW := fun w => rword_any S l true w hS hl ⟨fun _ => hw, fun _ => rfl⟩
    go_wp2_with fail
    refine (CW _).mono ?_
    rintro e w2 ⟨rfl, b2⟩
    by_cases hk : l ∈ keyws
    · have CK := fun w => rkeyword_any S l true w hS ⟨fun _ => hk, fun _ => rfl⟩
      obtain rfl : b = false := Bool.eq_false_iff.2 fun h => (HB.out.1 h).2 hk
      clear hk
      go_wp2_with fail
      refine (CK _).mono ?_
      rintro e w3 ⟨rfl, b3⟩
      go_wp2
      go_ret
      exact ⟨rfl, b2.trans (b3.mono b2.size)⟩
    · have CK := fun w => rkeyword_any S l false w hS ⟨fun h => Bool.noConfusion h, fun h => absurd h hk⟩
      obtain rfl : b = true := HB.out.2 ⟨hw, hk⟩
      clear hk
      go_wp2_with fail
      refine (CK _).mono ?_
      rintro e w3 ⟨rfl, b3⟩
      go_wp2
      go_ret
      exact ⟨rfl, b2.trans (b3.mono b2.size)⟩
  · have CW := fun w => rword_any S l false w hS hl ⟨fun h => Bool.noConfusion h, fun h => absurd h hw⟩
    obtain rfl : b = false := Bool.eq_false_iff.2 fun h => hw (HB.out.1 h).1
    clear hw
    go_wp2_with fail
    refine (CW _).mono ?_
    rintro e w2 ⟨rfl, b2⟩
    go_wp2
    go_ret
    exact ⟨rfl, b2⟩
theorem long_any (S : ByteArray) (n : Nat) (b : Bool) (w : World) (hS : S.size = n) (hl : n ≤ 1000000) (hb : b = decide ((12 : Int) < n)) : Calls Try.prog 12 #[.string S] w (RetV (.bool b) w) := by
  have HB := Lib.hid hb
  clear hb
  go_enter Try.func12, Try.ntmps12
  go_wp2
  go_ret
  exact ⟨by rw [HB.out]; rfl, Below.refl _ _⟩
set_option maxRecDepth 100000 in
theorem works17_any (w : World) : Calls Try.prog 13 #[] w (RetV (.bool true) w) := by
  have C1 := fun w => name_any ⟨#[114, 49]⟩ [114, 49] true w rfl (by decide) ⟨fun _ => ⟨⟨by decide, fun i c hc => by rcases i with _ | _ | i; (obtain rfl : (114 : UInt8) = c := by simpa using hc); exact .inl (by decide); (obtain rfl : (49 : UInt8) = c := by simpa using hc); exact .inr ⟨by decide, by decide⟩; simp at hc⟩, by decide⟩, fun _ => rfl⟩
  have C2 := fun w => name_any ⟨#[49, 114]⟩ [49, 114] false w rfl (by decide) ⟨fun h => Bool.noConfusion h, fun h => absurd (h.1.2 0 49 rfl) (okAt_not (by decide) (.inl rfl))⟩
  have hwn : wordS [110, 111, 100, 101] := ⟨by decide, fun i c hc => by
    have hm : c ∈ [110, 111, 100, 101] := List.mem_of_getElem? hc
    refine .inl ?_
    revert c
    intro c hc hm
    simp at hm
    rcases hm with rfl | rfl | rfl | rfl <;> decide⟩
  have C3 := fun w => name_any ⟨#[110, 111, 100, 101]⟩ [110, 111, 100, 101] false w rfl (by decide) ⟨fun h => Bool.noConfusion h, fun h => absurd (show [110, 111, 100, 101] ∈ keyws by decide) h.2⟩
  have C4 := fun w => keyword_any ⟨#[110, 111, 100, 101]⟩ [110, 111, 100, 101] true w rfl ⟨fun _ => by decide, fun _ => rfl⟩
  have C5 := fun w => word_any ⟨#[110, 111, 100, 101]⟩ [110, 111, 100, 101] true w rfl (by decide) ⟨fun _ => hwn, fun _ => rfl⟩
  clear hwn
  go_enter Try.func13, Try.ntmps13
  go_wp2_with fail
  refine (C1 _).mono ?_
  rintro e w1 ⟨rfl, b1⟩
  go_wp2_with fail
  refine (C2 _).mono ?_
  rintro e w2 ⟨rfl, b2⟩
  go_wp2_with fail
  refine (C3 _).mono ?_
  rintro e w3 ⟨rfl, b3⟩
  go_wp2_with fail
  refine (C4 _).mono ?_
  rintro e w4 ⟨rfl, b4⟩
  go_wp2_with fail
  refine (C5 _).mono ?_
  rintro e w5 ⟨rfl, b5⟩
  have bb2 := b1.trans (b2.mono b1.size)
  have bb3 := bb2.trans (b3.mono bb2.size)
  have bb4 := bb3.trans (b4.mono bb3.size)
  go_wp2
  go_ret
  exact ⟨rfl, bb4.trans (b5.mono bb4.size)⟩
def wordB (l : List UInt8) : Bool := !l.isEmpty && l.all letB
theorem word_of {l : List UInt8} (h : wordB l = true) : wordS l := by
  unfold wordB at h
  rw [Bool.and_eq_true] at h
  refine ⟨fun e => ?_, fun i c hc => .inl ?_⟩
  · subst e; exact Bool.noConfusion h.1
  · exact List.all_eq_true.1 h.2 c (List.mem_of_getElem? hc)
theorem keyws_word : ∀ s ∈ keyws, wordS s ∧ s.length ≤ 20 := by
  have h : (keyws.all fun s => wordB s && decide (s.length ≤ 20)) = true := by decide
  intro s hs
  have h1 := List.all_eq_true.1 h s hs
  rw [Bool.and_eq_true] at h1
  exact ⟨word_of h1.1, of_decide_eq_true h1.2⟩
theorem word_more {l : List UInt8} {d : Nat} (h : wordS l) (hd : d < 26) : wordS (l ++ [UInt8.ofNat (97 + d)]) := by
  refine ⟨by simp, fun i c hc => ?_⟩
  by_cases hi : i < l.length
  · rw [List.getElem?_append_left hi] at hc
    exact h.2 i c hc
  · have h2 := (List.getElem?_eq_some_iff.1 hc).1
    rw [List.length_append, List.length_singleton] at h2
    obtain rfl : i = l.length := by omega
    rw [List.getElem?_concat_length] at hc
    injection hc with hc
    subst hc
    refine .inl ?_
    unfold letB
    rw [decide_eq_true_iff, UInt8.toNat_ofNat']
    omega
theorem conv_one (d : Nat) (W : World) : (convert 31 9 (.slice (some ⟨W.heap.size, 0, none⟩) 1 1)).run Try.prog (W.alloc (.cells #[.int .u8 (97 + (d : Int) % 26)] 5)) = .ok (.string ⟨#[UInt8.ofNat (97 + d % 26)]⟩) (W.alloc (.cells #[.int .u8 (97 + (d : Int) % 26)] 5)) := by
  refine run_convert_bytes_back _ _ _ 5 _ 1 [UInt8.ofNat (97 + d % 26)] Try.underlying31 Try.underlying5 Try.underlying9 fun j hj => ?_
  have hj0 : j = 0 := by
    have h : j < 1 := hj
    omega
  subst hj0
  have e : (⟨W.heap.size, 0, none⟩ : Addr).add 0 = ⟨W.heap.size, 0, none⟩ := by unfold Addr.add; split <;> simp_all
  rw [e, World.cell?_alloc_new]
  have e2 : (((UInt8.ofNat (97 + d % 26)).toNat : Nat) : Int) = 97 + (d : Int) % 26 := by
    rw [UInt8.toNat_ofNat']
    omega
  show _ = some (Value.int .u8 (((UInt8.ofNat (97 + d % 26)).toNat : Nat) : Int))
  rw [e2]
  rfl
theorem str_more {T : ByteArray} {m : List UInt8} (h : StrIs T m) (d : Nat) : StrIs (T ++ ⟨#[97 + UInt8.ofNat (d % 26)]⟩) (m ++ [UInt8.ofNat (97 + d % 26)]) := by
  subst h
  show (ByteArray.append T ⟨#[97 + UInt8.ofNat (d % 26)]⟩).data.toList = _
  have e : (97 : UInt8) + UInt8.ofNat (d % 26) = UInt8.ofNat (97 + d % 26) := by rw [UInt8.ofNat_add]; rfl
  rw [e]
  simp [ByteArray.append]
end Go.Proofs.Ytagaabooccnamaa.str
