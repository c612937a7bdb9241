/- What a text is read as, as an address: addr.Parse and the document's. Condition: the text is of at most 1000000 bytes. -/
import Derived.Test.YtbfflcpmagjlnaaDoorAdrE
namespace Go.Proofs.YtbfflcpmagjlnaaDoor.adr
open Go.RowKit Go.Proofs.YtbfflcpmagjlnaaDoor.num Go.Proofs.YtbfflcpmagjlnaaDoor.mem Go.Proofs.YtbfflcpmagjlnaaDoor.txt Go.Proofs.YtbfflcpmagjlnaaDoor.str
set_option linter.unusedVariables false
/-- An address, and an error's number. -/
def RetAE (a : Nat) (x : Int) (w : World) (e : Ending) (w' : World) : Prop := e = .returned (.tuple #[.int .u32 (a : Int), .int .i64 x]) ∧ Below w.heap.size w w'
theorem adrE_text {l : List UInt8} (h : ¬ ((splitC 46 l).length = 4 ∧ allOk (splitC 46 l))) : adrE l 5 22 = (5, 0) := by unfold adrE; rw [if_neg h]
theorem adrE_form {l : List UInt8} (h : (splitC 46 l).length = 4) (h2 : allOk (splitC 46 l)) (h3 : ¬ allLow (splitC 46 l)) : adrE l 5 22 = (22, 0) := by unfold adrE; rw [if_pos ⟨h, h2⟩, if_neg h3]
theorem adrE_ok {l : List UInt8} (h : (splitC 46 l).length = 4) (h2 : allOk (splitC 46 l)) (h3 : allLow (splitC 46 l)) : adrE l 5 22 = (0, adrV (splitC 46 l)) := by unfold adrE; rw [if_pos ⟨h, h2⟩, if_pos h3]
/-- What the numbers so far are. -/
structure Sofar (l : List UInt8) (k : Nat) (fits : Bool) (A : Int) : Prop where
  ok : allOk ((splitC 46 l).take k)
  low : fits = true ↔ allLow ((splitC 46 l).take k)
  ge : 0 ≤ A
  le : A ≤ 4294967295
  val : fits = true → A = ((adrV ((splitC 46 l).take k) : Nat) : Int)
theorem Sofar.start (l : List UInt8) : Sofar l 0 true 0 := ⟨fun p hp => by simp at hp, ⟨fun _ p hp => by simp at hp, fun _ => rfl⟩, by omega, by omega, fun _ => by simp [adrV]⟩
theorem allOk_snoc {ps : List (List UInt8)} {p : List UInt8} (h : allOk ps) (h2 : numOk p) : allOk (ps ++ [p]) := fun x hx => by
  rcases List.mem_append.1 hx with hx | hx
  · exact h x hx
  · rw [List.mem_singleton.1 hx]; exact h2
theorem allLow_snoc {ps : List (List UInt8)} {p : List UInt8} : allLow (ps ++ [p]) ↔ allLow ps ∧ numV p ≤ 255 :=
  ⟨fun h => ⟨fun x hx => h x (by simp [hx]), h p (by simp)⟩, fun ⟨h, h2⟩ x hx => by
    rcases List.mem_append.1 hx with hx | hx
    · exact h x hx
    · rw [List.mem_singleton.1 hx]; exact h2⟩
/-- One number more. -/
theorem Sofar.next {l p : List UInt8} {k : Nat} {fits fits2 : Bool} {A A2 : Int} (h : Sofar l k fits A) (hp : (splitC 46 l)[k]? = some p) (hok : numOk p) (hf : fits2 = (fits && decide (numV p ≤ 255))) (h0 : 0 ≤ A2) (h1 : A2 ≤ 4294967295) (hv : fits2 = true → A2 = 256 * A + (numV p : Nat)) : Sofar l (k + 1) fits2 A2 := by
  have hlow : fits2 = true ↔ allLow ((splitC 46 l).take (k + 1)) := by
    rw [take_snoc hp, allLow_snoc, ← h.low, hf, Bool.and_eq_true, decide_eq_true_iff]
  refine ⟨by rw [take_snoc hp]; exact allOk_snoc h.ok hok, hlow, h0, h1, fun x => ?_⟩
  have e : fits = true := by rw [hf, Bool.and_eq_true] at x; exact x.1
  rw [hv x, h.val e, take_snoc hp, adrV_snoc]
  omega
theorem Sofar.small {l : List UInt8} {k : Nat} {A : Int} (h : Sofar l k true A) (hk : k ≤ 3) : A < 16777216 := by
  have h1 := adrV_lt (h.low.1 rfl)
  have h2 : 256 ^ ((splitC 46 l).take k).length ≤ 256 ^ 3 := Nat.pow_le_pow_right (by omega) (by rw [List.length_take]; omega)
  rw [h.val rfl]
  have h3 : (256 : Nat) ^ 3 = 16777216 := rfl
  omega
theorem not_ok {l p : List UInt8} {k : Nat} (hp : (splitC 46 l)[k]? = some p) (h : ¬ numOk p) : ¬ ((splitC 46 l).length = 4 ∧ allOk (splitC 46 l)) := fun x => h (x.2 p (List.mem_of_getElem? hp))
theorem Sofar.last {l : List UInt8} {fits : Bool} {A : Int} (h : Sofar l 4 fits A) (h4 : (splitC 46 l).length = 4) : allOk (splitC 46 l) ∧ (fits = true ↔ allLow (splitC 46 l)) ∧ (fits = true → A = ((adrV (splitC 46 l) : Nat) : Int)) := by
  have e : (splitC 46 l).take 4 = splitC 46 l := List.take_of_length_le (by omega)
  have h1 := h.ok
  have h2 := h.low
  have h3 := h.val
  rw [e] at h1 h2 h3
  exact ⟨h1, h2, h3⟩
theorem or_shift {A n : Int} (h0 : 0 ≤ A) (h1 : A < 16777216) (h2 : 0 ≤ n) (h3 : n ≤ 255) : bits .or .u32 (A * 256) n = 256 * A + n := by
  obtain ⟨a, rfl⟩ := Int.eq_ofNat_of_zero_le h0
  obtain ⟨m, rfl⟩ := Int.eq_ofNat_of_zero_le h2
  have e : (a : Int) * 256 = ((256 * a : Nat) : Int) := by omega
  rw [e, bits_or_8 (by omega) (by omega)]
  omega
theorem joinLen : ∀ (c : UInt8) (l : List UInt8), l.length + 1 = ((splitC c l).map fun p => p.length + 1).sum
  | c, [] => by simp [splitC]
  | c, b :: l => by
    have ih := joinLen c l
    unfold splitC
    split
    · simp only [List.map_cons, List.sum_cons, List.length_nil, List.length_cons]; omega
    · have h2 := splitC_ne c l
      revert ih h2
      cases splitC c l with
      | nil => intro _ h2; exact absurd rfl h2
      | cons p r => intro ih _; simp only [pushC, List.map_cons, List.sum_cons, List.length_cons] at ih ⊢; omega
theorem sum_drop_le (l : List Nat) : ∀ k, (l.drop k).sum ≤ l.sum
  | 0 => by simp
  | k + 1 => by
    cases l with
    | nil => simp
    | cons a t => simp only [List.drop_succ_cons, List.sum_cons]; have := sum_drop_le t k; omega
theorem splitC_drop_len {c : UInt8} {l m : List UInt8} {k : Nat} (h : splitC c m = (splitC c l).drop k) : m.length ≤ l.length := by
  have h1 := joinLen c m
  have h2 := joinLen c l
  rw [h, List.map_drop] at h1
  have h3 := sum_drop_le ((splitC c l).map fun p => p.length + 1) k
  omega
theorem sum_len_le (ps : List (List UInt8)) : ps.length ≤ (ps.map fun p => p.length + 1).sum := by
  induction ps with
  | nil => simp
  | cons p r ih => simp only [List.map_cons, List.sum_cons, List.length_cons]; omega
theorem splitC_len_le (c : UInt8) (l : List UInt8) (hl : l.length ≤ 1000000) : (splitC c l).length ≤ 1000001 := by
  have h1 := joinLen c l
  have h2 := sum_len_le (splitC c l)
  omega
theorem sum_part_le : ∀ (ps : List (List UInt8)) (k : Nat) (p : List UInt8), ps[k]? = some p → p.length + 1 ≤ (ps.map fun p => p.length + 1).sum
  | [], k, p, h => by simp at h
  | q :: r, 0, p, h => by
    obtain rfl : q = p := by simpa using h
    simp
  | q :: r, k + 1, p, h => by
    have := sum_part_le r k p (by simpa using h)
    simp only [List.map_cons, List.sum_cons]
    omega
theorem splitC_part_le {c : UInt8} {l p : List UInt8} {k : Nat} (hp : (splitC c l)[k]? = some p) (hl : l.length ≤ 1000000) : p.length ≤ 1000000 := by
  have h1 := joinLen c l
  have h2 := sum_part_le _ k p hp
  omega
set_option maxHeartbeats 3200000 in
set_option maxRecDepth 100000 in
theorem parse_any (S : ByteArray) (l : List UInt8) (a : Nat) (x : Int) (w : World) (hS : StrIs S l) (hl : l.length ≤ 1000000) (hx : adrE l 5 22 = (x, a)) : Calls Tryd.prog 7 #[.string S] w (RetAE a x w) := by
  have hans : ¬ ((splitC 46 l).length = 4 ∧ allOk (splitC 46 l)) → x = 5 ∧ a = 0 := fun h => by
    rw [adrE_text h] at hx
    injection hx with h1 h2
    exact ⟨h1.symm, h2.symm⟩
  have HX := Lib.hid hx
  have HL := Lib.hid hl
  have HS := Lib.hid hS
  clear hx hS hl
  go_enter Tryd.func7, Tryd.ntmps7
  go_wp2
  go_loopw [0, 4, 5, 12] (fun v0 v4 v5 v12 wr => ∃ (k : Nat) (R : ByteArray) (m : List UInt8) (fits : Bool) (A : Int), k ≤ 4 ∧ v0 = .string R ∧ v4 = .int .u32 A ∧ v5 = .bool fits ∧ v12 = .int .i64 (k : Int) ∧ StrIs R m ∧ (k < 4 → splitC 46 m = (splitC 46 l).drop k) ∧ (k = 4 → (splitC 46 l).length = 4) ∧ Sofar l k fits A ∧ Below w.heap.size w wr) (fun _ _ _ v12 _ => 4 - (intOf v12).toNat)
  case atStart => exact ⟨0, S, l, true, 0, by omega, rfl, rfl, rfl, rfl, HS.out, fun _ => by rw [List.drop_zero], fun h => absurd h (by omega), Sofar.start l, Below.refl _ _⟩
  case round =>
    obtain ⟨k, R, m, fits, A, hk, rfl, rfl, rfl, rfl, hm, hms, hm4, hsf, hB⟩ := hrel
    obtain ⟨wi, hwi⟩ : ∃ wi, wi = wr := ⟨_, rfl⟩
    subst hwi
    have hA0 := hsf.ge
    have hA1 := hsf.le
    have HSF := Lib.hid hsf
    have HB := Lib.hid hB
    clear hsf hB
    by_cases hlt : k < 4
    · have hms := hms hlt
      clear hm4
      have hml : m.length ≤ 1000000 := Nat.le_trans (splitC_drop_len hms) HL.out
      obtain ⟨p, rest, hpr⟩ := List.exists_cons_of_ne_nil (splitC_ne 46 m)
      have hp : (splitC 46 l)[k]? = some p := by
        have := congrArg (fun z => z[0]?) (hms.symm.trans hpr)
        simpa using this
      have hlen : (splitC 46 l).length = k + (rest.length + 1) := by
        have h1 := congrArg List.length (hms.symm.trans hpr)
        have h2 := (List.getElem?_eq_some_iff.1 hp).1
        rw [List.length_drop, List.length_cons] at h1
        omega
      have HP := Lib.hid hp
      clear hp
      rcases rest with _ | ⟨q, r⟩
      · obtain ⟨rfl, hno⟩ := splitC_one hpr
        have hpl := hml
        have HLN : Hid ((splitC 46 l).length = k + 1) := by show _ = _; simpa using hlen
        clear hlen hms hpr
        by_cases hok : numOk m
        · have HOK := Lib.hid hok
          obtain ⟨n, hn⟩ : ∃ n, n = numV m := ⟨_, rfl⟩
          have hn9 : n ≤ 999 := by rw [hn]; exact numV_le hok
          have HN := Lib.hid hn
          have CN := fun R1 hR1 w => number_any R1 m true n w hR1 hpl ⟨fun _ => HOK.out, fun _ => rfl⟩ (by rw [if_pos rfl]; exact HN.out)
          clear hok hn
          by_cases hk3 : k = 3
          · subst hk3
            have HNX : Hid ((3 + 1 < 4 → splitC 46 [] = (splitC 46 l).drop (3 + 1)) ∧ (3 + 1 = 4 → (splitC 46 l).length = 4)) := ⟨fun x => absurd x (by omega), fun _ => HLN.out⟩
            go_wp2_with fail
            refine (cut_point_no18 R m _ hm hno).mono ?_
            rintro e w1 ⟨R1, T1, rfl, hR1, hT, b1⟩
            go_wp2_with fail
            refine (CN R1 hR1 _).mono ?_
            rintro e w2 ⟨rfl, rfl⟩
            have HB2 : Hid (Below w.heap.size w w2) := HB.out.trans (b1.mono HB.out.size)
            cases fits with
            | true =>
              have hAs := HSF.out.small (by omega)
              by_cases hn : n ≤ 255
              · have hn' : (n : Int) ≤ 255 := by omega
                have HNA : Hid (bits .or .u32 (A * 256) (n : Int) = 256 * A + (n : Int)) := or_shift hA0 hAs (by omega) (by omega)
                have SF2 : Hid (Sofar l (3 + 1) true (256 * A + (n : Int))) := HSF.out.next HP.out HOK.out (by rw [← HN.out, decide_eq_true hn]; rfl) (by omega) (by omega) (fun _ => by rw [HN.out])
                clear hn
                go_wp2
                rw [HNA.out]
                go_roundw
                case rel => exact ⟨3 + 1, T1, [], true, _, by omega, rfl, rfl, by first | rfl | rw [decide_eq_true (by omega)] | rw [decide_eq_false (by omega)], by go_num, hT, (fun x => absurd x (by omega)), (fun _ => HLN.out), SF2.out, HB2⟩
                case measure => simp [intOf] <;> omega
              · have hn' : ¬ (n : Int) ≤ 255 := by omega
                have SF2 : ∀ B : Int, 0 ≤ B → B ≤ 4294967295 → Hid (Sofar l (3 + 1) false B) := fun B b0 b1 => HSF.out.next HP.out HOK.out (by rw [← HN.out, decide_eq_false hn]; rfl) b0 b1 (fun x => Bool.noConfusion x)
                clear hn
                go_wp2
                go_roundw
                case rel => exact ⟨3 + 1, T1, [], false, _, by omega, rfl, rfl, by first | rfl | rw [decide_eq_true (by omega)] | rw [decide_eq_false (by omega)], by go_num, hT, (fun x => absurd x (by omega)), (fun _ => HLN.out), (SF2 _ (bits_lo_u32 _ _ _) (bits_hi_u32 _ _ _)).out, HB2⟩
                case measure => simp [intOf] <;> omega
            | false =>
              have SF2 : ∀ B : Int, 0 ≤ B → B ≤ 4294967295 → Hid (Sofar l (3 + 1) false B) := fun B b0 b1 => HSF.out.next HP.out HOK.out (by simp) b0 b1 (fun x => Bool.noConfusion x)
              go_wp2
              go_roundw
              case rel => exact ⟨3 + 1, T1, [], false, _, by omega, rfl, rfl, by first | rfl | rw [decide_eq_true (by omega)] | rw [decide_eq_false (by omega)], by go_num, hT, (fun x => absurd x (by omega)), (fun _ => HLN.out), (SF2 _ (bits_lo_u32 _ _ _) (bits_hi_u32 _ _ _)).out, HB2⟩
              case measure => simp [intOf] <;> omega
          · have hk3' : (k : Int) < 3 := by omega
            have HBAD : Hid (¬ ((splitC 46 l).length = 4 ∧ allOk (splitC 46 l))) := fun x => by have := HLN.out; omega
            obtain ⟨rfl, rfl⟩ := hans HBAD.out
            clear hans
            go_wp2_with fail
            refine (cut_point_no18 R m _ hm hno).mono ?_
            rintro e w1 ⟨R1, T1, rfl, hR1, hT, b1⟩
            go_wp2_with fail
            refine (CN R1 hR1 _).mono ?_
            rintro e w2 ⟨rfl, rfl⟩
            go_wp2
            go_ret2
            exact ⟨rfl, HB.out.trans (b1.mono HB.out.size)⟩
        · obtain ⟨rfl, rfl⟩ := hans (not_ok HP.out hok)
          have CN := fun R1 hR1 w => number_any R1 m false 0 w hR1 hpl ⟨fun h => Bool.noConfusion h, fun h => absurd h hok⟩ rfl
          clear hok hans
          go_wp2_with fail
          refine (cut_point_no18 R m _ hm hno).mono ?_
          rintro e w1 ⟨R1, T1, rfl, hR1, hT, b1⟩
          go_wp2_with fail
          refine (CN R1 hR1 _).mono ?_
          rintro e w2 ⟨rfl, rfl⟩
          go_wp2
          go_ret2
          exact ⟨rfl, HB.out.trans (b1.mono HB.out.size)⟩
      · obtain ⟨M, hM, hno, hms2⟩ := splitC_drop hms hpr
        have hpl : p.length ≤ 1000000 := by rw [hM, List.length_append] at hml; omega
        rw [hM] at hm hml
        have HMS := Lib.hid hms2
        have HLN : Hid (k + 2 ≤ (splitC 46 l).length) := by show _ ≤ _; rw [hlen, List.length_cons]; omega
        clear hlen hms hpr hM hms2
        by_cases hok : numOk p
        · have HOK := Lib.hid hok
          obtain ⟨n, hn⟩ : ∃ n, n = numV p := ⟨_, rfl⟩
          have hn9 : n ≤ 999 := by rw [hn]; exact numV_le hok
          have HN := Lib.hid hn
          have CN := fun R1 hR1 w => number_any R1 p true n w hR1 hpl ⟨fun _ => HOK.out, fun _ => rfl⟩ (by rw [if_pos rfl]; exact HN.out)
          clear hok hn
          by_cases hk3 : k = 3
          · subst hk3
            have HBAD : Hid (¬ ((splitC 46 l).length = 4 ∧ allOk (splitC 46 l))) := fun x => by have := HLN.out; omega
            obtain ⟨rfl, rfl⟩ := hans HBAD.out
            clear hans
            go_wp2_with fail
            refine (cut_point_yes18 R p M _ hm hml hno).mono ?_
            rintro e w1 ⟨R1, T1, rfl, hR1, hT, b1⟩
            go_wp2_with fail
            refine (CN R1 hR1 _).mono ?_
            rintro e w2 ⟨rfl, rfl⟩
            go_wp2
            go_ret2
            exact ⟨rfl, HB.out.trans (b1.mono HB.out.size)⟩
          · have hk3' : (k : Int) < 3 := by omega
            have HNX : Hid ((k + 1 < 4 → splitC 46 M = (splitC 46 l).drop (k + 1)) ∧ (k + 1 = 4 → (splitC 46 l).length = 4)) := ⟨fun _ => HMS.out, fun x => absurd x (by omega)⟩
            go_wp2_with fail
            refine (cut_point_yes18 R p M _ hm hml hno).mono ?_
            rintro e w1 ⟨R1, T1, rfl, hR1, hT, b1⟩
            go_wp2_with fail
            refine (CN R1 hR1 _).mono ?_
            rintro e w2 ⟨rfl, rfl⟩
            have HB2 : Hid (Below w.heap.size w w2) := HB.out.trans (b1.mono HB.out.size)
            cases fits with
            | true =>
              have hAs := HSF.out.small (by omega)
              by_cases hn : n ≤ 255
              · have hn' : (n : Int) ≤ 255 := by omega
                have HNA : Hid (bits .or .u32 (A * 256) (n : Int) = 256 * A + (n : Int)) := or_shift hA0 hAs (by omega) (by omega)
                have SF2 : Hid (Sofar l (k + 1) true (256 * A + (n : Int))) := HSF.out.next HP.out HOK.out (by rw [← HN.out, decide_eq_true hn]; rfl) (by omega) (by omega) (fun _ => by rw [HN.out])
                clear hn
                go_wp2
                rw [HNA.out]
                go_roundw
                case rel => exact ⟨k + 1, T1, M, true, _, by omega, rfl, rfl, by first | rfl | rw [decide_eq_true (by omega)] | rw [decide_eq_false (by omega)], by go_num, hT, HNX.out.1, HNX.out.2, SF2.out, HB2⟩
                case measure => simp [intOf] <;> omega
              · have hn' : ¬ (n : Int) ≤ 255 := by omega
                have SF2 : ∀ B : Int, 0 ≤ B → B ≤ 4294967295 → Hid (Sofar l (k + 1) false B) := fun B b0 b1 => HSF.out.next HP.out HOK.out (by rw [← HN.out, decide_eq_false hn]; rfl) b0 b1 (fun x => Bool.noConfusion x)
                clear hn
                go_wp2
                go_roundw
                case rel => exact ⟨k + 1, T1, M, false, _, by omega, rfl, rfl, by first | rfl | rw [decide_eq_true (by omega)] | rw [decide_eq_false (by omega)], by go_num, hT, HNX.out.1, HNX.out.2, (SF2 _ (bits_lo_u32 _ _ _) (bits_hi_u32 _ _ _)).out, HB2⟩
                case measure => simp [intOf] <;> omega
            | false =>
              have SF2 : ∀ B : Int, 0 ≤ B → B ≤ 4294967295 → Hid (Sofar l (k + 1) false B) := fun B b0 b1 => HSF.out.next HP.out HOK.out (by simp) b0 b1 (fun x => Bool.noConfusion x)
              go_wp2
              go_roundw
              case rel => exact ⟨k + 1, T1, M, false, _, by omega, rfl, rfl, by first | rfl | rw [decide_eq_true (by omega)] | rw [decide_eq_false (by omega)], by go_num, hT, HNX.out.1, HNX.out.2, (SF2 _ (bits_lo_u32 _ _ _) (bits_hi_u32 _ _ _)).out, HB2⟩
              case measure => simp [intOf] <;> omega
        · obtain ⟨rfl, rfl⟩ := hans (not_ok HP.out hok)
          have CN := fun R1 hR1 w => number_any R1 p false 0 w hR1 hpl ⟨fun h => Bool.noConfusion h, fun h => absurd h hok⟩ rfl
          clear hok hans
          go_wp2_with fail
          refine (cut_point_yes18 R p M _ hm hml hno).mono ?_
          rintro e w1 ⟨R1, T1, rfl, hR1, hT, b1⟩
          go_wp2_with fail
          refine (CN R1 hR1 _).mono ?_
          rintro e w2 ⟨rfl, rfl⟩
          go_wp2
          go_ret2
          exact ⟨rfl, HB.out.trans (b1.mono HB.out.size)⟩
    · obtain rfl : k = 4 := by omega
      have hl4 := hm4 rfl
      have hla := HSF.out.last hl4
      have HL4 := Lib.hid hl4
      have HLA := Lib.hid hla
      clear hms hm4 hl4 hla hans
      cases fits with
      | true =>
        have hans2 := (adrE_ok HL4.out HLA.out.1 (HLA.out.2.1.1 rfl)).symm.trans HX.out
        injection hans2 with e1 e2
        have HA : Hid (A = (a : Int)) := by show _ = _; rw [HLA.out.2.2 rfl, e2]
        subst e1
        clear e2
        go_wp2
        go_ret2
        exact ⟨by rw [HA.out]; rfl, HB.out⟩
      | false =>
        have hans2 := (adrE_form HL4.out HLA.out.1 (fun h => Bool.noConfusion (HLA.out.2.1.2 h))).symm.trans HX.out
        injection hans2 with e1 e2
        subst e1
        subst e2
        go_wp2
        go_ret2
        exact ⟨rfl, HB.out⟩
end Go.Proofs.YtbfflcpmagjlnaaDoor.adr
