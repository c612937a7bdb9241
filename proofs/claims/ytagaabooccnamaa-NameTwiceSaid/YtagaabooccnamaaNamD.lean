/- Which of some texts comes twice: name.Twice and the document's; texts appended to nothing; texts compared. Condition: as each says. -/
import Derived.Test.YtagaabooccnamaaNamC
import Derived.Maps.Own
import Derived.Maps.Views
import Derived.SliceStrings
import Derived.Deep.Cut
namespace Go.Proofs.Ytagaabooccnamaa.str
open Go.RowKit Go.WideMaps Go.Maps Go.Proofs.Ytagaabooccnamaa.num Go.Proofs.Ytagaabooccnamaa.mem Go.Proofs.Ytagaabooccnamaa.txt
set_option linter.unusedVariables false
set_option linter.unusedSimpArgs false
/-- None comes twice so far. -/
def onceTo (ss : List (List UInt8)) (k : Nat) : Prop := ∀ i s, i < k → ss[i]? = some s → s ∉ ss.take i
theorem onceTo_succ {ss : List (List UInt8)} {k : Nat} {s : List UInt8} (h : onceTo ss k) (hs : ss[k]? = some s) (hn : s ∉ ss.take k) : onceTo ss (k + 1) := fun i t hi ht => by
  by_cases e : i = k
  · subst e
    rw [hs] at ht
    injection ht with ht
    subst ht; exact hn
  · exact h i t (by omega) ht
/-- The first text that stood ahead of it already, and whether there is one. -/
def TwiceR (ss : List (List UInt8)) (s : List UInt8) (b : Bool) : Prop := (b = true ∧ ∃ i, ss[i]? = some s ∧ s ∈ ss.take i ∧ onceTo ss i) ∨ (b = false ∧ s = [] ∧ onceTo ss ss.length)
theorem TwiceR.one {ss : List (List UInt8)} {s t : List UInt8} {b c : Bool} (h : TwiceR ss s b) (k : TwiceR ss t c) : s = t ∧ b = c := by
  rcases h with ⟨rfl, i, h1, h2, h3⟩ | ⟨rfl, rfl, h3⟩ <;> rcases k with ⟨rfl, j, k1, k2, k3⟩ | ⟨rfl, rfl, k3⟩
  · have e : i = j := by
      rcases Nat.lt_trichotomy i j with hl | hl | hl
      · exact absurd h2 (k3 i s hl h1)
      · exact hl
      · exact absurd k2 (h3 j t hl k1)
    subst e
    rw [h1] at k1
    injection k1 with k1
    exact ⟨k1, rfl⟩
  · exact absurd h2 (k3 i s (List.getElem?_eq_some_iff.1 h1).1 h1)
  · exact absurd k2 (h3 j t (List.getElem?_eq_some_iff.1 k1).1 k1)
  · exact ⟨rfl, rfl⟩
theorem mem_take {ss : List (List UInt8)} {s : List UInt8} {k : Nat} (h : s ∈ ss.take k) : ∃ j, j < k ∧ ss[j]? = some s := by
  obtain ⟨j, hj⟩ := List.mem_iff_getElem?.1 h
  have h1 := (List.getElem?_eq_some_iff.1 hj).1
  rw [List.length_take] at h1
  rw [List.getElem?_take_of_lt (by omega)] at hj
  exact ⟨j, by omega, hj⟩
theorem take_mem {ss : List (List UInt8)} {s : List UInt8} {j k : Nat} (hj : j < k) (h : ss[j]? = some s) : s ∈ ss.take k := List.mem_of_getElem? (i := j) (by rw [List.getElem?_take_of_lt hj]; exact h)
def RetTw (ss : List (List UInt8)) (w : World) (e : Ending) (w' : World) : Prop := ∃ s b, TwiceR ss s b ∧ e = .returned (.tuple #[.string ⟨s.toArray⟩, .bool b]) ∧ Below w.heap.size w w'
set_option maxHeartbeats 1600000 in
set_option maxRecDepth 100000 in
theorem rtwice_any (a0 : Value) (ss : List (List UInt8)) (w : World) (h0 : IsT w a0 ss) (hm : ss.length ≤ 1000) : Calls Try.prog 15 #[a0] w (RetTw ss w) := by
  obtain ⟨A0, c0, rfl, hc0, hv0⟩ := h0
  obtain ⟨n, hn⟩ : ∃ n, n = ss.length := ⟨_, rfl⟩
  have HN := Lib.hid hn
  have HV := Lib.hid hv0
  rw [← hn] at hm hc0 ⊢
  clear hv0 hn
  go_enter Try.func15, Try.ntmps15
  go_wp2
  go_loopw [4] (fun v4 wr => ∃ k : Nat, k ≤ n ∧ Hid (onceTo ss k) ∧ Hid (Below w.heap.size w wr) ∧ v4 = .int .i64 (k : Int)) (fun v4 _ => n - (intOf v4).toNat)
  case atStart => exact ⟨0, by omega, fun i s h => by omega, Below.refl _ _, rfl⟩
  case round =>
    obtain ⟨k, hk, HO, HB, rfl⟩ := hrel
    obtain ⟨wo, hwo⟩ : ∃ wo, wo = wr := ⟨_, rfl⟩
    subst hwo
    by_cases hlt : k < n
    · obtain ⟨s, hs⟩ : ∃ s, ss[k]? = some s := ⟨_, List.getElem?_eq_getElem (by rw [← HN.out]; exact hlt)⟩
      obtain ⟨ad, rfl, ec0⟩ := HV.out k s hs
      have HS := Lib.hid hs
      clear hs
      go_wp2
      go_loopw [5] (fun v5 wr => ∃ j : Nat, j ≤ k ∧ Hid (∀ i, i < j → ss[i]? ≠ some s) ∧ Hid (Below w.heap.size w wr) ∧ v5 = .int .i64 (j : Int)) (fun v5 _ => k - (intOf v5).toNat)
      case atStart => exact ⟨0, by omega, fun i h => by omega, HB, rfl⟩
      case round =>
        clear HB
        obtain ⟨j, hj, HJ, HB, rfl⟩ := hrel
        obtain ⟨wi, hwi⟩ : ∃ wi, wi = wr := ⟨_, rfl⟩
        subst hwi
        have ec := (HB.out.cell (World.block_lt_of_cell? w _ ec0)).trans ec0
        by_cases hjk : j < k
        · obtain ⟨t, ht⟩ : ∃ t, ss[j]? = some t := ⟨_, List.getElem?_eq_getElem (by rw [← HN.out]; omega)⟩
          obtain ⟨ad', e', ec1⟩ := HV.out j t ht
          injection e' with e'
          subst e'
          have ec' := (HB.out.cell (World.block_lt_of_cell? w _ ec1)).trans ec1
          have bd := (Below.refl wi.heap.size wi).drew
          have ecd := (bd.cell (World.block_lt_of_cell? wi _ ec)).trans ec
          have ecd' := (bd.cell (World.block_lt_of_cell? wi _ ec')).trans ec'
          have HBd : Hid (Below w.heap.size w wi.drew) := HB.out.drew
          have HT := Lib.hid ht
          clear ht ec1 ec ec' bd HB
          have hjn : j < n := by omega
          by_cases he : t = s
          · subst he
            have HR : Hid (TwiceR ss t true) := .inl ⟨rfl, k, HS.out, take_mem hjk HT.out, HO.out⟩
            clear HJ
            go_upto_region 7 with (fail)
            go_region
            all_goals
              go_wp2
              go_ret2
              exact ⟨_, _, HR.out, rfl, HBd.out⟩
          · have hts : (t == s) = false := beq_eq_false_iff_ne.2 he
            have HJ2 : Hid (∀ i, i < j + 1 → ss[i]? ≠ some s) := fun i hi => by
              by_cases e : i = j
              · subst e
                intro h
                rw [HT.out] at h
                injection h with h
                exact he h
              · exact HJ.out i (by omega)
            clear HJ he
            go_upto_region 7 with (fail)
            go_region
            all_goals
              clear ecd ecd'
              go_wp2
              go_roundw
              case rel => exact ⟨j + 1, by omega, HJ2, HBd, by go_num⟩
              case measure => simp [intOf]; omega
        · have HO2 : Hid (onceTo ss (k + 1)) := onceTo_succ HO.out HS.out fun hm => by
            obtain ⟨i, hi, h⟩ := mem_take hm
            exact HJ.out i (by omega) h
          clear HJ ec
          go_wp2
          go_roundw
          case rel => exact ⟨k + 1, by omega, HO2, HB, by go_num⟩
          case measure => simp [intOf]; omega
    · have HR : Hid (TwiceR ss [] false) := .inr ⟨rfl, rfl, by rw [← HN.out, show n = k by omega]; exact HO.out⟩
      go_wp2
      go_ret2
      exact ⟨_, _, HR.out, rfl, HB.out⟩
theorem lawT : Keyed Try.prog 9 := string_keyed Try.underlying9
theorem zeroInt (w : World) : (zeroValue 3).run Try.prog w = .ok (.int .i64 0) w := by kernel_rfl
theorem key_text {s : List UInt8} (h : s.length ≤ maxLen) : keyOf Try.prog 9 (.string ⟨s.toArray⟩) = some (.string s) := by
  have h1 := keyOf_string_mk (P := Try.prog) (k := 9) Try.underlying9 (s := ⟨s.toArray⟩) (by rw [(StrIs.mk s).size]; exact h)
  exact h1
/-- How often each text came. -/
def Came (D : DataW Unit) (ss : List (List UInt8)) (k : Nat) : Prop := ∀ s, D.atKey (.string s) (.lit (.int .i64 0)) = .lit (.int .i64 (if s ∈ ss.take k then 1 else 0))
theorem came_zero (ss : List (List UInt8)) : Came (.map []) ss 0 := fun s => by
  rw [List.take_zero, if_neg (by simp)]
  exact WideAt.atKey_none _ (fun p hp => by cases hp)
theorem came_succ {D : DataW Unit} {ss : List (List UInt8)} {k : Nat} {s : List UInt8} (h : Came D ss k) (hD : IsMap D) (hs : ss[k]? = some s) : Came (D.put (.string s) (.lit (.int .i64 1))) ss (k + 1) := fun t => by
  have e : ss.take (k + 1) = ss.take k ++ [s] := by rw [List.take_add_one, hs]; rfl
  by_cases ht : t = s
  · subst ht
    rw [atKey_put_same hD (by trivial), if_pos (by rw [e]; simp)]
  · rw [atKey_put_other (fun e => ht (by injection e)), h t, e]
    congr 3
    simp [ht]
set_option maxHeartbeats 1600000 in
set_option maxRecDepth 100000 in
theorem twice_any (a0 : Value) (ss : List (List UInt8)) (w : World) (h0 : IsT w a0 ss) (hm : ss.length ≤ 1000) (hl : ∀ s ∈ ss, s.length ≤ maxLen) : Calls Try.prog 14 #[a0] w (RetTw ss w) := by
  obtain ⟨A0, c0, rfl, hc0, hv0⟩ := h0
  obtain ⟨n, hn⟩ : ∃ n, n = ss.length := ⟨_, rfl⟩
  have HN := Lib.hid hn
  have HV := Lib.hid hv0
  have HL := Lib.hid hl
  have hmm := @run_makeMap Try.prog
  rw [← hn] at hm hc0 ⊢
  clear hv0 hn hl
  go_enter Try.func14, Try.ntmps14
  go_wp2
  go_loopw [10] (fun v10 wr => ∃ (k : Nat) (D : DataW Unit), k ≤ n ∧ wr.ownsMap Try.prog 9 (plainElem Try.prog 3) w.heap.size k D ∧ Hid (IsMap D) ∧ Hid (Came D ss k) ∧ Hid (onceTo ss k) ∧ Hid (Below w.heap.size w wr) ∧ v10 = .int .i64 (k : Int)) (fun v10 _ => n - (intOf v10).toNat)
  case atStart => exact ⟨0, .map [], by omega, World.ownsMap_made _ _ _ _, isMap_empty, came_zero ss, fun i s h => by omega, (Below.refl _ _).alloc (Nat.le_refl _) _, rfl⟩
  case round =>
    obtain ⟨k, D, hk, hown, HD, HC, HO, HB, rfl⟩ := hrel
    obtain ⟨wi, hwi⟩ : ∃ wi, wi = wr := ⟨_, rfl⟩
    subst hwi
    by_cases hlt : k < n
    · obtain ⟨s, hs⟩ : ∃ s, ss[k]? = some s := ⟨_, List.getElem?_eq_getElem (by rw [← HN.out]; exact hlt)⟩
      obtain ⟨ad, rfl, ec0⟩ := HV.out k s hs
      have ec := (HB.out.cell (World.block_lt_of_cell? w _ ec0)).trans ec0
      have hkey := key_text (HL.out s (List.mem_of_getElem? hs))
      obtain ⟨S, hS⟩ : ∃ S : ByteArray, S = ⟨s.toArray⟩ := ⟨_, rfl⟩
      rw [← hS] at ec hkey
      have HSS := Lib.hid hS
      have HS := Lib.hid hs
      clear hs hS ec0
      obtain ⟨c, hrun, hat, -⟩ := hown.lookup_int lawT Try.underlying35 Try.underlying3 (zeroInt _) hkey
      rw [HC.out s] at hat
      by_cases hin : s ∈ ss.take k
      · rw [if_pos hin] at hat
        obtain rfl : (1 : Int) = c := by injection hat with hat; injection hat
        have HR : Hid (TwiceR ss s true) := .inl ⟨rfl, k, HS.out, hin, HO.out⟩
        clear hin hat
        go_wp2_with (first
          | (at_mapUpdate; refine wpList_mapUpdate_own _ rfl _ _ _ 35 rfl 9 3 lawT Try.underlying35 _ w.heap.size k _ rfl hown (by unfold maxLen; omega) _ _ _ rfl rfl hkey _ [] (plainElem_int Try.underlying3 (by first | exact wrap64_wf _ | decide)) ?_)
          | go_in)
        intro w1 hown1 hgrow1
        obtain ⟨c2, hrun2, hat2, -⟩ := hown1.lookup_int lawT Try.underlying35 Try.underlying3 (zeroInt _) hkey
        rw [atKey_put_same HD.out (by trivial)] at hat2
        obtain rfl : (2 : Int) = c2 := by injection hat2 with hat2; injection hat2
        have HB1 : Hid (Below w.heap.size w w1) := HB.out.grown hgrow1 HB.out.size (fun j hj => by cases hj; exact Nat.le_refl _)
        clear hat2 hown hown1 hgrow1 hrun ec
        go_wp2
        go_ret2
        exact ⟨s, true, HR.out, by rw [← HSS.out]; rfl, HB1.out⟩
      · rw [if_neg hin] at hat
        obtain rfl : (0 : Int) = c := by injection hat with hat; injection hat
        have HO2 : Hid (onceTo ss (k + 1)) := onceTo_succ HO.out HS.out hin
        clear hin hat
        go_wp2_with (first
          | (at_mapUpdate; refine wpList_mapUpdate_own _ rfl _ _ _ 35 rfl 9 3 lawT Try.underlying35 _ w.heap.size k _ rfl hown (by unfold maxLen; omega) _ _ _ rfl rfl hkey _ [] (plainElem_int Try.underlying3 (by first | exact wrap64_wf _ | decide)) ?_)
          | go_in)
        intro w1 hown1 hgrow1
        obtain ⟨c2, hrun2, hat2, -⟩ := hown1.lookup_int lawT Try.underlying35 Try.underlying3 (zeroInt _) hkey
        rw [atKey_put_same HD.out (by trivial)] at hat2
        obtain rfl : (1 : Int) = c2 := by injection hat2 with hat2; injection hat2
        have HB1 : Hid (Below w.heap.size w w1) := HB.out.grown hgrow1 HB.out.size (fun j hj => by cases hj; exact Nat.le_refl _)
        have HD1 : Hid (IsMap (D.put (.string s) (.lit (.int .i64 1)))) := HD.out.put _ _
        have HC1 : Hid (Came (D.put (.string s) (.lit (.int .i64 1))) ss (k + 1)) := came_succ HC.out HD.out HS.out
        clear hat2 hown hgrow1 hrun ec
        go_wp2
        go_roundw
        case rel => exact ⟨k + 1, _, by omega, hown1, HD1, HC1, HO2, HB1, by go_num⟩
        case measure => simp [intOf]; omega
    · have HR : Hid (TwiceR ss [] false) := .inr ⟨rfl, rfl, by rw [← HN.out, show n = k by omega]; exact HO.out⟩
      go_wp2
      go_ret2
      exact ⟨_, _, HR.out, rfl, HB.out⟩
theorem info_text : ∃ i, Try.prog.info? 9 = some i ∧ i.zero = some (.string ⟨#[]⟩) ∧ i.size = 1 ∧ i.bytes = 16 := info_parts (P := Try.prog) (e := 9) (z := .string ⟨#[]⟩) (size := 1) (bytes := 16) (by kernel_rfl)
section
variable {P : Program}
theorem run_append_T {w : World} {t ty e : TypeId} (hT : P.underlying t = some (.slice e)) (hI : ∃ i, P.info? e = some i ∧ i.zero = some (.string ⟨#[]⟩) ∧ i.size = 1 ∧ i.bytes = 16) {A : Option Addr} {m c : Nat} {ss : List (List UInt8)} (w0 : World) (hw : w = w0.alloc (.cells #[] e)) (hs : IsT w (.slice A m c) ss) (hl : ss.length ≤ 1000) :
    ∃ v' w', (Builtin.append_ #[t, t] ty #[.slice (some ⟨w0.heap.size, 0, none⟩) 0 0, .slice A m c]).run P w = .ok v' w' ∧ IsT w' v' ss ∧ Below w0.heap.size w0 w' := by
  obtain ⟨i, hi, hz, hsz, hby⟩ := hI
  obtain ⟨A', c', e', hc, hcell⟩ := hs
  injection e' with e1 e2 e3
  subst e1; subst e2; subst e3
  have b0 := below_alloc (w := w0) (Nat.le_refl _) (.cells #[] e)
  by_cases hn : ss = []
  · subst hn
    refine ⟨.slice (some ⟨w0.heap.size, 0, none⟩) 0 0, w, ?_, ⟨_, 0, rfl, Nat.le_refl _, fun i s h => by cases h⟩, by rw [hw]; exact b0⟩
    cases A with
    | none => simp [Builtin.append_, go_sem, run_underlying hT, sizeOf, typeInfo, hi, Builtin.lenOf, Builtin.firstCells, storeCells]
    | some ad => simp [Builtin.append_, go_sem, run_underlying hT, sizeOf, typeInfo, hi, hsz, Builtin.lenOf, Builtin.firstCells, storeCells]
  · have hpos : 0 < ss.length := List.length_pos_iff.2 hn
    obtain ⟨ad, rfl, _⟩ := hcell 0 _ (List.getElem?_eq_getElem hpos)
    have hown : w.ownsRow w0.heap.size e 1 (.slice (some ⟨w0.heap.size, 0, none⟩) 0 0) 0 [] := by
      have h := World.ownsRow_lit (e := e) (size := 1) w0 #[] 0 (Nat.le_refl w0.heap.size) (by simp) (by simp)
      rw [hw]
      simpa using h
    have hbw : w0.heap.size ≤ w.heap.size := by rw [hw]; exact b0.size
    obtain ⟨v', w', g1, g2, g3, _⟩ := run_append_own (P := P) (w := w) w0.heap.size t ty e i (.string ⟨#[]⟩) 1 16 hT hi hz hsz hby rfl (by decide) _ 0 [] hown ad ss.length c (ss.map fun s => Value.string ⟨s.toArray⟩) (by simp) (fun j u hu => by
      rw [List.getElem?_map] at hu
      cases hs : ss[j]? with
      | none => rw [hs] at hu; cases hu
      | some s =>
        rw [hs] at hu
        obtain rfl : Value.string ⟨s.toArray⟩ = u := by simpa using hu
        obtain ⟨ad', e4, h5⟩ := hcell j s hs
        injection e4 with e4
        subst e4
        exact h5) (fun u hu => by obtain ⟨s, _, rfl⟩ := List.mem_map.1 hu; rfl) (by unfold maxLen; omega) (by omega) hbw
    refine ⟨v', w', g1, ?_, ?_⟩
    · rw [List.nil_append, Nat.zero_add] at g2
      rcases id g2.2 with ⟨_, h0⟩ | ⟨g, cap, cur, e5, _, _, h6, _⟩
      · omega
      · refine ⟨some ⟨g, 0, none⟩, cap, e5, h6, fun j s hs => ⟨_, rfl, ?_⟩⟩
        exact g2.cells (g := g) (by rw [e5]; rfl) j _ (by rw [List.getElem?_map, hs]; rfl)
    · have hb : Below w0.heap.size w0 w := by rw [hw]; exact b0
      exact hb.grown g3 hb.size (fun g hg => by
        obtain rfl : w0.heap.size = g := by simpa [Value.ownBlock] using hg
        exact Nat.le_refl _)
theorem wpList_append_T {w : World} {ops : Array Oper} {rest : List Oper} {o : Oper} {a : Act} {Q : Exit → Act → World → Prop} (hgd : o.guard = none) (s x : Operand) {t e : TypeId}
    (ho : o.op = .call { callee := .builtin .append, args := #[s, x], argTypes := #[t, t] }) (hT : P.underlying t = some (.slice e)) (hI : ∃ i, P.info? e = some i ∧ i.zero = some (.string ⟨#[]⟩) ∧ i.size = 1 ∧ i.bytes = 16) {A : Option Addr} {m c : Nat} {ss : List (List UInt8)} (w0 : World) (hw : w = w0.alloc (.cells #[] e))
    (h1 : a.eval s = .slice (some ⟨w0.heap.size, 0, none⟩) 0 0) (h2 : a.eval x = .slice A m c) (hs : IsT w (.slice A m c) ss) (hl : ss.length ≤ 1000)
    (h : ∀ v' w', IsT w' v' ss → Below w0.heap.size w0 w' → wpList P ops Q rest (a.put o.dst v') w') : wpList P ops Q (o :: rest) a w := by
  refine wpList_plain hgd fun _ hK => ?_
  obtain ⟨v', w', hrun, k1, k2⟩ := run_append_T (P := P) (ty := o.type) hT hI w0 hw hs hl
  unfold Oper.wp execOp
  simp only [ho, resolve, invoke, builtin, Sem.run_bind, Sem.run_pure, Result.andThen_ok, List.map_toArray, List.map_cons, List.map_nil, h1, h2, hrun]
  exact hK _ _ (h _ _ k1 k2)
end
set_option maxHeartbeats 1600000 in
set_option maxRecDepth 100000 in
theorem sametexts_self (a0 a1 : Value) (ss : List (List UInt8)) (w : World) (h0 : IsT w a0 ss) (h1 : IsT w a1 ss) (hm : ss.length ≤ 1000) : Calls Try.prog 16 #[a0, a1] w (RetV (.bool true) w) := by
  obtain ⟨A0, c0, rfl, hc0, hv0⟩ := h0
  obtain ⟨A1, c1, rfl, hc1, hv1⟩ := h1
  obtain ⟨n, hn⟩ : ∃ n, n = ss.length := ⟨_, rfl⟩
  have HN := Lib.hid hn
  have HV := Lib.hid (And.intro hv0 hv1)
  rw [← hn] at hm hc0 hc1 ⊢
  clear hv0 hv1 hn
  go_enter Try.func16, Try.ntmps16
  go_wp2
  go_loopw [5] (fun v5 wr => ∃ k : Nat, k ≤ n ∧ Hid (Below w.heap.size w wr) ∧ v5 = .int .i64 (k : Int)) (fun v5 _ => n - (intOf v5).toNat)
  case atStart => exact ⟨0, by omega, Below.refl _ _, rfl⟩
  case round =>
    obtain ⟨k, hk, HB, rfl⟩ := hrel
    obtain ⟨wi, hwi⟩ : ∃ wi, wi = wr := ⟨_, rfl⟩
    subst hwi
    by_cases hlt : k < n
    · obtain ⟨s, hs⟩ : ∃ s, ss[k]? = some s := ⟨_, List.getElem?_eq_getElem (by rw [← HN.out]; exact hlt)⟩
      obtain ⟨ad0, rfl, e0⟩ := HV.out.1 k s hs
      obtain ⟨ad1, rfl, e1⟩ := HV.out.2 k s hs
      have bd := HB.out.drew
      have f0 := (bd.cell (World.block_lt_of_cell? w _ e0)).trans e0
      have f1 := (bd.cell (World.block_lt_of_cell? w _ e1)).trans e1
      have HBd : Hid (Below w.heap.size w wi.drew) := bd
      clear hs e0 e1 bd HB
      go_upto_region 6 with (fail)
      go_region
      all_goals
        clear f0 f1
        go_wp2
        go_roundw
        case rel => exact ⟨k + 1, by omega, HBd, by go_num⟩
        case measure => simp [intOf]; omega
    · go_wp2
      go_ret
      exact ⟨rfl, HB.out⟩
end Go.Proofs.Ytagaabooccnamaa.str
