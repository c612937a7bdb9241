/- Rows of texts that the call makes by append; base.Split: a text's parts between a byte. Condition: the text is of at most 1000000 bytes. -/
import Derived.Test.YtbfflcpmagjlnaaDoorNamC
import Derived.Test.YtbfflcpmagjlnaaDoorAdrD
import Derived.Deep.AppendLies
import Derived.Deep.Cut
namespace Go.Proofs.YtbfflcpmagjlnaaDoor.adr
open Go.RowKit Go.Proofs.YtbfflcpmagjlnaaDoor.num Go.Proofs.YtbfflcpmagjlnaaDoor.mem Go.Proofs.YtbfflcpmagjlnaaDoor.txt Go.Proofs.YtbfflcpmagjlnaaDoor.str
set_option linter.unusedVariables false
/-- A row of the call's own that holds these texts. -/
def RowT (w : World) (base : Nat) (e : TypeId) (v : Value) (ss : List (List UInt8)) : Prop := w.ownsRow base e 1 v ss.length (ss.map fun s => Value.string ⟨s.toArray⟩)
theorem RowT.isT {w : World} {base : Nat} {e : TypeId} {v : Value} {ss : List (List UInt8)} (h : RowT w base e v ss) (hne : ss ≠ []) : IsT w v ss := by
  have hp : 0 < ss.length := List.length_pos_iff.2 hne
  rcases id h.2 with ⟨_, h0⟩ | ⟨g, cap, cur, e5, _, _, h6, _⟩
  · omega
  · refine ⟨some ⟨g, 0, none⟩, cap, e5, h6, fun j s hs => ⟨_, rfl, ?_⟩⟩
    exact h.cells (g := g) (by rw [e5]; rfl) j _ (by rw [List.getElem?_map, hs]; rfl)
theorem RowT.below {w w' : World} {base : Nat} {e : TypeId} {v : Value} {ss : List (List UInt8)} (h : RowT w base e v ss) (hb : Below w.heap.size w w') : RowT w' base e v ss :=
  World.ownsRow.kept (row := none) h ⟨hb.os, hb.tape, hb.output, hb.size, fun i hi _ => hb.block i hi⟩ (by cases hv : v.ownBlock <;> simp)
theorem rowT_lit0 (w : World) (base : Nat) (e : TypeId) (hb : base ≤ w.heap.size) : RowT (w.alloc (.cells #[] e)) base e (.slice (some ⟨w.heap.size, 0, none⟩) 0 0) [] := by
  have h := World.ownsRow_lit (e := e) (size := 1) w #[] 0 hb (by simp) (by simp)
  simpa [RowT] using h
theorem info_txt18 : ∃ i, Tryd.prog.info? 9 = some i ∧ i.zero = some (.string ⟨#[]⟩) ∧ i.size = 1 ∧ i.bytes = 16 := info_parts (P := Tryd.prog) (e := 9) (z := .string ⟨#[]⟩) (size := 1) (bytes := 16) (by kernel_rfl)
section
variable {P : Program}
/-- 'out = append(out, s)', out a row of texts of the call's own. -/
theorem wpList_append_txt {w : World} {ops : Array Oper} {rest : List Oper} {o : Oper} {a : Act} {Q : Exit → Act → World → Prop} (hgd : o.guard = none) (s x : Operand) {t : TypeId}
    (ho : o.op = .call { callee := .builtin .append, args := #[s, x], argTypes := #[t, t] })
    {base : Nat} {e : TypeId} (hT : P.underlying t = some (.slice e)) (hI : ∃ i, P.info? e = some i ∧ i.zero = some (.string ⟨#[]⟩) ∧ i.size = 1 ∧ i.bytes = 16) {v : Value} {R : ByteArray} {r : List UInt8} {ss : List (List UInt8)} (hs : a.eval s = v) (hown : RowT w base e v ss) (hx : a.eval x = .slice (some ⟨w.heap.size, 0, none⟩) 1 1) (hR : StrIs R r)
    (hlen : ss.length ≤ 1000000000) (hbase : base ≤ w.heap.size)
    (h : ∀ v' w', RowT w' base e v' (ss ++ [r]) → Below base w w' → wpList P ops Q rest (a.put o.dst v') w') : wpList P ops Q (o :: rest) a (w.alloc (.cells #[.string R] e)) := by
  obtain ⟨i, hi, hz, hsz, hby⟩ := hI
  refine wpList_append_lies (w.alloc (.cells #[.string R] e)) hgd s x t ho base e i (.string ⟨#[]⟩) 1 16 hT hi hz hsz hby rfl (by omega) v ss.length _ hs (World.ownsRow.alloc hown _) ⟨w.heap.size, 0, none⟩ 1 1 [.string R] hx rfl ?_ ?_ (by omega) (by unfold maxLen; omega) (by omega) (by simp; omega) _ rfl ?_
  · exact World.news_of_block (heap_alloc_new w _)
  · intro u' hu'
    obtain rfl := List.mem_singleton.1 hu'
    rfl
  · intro g cap w' h1 h2 h3 h4
    have h5 : w.grownBy w' v.ownBlock := grown_trans (World.grownBy_alloc w _ _) h2
    refine h _ w' ?_ ((Below.refl base w).grown h5 hbase (fun g hg => (World.ownsRow.lt hown g hg).1))
    unfold RowT
    rw [List.length_append, List.map_append, List.map_singleton, ← hR.is]
    exact h1
end
set_option maxHeartbeats 1600000 in
set_option maxRecDepth 100000 in
theorem split_any (S : ByteArray) (l : List UInt8) (c : UInt8) (cI : Int) (w : World) (hS : StrIs S l) (hl : l.length ≤ 1000000) (hc : cI = ((c.toNat : Nat) : Int)) : Calls Tryd.prog 26 #[.string S, .int .u8 cI] w (RetT (splitC c l) w) := by
  have hsz := hS.size
  have hS6 : S.size ≤ 1000000 := by omega
  have HSZ := Lib.hid hsz
  have HS := Lib.hid hS
  have HC := Lib.hid hc
  have hsl : (splitC c l).length ≤ 1000001 := by
    have h : ∀ m : List UInt8, (splitC c m).length ≤ m.length + 1 := by
      intro m
      induction m with
      | nil => simp [splitC]
      | cons b m ih =>
        unfold splitC
        split
        · simp only [List.length_cons]; omega
        · have h2 := splitC_ne c m
          revert ih h2
          cases splitC c m with
          | nil => intro _ h2; exact absurd rfl h2
          | cons p r => intro ih _; simp only [pushC, List.length_cons] at ih ⊢; omega
    have := h l
    omega
  have HSL := Lib.hid hsl
  clear hsz hS hc hsl
  go_enter Tryd.func26, Tryd.ntmps26
  go_wp2
  go_loopw [5, 6, 7] (fun v5 v6 v7 wr => ∃ (f i k : Nat), f ≤ i ∧ i ≤ S.size ∧ Hid (ToCut c l f i k) ∧ RowT wr w.heap.size 9 v5 ((splitC c l).take k) ∧ Hid (Below w.heap.size w wr) ∧ v6 = .int .i64 (f : Int) ∧ v7 = .int .i64 (i : Int)) (fun _ _ v7 _ => S.size - (intOf v7).toNat)
  case atStart => exact ⟨0, 0, 0, by omega, by omega, ToCut.start c l, by rw [List.take_zero]; exact rowT_lit0 w _ _ (Nat.le_refl _), (Below.refl _ _).alloc (Nat.le_refl _) _, rfl, rfl⟩
  case round =>
    obtain ⟨f, i, k, hfi, hi, HT, row, HB, rfl, rfl⟩ := hrel
    obtain ⟨wi, hwi⟩ : ∃ wi, wi = wr := ⟨_, rfl⟩
    subst hwi
    have hbs : w.heap.size ≤ wi.heap.size := HB.out.size
    by_cases hlt : i < S.size
    · obtain ⟨b, hb⟩ : ∃ b, b = S[i]'hlt := ⟨_, rfl⟩
      have hat : l[i]? = some b := by rw [hb]; exact HS.out.at_ hlt
      obtain ⟨bI, hbI⟩ : ∃ bI : Int, bI = ((b.toNat : Nat) : Int) := ⟨_, rfl⟩
      have hbI2 : ((S[i]'hlt).toNat : Int) = bI := by rw [← hb, hbI]
      have HAT := Lib.hid hat
      have HBI := Lib.hid hbI
      clear hat hb hbI
      have hk1 : (f : Int) ≤ (i : Int) := by omega
      have hk2 : (i : Int) ≤ (S.size : Int) := by omega
      have hk3 : f ≤ S.size := by omega
      by_cases he : b = c
      · have hec : (bI == cI) = true := by rw [beq_iff_eq, HBI.out, HC.out, he]
        have hh := HT.out.hit (by rw [HAT.out, he])
        have HT2 : Hid (ToCut c l (i + 1) (i + 1) (k + 1)) := hh.1
        have HR : Hid (StrIs (S.extract f i) ((l.drop f).take (i - f))) := HS.out.cut f i
        have HTK : Hid ((splitC c l).take (k + 1) = (splitC c l).take k ++ [(l.drop f).take (i - f)]) := take_snoc hh.2
        have hkl : ((splitC c l).take k).length ≤ 1000000000 := by rw [List.length_take]; have := HSL.out; omega
        clear hh HT he
        go_upto_region 8 with (at_builtin; refine wpList_append_txt rfl (.tmp 20) (.tmp 25) rfl Tryd.underlying49 info_txt18 rfl row rfl HR.out hkl hbs ?_; intro v2 w2 row2 b2)
        all_goals
          have HB2 : Hid (Below w.heap.size w w2) := HB.out.trans b2
          rw [← HTK.out] at row2
          clear HR
          go_wp2
          go_roundw
          case rel => exact ⟨i + 1, i + 1, k + 1, by omega, by omega, HT2, row2, HB2, by go_num, by go_num⟩
          case measure => simp [intOf]; omega
      · have hec : (bI == cI) = false := by
          rw [beq_eq_false_iff_ne, HBI.out, HC.out]
          intro e
          exact he (UInt8.toNat_inj.1 (by omega))
        have HT2 : Hid (ToCut c l f (i + 1) k) := HT.out.pass HAT.out he
        clear HT he
        go_wp2
        go_roundw
        case rel => exact ⟨f, i + 1, k, by omega, by omega, HT2, row, HB, rfl, by go_num⟩
        case measure => simp [intOf]; omega
    · obtain rfl : i = S.size := by omega
      have hdn := (show ToCut c l f l.length k by rw [← HSZ.out]; exact HT.out).done
      have HTK : Hid (splitC c l = (splitC c l).take k ++ [l.drop f]) := by
        show _ = _
        rw [← take_snoc hdn.2, hdn.1, List.take_length]
      have HR : Hid (StrIs (S.extract f S.size) (l.drop f)) := HS.out.from_ f
      have hkl : ((splitC c l).take k).length ≤ 1000000000 := by rw [List.length_take]; have := HSL.out; omega
      have hk1 : (f : Int) ≤ (S.size : Int) := by omega
      clear hdn HT
      go_wp2_with (at_builtin; refine wpList_append_txt rfl (.tmp 29) (.tmp 33) rfl Tryd.underlying49 info_txt18 rfl row rfl HR.out hkl hbs ?_; intro v2 w2 row2 b2)
      rw [← HTK.out] at row2
      go_ret
      exact ⟨_, rfl, row2.isT (splitC_ne c l), HB.out.trans b2⟩
end Go.Proofs.YtbfflcpmagjlnaaDoor.adr
