/- strings.IndexRune at a text of ASCII, at any rune; where a letter stands among the digits' letters. Condition: the text is ASCII. -/
import Derived.Test.YtlepoheinemfcaaDoorStrB
import Derived.WalkMore
import Derived.IntWalk
namespace Go.Proofs.YtlepoheinemfcaaDoor.str
open Go.RowKit Go.Proofs.YtlepoheinemfcaaDoor.num Go.Proofs.YtlepoheinemfcaaDoor.mem Go.Proofs.YtlepoheinemfcaaDoor.txt
set_option linter.unusedVariables false

theorem quiet_add_same {P : Program} {f : FuncId} {args : Array Value} {w : World} {a n : Nat} {v : Value}
    (h : Calls P f args (w.drewN (a + n)) fun e w' => e = .returned v ∧ w' = w.drewN (a + n)) :
    Calls P f args (w.drewN (a + n)) fun e w'' => e = .returned v ∧ ∃ m, w'' = w.drewN (a + m) :=
  h.mono fun _ _ ⟨he, hm⟩ => ⟨he, n, hm⟩
set_option maxHeartbeats 3200000 in
set_option maxRecDepth 100000 in
theorem idxRune_high (S : ByteArray) (l : List UInt8) (r : Int) (w : World) (hS : StrIs S l) (ha : Asc l) (hl : l.length ≤ 1000000) (h0 : 128 ≤ r) (hr : r ≤ 2147483647) (he : r ≠ 65533) :
    Calls Tryd.prog 24 #[.string S, .int .i32 r] w (RetV (.int .i64 (-1)) w) := by
  have heq : (r == 65533) = false := by rw [beq_eq_false_iff_ne]; exact he
  have hsz := hS.size
  obtain ⟨R, hR, h2, h4, hlast⟩ := encode_high r h0
  have hconv := fun w => run_rune_string r w
  rw [hR] at hconv
  clear hR he
  have hl1 : R.size - 1 < R.size := by omega
  obtain ⟨hb1, hb2⟩ := hlast hl1
  clear hlast
  obtain ⟨n, hn⟩ : ∃ n, R.size = n + 1 := ⟨R.size - 1, by omega⟩
  have hi1 : (R.size : Int) - 1 = (n : Int) := by omega
  go_enter Tryd.func24, Tryd.ntmps24
  go_wp2_with fail
  refine (validRune_any r _).mono ?_
  rintro e w' ⟨b, rfl, rfl⟩
  cases b
  · go_wp2
    go_ret
    exact ⟨rfl, Below.refl _ _⟩
  · go_wp2_with fail
    go_step3
    go_wp2
    go_loop [9, 10] (fun v9 v10 => v9 = .int .i64 (n : Int) ∧ v10 = .int .i64 0) (fun _ _ => 0)
    case atStart => exact ⟨rfl, rfl⟩
    case round =>
      obtain ⟨rfl, rfl⟩ := hrel
      by_cases hlt : n < S.size
      · have hidx : n < R.size := by omega
        have e1 : R.size - 1 = n := by omega
        have hc1 : 128 ≤ (R[n]'hidx).toNat := by simpa only [e1] using hb1
        have hc2 : (R[n]'hidx).toNat < 256 := by simpa only [e1] using hb2
        have hlow : (S[n]'hlt).toNat < 128 := ha _ (List.mem_of_getElem? (hS.at_ hlt))
        have hne : (((S[n]'hlt).toNat : Int) == ((R[n]'hidx).toNat : Int)) = false := by rw [beq_eq_false_iff_ne]; omega
        have hnoT : ∀ b ∈ l.drop (n + 1), b ≠ (((R[n]'hidx).toNat : Int)).toNat.toUInt8 := by
          intro b hb e
          have h1 := ha b (List.mem_of_mem_drop hb)
          rw [e] at h1
          have h3 : ((((R[n]'hidx).toNat : Int)).toNat.toUInt8).toNat = (R[n]'hidx).toNat := by
            rw [Int.toNat_natCast]; simp [Nat.toUInt8]
          rw [h3] at h1; omega
        have hT := hS.from_ (n + 1)
        have HN := Lib.hid hnoT
        have HT := Lib.hid hT
        have HNN := Lib.hid hn
        have HSZ := Lib.hid hsz
        have hne2 : (((S[n]'hlt).toNat : Int) != ((R[n]'hidx).toNat : Int)) = true := by rw [bne, hne]; rfl
        clear hnoT hT hb1 hb2 e1 hn hsz hne
        go_wp2
        go_step3
        go_wp2
        go_quiet (fail)
        go_wp2
        have k1 : IntKind.i64.wrap ((n : Int) + 1) = (n : Int) + 1 := IntWalk.i64_in _ (by omega)
        have k2 : (0 : Int) ≤ (n : Int) + 1 := by omega
        have k3 : (n : Int) + 1 ≤ (S.size : Int) := by omega
        have k4 : ((n : Int) + 1).toNat = n + 1 := by omega
        clear hlow hc1
        go_quiet ((go_at_call 39; exact quiet_add_same (indexByte_no _ _ _ _ HT.out HN.out)))
        go_wp2
        rw [Exit.noGoto_ret]
        go_wp2
        go_ret
        exact ⟨rfl, below_drewN (Below.refl _ _) _⟩
      · go_wp2
        go_ret
        exact ⟨rfl, Below.refl _ _⟩
end Go.Proofs.YtlepoheinemfcaaDoor.str
