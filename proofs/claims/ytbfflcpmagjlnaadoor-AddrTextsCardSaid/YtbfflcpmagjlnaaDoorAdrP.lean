/- A prefix's text: addr.Text and the document's. Condition: the table of the powers of ten stands as the row lists it. -/
import Derived.Test.YtbfflcpmagjlnaaDoorAdrO
import Derived.Deep.RegionLaw
namespace Go.Proofs.YtbfflcpmagjlnaaDoor.adr
open Go.RowKit Go.Proofs.YtbfflcpmagjlnaaDoor.num Go.Proofs.YtbfflcpmagjlnaaDoor.mem Go.Proofs.YtbfflcpmagjlnaaDoor.txt Go.Proofs.YtbfflcpmagjlnaaDoor.str
set_option linter.unusedVariables false
set_option linter.unusedSimpArgs false
def txtP (A : Nat) (L : Int) : List UInt8 := if mayP A L then txtA A ++ [47] ++ Lib.decDigits L.toNat else []
theorem txtA_len (a : Nat) : (txtA a).length ≤ 90 := by
  have l0 := dec_len (n := byteP a 0) (by have := byteP_lt a 0; omega)
  have l1 := dec_len (n := byteP a 1) (by have := byteP_lt a 1; omega)
  have l2 := dec_len (n := byteP a 2) (by have := byteP_lt a 2; omega)
  have l3 := dec_len (n := byteP a 3) (by have := byteP_lt a 3; omega)
  simp only [txtA, List.length_append, List.length_singleton]
  omega
set_option maxHeartbeats 3200000 in
set_option maxRecDepth 100000 in
theorem text_any18 (A : Nat) (L : Int) (w : World) (hA : A < 4294967296) (hL0 : -9223372036854775808 ≤ L) (hL1 : L ≤ 9223372036854775807) (ht : Tab w) : Calls Tryd.prog 13 #[.agg #[.int .u32 (A : Int), .int .i64 L]] w (RetTx (txtP A L) w) := by
  have HT := Lib.hid ht
  clear ht
  by_cases hm : mayP A L
  · have CY := fun w => may_any18 A L true w hA hL0 hL1 ⟨fun _ => hm, fun _ => rfl⟩
    obtain ⟨n, hn⟩ : ∃ n, n = L.toNat := ⟨_, rfl⟩
    have hLn : L = (n : Int) := by have := hm.1; omega
    have hn32 : n ≤ 32 := by have := hm.2.1; omega
    have HE : Hid (txtP A L = txtA A ++ [47] ++ Lib.decDigits n) := by show _ = _; unfold txtP; rw [if_pos hm, hn]
    have CI := fun w ht => itoa_any18 n w (by omega) ht
    have CP := fun w ht => print_any18 A w hA ht
    have HLA := Lib.hid (txtA_len A)
    have HLN := Lib.hid (dec_len (n := n) (by omega))
    clear hm hn
    subst hLn
    go_enter Tryd.func13, Tryd.ntmps13
    go_upto_region 1 with (fail)
    obtain ⟨w1, hw1, x0, x1, b1, lt1⟩ := pairbox w 24 (.int .u32 (A : Int)) (.int .i64 (n : Int))
    rw [hw1]
    clear hw1
    go_wp2_with fail
    refine (CY _).mono ?_
    rintro e w2 ⟨rfl, b2⟩
    have y0 := cell_drew ((b2.cell lt1).trans x0)
    have y1 := cell_drew ((b2.cell lt1).trans x1)
    have bd := (b1.trans (b2.mono b1.size)).drew
    have ltd : w.heap.size < w2.drew.heap.size := Nat.lt_of_lt_of_le lt1 b2.size
    clear x0 x1 b1 b2 lt1
    go_upto_region 3 with (fail)
    go_region_law (first
      | (go_simp; go_at_call 11; (with_reducible refine (CP _ (HT.out.below bd)).mono ?_); rintro e w3 ⟨R3, rfl, t3, b3⟩; have z0 := (b3.cell ltd).trans y0; have z1 := (b3.cell ltd).trans y1; have bb3 := bd.trans (b3.mono bd.size); have s3 : R3.size ≤ 90 := (by rw [t3.size]; exact HLA.out); have q3 : ¬ 9223372036854775807 < R3.size + 1 := by omega)
      | (go_simp; go_at_call 28; (with_reducible refine (CI _ (HT.out.below bb3)).mono ?_); rintro e w4 ⟨R4, rfl, t4, b4⟩; have bb4 := bb3.trans (b4.mono bb3.size); have s4 : R4.size ≤ 21 := (by rw [t4.size]; exact HLN.out); have q4 : ¬ 9223372036854775807 < R3.size + 1 + R4.size := by omega))
    all_goals
      go_wp2
      go_ret
      exact ⟨_, rfl, by rw [HE.out]; exact StrIs_app (StrIs_app t3 rfl) t4, bb4⟩
  · have CY := fun w => may_any18 A L false w hA hL0 hL1 ⟨fun h => Bool.noConfusion h, fun h => absurd h hm⟩
    have HE : Hid (txtP A L = []) := by show _ = _; unfold txtP; rw [if_neg hm]
    clear hm
    go_enter Tryd.func13, Tryd.ntmps13
    go_wp2_with fail
    refine (CY _).mono ?_
    rintro e w2 ⟨rfl, b2⟩
    go_wp2
    go_ret
    exact ⟨_, rfl, by rw [HE.out]; rfl, (below_alloc (Nat.le_refl _) _).trans (b2.mono (by simp))⟩
set_option maxHeartbeats 3200000 in
set_option maxRecDepth 100000 in
theorem rtext_any18 (A : Nat) (L : Int) (w : World) (hA : A < 4294967296) (hL0 : -9223372036854775808 ≤ L) (hL1 : L ≤ 9223372036854775807) : Calls Tryd.prog 14 #[.agg #[.int .u32 (A : Int), .int .i64 L]] w (RetTx (txtP A L) w) := by
  by_cases hm : mayP A L
  · have CY := fun w => rmay_any18 A L true w hA hL0 hL1 ⟨fun _ => hm, fun _ => rfl⟩
    obtain ⟨n, hn⟩ : ∃ n, n = L.toNat := ⟨_, rfl⟩
    have hLn : L = (n : Int) := by have := hm.1; omega
    have hn32 : n ≤ 32 := by have := hm.2.1; omega
    have HE : Hid (txtP A L = txtA A ++ [47] ++ Lib.decDigits n) := by show _ = _; unfold txtP; rw [if_pos hm, hn]
    have CI := fun w => ritoa_any n w (by omega)
    have CP := fun w => rprint_any18 A w hA
    have HLA := Lib.hid (txtA_len A)
    have HLN := Lib.hid (dec_len (n := n) (by omega))
    clear hm hn
    subst hLn
    go_enter Tryd.func14, Tryd.ntmps14
    go_upto_region 1 with (fail)
    obtain ⟨w1, hw1, x0, x1, b1, lt1⟩ := pairbox w 24 (.int .u32 (A : Int)) (.int .i64 (n : Int))
    rw [hw1]
    clear hw1
    go_wp2_with fail
    refine (CY _).mono ?_
    rintro e w2 ⟨rfl, b2⟩
    have y0 := cell_drew ((b2.cell lt1).trans x0)
    have y1 := cell_drew ((b2.cell lt1).trans x1)
    have bd := (b1.trans (b2.mono b1.size)).drew
    have ltd : w.heap.size < w2.drew.heap.size := Nat.lt_of_lt_of_le lt1 b2.size
    clear x0 x1 b1 b2 lt1
    go_upto_region 3 with (fail)
    go_region_law (first
      | (go_simp; go_at_call 12; (with_reducible refine (CP _).mono ?_); rintro e w3 ⟨R3, rfl, t3, b3⟩; have z0 := (b3.cell ltd).trans y0; have z1 := (b3.cell ltd).trans y1; have bb3 := bd.trans (b3.mono bd.size); have s3 : R3.size ≤ 90 := (by rw [t3.size]; exact HLA.out); have q3 : ¬ 9223372036854775807 < R3.size + 1 := by omega)
      | (go_simp; go_at_call 30; (with_reducible refine (CI _).mono ?_); rintro e w4 ⟨R4, rfl, t4, b4⟩; have bb4 := bb3.trans (b4.mono bb3.size); have s4 : R4.size ≤ 21 := (by rw [t4.size]; exact HLN.out); have q4 : ¬ 9223372036854775807 < R3.size + 1 + R4.size := by omega))
    all_goals
      go_wp2
      go_ret
      exact ⟨_, rfl, by rw [HE.out]; exact StrIs_app (StrIs_app t3 rfl) t4, bb4⟩
  · have CY := fun w => rmay_any18 A L false w hA hL0 hL1 ⟨fun h => Bool.noConfusion h, fun h => absurd h hm⟩
    have HE : Hid (txtP A L = []) := by show _ = _; unfold txtP; rw [if_neg hm]
    clear hm
    go_enter Tryd.func14, Tryd.ntmps14
    go_wp2_with fail
    refine (CY _).mono ?_
    rintro e w2 ⟨rfl, b2⟩
    go_wp2
    go_ret
    exact ⟨_, rfl, by rw [HE.out]; rfl, (below_alloc (Nat.le_refl _) _).trans (b2.mono (by simp))⟩
end Go.Proofs.YtbfflcpmagjlnaaDoor.adr
