/- An address's text: addr.Print and the document's. Condition: the table of the powers of ten stands as the row lists it. -/
import Derived.Test.YtbfflcpmagjlnaaDoorAdrN
namespace Go.Proofs.YtbfflcpmagjlnaaDoor.adr
open Go.RowKit Go.Proofs.YtbfflcpmagjlnaaDoor.num Go.Proofs.YtbfflcpmagjlnaaDoor.mem Go.Proofs.YtbfflcpmagjlnaaDoor.txt Go.Proofs.YtbfflcpmagjlnaaDoor.str
set_option linter.unusedVariables false
set_option linter.unusedSimpArgs false
theorem StrIs_app {T R : ByteArray} {m l : List UInt8} (h : StrIs T m) (k : StrIs R l) : StrIs (T ++ R) (m ++ l) := by
  subst h
  subst k
  show (ByteArray.append T R).data.toList = _
  simp [ByteArray.append]
/-- One of an address's four numbers, the highest first. -/
def byteP (a j : Nat) : Nat := a / 256 ^ (3 - j) % 256
theorem byteP_lt (a j : Nat) : byteP a j < 256 := Nat.mod_lt _ (by omega)
def txtA (a : Nat) : List UInt8 := Lib.decDigits (byteP a 0) ++ [46] ++ Lib.decDigits (byteP a 1) ++ [46] ++ Lib.decDigits (byteP a 2) ++ [46] ++ Lib.decDigits (byteP a 3)
set_option maxRecDepth 100000 in
theorem rprint_any18 (a : Nat) (w : World) (ha : a < 4294967296) : Calls Tryd.prog 12 #[.int .u32 (a : Int)] w (RetTx (txtA a) w) := by
  obtain ⟨d0, h0⟩ : ∃ d, d = byteP a 0 := ⟨_, rfl⟩
  obtain ⟨d1, h1⟩ : ∃ d, d = byteP a 1 := ⟨_, rfl⟩
  obtain ⟨d2, h2⟩ : ∃ d, d = byteP a 2 := ⟨_, rfl⟩
  obtain ⟨d3, h3⟩ : ∃ d, d = byteP a 3 := ⟨_, rfl⟩
  have l0 : d0 ≤ 255 := by have := byteP_lt a 0; omega
  have l1 : d1 ≤ 255 := by have := byteP_lt a 1; omega
  have l2 : d2 ≤ 255 := by have := byteP_lt a 2; omega
  have l3 : d3 ≤ 255 := by have := byteP_lt a 3; omega
  have HE : Hid (txtA a = Lib.decDigits d0 ++ [46] ++ Lib.decDigits d1 ++ [46] ++ Lib.decDigits d2 ++ [46] ++ Lib.decDigits d3) := by show _ = _; rw [h0, h1, h2, h3]; rfl
  have q0 : (a : Int).tdiv 16777216 = (d0 : Int) := by
    rw [Int.tdiv_eq_ediv_of_nonneg (by omega), h0]
    show _ = ((a / 256 ^ 3 % 256 : Nat) : Int)
    have e : 256 ^ 3 = 16777216 := rfl
    rw [e]; omega
  obtain ⟨x1, hx1⟩ : ∃ x : Nat, x = a / 65536 := ⟨_, rfl⟩
  have q1 : (a : Int).tdiv 65536 = (x1 : Int) := by rw [Int.tdiv_eq_ediv_of_nonneg (by omega)]; omega
  have m1 : (x1 : Int).tmod 256 = (d1 : Int) := by
    rw [Int.tmod_eq_emod_of_nonneg (by omega), h1, hx1]
    show _ = ((a / 256 ^ 2 % 256 : Nat) : Int)
    have e : 256 ^ 2 = 65536 := rfl
    rw [e]; omega
  obtain ⟨x2, hx2⟩ : ∃ x : Nat, x = a / 256 := ⟨_, rfl⟩
  have q2 : (a : Int).tdiv 256 = (x2 : Int) := by rw [Int.tdiv_eq_ediv_of_nonneg (by omega)]; omega
  have m2 : (x2 : Int).tmod 256 = (d2 : Int) := by
    rw [Int.tmod_eq_emod_of_nonneg (by omega), h2, hx2]
    show _ = ((a / 256 ^ 1 % 256 : Nat) : Int)
    rw [Nat.pow_one]; omega
  have m3 : (a : Int).tmod 256 = (d3 : Int) := by
    rw [Int.tmod_eq_emod_of_nonneg (by omega), h3]
    show _ = ((a / 256 ^ 0 % 256 : Nat) : Int)
    rw [Nat.pow_zero, Nat.div_one]; omega
  have hx1l : x1 < 4294967296 := by omega
  have hx2l : x2 < 4294967296 := by omega
  have s0 := dec_len (n := d0) (by omega)
  have s1 := dec_len (n := d1) (by omega)
  have s2 := dec_len (n := d2) (by omega)
  have s3 := dec_len (n := d3) (by omega)
  have HS := Lib.hid (And.intro s0 (And.intro s1 (And.intro s2 s3)))
  clear h0 h1 h2 h3 hx1 hx2 s0 s1 s2 s3
  go_enter Tryd.func12, Tryd.ntmps12
  go_wp2_with fail
  refine (ritoa_any d0 _ (by omega)).mono ?_
  rintro e w1 ⟨R0, rfl, t0, b1⟩
  have z0 : R0.size ≤ 21 := by rw [t0.size]; exact HS.out.1
  go_wp2_with fail
  refine (ritoa_any d1 _ (by omega)).mono ?_
  rintro e w2 ⟨R1, rfl, t1, b2⟩
  have z1 : R1.size ≤ 21 := by rw [t1.size]; exact HS.out.2.1
  have bb2 := b1.trans (b2.mono b1.size)
  go_wp2_with fail
  refine (ritoa_any d2 _ (by omega)).mono ?_
  rintro e w3 ⟨R2, rfl, t2, b3⟩
  have z2 : R2.size ≤ 21 := by rw [t2.size]; exact HS.out.2.2.1
  have bb3 := bb2.trans (b3.mono bb2.size)
  go_wp2_with fail
  refine (ritoa_any d3 _ (by omega)).mono ?_
  rintro e w4 ⟨R3, rfl, t3, b4⟩
  have z3 : R3.size ≤ 21 := by rw [t3.size]; exact HS.out.2.2.2
  have bb4 := bb3.trans (b4.mono bb3.size)
  go_wp2
  go_ret
  refine ⟨_, rfl, ?_, bb4⟩
  rw [HE.out]
  exact StrIs_app (StrIs_app (StrIs_app (StrIs_app (StrIs_app (StrIs_app t0 rfl) t1) rfl) t2) rfl) t3
/-- What the row holds behind k rounds. -/
def cellP (a k j : Nat) : Value := if 4 ≤ j + k then .string ⟨(Lib.decDigits (byteP a j)).toArray⟩ else .string ⟨#[]⟩
def CellsP (w : World) (B a k : Nat) : Prop := ∀ j, j < 4 → w.cell? ⟨B, j, none⟩ = some (cellP a k j) ∧ w.frozen? ⟨B, j, none⟩ = false
theorem CellsP.below {w w' : World} {B a k : Nat} (h : CellsP w B a k) (hb : Below w.heap.size w w') : CellsP w' B a k := fun j hj => by
  have hl := World.block_lt_of_cell? w _ (h j hj).1
  exact ⟨(hb.cell hl).trans (h j hj).1, (hb.frozen hl).trans (h j hj).2⟩
theorem CellsP.set {w : World} {B a k : Nat} {R : ByteArray} (h : CellsP w B a k) (hk : k < 4) (hR : StrIs R (Lib.decDigits (byteP a (3 - k)))) : CellsP (w.setCell ⟨B, 3 - k, none⟩ (.string R)) B a (k + 1) := fun j hj => by
  refine ⟨?_, by rw [World.frozen?_setCell]; exact (h j hj).2⟩
  by_cases e : j = 3 - k
  · subst e
    rw [World.cell?_setCell_same (u := cellP a k (3 - k)) _ _ _ (h _ (by omega)).1]
    unfold cellP
    rw [if_pos (by omega), ← hR.is]
  · have ne : (⟨B, 3 - k, none⟩ : Addr) ≠ ⟨B, j, none⟩ := by
      intro e2
      injection e2 with _ e3 _
      exact e e3.symm
    rw [World.cell?_setCell_other _ _ _ _ ne, (h j hj).1]
    unfold cellP
    by_cases h4 : 4 ≤ j + k
    · rw [if_pos h4, if_pos (by omega)]
    · rw [if_neg h4, if_neg (by omega)]
theorem run_make_t (w : World) : ∃ w', (Instr.makeSlice 49 (.int .i64 4) (.int .i64 4)).run Tryd.prog w = .ok (.slice (some ⟨w.heap.size, 0, none⟩) 4 4) w' ∧ (∀ a, CellsP w' w.heap.size a 0) ∧ Below w.heap.size w w' ∧ w.heap.size < w'.heap.size := by
  obtain ⟨i, hi, hz, hs, hb⟩ := info_txt18
  obtain ⟨w', h1, h2, h3⟩ := run_make_full (P := Tryd.prog) w w.heap.size 49 9 i _ 1 Tryd.underlying49 hi hz hs .i64 .i64 4 (by rw [hb]; omega) (by unfold maxLen; omega) (Nat.le_refl _)
  have hc : ∀ j, j < 4 → w'.cell? ⟨w.heap.size, j, none⟩ = some (.string ⟨#[]⟩) := fun j hj => by
    have h := h2.cells (g := w.heap.size) rfl j (.string ⟨#[]⟩) (by
      have : j = 0 ∨ j = 1 ∨ j = 2 ∨ j = 3 := by omega
      rcases this with rfl | rfl | rfl | rfl <;> simp [madeCells, Value.cells])
    have e : (⟨w.heap.size, 0, none⟩ : Addr).add j = ⟨w.heap.size, j, none⟩ := by unfold Addr.add; split <;> simp_all
    rw [e] at h
    exact h
  refine ⟨w', h1, fun a j hj => ⟨?_, ?_⟩, (Below.refl _ w).grown h3 (Nat.le_refl _) (fun g hg => by cases hg), ?_⟩
  · rw [hc j hj]
    unfold cellP
    rw [if_neg (by omega)]
  · rcases h2.2 with ⟨h4, _⟩ | ⟨g, cap, cur, h4, _, h5, _, _, h6, h7⟩
    · cases h4
    · injection h4 with h4 _ _
      injection h4 with h4
      injection h4 with h4 _ _
      subst h4
      simp [World.frozen?, h5]
  · exact World.block_lt_of_cell? w' _ (hc 0 (by omega))
theorem joinA (a : Nat) : Lib.join ([(⟨(Lib.decDigits (byteP a 0)).toArray⟩ : ByteArray), ⟨(Lib.decDigits (byteP a 1)).toArray⟩, ⟨(Lib.decDigits (byteP a 2)).toArray⟩, ⟨(Lib.decDigits (byteP a 3)).toArray⟩].map (·.data.toList)) ((⟨#[46]⟩ : ByteArray).data.toList) = txtA a := by
  simp only [List.map_cons, List.map_nil]
  rw [Lib.join_cons]
  unfold Lib.joinTail txtA
  simp
set_option maxHeartbeats 3200000 in
set_option maxRecDepth 100000 in
theorem print_any18 (a : Nat) (w : World) (ha : a < 4294967296) (ht : Tab w) : Calls Tryd.prog 11 #[.int .u32 (a : Int)] w (RetTx (txtA a) w) := by
  obtain ⟨w1, hmk, hC1, b1, lt1⟩ := run_make_t w
  have HT := Lib.hid ht
  have HC1 := Lib.hid hC1
  clear ht hC1
  go_enter Tryd.func11, Tryd.ntmps11
  go_wp2
  go_loopw [0, 6] (fun v0 v6 wr => ∃ k A : Nat, k ≤ 4 ∧ v0 = .int .u32 (A : Int) ∧ v6 = .int .i64 (k : Int) ∧ A = a / 256 ^ k ∧ CellsP wr w.heap.size a k ∧ Below w.heap.size w wr ∧ w.heap.size < wr.heap.size) (fun _ v6 _ => 4 - (intOf v6).toNat)
  case atStart => exact ⟨0, a, by omega, rfl, rfl, by simp, HC1.out a, b1, lt1⟩
  case round =>
    obtain ⟨k, A, hk, rfl, rfl, hA, hC, hB, hBl⟩ := hrel
    obtain ⟨wi, hwi⟩ : ∃ wi, wi = wr := ⟨_, rfl⟩
    subst hwi
    have hAl : A < 4294967296 := by
      have := Nat.div_le_self a (256 ^ k)
      omega
    have HC := Lib.hid hC
    have HB := Lib.hid hB
    have HA := Lib.hid hA
    clear hC hB hA
    by_cases hlt : k < 4
    · obtain ⟨d, hd⟩ : ∃ d, d = byteP a (3 - k) := ⟨_, rfl⟩
      have hdA : d = A % 256 := by
        rw [hd, HA.out]
        unfold byteP
        rw [show 3 - (3 - k) = k by omega]
      have hbd : bits .and .u32 (A : Int) 255 = (d : Int) := by rw [bits_byte hAl, hdA]
      have hd5 : d ≤ 255 := by omega
      obtain ⟨A2, hA2⟩ : ∃ A2, A2 = A / 256 := ⟨_, rfl⟩
      have hsh : (A : Int) / 256 = (A2 : Int) := by omega
      have HA2 : Hid (A2 = a / 256 ^ (k + 1)) := by
        show _ = _
        rw [hA2, HA.out, Nat.pow_succ, Nat.div_div_eq_div_mul]
      have HD := Lib.hid hd
      have CI := fun w ht => itoa_any18 d w (by omega) ht
      clear hd hdA hA2
      have hk4 : k = 0 ∨ k = 1 ∨ k = 2 ∨ k = 3 := by omega
      rcases hk4 with rfl | rfl | rfl | rfl
      all_goals
        go_wp2_with fail
        refine (CI _ (HT.out.below HB.out)).mono ?_
        rintro e w2 ⟨R, rfl, hR, b2⟩
        have hC2 := HC.out.below b2
        have hC3 := hC2.set (by omega) (by rw [← HD.out]; exact hR)
        have hl2 : w.heap.size < w2.heap.size := Nat.lt_of_lt_of_le hBl b2.size
        have HB2 : ∀ o, Hid (Below w.heap.size w (w2.setCell ⟨w.heap.size, o, none⟩ (.string R))) := fun o => (HB.out.trans (b2.mono HB.out.size)).setCell (p := ⟨w.heap.size, o, none⟩) (Nat.le_refl _) (.string R)
        obtain ⟨c0, f0⟩ := hC2 0 (by omega)
        obtain ⟨c1, f1⟩ := hC2 1 (by omega)
        obtain ⟨c2, f2⟩ := hC2 2 (by omega)
        obtain ⟨c3, f3⟩ := hC2 3 (by omega)
        have HC3 := Lib.hid hC3
        clear hC2 hC3
        go_wp2
        clear c0 f0 c1 f1 c2 f2 c3 f3
        go_roundw
        case rel => exact ⟨_, A2, by omega, rfl, by go_num, HA2.out, HC3.out, (HB2 _).out, by simpa using hl2⟩
        case measure => simp [intOf] <;> omega
    · obtain rfl : k = 4 := by omega
      have CJ : Calls Tryd.prog 29 #[.slice (some ⟨w.heap.size, 0, none⟩) 4 4, .string ⟨#[46]⟩] wi (RetTx (txtA a) wi) := by
        refine (strings_Join w.heap.size 0 4 [⟨(Lib.decDigits (byteP a 0)).toArray⟩, ⟨(Lib.decDigits (byteP a 1)).toArray⟩, ⟨(Lib.decDigits (byteP a 2)).toArray⟩, ⟨(Lib.decDigits (byteP a 3)).toArray⟩] ⟨#[46]⟩ wi ?_ hBl (by simp) (by simp) ?_).mono ?_
        · intro j x hx
          have hj : j < 4 := (List.getElem?_eq_some_iff.1 hx).1
          have h1 := (HC.out j hj).1
          unfold cellP at h1
          rw [if_pos (by omega)] at h1
          rw [Nat.zero_add, h1]
          have h4 : j = 0 ∨ j = 1 ∨ j = 2 ∨ j = 3 := by omega
          rcases h4 with rfl | rfl | rfl | rfl <;> (simp at hx; rw [hx])
        · have e := joinA a
          show (Lib.join _ _).length ≤ _
          rw [e]
          have l0 := dec_len (n := byteP a 0) (by have := byteP_lt a 0; omega)
          have l1 := dec_len (n := byteP a 1) (by have := byteP_lt a 1; omega)
          have l2 := dec_len (n := byteP a 2) (by have := byteP_lt a 2; omega)
          have l3 := dec_len (n := byteP a 3) (by have := byteP_lt a 3; omega)
          simp only [txtA, List.length_append, List.length_singleton]
          omega
        · rintro e w' ⟨rfl, hb⟩
          refine ⟨_, rfl, ?_, hb⟩
          show _ = _
          exact joinA a
      have HJ := Lib.hid CJ
      clear CJ
      go_wp2_with fail
      refine HJ.out.mono ?_
      rintro e w2 ⟨R, rfl, hR, b2⟩
      go_wp2
      go_ret
      exact ⟨_, rfl, hR, HB.out.trans (b2.mono HB.out.size)⟩
end Go.Proofs.YtbfflcpmagjlnaaDoor.adr
