/- A number's digits: base.Itoa of a number from 0 on; strconv.Itoa's contract brought to the same words. Condition: as each says. -/
import Derived.Test.YtbfflcpmagjlnaaDoorAdrM
import Derived.Test.YtbfflcpmagjlnaaDoorAdrL
import Derived.Lib.ItoaLen
import Derived.Lib.ItoaMem
namespace Go.Proofs.YtbfflcpmagjlnaaDoor.adr
open Go.RowKit Go.Proofs.YtbfflcpmagjlnaaDoor.num Go.Proofs.YtbfflcpmagjlnaaDoor.mem Go.Proofs.YtbfflcpmagjlnaaDoor.txt Go.Proofs.YtbfflcpmagjlnaaDoor.str
set_option linter.unusedVariables false
set_option linter.unusedSimpArgs false
/-- The digits of what is left; none of 0. -/
def decT (x : Nat) : List UInt8 := if x = 0 then [] else Lib.decDigits x
theorem decT_step {x : Nat} (h : x ≠ 0) : decT x = decT (x / 10) ++ [UInt8.ofNat (48 + x % 10)] := by
  unfold decT
  rw [if_neg h]
  by_cases h1 : x < 10
  · rw [Lib.decDigits_one h1, if_pos (by omega), Nat.mod_eq_of_lt h1]; rfl
  · rw [if_neg (by omega), Lib.decDigits, dif_neg h1]
theorem dec_len {n : Nat} (h : n ≤ 9223372036854775807) : (Lib.decDigits n).length ≤ 21 := by
  rw [← Lib.itoa_nonneg]
  exact Lib.itoa_length_le _ (by omega) (by omega)
theorem conv18 (C : UInt8) (t : Int) (h : ((C.toNat : Nat) : Int) = t) (W : World) : (convert 58 9 (.slice (some ⟨W.heap.size, 0, none⟩) 1 1)).run Tryd.prog (W.alloc (.cells #[.int .u8 t] 5)) = .ok (.string ⟨#[C]⟩) (W.alloc (.cells #[.int .u8 t] 5)) := by
  refine run_convert_bytes_back _ _ _ 5 _ 1 [C] Tryd.underlying58 Tryd.underlying5 Tryd.underlying9 fun j hj => ?_
  have hj0 : j = 0 := by
    have h : j < 1 := hj
    omega
  subst hj0
  have e : (⟨W.heap.size, 0, none⟩ : Addr).add 0 = ⟨W.heap.size, 0, none⟩ := by unfold Addr.add; split <;> simp_all
  rw [e, World.cell?_alloc_new]
  show _ = some (Value.int .u8 ((C.toNat : Nat) : Int))
  rw [h]
  rfl
theorem str_front {T : ByteArray} {m : List UInt8} (h : StrIs T m) (C : UInt8) : StrIs (⟨#[C]⟩ ++ T) (C :: m) := by
  subst h
  show (ByteArray.append ⟨#[C]⟩ T).data.toList = _
  simp [ByteArray.append]
/-- A text, in whatever memory. -/
def RetTx (l : List UInt8) (w : World) (e : Ending) (w' : World) : Prop := ∃ R, e = .returned (.string R) ∧ StrIs R l ∧ Below w.heap.size w w'
set_option maxHeartbeats 3200000 in
set_option maxRecDepth 100000 in
theorem ritoa_any (n : Nat) (w : World) (hn : n ≤ 9223372036854775807) : Calls Tryd.prog 30 #[.int .i64 (n : Int)] w (RetTx (Lib.decDigits n) w) := by
  by_cases h0 : n = 0
  · subst h0
    have HE : Hid (Lib.decDigits 0 = [48]) := by show _ = _; rw [Lib.decDigits_one (by omega)]; rfl
    go_enter Tryd.func30, Tryd.ntmps30
    go_wp2
    go_ret
    exact ⟨_, rfl, by rw [HE.out]; rfl, Below.refl _ _⟩
  have hz : ((n : Int) == 0) = false := by rw [beq_eq_false_iff_ne]; omega
  have hn0 : ¬ (n : Int) < 0 := by omega
  have HL := Lib.hid (dec_len hn)
  have HD : Hid (decT n = Lib.decDigits n) := by show _ = _; unfold decT; rw [if_neg h0]
  clear h0
  go_enter Tryd.func30, Tryd.ntmps30
  go_wp2
  go_loopw [3, 4] (fun v3 v4 wr => ∃ (x : Nat) (R : ByteArray) (s : List UInt8), v3 = .string R ∧ v4 = .int .i64 (x : Int) ∧ Hid (StrIs R s) ∧ Hid (decT x ++ s = Lib.decDigits n) ∧ x ≤ n ∧ Hid (Below w.heap.size w wr)) (fun _ v4 _ => (intOf v4).toNat)
  case atStart => exact ⟨n, ⟨#[]⟩, [], rfl, rfl, rfl, by show _ = _; rw [List.append_nil]; exact HD.out, Nat.le_refl _, Below.refl _ _⟩
  case round =>
    obtain ⟨x, R, s, rfl, rfl, HR, HX, hx, HB⟩ := hrel
    obtain ⟨wi, hwi⟩ : ∃ wi, wi = wr := ⟨_, rfl⟩
    subst hwi
    have hsl : R.size ≤ 21 := by
      have h1 := congrArg List.length HX.out
      rw [List.length_append] at h1
      rw [HR.out.size]
      have := HL.out
      omega
    by_cases hx0 : x = 0
    · subst hx0
      have HE : Hid (s = Lib.decDigits n) := by
        show _ = _
        rw [← HX.out]; rfl
      have hxz : (((0 : Nat) : Int) != 0) = false := rfl
      go_wp2
      go_ret
      exact ⟨_, rfl, by rw [← HE.out]; exact HR.out, HB.out⟩
    · have hxz : ((x : Int) != 0) = true := by rw [bne_iff_ne]; omega
      have hxz2 : ((x : Int) == 0) = false := by rw [beq_eq_false_iff_ne]; omega
      obtain ⟨d, hd⟩ : ∃ d, d = x % 10 := ⟨_, rfl⟩
      obtain ⟨y, hy⟩ : ∃ y, y = x / 10 := ⟨_, rfl⟩
      obtain ⟨C, hC⟩ : ∃ C, C = UInt8.ofNat (48 + x % 10) := ⟨_, rfl⟩
      have hd9 : d ≤ 9 := by omega
      have hyx : y < x := by omega
      have hmod : (x : Int).tmod 10 = (d : Int) := by rw [Int.tmod_eq_emod_of_nonneg (by omega)]; omega
      have hdiv : (x : Int).tdiv 10 = (y : Int) := by rw [Int.tdiv_eq_ediv_of_nonneg (by omega)]; omega
      have hCn : ((C.toNat : Nat) : Int) = 48 + (d : Int) := by rw [hC, UInt8.toNat_ofNat']; omega
      have hci := conv18 C (48 + (d : Int)) hCn
      have HX2 : Hid (decT y ++ (C :: s) = Lib.decDigits n) := by
        show _ = _
        rw [← HX.out, decT_step hx0, hC, hy, List.append_assoc]; rfl
      have hd0 : ¬ (d : Int) < 0 := by omega
      have HR2 : Hid (StrIs (⟨#[C]⟩ ++ R) (C :: s)) := str_front HR.out C
      clear hd hy hC hCn hx0 HX HR
      go_wp2
      go_roundw
      case rel => exact ⟨y, _, _, rfl, rfl, HR2, HX2, by omega, HB.out.alloc HB.out.size _⟩
      case measure => simp [intOf] <;> omega
/-- The table of the powers of ten, as the row lists it. -/
def Tab (w : World) : Prop := Lib.TabIs Tryd.prog w "internal/strconv.uint64pow10" .u64 Lib.pow10Tab
theorem Tab.below {w w' : World} (h : Tab w) (hb : Below w.heap.size w w') : Tab w' := by
  have hg : Tryd.prog.globalNamed "internal/strconv.uint64pow10" = some 1 := by kernel_rfl
  unfold Tab Lib.TabIs World.var? at h ⊢
  rw [hg] at h ⊢
  simp only [Option.bind_some] at h ⊢
  have hlt : 1 < w.heap.size := by
    rcases Nat.lt_or_ge 1 w.heap.size with h' | h'
    · exact h'
    · rw [Array.getElem?_eq_none h'] at h; cases h
  rw [hb.block 1 hlt]
  exact h
theorem below_grow {B : Nat} {a w : World} (h : Below B a w) (hB : B ≤ w.heap.size) (os : Array Obj) : Below B a (Go.Sort.grow w os) :=
  ⟨h.os, h.tape, h.output, by show _ ≤ (w.heap ++ os).size; rw [Array.size_append]; have := h.size; omega, fun k hk => by
    show (w.heap ++ os)[k]? = _
    rw [Array.getElem?_append_left (by omega)]
    exact h.block k hk⟩
theorem itoa_any18 (n : Nat) (w : World) (hn : n ≤ 9223372036854775807) (ht : Tab w) : Calls Tryd.prog 28 #[.int .i64 (n : Int)] w (RetTx (Lib.decDigits n) w) := by
  refine (strconv_Itoa (n : Int) (by omega) (by omega) w ht).mono ?_
  rintro e w' ⟨rfl, k, os, rfl⟩
  rw [Lib.itoa_nonneg]
  exact ⟨_, rfl, rfl, below_grow (below_drewN (Below.refl _ _) _) (Nat.le_refl _) os⟩
end Go.Proofs.YtbfflcpmagjlnaaDoor.adr
