/- Numbers of one to three digits: addr.number and the document's. Condition: the text is of at most 1000000 bytes. -/
import Derived.Test.YtbfflcpmagjlnaaDoorAdrC
namespace Go.Proofs.YtbfflcpmagjlnaaDoor.adr
open Go.RowKit Go.Proofs.YtbfflcpmagjlnaaDoor.num Go.Proofs.YtbfflcpmagjlnaaDoor.mem Go.Proofs.YtbfflcpmagjlnaaDoor.txt Go.Proofs.YtbfflcpmagjlnaaDoor.str
set_option linter.unusedVariables false
/-- A number, and whether there is one; the world is as it was. -/
def RetNB (k : IntKind) (n : Nat) (b : Bool) (w : World) (e : Ending) (w' : World) : Prop := e = .returned (.tuple #[.int k (n : Int), .bool b]) ∧ w' = w
theorem digB_int (c : UInt8) : digB c = true ↔ 48 ≤ ((c.toNat : Nat) : Int) ∧ ((c.toNat : Nat) : Int) ≤ 57 := by
  unfold digB
  rw [decide_eq_true_iff]
  omega
set_option maxHeartbeats 1600000 in
set_option maxRecDepth 100000 in
theorem number_any (S : ByteArray) (l : List UInt8) (b : Bool) (n : Nat) (w : World) (hS : StrIs S l) (hl : l.length ≤ 1000000) (hb : b = true ↔ numOk l) (hn : n = if b then numV l else 0) : Calls Tryd.prog 25 #[.string S] w (RetNB .u32 n b w) := by
  have hsz := hS.size
  have hE : (S.toList == []) = (l == []) := by rw [Lib.toList_data, show S.data.toList = l from hS]
  have hZ : (S.toList == [48]) = (l == [48]) := by rw [Lib.toList_data, show S.data.toList = l from hS]
  have HB := Lib.hid hb
  have HN := Lib.hid hn
  have HS := Lib.hid hS
  have hno : ¬ numOk l → b = false ∧ n = 0 := fun h => by
    have e : b = false := Bool.eq_false_iff.2 fun x => h (HB.out.1 x)
    exact ⟨e, by rw [HN.out, e]; rfl⟩
  clear hb hn hS
  by_cases h0 : l = []
  · obtain ⟨rfl, rfl⟩ := hno fun h => by have := h.1.1; rw [h0] at this; exact absurd this (by decide)
    rw [h0] at hE hsz
    have hE : (S.toList == []) = true := hE
    have hsz : S.size = 0 := hsz
    clear hno hZ h0
    go_enter Tryd.func25, Tryd.ntmps25
    go_wp2
    go_ret2
    exact ⟨rfl, rfl⟩
  have hpos : 0 < S.size := by rw [hsz]; exact List.length_pos_iff.2 h0
  rw [beq_eq_false_iff_ne.2 h0] at hE
  by_cases h3 : 3 < S.size
  · obtain ⟨rfl, rfl⟩ := hno fun h => by have := h.1.2.1; omega
    have h3' : (3 : Int) < (S.size : Int) := by omega
    have h1' : ¬ (S.size : Int) < 1 := by omega
    clear hno hZ h0 hsz
    go_enter Tryd.func25, Tryd.ntmps25
    go_wp2
    go_ret2
    exact ⟨rfl, rfl⟩
  have h3' : ¬ (3 : Int) < (S.size : Int) := by omega
  have h1' : ¬ (S.size : Int) < 1 := by omega
  obtain ⟨c0, hc0⟩ : ∃ c, c = S[0]'hpos := ⟨_, rfl⟩
  have hat0 : l[0]? = some c0 := by rw [hc0]; exact HS.out.at_ hpos
  obtain ⟨cI0, hcI0⟩ : ∃ cI : Int, cI = ((c0.toNat : Nat) : Int) := ⟨_, rfl⟩
  have hcI02 : ((S[0]'hpos).toNat : Int) = cI0 := by rw [← hc0, hcI0]
  have hl48 : l = [48] ↔ cI0 = 48 ∧ ¬ 1 < S.size := by
    constructor
    · intro e
      subst e
      obtain rfl : (48 : UInt8) = c0 := by simpa using hat0
      exact ⟨hcI0, by rw [hsz]; decide⟩
    · rintro ⟨e1, e2⟩
      have e3 : c0 = 48 := UInt8.toNat_inj.1 (by have : (48 : UInt8).toNat = 48 := rfl; omega)
      subst e3
      rcases l with _ | ⟨x, _ | ⟨y, t⟩⟩
      · simp at hat0
      · obtain rfl : x = 48 := by simpa using hat0
        rfl
      · simp at hsz; omega
  by_cases hlead : cI0 = 48 ∧ 1 < S.size
  · obtain ⟨rfl, rfl⟩ := hno fun h => h.1.2.2 ⟨by omega, by
      have e3 : c0 = 48 := UInt8.toNat_inj.1 (by have : (48 : UInt8).toNat = 48 := rfl; omega)
      rw [hat0, e3]⟩
    obtain ⟨e1, e2⟩ := hlead
    replace hZ : (S.toList == [48]) = false := by rw [hZ, beq_eq_false_iff_ne]; exact fun e => (hl48.1 e).2 e2
    have hZ2 : (S.toList != [48]) = true := by rw [bne, hZ]; rfl
    have h1'' : (1 : Int) < (S.size : Int) := by omega
    have e1' : (cI0 == 48) = true := by rw [e1]; rfl
    clear hno hl48 hcI0 hc0 hat0 hsz
    go_enter Tryd.func25, Tryd.ntmps25
    go_wp2
    go_ret2
    exact ⟨rfl, rfl⟩
  have HF : Hid (formOk l) := ⟨by omega, by omega, fun ⟨x, y⟩ => hlead ⟨by rw [hat0] at y; injection y with y; rw [hcI0, y]; rfl, by omega⟩⟩
  by_cases e1 : cI0 = 48
  · have e1' : (cI0 == 48) = true := by rw [e1]; rfl
    replace hZ : (S.toList == [48]) = true := by rw [hZ, beq_iff_eq]; exact hl48.2 ⟨e1, by omega⟩
    have hZ2 : (S.toList != [48]) = false := by rw [bne, hZ]; rfl
    have h1'' : ¬ (1 : Int) < (S.size : Int) := by omega
    clear hlead hl48 hcI0 hc0 hat0
    have HSZ := Lib.hid hsz
    clear hsz
    go_enter Tryd.func25, Tryd.ntmps25
    go_wp2
    go_loop [4, 24] (fun v4 v24 => ∃ k : Nat, k ≤ S.size ∧ Hid (digTo l k) ∧ v4 = .int .u32 ((numV (l.take k) : Nat) : Int) ∧ v24 = .int .i64 (k : Int)) (fun _ v24 => S.size - (intOf v24).toNat)
    case atStart => exact ⟨0, by omega, fun c hc => by simp at hc, rfl, rfl⟩
    case round =>
      obtain ⟨k, hk, HD, rfl, rfl⟩ := hrel
      have hv9 := numV_take HD.out (by rw [← HSZ.out]; omega)
      obtain ⟨v, hv⟩ : ∃ v, v = numV (l.take k) := ⟨_, rfl⟩
      have HV := Lib.hid hv
      rw [← hv] at hv9 ⊢
      clear hv
      by_cases hlt : k < S.size
      · obtain ⟨c, hc⟩ : ∃ c, c = S[k]'hlt := ⟨_, rfl⟩
        have hat : l[k]? = some c := by rw [hc]; exact HS.out.at_ hlt
        obtain ⟨cI, hcI⟩ : ∃ cI : Int, cI = ((c.toNat : Nat) : Int) := ⟨_, rfl⟩
        have hcI2 : ((S[k]'hlt).toNat : Int) = cI := by rw [← hc, hcI]
        have hdig : digB c = true ↔ 48 ≤ cI ∧ cI ≤ 57 := by rw [hcI]; exact digB_int c
        have hcb : 0 ≤ cI ∧ cI ≤ 255 := by have := c.toNat_lt; omega
        obtain ⟨hcb1, hcb2⟩ := hcb
        have HAT := Lib.hid hat
        have HCI := Lib.hid hcI
        clear hat hc hcI
        by_cases h48 : 48 ≤ cI
        · have h48' : ¬ cI < 48 := by omega
          by_cases h57 : cI ≤ 57
          · have h57' : ¬ 57 < cI := by omega
            have hst := digTo_succ HD.out HAT.out (hdig.2 ⟨h48, h57⟩)
            have HD2 : Hid (digTo l (k + 1)) := hst.1
            have HV2 : Hid (((numV (l.take (k + 1)) : Nat) : Int) = 10 * (v : Int) + (cI - 48)) := by
              show _ = _
              rw [hst.2, ← HV.out]
              have := HCI.out
              omega
            clear hst hdig HD
            go_wp2
            go_round
            case rel => exact ⟨k + 1, by omega, HD2, by rw [HV2.out] <;> go_num, by go_num⟩
            case measure => simp [intOf]; omega
          · have h57' : 57 < cI := by omega
            obtain ⟨rfl, rfl⟩ := hno (not_dig HAT.out (Bool.eq_false_iff.2 fun h => h57 (hdig.1 h).2))
            clear hdig hno
            go_wp2
            go_ret2
            exact ⟨rfl, rfl⟩
        · have h48' : cI < 48 := by omega
          obtain ⟨rfl, rfl⟩ := hno (not_dig HAT.out (Bool.eq_false_iff.2 fun h => h48 (hdig.1 h).1))
          clear hdig hno
          go_wp2
          go_ret2
          exact ⟨rfl, rfl⟩
      · have hok := numOk_of HF.out HD.out (by rw [← HSZ.out]; omega)
        obtain rfl : b = true := HB.out.2 hok
        have HNV : Hid (n = v) := by
          show n = v
          rw [HN.out, if_pos rfl, HV.out, List.take_of_length_le (by rw [← HSZ.out]; omega)]
        clear hok
        go_wp2
        go_ret2
        exact ⟨by rw [HNV.out]; rfl, rfl⟩
  · have e1' : (cI0 == 48) = false := by rw [beq_eq_false_iff_ne]; exact e1
    clear hlead hl48 hcI0 hc0 hat0 hZ
    have HSZ := Lib.hid hsz
    clear hsz
    go_enter Tryd.func25, Tryd.ntmps25
    go_wp2
    go_loop [4, 24] (fun v4 v24 => ∃ k : Nat, k ≤ S.size ∧ Hid (digTo l k) ∧ v4 = .int .u32 ((numV (l.take k) : Nat) : Int) ∧ v24 = .int .i64 (k : Int)) (fun _ v24 => S.size - (intOf v24).toNat)
    case atStart => exact ⟨0, by omega, fun c hc => by simp at hc, rfl, rfl⟩
    case round =>
      obtain ⟨k, hk, HD, rfl, rfl⟩ := hrel
      have hv9 := numV_take HD.out (by rw [← HSZ.out]; omega)
      obtain ⟨v, hv⟩ : ∃ v, v = numV (l.take k) := ⟨_, rfl⟩
      have HV := Lib.hid hv
      rw [← hv] at hv9 ⊢
      clear hv
      by_cases hlt : k < S.size
      · obtain ⟨c, hc⟩ : ∃ c, c = S[k]'hlt := ⟨_, rfl⟩
        have hat : l[k]? = some c := by rw [hc]; exact HS.out.at_ hlt
        obtain ⟨cI, hcI⟩ : ∃ cI : Int, cI = ((c.toNat : Nat) : Int) := ⟨_, rfl⟩
        have hcI2 : ((S[k]'hlt).toNat : Int) = cI := by rw [← hc, hcI]
        have hdig : digB c = true ↔ 48 ≤ cI ∧ cI ≤ 57 := by rw [hcI]; exact digB_int c
        have hcb : 0 ≤ cI ∧ cI ≤ 255 := by have := c.toNat_lt; omega
        obtain ⟨hcb1, hcb2⟩ := hcb
        have HAT := Lib.hid hat
        have HCI := Lib.hid hcI
        clear hat hc hcI
        by_cases h48 : 48 ≤ cI
        · have h48' : ¬ cI < 48 := by omega
          by_cases h57 : cI ≤ 57
          · have h57' : ¬ 57 < cI := by omega
            have hst := digTo_succ HD.out HAT.out (hdig.2 ⟨h48, h57⟩)
            have HD2 : Hid (digTo l (k + 1)) := hst.1
            have HV2 : Hid (((numV (l.take (k + 1)) : Nat) : Int) = 10 * (v : Int) + (cI - 48)) := by
              show _ = _
              rw [hst.2, ← HV.out]
              have := HCI.out
              omega
            clear hst hdig HD
            go_wp2
            go_round
            case rel => exact ⟨k + 1, by omega, HD2, by rw [HV2.out] <;> go_num, by go_num⟩
            case measure => simp [intOf]; omega
          · have h57' : 57 < cI := by omega
            obtain ⟨rfl, rfl⟩ := hno (not_dig HAT.out (Bool.eq_false_iff.2 fun h => h57 (hdig.1 h).2))
            clear hdig hno
            go_wp2
            go_ret2
            exact ⟨rfl, rfl⟩
        · have h48' : cI < 48 := by omega
          obtain ⟨rfl, rfl⟩ := hno (not_dig HAT.out (Bool.eq_false_iff.2 fun h => h48 (hdig.1 h).1))
          clear hdig hno
          go_wp2
          go_ret2
          exact ⟨rfl, rfl⟩
      · have hok := numOk_of HF.out HD.out (by rw [← HSZ.out]; omega)
        obtain rfl : b = true := HB.out.2 hok
        have HNV : Hid (n = v) := by
          show n = v
          rw [HN.out, if_pos rfl, HV.out, List.take_of_length_le (by rw [← HSZ.out]; omega)]
        clear hok
        go_wp2
        go_ret2
        exact ⟨by rw [HNV.out]; rfl, rfl⟩
set_option maxHeartbeats 1600000 in
set_option maxRecDepth 100000 in
theorem rnumber_any (S : ByteArray) (l : List UInt8) (b : Bool) (n : Nat) (w : World) (hS : StrIs S l) (hl : l.length ≤ 1000000) (hb : b = true ↔ numOk l) (hn : n = if b then numV l else 0) : Calls Tryd.prog 27 #[.string S] w (RetNB .i64 n b w) := by
  have hsz := hS.size
  have hE : (S.toList == []) = (l == []) := by rw [Lib.toList_data, show S.data.toList = l from hS]
  have hZ : (S.toList == [48]) = (l == [48]) := by rw [Lib.toList_data, show S.data.toList = l from hS]
  have HB := Lib.hid hb
  have HN := Lib.hid hn
  have HS := Lib.hid hS
  have hno : ¬ numOk l → b = false ∧ n = 0 := fun h => by
    have e : b = false := Bool.eq_false_iff.2 fun x => h (HB.out.1 x)
    exact ⟨e, by rw [HN.out, e]; rfl⟩
  clear hb hn hS
  by_cases h0 : l = []
  · obtain ⟨rfl, rfl⟩ := hno fun h => by have := h.1.1; rw [h0] at this; exact absurd this (by decide)
    rw [h0] at hE hsz
    have hE : (S.toList == []) = true := hE
    have hsz : S.size = 0 := hsz
    clear hno hZ h0
    go_enter Tryd.func27, Tryd.ntmps27
    go_wp2
    go_ret2
    exact ⟨rfl, rfl⟩
  have hpos : 0 < S.size := by rw [hsz]; exact List.length_pos_iff.2 h0
  rw [beq_eq_false_iff_ne.2 h0] at hE
  by_cases h3 : 3 < S.size
  · obtain ⟨rfl, rfl⟩ := hno fun h => by have := h.1.2.1; omega
    have h3' : (3 : Int) < (S.size : Int) := by omega
    have h1' : ¬ (S.size : Int) < 1 := by omega
    clear hno hZ h0 hsz
    go_enter Tryd.func27, Tryd.ntmps27
    go_wp2
    go_ret2
    exact ⟨rfl, rfl⟩
  have h3' : ¬ (3 : Int) < (S.size : Int) := by omega
  have h1' : ¬ (S.size : Int) < 1 := by omega
  obtain ⟨c0, hc0⟩ : ∃ c, c = S[0]'hpos := ⟨_, rfl⟩
  have hat0 : l[0]? = some c0 := by rw [hc0]; exact HS.out.at_ hpos
  obtain ⟨cI0, hcI0⟩ : ∃ cI : Int, cI = ((c0.toNat : Nat) : Int) := ⟨_, rfl⟩
  have hcI02 : ((S[0]'hpos).toNat : Int) = cI0 := by rw [← hc0, hcI0]
  have hl48 : l = [48] ↔ cI0 = 48 ∧ ¬ 1 < S.size := by
    constructor
    · intro e
      subst e
      obtain rfl : (48 : UInt8) = c0 := by simpa using hat0
      exact ⟨hcI0, by rw [hsz]; decide⟩
    · rintro ⟨e1, e2⟩
      have e3 : c0 = 48 := UInt8.toNat_inj.1 (by have : (48 : UInt8).toNat = 48 := rfl; omega)
      subst e3
      rcases l with _ | ⟨x, _ | ⟨y, t⟩⟩
      · simp at hat0
      · obtain rfl : x = 48 := by simpa using hat0
        rfl
      · simp at hsz; omega
  by_cases hlead : cI0 = 48 ∧ 1 < S.size
  · obtain ⟨rfl, rfl⟩ := hno fun h => h.1.2.2 ⟨by omega, by
      have e3 : c0 = 48 := UInt8.toNat_inj.1 (by have : (48 : UInt8).toNat = 48 := rfl; omega)
      rw [hat0, e3]⟩
    obtain ⟨e1, e2⟩ := hlead
    replace hZ : (S.toList == [48]) = false := by rw [hZ, beq_eq_false_iff_ne]; exact fun e => (hl48.1 e).2 e2
    have hZ2 : (S.toList != [48]) = true := by rw [bne, hZ]; rfl
    have h1'' : (1 : Int) < (S.size : Int) := by omega
    have e1' : (cI0 == 48) = true := by rw [e1]; rfl
    clear hno hl48 hcI0 hc0 hat0 hsz
    go_enter Tryd.func27, Tryd.ntmps27
    go_wp2
    go_ret2
    exact ⟨rfl, rfl⟩
  have HF : Hid (formOk l) := ⟨by omega, by omega, fun ⟨x, y⟩ => hlead ⟨by rw [hat0] at y; injection y with y; rw [hcI0, y]; rfl, by omega⟩⟩
  by_cases e1 : cI0 = 48
  · have e1' : (cI0 == 48) = true := by rw [e1]; rfl
    replace hZ : (S.toList == [48]) = true := by rw [hZ, beq_iff_eq]; exact hl48.2 ⟨e1, by omega⟩
    have hZ2 : (S.toList != [48]) = false := by rw [bne, hZ]; rfl
    have h1'' : ¬ (1 : Int) < (S.size : Int) := by omega
    clear hlead hl48 hcI0 hc0 hat0
    have HSZ := Lib.hid hsz
    clear hsz
    go_enter Tryd.func27, Tryd.ntmps27
    go_wp2
    go_loop [4, 5] (fun v4 v5 => ∃ k : Nat, k ≤ S.size ∧ Hid (digTo l k) ∧ v4 = .int .i64 ((numV (l.take k) : Nat) : Int) ∧ v5 = .int .i64 (k : Int)) (fun _ v5 => S.size - (intOf v5).toNat)
    case atStart => exact ⟨0, by omega, fun c hc => by simp at hc, rfl, rfl⟩
    case round =>
      obtain ⟨k, hk, HD, rfl, rfl⟩ := hrel
      have hv9 := numV_take HD.out (by rw [← HSZ.out]; omega)
      obtain ⟨v, hv⟩ : ∃ v, v = numV (l.take k) := ⟨_, rfl⟩
      have HV := Lib.hid hv
      rw [← hv] at hv9 ⊢
      clear hv
      by_cases hlt : k < S.size
      · obtain ⟨c, hc⟩ : ∃ c, c = S[k]'hlt := ⟨_, rfl⟩
        have hat : l[k]? = some c := by rw [hc]; exact HS.out.at_ hlt
        obtain ⟨cI, hcI⟩ : ∃ cI : Int, cI = ((c.toNat : Nat) : Int) := ⟨_, rfl⟩
        have hcI2 : ((S[k]'hlt).toNat : Int) = cI := by rw [← hc, hcI]
        have hdig : digB c = true ↔ 48 ≤ cI ∧ cI ≤ 57 := by rw [hcI]; exact digB_int c
        have hcb : 0 ≤ cI ∧ cI ≤ 255 := by have := c.toNat_lt; omega
        obtain ⟨hcb1, hcb2⟩ := hcb
        have HAT := Lib.hid hat
        have HCI := Lib.hid hcI
        clear hat hc hcI
        by_cases h48 : 48 ≤ cI
        · have h48' : ¬ cI < 48 := by omega
          by_cases h57 : cI ≤ 57
          · have h57' : ¬ 57 < cI := by omega
            have hst := digTo_succ HD.out HAT.out (hdig.2 ⟨h48, h57⟩)
            have HD2 : Hid (digTo l (k + 1)) := hst.1
            have HV2 : Hid (((numV (l.take (k + 1)) : Nat) : Int) = 10 * (v : Int) + (cI - 48)) := by
              show _ = _
              rw [hst.2, ← HV.out]
              have := HCI.out
              omega
            clear hst hdig HD
            go_wp2
            go_round
            case rel => exact ⟨k + 1, by omega, HD2, by rw [HV2.out] <;> go_num, by go_num⟩
            case measure => simp [intOf]; omega
          · have h57' : 57 < cI := by omega
            obtain ⟨rfl, rfl⟩ := hno (not_dig HAT.out (Bool.eq_false_iff.2 fun h => h57 (hdig.1 h).2))
            clear hdig hno
            go_wp2
            go_ret2
            exact ⟨rfl, rfl⟩
        · have h48' : cI < 48 := by omega
          obtain ⟨rfl, rfl⟩ := hno (not_dig HAT.out (Bool.eq_false_iff.2 fun h => h48 (hdig.1 h).1))
          clear hdig hno
          go_wp2
          go_ret2
          exact ⟨rfl, rfl⟩
      · have hok := numOk_of HF.out HD.out (by rw [← HSZ.out]; omega)
        obtain rfl : b = true := HB.out.2 hok
        have HNV : Hid (n = v) := by
          show n = v
          rw [HN.out, if_pos rfl, HV.out, List.take_of_length_le (by rw [← HSZ.out]; omega)]
        clear hok
        go_wp2
        go_ret2
        exact ⟨by rw [HNV.out]; rfl, rfl⟩
  · have e1' : (cI0 == 48) = false := by rw [beq_eq_false_iff_ne]; exact e1
    clear hlead hl48 hcI0 hc0 hat0 hZ
    by_cases h1'' : (1 : Int) < (S.size : Int)
    · have HSZ := Lib.hid hsz
      clear hsz
      go_enter Tryd.func27, Tryd.ntmps27
      go_wp2
      go_loop [4, 5] (fun v4 v5 => ∃ k : Nat, k ≤ S.size ∧ Hid (digTo l k) ∧ v4 = .int .i64 ((numV (l.take k) : Nat) : Int) ∧ v5 = .int .i64 (k : Int)) (fun _ v5 => S.size - (intOf v5).toNat)
      case atStart => exact ⟨0, by omega, fun c hc => by simp at hc, rfl, rfl⟩
      case round =>
        obtain ⟨k, hk, HD, rfl, rfl⟩ := hrel
        have hv9 := numV_take HD.out (by rw [← HSZ.out]; omega)
        obtain ⟨v, hv⟩ : ∃ v, v = numV (l.take k) := ⟨_, rfl⟩
        have HV := Lib.hid hv
        rw [← hv] at hv9 ⊢
        clear hv
        by_cases hlt : k < S.size
        · obtain ⟨c, hc⟩ : ∃ c, c = S[k]'hlt := ⟨_, rfl⟩
          have hat : l[k]? = some c := by rw [hc]; exact HS.out.at_ hlt
          obtain ⟨cI, hcI⟩ : ∃ cI : Int, cI = ((c.toNat : Nat) : Int) := ⟨_, rfl⟩
          have hcI2 : ((S[k]'hlt).toNat : Int) = cI := by rw [← hc, hcI]
          have hdig : digB c = true ↔ 48 ≤ cI ∧ cI ≤ 57 := by rw [hcI]; exact digB_int c
          have hcb : 0 ≤ cI ∧ cI ≤ 255 := by have := c.toNat_lt; omega
          obtain ⟨hcb1, hcb2⟩ := hcb
          have HAT := Lib.hid hat
          have HCI := Lib.hid hcI
          clear hat hc hcI
          by_cases h48 : 48 ≤ cI
          · have h48' : ¬ cI < 48 := by omega
            by_cases h57 : cI ≤ 57
            · have h57' : ¬ 57 < cI := by omega
              have hst := digTo_succ HD.out HAT.out (hdig.2 ⟨h48, h57⟩)
              have HD2 : Hid (digTo l (k + 1)) := hst.1
              have HV2 : Hid (((numV (l.take (k + 1)) : Nat) : Int) = 10 * (v : Int) + (cI - 48)) := by
                show _ = _
                rw [hst.2, ← HV.out]
                have := HCI.out
                omega
              clear hst hdig HD
              go_wp2
              go_round
              case rel => exact ⟨k + 1, by omega, HD2, by rw [HV2.out] <;> go_num, by go_num⟩
              case measure => simp [intOf]; omega
            · have h57' : 57 < cI := by omega
              obtain ⟨rfl, rfl⟩ := hno (not_dig HAT.out (Bool.eq_false_iff.2 fun h => h57 (hdig.1 h).2))
              clear hdig hno
              go_wp2
              go_ret2
              exact ⟨rfl, rfl⟩
          · have h48' : cI < 48 := by omega
            obtain ⟨rfl, rfl⟩ := hno (not_dig HAT.out (Bool.eq_false_iff.2 fun h => h48 (hdig.1 h).1))
            clear hdig hno
            go_wp2
            go_ret2
            exact ⟨rfl, rfl⟩
        · have hok := numOk_of HF.out HD.out (by rw [← HSZ.out]; omega)
          obtain rfl : b = true := HB.out.2 hok
          have HNV : Hid (n = v) := by
            show n = v
            rw [HN.out, if_pos rfl, HV.out, List.take_of_length_le (by rw [← HSZ.out]; omega)]
          clear hok
          go_wp2
          go_ret2
          exact ⟨by rw [HNV.out]; rfl, rfl⟩
    · have HSZ := Lib.hid hsz
      clear hsz
      go_enter Tryd.func27, Tryd.ntmps27
      go_wp2
      go_loop [4, 5] (fun v4 v5 => ∃ k : Nat, k ≤ S.size ∧ Hid (digTo l k) ∧ v4 = .int .i64 ((numV (l.take k) : Nat) : Int) ∧ v5 = .int .i64 (k : Int)) (fun _ v5 => S.size - (intOf v5).toNat)
      case atStart => exact ⟨0, by omega, fun c hc => by simp at hc, rfl, rfl⟩
      case round =>
        obtain ⟨k, hk, HD, rfl, rfl⟩ := hrel
        have hv9 := numV_take HD.out (by rw [← HSZ.out]; omega)
        obtain ⟨v, hv⟩ : ∃ v, v = numV (l.take k) := ⟨_, rfl⟩
        have HV := Lib.hid hv
        rw [← hv] at hv9 ⊢
        clear hv
        by_cases hlt : k < S.size
        · obtain ⟨c, hc⟩ : ∃ c, c = S[k]'hlt := ⟨_, rfl⟩
          have hat : l[k]? = some c := by rw [hc]; exact HS.out.at_ hlt
          obtain ⟨cI, hcI⟩ : ∃ cI : Int, cI = ((c.toNat : Nat) : Int) := ⟨_, rfl⟩
          have hcI2 : ((S[k]'hlt).toNat : Int) = cI := by rw [← hc, hcI]
          have hdig : digB c = true ↔ 48 ≤ cI ∧ cI ≤ 57 := by rw [hcI]; exact digB_int c
          have hcb : 0 ≤ cI ∧ cI ≤ 255 := by have := c.toNat_lt; omega
          obtain ⟨hcb1, hcb2⟩ := hcb
          have HAT := Lib.hid hat
          have HCI := Lib.hid hcI
          clear hat hc hcI
          by_cases h48 : 48 ≤ cI
          · have h48' : ¬ cI < 48 := by omega
            by_cases h57 : cI ≤ 57
            · have h57' : ¬ 57 < cI := by omega
              have hst := digTo_succ HD.out HAT.out (hdig.2 ⟨h48, h57⟩)
              have HD2 : Hid (digTo l (k + 1)) := hst.1
              have HV2 : Hid (((numV (l.take (k + 1)) : Nat) : Int) = 10 * (v : Int) + (cI - 48)) := by
                show _ = _
                rw [hst.2, ← HV.out]
                have := HCI.out
                omega
              clear hst hdig HD
              go_wp2
              go_round
              case rel => exact ⟨k + 1, by omega, HD2, by rw [HV2.out] <;> go_num, by go_num⟩
              case measure => simp [intOf]; omega
            · have h57' : 57 < cI := by omega
              obtain ⟨rfl, rfl⟩ := hno (not_dig HAT.out (Bool.eq_false_iff.2 fun h => h57 (hdig.1 h).2))
              clear hdig hno
              go_wp2
              go_ret2
              exact ⟨rfl, rfl⟩
          · have h48' : cI < 48 := by omega
            obtain ⟨rfl, rfl⟩ := hno (not_dig HAT.out (Bool.eq_false_iff.2 fun h => h48 (hdig.1 h).1))
            clear hdig hno
            go_wp2
            go_ret2
            exact ⟨rfl, rfl⟩
        · have hok := numOk_of HF.out HD.out (by rw [← HSZ.out]; omega)
          obtain rfl : b = true := HB.out.2 hok
          have HNV : Hid (n = v) := by
            show n = v
            rw [HN.out, if_pos rfl, HV.out, List.take_of_length_le (by rw [← HSZ.out]; omega)]
          clear hok
          go_wp2
          go_ret2
          exact ⟨by rw [HNV.out]; rfl, rfl⟩
end Go.Proofs.YtbfflcpmagjlnaaDoor.adr
