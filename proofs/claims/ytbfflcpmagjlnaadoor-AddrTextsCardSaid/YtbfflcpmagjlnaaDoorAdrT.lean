/- Layer 18, mathematics: what was printed is read. Condition: none. -/
import Derived.Test.YtbfflcpmagjlnaaDoorAdrS
namespace Go.Proofs.YtbfflcpmagjlnaaDoor.adr
open Go.RowKit Go.Proofs.YtbfflcpmagjlnaaDoor.num Go.Proofs.YtbfflcpmagjlnaaDoor.txt
set_option linter.unusedVariables false
def dec3 (n : Nat) : List UInt8 := if n < 10 then [UInt8.ofNat (48 + n)] else if n < 100 then [UInt8.ofNat (48 + n / 10), UInt8.ofNat (48 + n % 10)] else [UInt8.ofNat (48 + n / 100), UInt8.ofNat (48 + n / 10 % 10), UInt8.ofNat (48 + n % 10)]
theorem dec_three {n : Nat} (h : n < 1000) : Lib.decDigits n = dec3 n := by
  unfold dec3
  split
  · rw [Lib.decDigits_one (by omega)]
  · split
    · rw [Lib.decDigits_two (by omega) (by omega)]
    · rw [Lib.decDigits, dif_neg (by omega), Lib.decDigits_two (by omega) (by omega), Nat.div_div_eq_div_mul]; rfl
theorem dec3_all : ∀ j : Fin 256, numOk (dec3 j.1) ∧ numV (dec3 j.1) = j.1 ∧ (46 : UInt8) ∉ dec3 j.1 ∧ (47 : UInt8) ∉ dec3 j.1 := by decide +kernel
theorem dec_byte {n : Nat} (h : n < 256) : numOk (Lib.decDigits n) ∧ numV (Lib.decDigits n) = n ∧ (46 : UInt8) ∉ Lib.decDigits n ∧ (47 : UInt8) ∉ Lib.decDigits n := by
  rw [dec_three (by omega)]
  exact dec3_all ⟨n, h⟩
theorem split_txtA (a : Nat) : splitC 46 (txtA a) = [Lib.decDigits (byteP a 0), Lib.decDigits (byteP a 1), Lib.decDigits (byteP a 2), Lib.decDigits (byteP a 3)] := by
  have e : txtA a = Lib.decDigits (byteP a 0) ++ 46 :: (Lib.decDigits (byteP a 1) ++ 46 :: (Lib.decDigits (byteP a 2) ++ 46 :: Lib.decDigits (byteP a 3))) := by simp [txtA]
  rw [e, splitC_cut (dec_byte (byteP_lt a 0)).2.2.1, splitC_cut (dec_byte (byteP_lt a 1)).2.2.1, splitC_cut (dec_byte (byteP_lt a 2)).2.2.1, splitC_no (dec_byte (byteP_lt a 3)).2.2.1]
theorem bytes_is {a : Nat} (h : a < 4294967296) : 256 * (256 * (256 * (256 * 0 + byteP a 0) + byteP a 1) + byteP a 2) + byteP a 3 = a := by
  unfold byteP
  have e0 : 256 ^ (3 - 0) = 16777216 := rfl
  have e1 : 256 ^ (3 - 1) = 65536 := rfl
  have e2 : 256 ^ (3 - 2) = 256 := rfl
  have e3 : 256 ^ (3 - 3) = 1 := rfl
  rw [e0, e1, e2, e3]
  omega
theorem adr_back {a : Nat} (h : a < 4294967296) : adrE (txtA a) 5 22 = (0, a) := by
  have hv : ∀ p ∈ splitC 46 (txtA a), numOk p ∧ numV p ≤ 255 := by
    rw [split_txtA]
    intro p hp
    simp only [List.mem_cons, List.not_mem_nil, or_false] at hp
    rcases hp with rfl | rfl | rfl | rfl
    all_goals
      first
        | exact ⟨(dec_byte (byteP_lt a 0)).1, by rw [(dec_byte (byteP_lt a 0)).2.1]; have := byteP_lt a 0; omega⟩
        | exact ⟨(dec_byte (byteP_lt a 1)).1, by rw [(dec_byte (byteP_lt a 1)).2.1]; have := byteP_lt a 1; omega⟩
        | exact ⟨(dec_byte (byteP_lt a 2)).1, by rw [(dec_byte (byteP_lt a 2)).2.1]; have := byteP_lt a 2; omega⟩
        | exact ⟨(dec_byte (byteP_lt a 3)).1, by rw [(dec_byte (byteP_lt a 3)).2.1]; have := byteP_lt a 3; omega⟩
  rw [adrE_ok (by rw [split_txtA]; rfl) (fun p hp => (hv p hp).1) (fun p hp => (hv p hp).2), split_txtA]
  unfold adrV
  simp only [List.foldl_cons, List.foldl_nil]
  rw [(dec_byte (byteP_lt a 0)).2.1, (dec_byte (byteP_lt a 1)).2.1, (dec_byte (byteP_lt a 2)).2.1, (dec_byte (byteP_lt a 3)).2.1, bytes_is h]
theorem no_slash (a : Nat) : (47 : UInt8) ∉ txtA a := by
  unfold txtA
  simp only [List.mem_append, List.mem_singleton, not_or]
  refine ⟨⟨⟨⟨⟨⟨?_, by decide⟩, ?_⟩, by decide⟩, ?_⟩, by decide⟩, ?_⟩
  · exact (dec_byte (byteP_lt a 0)).2.2.2
  · exact (dec_byte (byteP_lt a 1)).2.2.2
  · exact (dec_byte (byteP_lt a 2)).2.2.2
  · exact (dec_byte (byteP_lt a 3)).2.2.2
theorem pfx_back {A : Nat} {L : Int} (hA : A < 4294967296) (hm : mayP A L) : pfxE (txtP A L) = (0, A, L.toNat) := by
  obtain ⟨n, hn⟩ : ∃ n, n = L.toNat := ⟨_, rfl⟩
  have h0 := hm.1
  have h1 := hm.2.1
  have hLn : L = (n : Int) := by omega
  have hn32 : n < 256 := by omega
  have hs : splitC 47 (txtP A L) = [txtA A, Lib.decDigits n] := by
    unfold txtP
    rw [if_pos hm, ← hn, List.append_assoc]
    show splitC 47 (txtA A ++ 47 :: Lib.decDigits n) = _
    rw [splitC_cut (no_slash A), splitC_no (dec_byte hn32).2.2.2]
  unfold pfxE
  rw [hs]
  show pfx2 _ _ = _
  unfold pfx2
  rw [adr_back hA, (dec_byte hn32).2.1, if_neg (by rintro (h | h); exact absurd (show (0 : Int) = 5 from h) (by decide); exact h (dec_byte hn32).1), if_neg (by rintro (h | h); exact h rfl; rw [← hLn] at h; exact h hm), ← hn]
theorem pfx_none {A : Nat} {L : Int} (hm : ¬ mayP A L) : pfxE (txtP A L) = (5, 0, 0) := by
  unfold txtP
  rw [if_neg hm]
  rfl
end Go.Proofs.YtbfflcpmagjlnaaDoor.adr
