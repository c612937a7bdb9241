/- Texts cut at the first / or point: strings.Cut. Condition: the text is of at most 1000000 bytes. -/
import Derived.Test.YtbfflcpmagjlnaaDoorAdrB
set_option maxRecDepth 10000
namespace Go.Proofs.YtbfflcpmagjlnaaDoor.adr
open Go.RowKit Go.Proofs.YtbfflcpmagjlnaaDoor.num Go.Proofs.YtbfflcpmagjlnaaDoor.mem Go.Proofs.YtbfflcpmagjlnaaDoor.txt Go.Proofs.YtbfflcpmagjlnaaDoor.str
set_option linter.unusedVariables false
theorem idx_no18 {l : List UInt8} {c : UInt8} (h : c ∉ l) : Lib.indexByte l c = -1 := indexByte_none fun b hb e => h (e ▸ hb)
theorem idx_yes18 {u v : List UInt8} {c : UInt8} (h : c ∉ u) : Lib.indexByte (u ++ c :: v) c = (u.length : Int) := by
  induction u with
  | nil => simp [Lib.indexByte]
  | cons b u ih =>
    have h1 : (b == c) = false := by rw [beq_eq_false_iff_ne]; rintro rfl; exact h (by simp)
    have h2 := ih fun x => h (by simp [x])
    rw [List.cons_append, Lib.indexByte, h1, h2, if_neg (by simp), if_neg (by simp)]
    simp
/-- Two texts, and a truth. -/
def RetCut18 (u v : List UInt8) (b : Bool) (w : World) (e : Ending) (w' : World) : Prop := ∃ R T, e = .returned (.tuple #[.string R, .string T, .bool b]) ∧ StrIs R u ∧ StrIs T v ∧ Below w.heap.size w w'

set_option maxHeartbeats 800000 in
theorem sindex_slash18 (S : ByteArray) (l : List UInt8) (n : Int) (w : World) (hS : StrIs S l) (hn : Lib.indexByte l 47 = n) :
    Calls Tryd.prog 37 #[.string S, .string ⟨#[47]⟩] w (RetV (.int .i64 n) w) := by
  by_cases h1 : l = [47]
  · have hn0 : n = 0 := by rw [← hn, h1]; rfl
    have hcut : (([47] : List UInt8) == S.toList) = true := by rw [Lib.toList_data, hS, h1]; rfl
    clear hn h1
    subst hn0
    go_enter Tryd.func37, Tryd.ntmps37
    go_wp2
    go_ret
    exact ⟨rfl, Below.refl _ _⟩
  · have hcut : (([47] : List UInt8) == S.toList) = false := by rw [Lib.toList_data, hS, beq_eq_false_iff_ne]; exact fun e => h1 e.symm
    clear h1
    go_enter Tryd.func37, Tryd.ntmps37
    go_wp2_with fail
    refine (sliteByte_any S l _ _ hS).mono ?_
    rintro e w1 ⟨rfl, rfl⟩
    go_wp2
    go_ret
    exact ⟨congrArg (fun z => Ending.returned (Value.int .i64 z)) hn, Below.refl _ _⟩
set_option maxHeartbeats 800000 in
theorem scut_slash_yes18 (S : ByteArray) (u v : List UInt8) (w : World) (hS : StrIs S (u ++ 47 :: v)) (hlen : (u ++ 47 :: v).length ≤ 1000000) (hu : (47 : UInt8) ∉ u) :
    Calls Tryd.prog 32 #[.string S, .string ⟨#[47]⟩] w (RetCut18 u v true w) := by
  have hsz := hS.size
  rw [List.length_append, List.length_cons] at hsz hlen
  have hn := idx_yes18 (v := v) hu
  obtain ⟨k, hk⟩ : ∃ k, k = u.length := ⟨_, rfl⟩
  rw [← hk] at hn hsz hlen
  have hk1 : (k : Int) ≤ (S.size : Int) := by omega
  have hk2 : (k : Int) + 1 ≤ (S.size : Int) := by omega
  have hk3 : k ≤ S.size := by omega
  have hk4 : k + 1 ≤ S.size := by omega
  have hk5 : k ≤ 1000000 := by omega
  have hk6 : S.size ≤ 1000000 := by omega
  have HK := Lib.hid hk
  clear hk hsz hlen
  go_enter Tryd.func32, Tryd.ntmps32
  go_wp2_with fail
  refine (sindex_slash18 S _ _ _ hS hn).mono ?_
  rintro e w1 ⟨rfl, b1⟩
  go_wp2
  have hcast : (((k + 1 : Nat) : Int)) = (k : Int) + 1 := by omega
  have hRu : StrIs (S.extract 0 k) u := by
    have h := hS.to_ k
    rw [HK.out, List.take_left] at h
    rw [HK.out]; exact h
  have hTv : StrIs (S.extract (k + 1) S.size) v := by
    have h := hS.from_ (k + 1)
    rw [HK.out, show u ++ 47 :: v = (u ++ [47]) ++ v by simp, show u.length + 1 = (u ++ [47]).length by simp, List.drop_left] at h
    rw [HK.out]; simpa using h
  clear hn hcast
  go_region
  all_goals
    go_wp2
    go_ret3
    exact ⟨_, _, rfl, hRu, hTv, b1.drew⟩
set_option maxHeartbeats 800000 in
theorem scut_slash_no18 (S : ByteArray) (l : List UInt8) (w : World) (hS : StrIs S l) (hu : (47 : UInt8) ∉ l) :
    Calls Tryd.prog 32 #[.string S, .string ⟨#[47]⟩] w (RetCut18 l [] false w) := by
  have hn := idx_no18 hu
  go_enter Tryd.func32, Tryd.ntmps32
  go_wp2_with fail
  refine (sindex_slash18 S _ _ _ hS hn).mono ?_
  rintro e w1 ⟨rfl, b1⟩
  go_wp2
  go_ret3
  exact ⟨_, _, rfl, hS, rfl, b1⟩
set_option maxHeartbeats 800000 in
theorem cut_slash_yes18 (S : ByteArray) (u v : List UInt8) (w : World) (hS : StrIs S (u ++ 47 :: v)) (hlen : (u ++ 47 :: v).length ≤ 1000000) (hu : (47 : UInt8) ∉ u) :
    Calls Tryd.prog 24 #[.string S, .string ⟨#[47]⟩] w (RetCut18 u v true w) := by
  go_enter Tryd.func24, Tryd.ntmps24
  go_wp2_with fail
  refine (scut_slash_yes18 S _ _ _ hS hlen hu).mono ?_
  rintro e w1 ⟨R, T, rfl, hR, hT, b1⟩
  go_wp2
  go_ret3
  exact ⟨_, _, rfl, hR, hT, b1⟩
set_option maxHeartbeats 800000 in
theorem cut_slash_no18 (S : ByteArray) (l : List UInt8) (w : World) (hS : StrIs S l) (hu : (47 : UInt8) ∉ l) :
    Calls Tryd.prog 24 #[.string S, .string ⟨#[47]⟩] w (RetCut18 l [] false w) := by
  go_enter Tryd.func24, Tryd.ntmps24
  go_wp2_with fail
  refine (scut_slash_no18 S _ _ hS hu).mono ?_
  rintro e w1 ⟨R, T, rfl, hR, hT, b1⟩
  go_wp2
  go_ret3
  exact ⟨_, _, rfl, hR, hT, b1⟩

set_option maxHeartbeats 800000 in
theorem sindex_point18 (S : ByteArray) (l : List UInt8) (n : Int) (w : World) (hS : StrIs S l) (hn : Lib.indexByte l 46 = n) :
    Calls Tryd.prog 37 #[.string S, .string ⟨#[46]⟩] w (RetV (.int .i64 n) w) := by
  by_cases h1 : l = [46]
  · have hn0 : n = 0 := by rw [← hn, h1]; rfl
    have hcut : (([46] : List UInt8) == S.toList) = true := by rw [Lib.toList_data, hS, h1]; rfl
    clear hn h1
    subst hn0
    go_enter Tryd.func37, Tryd.ntmps37
    go_wp2
    go_ret
    exact ⟨rfl, Below.refl _ _⟩
  · have hcut : (([46] : List UInt8) == S.toList) = false := by rw [Lib.toList_data, hS, beq_eq_false_iff_ne]; exact fun e => h1 e.symm
    clear h1
    go_enter Tryd.func37, Tryd.ntmps37
    go_wp2_with fail
    refine (sliteByte_any S l _ _ hS).mono ?_
    rintro e w1 ⟨rfl, rfl⟩
    go_wp2
    go_ret
    exact ⟨congrArg (fun z => Ending.returned (Value.int .i64 z)) hn, Below.refl _ _⟩
set_option maxHeartbeats 800000 in
theorem scut_point_yes18 (S : ByteArray) (u v : List UInt8) (w : World) (hS : StrIs S (u ++ 46 :: v)) (hlen : (u ++ 46 :: v).length ≤ 1000000) (hu : (46 : UInt8) ∉ u) :
    Calls Tryd.prog 32 #[.string S, .string ⟨#[46]⟩] w (RetCut18 u v true w) := by
  have hsz := hS.size
  rw [List.length_append, List.length_cons] at hsz hlen
  have hn := idx_yes18 (v := v) hu
  obtain ⟨k, hk⟩ : ∃ k, k = u.length := ⟨_, rfl⟩
  rw [← hk] at hn hsz hlen
  have hk1 : (k : Int) ≤ (S.size : Int) := by omega
  have hk2 : (k : Int) + 1 ≤ (S.size : Int) := by omega
  have hk3 : k ≤ S.size := by omega
  have hk4 : k + 1 ≤ S.size := by omega
  have hk5 : k ≤ 1000000 := by omega
  have hk6 : S.size ≤ 1000000 := by omega
  have HK := Lib.hid hk
  clear hk hsz hlen
  go_enter Tryd.func32, Tryd.ntmps32
  go_wp2_with fail
  refine (sindex_point18 S _ _ _ hS hn).mono ?_
  rintro e w1 ⟨rfl, b1⟩
  go_wp2
  have hcast : (((k + 1 : Nat) : Int)) = (k : Int) + 1 := by omega
  have hRu : StrIs (S.extract 0 k) u := by
    have h := hS.to_ k
    rw [HK.out, List.take_left] at h
    rw [HK.out]; exact h
  have hTv : StrIs (S.extract (k + 1) S.size) v := by
    have h := hS.from_ (k + 1)
    rw [HK.out, show u ++ 46 :: v = (u ++ [46]) ++ v by simp, show u.length + 1 = (u ++ [46]).length by simp, List.drop_left] at h
    rw [HK.out]; simpa using h
  clear hn hcast
  go_region
  all_goals
    go_wp2
    go_ret3
    exact ⟨_, _, rfl, hRu, hTv, b1.drew⟩
set_option maxHeartbeats 800000 in
theorem scut_point_no18 (S : ByteArray) (l : List UInt8) (w : World) (hS : StrIs S l) (hu : (46 : UInt8) ∉ l) :
    Calls Tryd.prog 32 #[.string S, .string ⟨#[46]⟩] w (RetCut18 l [] false w) := by
  have hn := idx_no18 hu
  go_enter Tryd.func32, Tryd.ntmps32
  go_wp2_with fail
  refine (sindex_point18 S _ _ _ hS hn).mono ?_
  rintro e w1 ⟨rfl, b1⟩
  go_wp2
  go_ret3
  exact ⟨_, _, rfl, hS, rfl, b1⟩
set_option maxHeartbeats 800000 in
theorem cut_point_yes18 (S : ByteArray) (u v : List UInt8) (w : World) (hS : StrIs S (u ++ 46 :: v)) (hlen : (u ++ 46 :: v).length ≤ 1000000) (hu : (46 : UInt8) ∉ u) :
    Calls Tryd.prog 24 #[.string S, .string ⟨#[46]⟩] w (RetCut18 u v true w) := by
  go_enter Tryd.func24, Tryd.ntmps24
  go_wp2_with fail
  refine (scut_point_yes18 S _ _ _ hS hlen hu).mono ?_
  rintro e w1 ⟨R, T, rfl, hR, hT, b1⟩
  go_wp2
  go_ret3
  exact ⟨_, _, rfl, hR, hT, b1⟩
set_option maxHeartbeats 800000 in
theorem cut_point_no18 (S : ByteArray) (l : List UInt8) (w : World) (hS : StrIs S l) (hu : (46 : UInt8) ∉ l) :
    Calls Tryd.prog 24 #[.string S, .string ⟨#[46]⟩] w (RetCut18 l [] false w) := by
  go_enter Tryd.func24, Tryd.ntmps24
  go_wp2_with fail
  refine (scut_point_no18 S _ _ hS hu).mono ?_
  rintro e w1 ⟨R, T, rfl, hR, hT, b1⟩
  go_wp2
  go_ret3
  exact ⟨_, _, rfl, hR, hT, b1⟩

end Go.Proofs.YtbfflcpmagjlnaaDoor.adr
