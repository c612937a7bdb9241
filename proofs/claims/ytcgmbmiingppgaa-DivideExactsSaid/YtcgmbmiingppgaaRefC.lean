/- The document's own numbers of layer 2: Num, Of, Back, Power, Bits, Zeros. Condition: slices read as digits, numbers are within bounds. -/
import Derived.Test.YtcgmbmiingppgaaRefB
namespace Go.Proofs.Ytcgmbmiingppgaa.nat
open Go.RowKit Go.Proofs.Ytcgmbmiingppgaa.num Go.Proofs.Ytcgmbmiingppgaa.mem
set_option linter.unusedVariables false

set_option maxHeartbeats 400000 in
theorem refOf_list (v : Value) (l : List Nat) (w : World) (h : IsS w .u64 v l) (hlt : Lt 4294967296 l) (hl : l.length ≤ 100000) :
    Calls Try.prog 30 #[v] w (RetS .i64 (digs 10000 (val 4294967296 l)) w) := by
  obtain ⟨A, cap, rfl, hcap, hcm, hr⟩ := h
  go_enter Try.func30, Try.ntmps30
  go_wp2
  go_loopw [3, 4] (fun vo vi wr => ∃ k : Nat, k ≤ l.length ∧ IsS wr .i64 vo (digs 10000 (val 4294967296 (l.drop k))) ∧ Fresh w.heap.size vo ∧ Below w.heap.size w wr ∧ vi = .int .i64 ((k : Int) - 1)) (fun _ vi _ => (intOf vi + 1).toNat)
  case atStart => exact ⟨l.length, by omega, by rw [List.drop_length, val_nil, digs_zero]; exact (own_lit0 w w.heap.size _ .i64 (Nat.le_refl _)).isS, (own_lit0 w w.heap.size 3 .i64 (Nat.le_refl _)).fresh, below_alloc (Nat.le_refl _) _, rfl⟩
  case round =>
    obtain ⟨k, hk, ho, hfo, hb, rfl⟩ := hrel
    have hsz := hb.size
    by_cases hp : 0 < k
    · obtain ⟨j, rfl⟩ : ∃ j, k = j + 1 := ⟨k - 1, by omega⟩
      obtain ⟨ad, a, rfl, ha, hcell⟩ := (hr.below hb).at_ (i := j) (by omega)
      have ha1 := hlt.at ha
      have HY := Lib.hid (val_drop_step (B := 4294967296) ha)
      clear ha
      have hl2 : (digs 10000 (val 4294967296 (l.drop (j + 1)))).length ≤ 1000000 := by
        have h1 := len10000_val (hlt.drop (j + 1))
        have h2 : (l.drop (j + 1)).length ≤ l.length := by simp
        omega
      go_wp2_with fail
      refine (mulAdd_any _ _ _ _ 4294967296 a _ (by omega) (by omega) ho hl2 (by omega) (by omega) (val 4294967296 (l.drop j)) (by have := HY.out; omega)).mono ?_
      rintro e w' ⟨v', rfl, hv, hf, hb2⟩
      go_wp2
      go_roundw
      case rel => exact ⟨j, by omega, hv, hf.mono hsz, hb.trans (hb2.mono hsz), by go_num⟩
      case measure => simp [intOf]
    · obtain rfl : k = 0 := by omega
      go_wp2
      go_ret
      exact ⟨_, rfl, by simpa using ho, hfo, hb⟩

theorem refOf_any (v : Value) (x : Nat) (w : World) (h : IsS w .u64 v (digs 4294967296 x)) (hl : (digs 4294967296 x).length ≤ 100000) :
    Calls Try.prog 30 #[v] w (RetS .i64 (digs 10000 x) w) := by
  have := refOf_list v _ w h (digs_lt (by omega) x) hl
  rwa [val_digs (by omega)] at this

set_option maxHeartbeats 800000 in
theorem refBack_any (v : Value) (x : Nat) (w : World) (h : IsS w .i64 v (digs 10000 x)) (hl : (digs 10000 x).length ≤ 100000) (hl2 : (digs 4294967296 x).length ≤ 100000) :
    Calls Try.prog 31 #[v] w (RetS .u64 (digs 4294967296 x) w) := by
  go_enter Try.func31, Try.ntmps31
  go_wp2
  go_loopw [0, 3] (fun va vo wr => ∃ (y : Nat) (o : List Nat), IsS wr .i64 va (digs 10000 y) ∧ Own wr w.heap.size 30 .u64 vo o ∧ Hid (o ++ digs 4294967296 y = digs 4294967296 x) ∧ (digs 10000 y).length ≤ 100000 ∧ Below w.heap.size w wr) (fun va _ _ => lenOf va)
  case atStart => exact ⟨x, [], h.below (below_alloc (Nat.le_refl _) _), own_lit0 w _ _ .u64 (Nat.le_refl _), rfl, hl, below_alloc (Nat.le_refl _) _⟩
  case round =>
    obtain ⟨y, o, hy, hown, HO, hly, hb⟩ := hrel
    have hsz := hb.size
    obtain ⟨A, c, rfl, hc1, hc2, hr⟩ := id hy
    have hol : o.length ≤ 100000 := by
      have := congrArg List.length HO.out
      rw [List.length_append] at this; omega
    by_cases hy0 : y = 0
    · have hz : (digs 10000 y).length ≤ 0 := by rw [hy0, digs_zero]; simp
      have HE : Hid (o = digs 4294967296 x) := by have := HO.out; rw [hy0, digs_zero, List.append_nil] at this; exact this
      clear hy0
      go_wp2
      go_ret
      exact ⟨_, rfl, by have := hown.isS; rw [HE.out] at this; exact this, hown.fresh, hb⟩
    · have hz : 0 < (digs 10000 y).length := by have := (digs_len0 (B := 10000) (by omega) (x := y)).1; omega
      obtain ⟨r, hr'⟩ : ∃ r, r = y % 4294967296 := ⟨_, rfl⟩
      have hr1 : r < 4294967296 := by omega
      have HS : Hid ((o ++ [r]) ++ digs 4294967296 (y / 4294967296) = digs 4294967296 x) := by
        have := HO.out
        rw [digs_pos (by omega) (by omega)] at this
        rw [hr', List.append_assoc]; exact this
      have hdl := digs_div_len (B := 10000) (d := 4294967296) (by omega) (by omega) (show 0 < y by omega)
      have HR := Lib.hid hr'
      clear hr'
      go_wp2_with fail
      refine (divSmall_any _ y _ 4294967296 (y / 4294967296) r _ (by omega) hy (by omega) (by omega) (by omega) rfl HR.out).mono ?_
      rintro e w' ⟨vq, rfl, hq, hfq, hb2⟩
      have hown2 := hown.below hb2
      have hsz2 := hb2.size
      have hun := hown.under
      clear hown
      go_wp2_with (at_builtin; refine wpList_append_one rfl (.tmp 15) (.tmp 18) rfl sl24 r rfl hown2 rfl (by omega) (by omega) (by omega) ?_; intro v' w1 hown1 hb1 hg1)
      have hq1 := hq.apart hfq hun hg1
      go_roundw
      case rel => exact ⟨_, _, hq1, hown1, HS, by omega, (hb.trans (hb2.mono hsz)).trans hb1⟩
      case measure =>
        obtain ⟨A', c', rfl, _⟩ := hq1
        exact hdl

end Go.Proofs.Ytcgmbmiingppgaa.nat
