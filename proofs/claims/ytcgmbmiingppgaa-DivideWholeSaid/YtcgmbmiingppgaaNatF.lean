/- Package nat: onto, Sum, Add. Condition: slices read as limbs. -/
import Derived.Test.YtcgmbmiingppgaaNatE
import Derived.Deep.RegionWith
import Derived.Deep.DrawnRows
namespace Go.Proofs.Ytcgmbmiingppgaa.nat
open Go.RowKit Go.Proofs.Ytcgmbmiingppgaa.num Go.Proofs.Ytcgmbmiingppgaa.mem Go.Proofs.Ytcgmbmiingppgaa.limb
set_option linter.unusedVariables false

/-- The last limb is not 0. -/
def NZ (o : List Nat) : Prop := ∀ d, o[o.length - 1]? = some d → d ≠ 0
theorem NZ.trim {o : List Nat} (h : NZ o) : num.trim o = o := by
  by_cases hl : 0 < o.length
  · obtain ⟨d, hd⟩ : ∃ d, o[o.length - 1]? = some d := ⟨_, List.getElem?_eq_getElem (by omega)⟩
    have := trim_of_take hd (h d hd)
    rwa [show o.length - 1 + 1 = o.length from by omega, List.take_length] at this
  · obtain rfl : o = [] := List.length_eq_zero_iff.1 (by omega)
    rfl
theorem NZ.digs (x : Nat) : NZ (num.digs 4294967296 x) := by
  intro d hd
  have hl : (num.digs 4294967296 x).length - 1 < (num.digs 4294967296 x).length := (List.getElem?_eq_some_iff.1 hd).1
  exact digs_last (by omega) x (by omega) hd
/-- What onto keeps at place i. -/
def OT (x : Nat) (m : List Nat) (i up : Nat) (o : List Nat) : Prop :=
  Lt 4294967296 o ∧ val 4294967296 o + 4294967296 ^ i * up = x + val 4294967296 (m.take i) ∧ i ≤ o.length ∧ (NZ o ∨ (o.length = i ∧ (0 < up ∨ i < m.length)))
/-- What it keeps once place i is there. -/
def PR (x : Nat) (m : List Nat) (i up : Nat) (o : List Nat) : Prop :=
  Lt 4294967296 o ∧ val 4294967296 o + 4294967296 ^ i * up = x + val 4294967296 (m.take i) ∧ i < o.length ∧ ((i + 1 < o.length ∧ NZ o) ∨ (i + 1 = o.length ∧ ((∀ s, o[i]? = some s → s ≠ 0) ∨ 0 < up ∨ i < m.length)))
theorem OT.start (x : Nat) (m : List Nat) : OT x m 0 0 (num.digs 4294967296 x) := by
  unfold OT
  exact ⟨digs_lt (by omega) x, by rw [val_digs (by omega)]; simp [val], by omega, .inl (NZ.digs x)⟩
theorem OT.there {x i up : Nat} {m o : List Nat} (h : OT x m i up o) (hi : i < o.length) : PR x m i up o := by
  unfold OT at h; unfold PR
  obtain ⟨h1, h2, h3, h4⟩ := h
  have hz : NZ o := by
    rcases h4 with h4 | ⟨h4, _⟩
    · exact h4
    · omega
  refine ⟨h1, h2, hi, ?_⟩
  by_cases hl : i + 1 < o.length
  · exact .inl ⟨hl, hz⟩
  · refine .inr ⟨by omega, .inl fun s hs => hz s ?_⟩
    rw [show o.length - 1 = i from by omega]; exact hs
theorem OT.append {x up : Nat} {m o : List Nat} (h : OT x m o.length up o) (hc : 0 < up ∨ o.length < m.length) : PR x m o.length up (o ++ [0]) := by
  unfold OT at h; unfold PR
  obtain ⟨h1, h2, h3, h4⟩ := h
  refine ⟨h1.snoc (by omega), by rw [val_snoc]; omega, by simp, .inr ⟨by simp, .inr hc⟩⟩
theorem PR.step {x i up s e t up' : Nat} {m o : List Nat} (h : PR x m i up o) (hm : NZ m) (hs : o[i]? = some s) (he : AtD m i e) (ht : t < 4294967296) (heq : t + 4294967296 * up' = s + e + up) : OT x m (i + 1) up' (o.set i t) := by
  unfold PR at h; unfold OT
  obtain ⟨h1, h2, h3, h4⟩ := h
  have ee : val 4294967296 (m.take (i + 1)) = val 4294967296 (m.take i) + 4294967296 ^ i * e := by
    rcases he with he | ⟨he, rfl⟩
    · exact val_take_step he
    · rw [val_take_over he]; omega
  have hv := val_set (B := 4294967296) hs t
  refine ⟨h1.set ht i, ?_, by simp; omega, ?_⟩
  · rw [ee, Nat.pow_succ, Nat.mul_assoc]
    have e1 : 4294967296 ^ i * t + 4294967296 ^ i * (4294967296 * up') = 4294967296 ^ i * s + 4294967296 ^ i * e + 4294967296 ^ i * up := by
      rw [← Nat.mul_add, ← Nat.mul_add, ← Nat.mul_add, heq]
    omega
  · rcases h4 with ⟨h4, h5⟩ | ⟨h4, h5⟩
    · left
      intro d hd
      rw [List.length_set, List.getElem?_set_ne (by omega)] at hd
      exact h5 d hd
    · by_cases hu : 0 < up'
      · exact .inr ⟨by simp; omega, .inl hu⟩
      · by_cases ht0 : t = 0
        · right
          refine ⟨by simp; omega, .inr ?_⟩
          have hs0 : s = 0 := by omega
          have hu0 : up = 0 := by omega
          have he0 : e = 0 := by omega
          have him : i < m.length := by
            rcases h5 with h5 | h5 | h5
            · exact absurd hs0 (h5 s hs)
            · omega
            · exact h5
          rcases he with he | ⟨he, _⟩
          · by_cases hl : i + 1 < m.length
            · exact hl
            · exact absurd he0 (hm e (by rw [show m.length - 1 = i from by omega]; exact he))
          · omega
        · left
          intro d hd
          rw [List.length_set, show o.length - 1 = i from by omega, List.getElem?_set_self h3] at hd
          injection hd with hd
          omega
theorem val_take_le (B : Nat) (l : List Nat) (n : Nat) : val B (l.take n) ≤ val B l := by
  have := val_append B (l.take n) (l.drop n)
  rw [List.take_append_drop] at this; omega
theorem OT.bound {x y i up : Nat} {o : List Nat} (h : OT x (num.digs 4294967296 y) i up o) (hu : 0 < up) : i ≤ (num.digs 4294967296 x).length + (num.digs 4294967296 y).length := by
  unfold OT at h
  obtain ⟨h1, h2, h3, h4⟩ := h
  rcases Nat.lt_or_ge ((num.digs 4294967296 x).length + (num.digs 4294967296 y).length) i with h5 | h5
  · exfalso
    have a1 := digs_lt_pow (B := 4294967296) (by omega) x
    have a2 := digs_lt_pow (B := 4294967296) (by omega) y
    have a3 := val_take_le 4294967296 (num.digs 4294967296 y) i
    rw [val_digs (by omega)] at a3
    obtain ⟨L, hL⟩ : ∃ L, L = (num.digs 4294967296 x).length + (num.digs 4294967296 y).length := ⟨_, rfl⟩
    have b1 := Nat.pow_le_pow_right (n := 4294967296) (by omega) (show (num.digs 4294967296 x).length ≤ L by omega)
    have b2 := Nat.pow_le_pow_right (n := 4294967296) (by omega) (show (num.digs 4294967296 y).length ≤ L by omega)
    have b3 := Nat.pow_le_pow_right (n := 4294967296) (by omega) (show L + 1 ≤ i by omega)
    have b4 := Nat.mul_le_mul_left (4294967296 ^ i) hu
    rw [Nat.pow_succ] at b3
    omega
  · exact h5
theorem OT.done {x y i : Nat} {o : List Nat} (h : OT x (num.digs 4294967296 y) i 0 o) (hi : (num.digs 4294967296 y).length ≤ i) : o = num.digs 4294967296 (x + y) := by
  unfold OT at h
  obtain ⟨h1, h2, h3, h4⟩ := h
  rw [List.take_of_length_le hi, val_digs (by omega)] at h2
  have hz : NZ o := by
    rcases h4 with h4 | ⟨_, h4⟩
    · exact h4
    · omega
  have e := trim_digs (by omega) h1
  rw [hz.trim] at e
  have e2 : val 4294967296 o = x + y := by omega
  rw [e2] at e; exact e

/-- The call ends with the row of the call's own that was handed in, or a longer one. -/
def RetOn (w0 : World) (l : List Nat) (e : Ending) (w' : World) : Prop := ∃ v, e = .returned v ∧ Own w' w0.heap.size 30 .u64 v l ∧ Below w0.heap.size w0 w'

attribute [local go_sem ↓] Go.wp_at_zero Go.wp_at_succ
set_option maxHeartbeats 3200000 in
theorem onto_any (w0 : World) (v u : Value) (x y : Nat) (w : World) (h : Own w w0.heap.size 30 .u64 v (digs 4294967296 x)) (h' : IsS w0 .u64 u (digs 4294967296 y)) (hb : Below w0.heap.size w0 w) (hl : (digs 4294967296 x).length ≤ 1000000) (hl' : (digs 4294967296 y).length ≤ 1000000) :
    Calls Try.prog 56 #[v, u] w (RetOn w0 (digs 4294967296 (x + y))) := by
  have lt2 := digs_lt (B := 4294967296) (by omega) y
  have hu0 := h'
  obtain ⟨A, c, rfl, hc, hm, hr⟩ := h'
  go_enter Try.func56, Try.ntmps56
  go_wp2
  go_loopw [0, 5, 6] (fun vo vc vi wr => ∃ (i up : Nat) (o : List Nat), up ≤ 1 ∧ o.length ≤ (digs 4294967296 x).length + i ∧ i ≤ (digs 4294967296 x).length + (digs 4294967296 y).length + 1 ∧ OT x (digs 4294967296 y) i up o ∧ Own wr w0.heap.size 30 .u64 vo o ∧ Below w0.heap.size w0 wr ∧ vc = .int .u64 (up : Int) ∧ vi = .int .i64 (i : Int)) (fun _ _ vi _ => (digs 4294967296 x).length + (digs 4294967296 y).length + 1 - (intOf vi).toNat)
  case atStart => exact ⟨0, 0, _, by omega, by omega, by omega, OT.start x _, h, hb, rfl, rfl⟩
  case round =>
    clear h hb
    obtain ⟨i, up, o, hup, hol, hiL, hO, hown, hb, rfl, rfl⟩ := hrel
    have hsz := hb.size
    have hio := hO.2.2.1
    by_cases hcont : i < (digs 4294967296 y).length ∨ 0 < up
    · have hiL2 : i ≤ (digs 4294967296 x).length + (digs 4294967296 y).length := by
        rcases hcont with h1 | h1
        · omega
        · exact hO.bound h1
      obtain ⟨e, he⟩ := AtD.of (digs 4294967296 y) i
      have he1 := he.lt lt2 (by omega)
      have HE := Lib.hid he
      clear he
      by_cases happ : i = o.length
      · subst happ
        have HP : Hid (PR x (digs 4294967296 y) o.length up (o ++ [0])) := hO.append (by omega)
        clear hO
        rcases (show o.length < (digs 4294967296 y).length ∨ (¬ o.length < (digs 4294967296 y).length ∧ ((up : Int) != 0) = true) from by by_cases hx : o.length < (digs 4294967296 y).length; exact .inl hx; exact .inr ⟨hx, by rw [bne_iff_ne]; omega⟩) with hcc | ⟨hcc, hnz⟩
        all_goals
          obtain ⟨A2, c2, rfl, hc2, hm2, hr2⟩ := hown.isS
          go_wp2_with (at_builtin; refine wpList_append_one rfl _ _ rfl sl24 0 rfl hown rfl rfl (by omega) (by omega) ?_; intro v' w1 hown1 hb1 hg1)
          have hb2 := hb.trans hb1
          have hsz2 := hb2.size
          obtain ⟨g, cap, rfl, q1, q2, q3, q4⟩ := hown1.place (by simp)
          simp only [List.length_append, List.length_singleton] at hown1 q1
          clear hown hr2 hg1 hb1 hb
          obtain ⟨s, hs⟩ : ∃ s, (o ++ [0])[o.length]? = some s := ⟨_, List.getElem?_eq_getElem (by have := HP.out.2.2.1; exact this)⟩
          have hs1 : s < 4294967296 := HP.out.1.at hs
          have hc0 := hown1.cellAt hs
          have hf0 := hown1.frozenAt o.length
          have HS : Hid (∀ t c', t < 4294967296 → t + 4294967296 * c' = s + e + up → OT x (digs 4294967296 y) (o.length + 1) c' ((o ++ [0]).set o.length t)) := fun t c' h1 h2 => HP.out.step (NZ.digs y) hs HE.out h1 h2
          have hua := hu0.below hb2
          have b1 : (0 : Int) ≤ (o.length : Nat) := by omega
          have b2 : ((o.length : Nat) : Int) < (((o ++ [0]).length : Nat) : Int) := by have := HP.out.2.2.1; omega
          try simp only [List.length_append, List.length_singleton] at b2
          clear hs HP
          go_region_with (first
            | (go_at_call 53; refine (at_any _ _ _ o.length e _ rfl (by exact hua) HE.out).mono ?_; rintro e' w3 ⟨rfl, rfl⟩)
            | (go_at_call 41; refine (limb.add_any _ _ _ (by omega) (by omega) (by omega) (by omega) (by omega) (by omega) _).mono ?_; rintro e' w4 ⟨t, c3, rfl, H, rfl⟩))
          all_goals
            unfold AddSpec at H
            obtain ⟨s0, s1, c0, c1, heq⟩ := H
            obtain ⟨t, rfl⟩ := Int.eq_ofNat_of_zero_le s0
            obtain ⟨c3, rfl⟩ := Int.eq_ofNat_of_zero_le c0
            have HQ : Hid (t + 4294967296 * c3 = s + e + up) := by show _ = _; omega
            have hc3 : c3 ≤ 1 := by omega
            clear heq
            go_wp2
            go_roundw
            case rel => exact ⟨o.length + 1, c3, (o ++ [0]).set o.length t, hc3, (by rw [List.length_set]; first | omega | (simp; done) | (simp; omega)), by omega, HS.out t c3 (by omega) HQ.out, (by exact hown1.stored _ t), (hb2.setCell q3 _).drew, rfl, by go_num⟩
            case measure => simp [intOf]; omega
      · have HP : Hid (PR x (digs 4294967296 y) i up o) := hO.there (by omega)
        have hbf : ((i : Int) == (o.length : Int)) = false := by rw [beq_eq_false_iff_ne]; omega
        clear hO
        rcases (show i < (digs 4294967296 y).length ∨ (¬ i < (digs 4294967296 y).length ∧ ((up : Int) != 0) = true) from by by_cases hx : i < (digs 4294967296 y).length; exact .inl hx; exact .inr ⟨hx, by rw [bne_iff_ne]; omega⟩) with hcc | ⟨hcc, hnz⟩
        all_goals
          obtain ⟨g, cap, rfl, q1, q2, q3, q4⟩ := hown.place (by omega)
          have hown1 := hown
          have hb2 := hb
          clear hown hb
          go_wp2
          obtain ⟨s, hs⟩ : ∃ s, (o)[i]? = some s := ⟨_, List.getElem?_eq_getElem (by have := HP.out.2.2.1; exact this)⟩
          have hs1 : s < 4294967296 := HP.out.1.at hs
          have hc0 := hown1.cellAt hs
          have hf0 := hown1.frozenAt i
          have HS : Hid (∀ t c', t < 4294967296 → t + 4294967296 * c' = s + e + up → OT x (digs 4294967296 y) (i + 1) c' ((o).set i t)) := fun t c' h1 h2 => HP.out.step (NZ.digs y) hs HE.out h1 h2
          have hua := hu0.below hb2
          have b1 : (0 : Int) ≤ (i : Nat) := by omega
          have b2 : ((i : Nat) : Int) < (((o).length : Nat) : Int) := by have := HP.out.2.2.1; omega
          try simp only [List.length_append, List.length_singleton] at b2
          clear hs HP
          go_region_with (first
            | (go_at_call 53; refine (at_any _ _ _ i e _ rfl (by exact hua) HE.out).mono ?_; rintro e' w3 ⟨rfl, rfl⟩)
            | (go_at_call 41; refine (limb.add_any _ _ _ (by omega) (by omega) (by omega) (by omega) (by omega) (by omega) _).mono ?_; rintro e' w4 ⟨t, c3, rfl, H, rfl⟩))
          all_goals
            unfold AddSpec at H
            obtain ⟨s0, s1, c0, c1, heq⟩ := H
            obtain ⟨t, rfl⟩ := Int.eq_ofNat_of_zero_le s0
            obtain ⟨c3, rfl⟩ := Int.eq_ofNat_of_zero_le c0
            have HQ : Hid (t + 4294967296 * c3 = s + e + up) := by show _ = _; omega
            have hc3 : c3 ≤ 1 := by omega
            clear heq
            go_wp2
            go_roundw
            case rel => exact ⟨i + 1, c3, (o).set i t, hc3, (by rw [List.length_set]; first | omega | (simp; done) | (simp; omega)), by omega, HS.out t c3 (by omega) HQ.out, (by exact hown1.stored _ t), (hb2.setCell q3 _).drew, rfl, by go_num⟩
            case measure => simp [intOf]; omega
    · have hup0 : up = 0 := by omega
      subst hup0
      have HD : Hid (o = digs 4294967296 (x + y)) := hO.done (by omega)
      go_wp2
      go_ret
      exact ⟨_, rfl, by rw [← HD.out]; exact hown, hb⟩
end Go.Proofs.Ytcgmbmiingppgaa.nat
