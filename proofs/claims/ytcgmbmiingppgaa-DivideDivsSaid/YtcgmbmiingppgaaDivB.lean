/- Package divide: takeOff, putBack, guess, step. Condition: slices read as limbs; what is changed is a part of a row of the caller's own, and the divisor lies elsewhere. -/
import Derived.Test.YtcgmbmiingppgaaDivA
import Derived.Deep.AppendLies
import Derived.Maps.AppendAt
import Derived.IntWalk
namespace Go.Proofs.Ytcgmbmiingppgaa.mem
open Go.RowKit Go.Proofs.Ytcgmbmiingppgaa.num
set_option linter.unusedVariables false
theorem mid_at {X p Y : List Nat} {i d : Nat} (h : p[i]? = some d) : (X ++ p ++ Y)[X.length + i]? = some d := by
  have hi : i < p.length := (List.getElem?_eq_some_iff.1 h).1
  rw [List.append_assoc, List.getElem?_append_right (by omega), Nat.add_sub_cancel_left, List.getElem?_append_left hi]; exact h
theorem mid_set {X p Y : List Nat} {i : Nat} (hi : i < p.length) (t : Nat) : (X ++ p ++ Y).set (X.length + i) t = X ++ p.set i t ++ Y := by
  rw [List.append_assoc, List.set_append_right _ _ (by omega), Nat.add_sub_cancel_left, List.set_append_left _ _ hi, List.append_assoc]
theorem grown_set (w : World) (g o : Nat) (v : Value) : w.grownBy (w.setCell ⟨g, o, none⟩ v) (some g) :=
  ⟨rfl, rfl, rfl, by simp [World.setCell], fun k _ hk => Below.heap_setCell _ _ _ k (fun e => hk (by rw [e]))⟩
theorem grown_drewN {a w : World} {row : Option Nat} (h : a.grownBy w row) (n : Nat) : a.grownBy (w.drewN n) row := ⟨h.os, h.tape, h.output, h.size, h.block⟩
/-- A slice of numbers that lies in another block than g. -/
def Apart (g : Nat) (v : Value) : Prop := ∀ ad n c, v = .slice (some ad) n c → 0 < n → ad.block ≠ g
theorem Rd.grown {w w' : World} {A : Option Addr} {k : IntKind} {l : List Nat} {g c : Nat} (h : Rd w A k l) (hf : Apart g (.slice A l.length c)) (hg : w.grownBy w' (some g)) : Rd w' A k l := by
  intro i d hd
  obtain ⟨ad, rfl, hc⟩ := h i d hd
  have hi : i < l.length := (List.getElem?_eq_some_iff.1 hd).1
  refine ⟨ad, rfl, hg.cell hc ?_⟩
  rw [block_add]
  intro e
  exact hf ad _ _ rfl (by omega) (by simpa using e)
theorem IsS.grown {w w' : World} {k : IntKind} {v : Value} {l : List Nat} {g : Nat} (h : IsS w k v l) (hf : Apart g v) (hg : w.grownBy w' (some g)) : IsS w' k v l := by
  obtain ⟨A, c, rfl, h1, h2, h3⟩ := h
  exact ⟨A, c, rfl, h1, h2, h3.grown hf hg⟩
/-- The part p, ahead of which lies X and behind which Y, of a row of the call's own. -/
def Mid (w : World) (base g n cap s : Nat) (X p Y : List Nat) : Prop := Own w base 30 .u64 (.slice (some ⟨g, 0, none⟩) n cap) (X ++ p ++ Y) ∧ s = X.length
theorem Mid.cellAt {w : World} {base g n cap s : Nat} {X p Y : List Nat} (h : Mid w base g n cap s X p Y) {i d : Nat} (hd : p[i]? = some d) : w.cell? ⟨g, s + i, none⟩ = some (.int .u64 (d : Int)) := by
  obtain ⟨h1, rfl⟩ := h
  exact h1.cellAt (mid_at hd)
theorem Mid.frozenAt {w : World} {base g n cap s : Nat} {X p Y : List Nat} (h : Mid w base g n cap s X p Y) (i : Nat) : w.frozen? ⟨g, s + i, none⟩ = false := h.1.frozenAt _
theorem Mid.stored {w : World} {base g n cap s : Nat} {X p Y : List Nat} (h : Mid w base g n cap s X p Y) {i : Nat} (hi : i < p.length) (d : Nat) : Mid (w.setCell ⟨g, s + i, none⟩ (.int .u64 (d : Int))) base g n cap s X (p.set i d) Y := by
  obtain ⟨h1, rfl⟩ := h
  have := h1.stored (X.length + i) d
  rw [mid_set hi] at this
  exact ⟨this, rfl⟩
theorem Mid.rd {w : World} {base g n cap s : Nat} {X p Y : List Nat} (h : Mid w base g n cap s X p Y) : Rd w (some ⟨g, s, none⟩) .u64 p := by
  intro i d hd
  refine ⟨_, rfl, ?_⟩
  rw [Addr.add_lit]
  exact h.cellAt hd
theorem Mid.drewN {w : World} {base g n cap s : Nat} {X p Y : List Nat} (h : Mid w base g n cap s X p Y) (k : Nat) : Mid (w.drewN k) base g n cap s X p Y := ⟨h.1.drewN k, h.2⟩
end Go.Proofs.Ytcgmbmiingppgaa.mem
namespace Go.Proofs.Ytcgmbmiingppgaa.nat
open Go.RowKit Go.Proofs.Ytcgmbmiingppgaa.num Go.Proofs.Ytcgmbmiingppgaa.mem Go.Proofs.Ytcgmbmiingppgaa.limb
set_option linter.unusedVariables false

/-- limb.Add, over Nat. -/
theorem ladd_nat (aI bI cI : Int) (a b c : Nat) (w : World) (ha : aI = (a : Int)) (hb : bI = (b : Int)) (hc : cI = (c : Int)) (la : a < 4294967296) (lb : b < 4294967296) (lc : c < 4294967296) :
    Calls Try.prog 41 #[.int .u64 aI, .int .u64 bI, .int .u64 cI] w fun e w' => ∃ s o : Nat, e = .returned (.tuple #[.int .u64 (s : Int), .int .u64 (o : Int)]) ∧ s < 4294967296 ∧ s + 4294967296 * o = a + b + c ∧ w = w' := by
  subst ha; subst hb; subst hc
  refine (limb.add_any _ _ _ (by omega) (by omega) (by omega) (by omega) (by omega) (by omega) w).mono ?_
  rintro e w' ⟨s, o, rfl, hs, rfl⟩
  unfold AddSpec at hs
  obtain ⟨s0, s1, o0, o1, he⟩ := hs
  obtain ⟨s, rfl⟩ := Int.eq_ofNat_of_zero_le s0
  obtain ⟨o, rfl⟩ := Int.eq_ofNat_of_zero_le o0
  exact ⟨s, o, rfl, by omega, by omega, rfl⟩

/-- takeOff ends with true where more was taken off than there was. -/
def RetTO (base g n cap s : Nat) (X p Y bl : List Nat) (t : Nat) (w : World) (e : Ending) (w' : World) : Prop := ∃ (k : Nat) (p' : List Nat), k ≤ 1 ∧ e = .returned (.bool (k == 0)) ∧ Lt 4294967296 p' ∧ p'.length = p.length ∧ val 4294967296 p' + 4294967296 ^ p.length * k + val 4294967296 bl * t = val 4294967296 p + 4294967296 ^ p.length ∧ Mid w' base g n cap s X p' Y ∧ w.grownBy w' (some g)

set_option maxHeartbeats 1600000 in
theorem takeOff_any (base g n cap s c : Nat) (X p Y bl : List Nat) (vb : Value) (tI : Int) (t : Nat) (w : World) (htI : tI = (t : Int)) (lt : t < 4294967296) (hM : Mid w base g n cap s X p Y) (lp : Lt 4294967296 p) (hp : p.length = bl.length + 1) (hpl : p.length ≤ 1000000) (hb : IsS w .u64 vb bl) (lb : Lt 4294967296 bl) (hf : Apart g vb) :
    Calls Try.prog 61 #[.slice (some ⟨g, s, none⟩) p.length c, vb, .int .u64 tI] w (RetTO base g n cap s X p Y bl t w) := by
  subst htI
  obtain ⟨A, k, rfl, hk, hm, hr⟩ := hb
  unfold maxLen at hm
  have hpI : (p.length : Int) = (bl.length : Int) + 1 := by omega
  have HP := Lib.hid hp
  have hbp : bl.length < p.length := by omega
  have hbpI : (bl.length : Int) < (p.length : Int) := by omega
  clear hp hpI
  go_enter Try.func61, Try.ntmps61
  go_wp2
  go_loopw [8, 9, 14] (fun vu vk vi wr => ∃ (i u kept : Nat) (q : List Nat), i ≤ bl.length ∧ u < 4294967296 ∧ kept ≤ 1 ∧ Hid (TO 4294967296 p bl q t i u kept) ∧ Mid wr base g n cap s X q Y ∧ w.grownBy wr (some g) ∧ vu = .int .u64 (u : Int) ∧ vk = .int .u64 (kept : Int) ∧ vi = .int .i64 (i : Int)) (fun _ _ vi _ => bl.length - (intOf vi).toNat)
  case atStart => exact ⟨0, 0, 1, p, by omega, by omega, by omega, TO.start lp (by omega) bl t, hM, World.grownBy.refl _ _, rfl, rfl, rfl⟩
  case round =>
    clear hM
    obtain ⟨i, u, kept, q, hi, hu, hkept, HT, hM, hg, rfl, rfl, rfl⟩ := hrel
    have hql := HT.out.2.1
    have hqi : i < q.length := by omega
    obtain ⟨d, hd⟩ : ∃ d, q[i]? = some d := ⟨_, List.getElem?_eq_getElem hqi⟩
    have hd1 := HT.out.1.at hd
    have hc0 := hM.cellAt hd
    have hf0 := hM.frozenAt i
    have HD := Lib.hid hd
    have HQI := Lib.hid hqi
    have hip : i < p.length := by omega
    have hipI : (i : Int) < (p.length : Int) := by omega
    clear hql hd hqi
    by_cases hlt : i < bl.length
    · obtain ⟨ad, e, rfl, he, hcell⟩ := (hr.grown hf hg).at_ hlt
      have he1 := lb.at he
      have HE := Lib.hid he
      clear he
      go_wp2_with fail
      refine (mul_nat _ _ _ _ e t u 0 _ rfl rfl rfl rfl he1 (by omega) hu (by omega)).mono ?_
      rintro e1 w2 ⟨low, up, rfl, hlow, hup, hm2, rfl⟩
      rw [Nat.mod_eq_of_lt lt, Nat.add_zero] at hm2
      have HM2 := Lib.hid hm2
      clear hm2
      go_wp2_with fail
      refine (ladd_nat _ _ _ d (4294967296 - 1 - low) kept _ rfl (by omega) rfl hd1 (by omega) (by omega)).mono ?_
      rintro e1 w3 ⟨s1, k', rfl, hs1, hk', rfl⟩
      have HT2 : Hid (TO 4294967296 p bl (q.set i s1) t (i + 1) up k') := HT.out.next HD.out HE.out hlow hup HM2.out hs1 hk'
      have hk2 : k' ≤ 1 := HT2.out.2.2.2.2.1
      have hM2 := hM.stored HQI.out s1
      have hg2 := hg.trans (grown_set wr g (s + i) (.int .u64 (s1 : Int)))
      clear hk'
      go_wp2
      go_roundw
      case rel => exact ⟨i + 1, up, k', _, by omega, hup, hk2, HT2, hM2, hg2, rfl, rfl, by go_num⟩
      case measure => simp [intOf]; omega
    · obtain rfl : i = bl.length := by omega
      go_wp2_with fail
      refine (ladd_nat _ _ _ d (4294967296 - 1 - u) kept _ rfl (by omega) rfl hd1 (by omega) (by omega)).mono ?_
      rintro e1 w3 ⟨s1, k', rfl, hs1, hk', rfl⟩
      obtain ⟨z1, z2, z3, z4⟩ := HT.out.last HP.out HD.out hs1 hk'
      have hM2 := hM.stored HQI.out s1
      have hg2 := hg.trans (grown_set wr g (s + bl.length) (.int .u64 (s1 : Int)))
      have Z2 := Lib.hid z2
      have Z4 := Lib.hid z4
      clear hk' z2 z4
      rcases (show k' = 0 ∨ k' = 1 from by omega) with rfl | rfl
      all_goals
        go_wp2
        go_ret
        exact ⟨_, _, z3, rfl, z1, Z2.out, Z4.out, hM2, hg2⟩

/-- putBack ends with the sum, but for what is carried beyond. -/
def RetPB (base g n cap s : Nat) (X p Y bl : List Nat) (w : World) (e : Ending) (w' : World) : Prop := ∃ (k : Nat) (p' : List Nat), e = .returned (.tuple #[]) ∧ Lt 4294967296 p' ∧ p'.length = p.length ∧ val 4294967296 p' + 4294967296 ^ p.length * k = val 4294967296 p + val 4294967296 bl ∧ Mid w' base g n cap s X p' Y ∧ w.grownBy w' (some g)
set_option maxHeartbeats 1600000 in
theorem putBack_any (base g n cap s c : Nat) (X p Y bl : List Nat) (vb : Value) (w : World) (hM : Mid w base g n cap s X p Y) (lp : Lt 4294967296 p) (hp : p.length = bl.length + 1) (hpl : p.length ≤ 1000000) (hb : IsS w .u64 vb bl) (lb : Lt 4294967296 bl) (hf : Apart g vb) :
    Calls Try.prog 62 #[.slice (some ⟨g, s, none⟩) p.length c, vb] w (RetPB base g n cap s X p Y bl w) := by
  obtain ⟨A, k, rfl, hk, hm, hr⟩ := hb
  unfold maxLen at hm
  have HP := Lib.hid hp
  have hbp : bl.length < p.length := by omega
  have hbpI : (bl.length : Int) < (p.length : Int) := by omega
  clear hp
  go_enter Try.func62, Try.ntmps62
  go_wp2
  go_loopw [4, 9] (fun vu vi wr => ∃ (i u : Nat) (q : List Nat), i ≤ bl.length ∧ u < 4294967296 ∧ Hid (PB 4294967296 p bl q i u) ∧ Mid wr base g n cap s X q Y ∧ w.grownBy wr (some g) ∧ vu = .int .u64 (u : Int) ∧ vi = .int .i64 (i : Int)) (fun _ vi _ => bl.length - (intOf vi).toNat)
  case atStart => exact ⟨0, 0, p, by omega, by omega, PB.start lp (by omega) bl, hM, World.grownBy.refl _ _, rfl, rfl⟩
  case round =>
    clear hM
    obtain ⟨i, u, q, hi, hu, HT, hM, hg, rfl, rfl⟩ := hrel
    have hql := HT.out.2.1
    have hqi : i < q.length := by omega
    obtain ⟨d, hd⟩ : ∃ d, q[i]? = some d := ⟨_, List.getElem?_eq_getElem hqi⟩
    have hd1 := HT.out.1.at hd
    have hc0 := hM.cellAt hd
    have hf0 := hM.frozenAt i
    have HD := Lib.hid hd
    have HQI := Lib.hid hqi
    have hip : i < p.length := by omega
    have hipI : (i : Int) < (p.length : Int) := by omega
    clear hql hd hqi
    by_cases hlt : i < bl.length
    · obtain ⟨ad, e, rfl, he, hcell⟩ := (hr.grown hf hg).at_ hlt
      have he1 := lb.at he
      have HE := Lib.hid he
      clear he
      go_wp2_with fail
      refine (ladd_nat _ _ _ d e u _ rfl rfl rfl hd1 he1 (by omega)).mono ?_
      rintro e1 w3 ⟨s1, k', rfl, hs1, hk', rfl⟩
      have hk2 : k' < 4294967296 := by omega
      have HT2 : Hid (PB 4294967296 p bl (q.set i s1) (i + 1) k') := HT.out.next HD.out HE.out hs1 hk2 hk'
      have hM2 := hM.stored HQI.out s1
      have hg2 := hg.trans (grown_set wr g (s + i) (.int .u64 (s1 : Int)))
      clear hk'
      go_wp2
      go_roundw
      case rel => exact ⟨i + 1, k', _, by omega, hk2, HT2, hM2, hg2, rfl, by go_num⟩
      case measure => simp [intOf]; omega
    · obtain rfl : i = bl.length := by omega
      go_wp2_with fail
      refine (ladd_nat _ _ _ d u 0 _ rfl rfl rfl hd1 (by omega) (by omega)).mono ?_
      rintro e1 w3 ⟨s1, k', rfl, hs1, hk', rfl⟩
      obtain ⟨z1, z2, z4⟩ := HT.out.last HP.out HD.out hs1 (by rw [hk']; rfl)
      have hM2 := hM.stored HQI.out s1
      have hg2 := hg.trans (grown_set wr g (s + bl.length) (.int .u64 (s1 : Int)))
      have Z2 := Lib.hid z2
      have Z4 := Lib.hid z4
      clear hk' z2 z4
      go_wp2
      go_end0
      exact ⟨_, _, rfl, z1, Z2.out, Z4.out, hM2, hg2⟩

theorem GU.lefts {B V D u1 u0 v t left : Nat} (h : GU B V D u1 u0 v t left) : V / D ≤ t ∧ t < B := ⟨h.2.1, h.2.2⟩
/-- guess ends with the quotient, or one more; it only read. -/
def RetGu (V D : Nat) (w : World) (e : Ending) (w' : World) : Prop := ∃ t k : Nat, e = .returned (.int .u64 (t : Int)) ∧ Guess V D t ∧ t < 4294967296 ∧ w' = w.drewN k
/-- What the loop that puts the guess right finds in memory, and keeps. -/
theorem guess_loop_facts {t b2 left c : Nat} (ht : t < 4294967296) (hb : b2 < 4294967296) (hl : left < 4294967296) (hc : c < 4294967296) : t * b2 ≤ 18446744073709551615 ∧ left * 4294967296 ≤ 18446744073709551615 ∧ left * 4294967296 + c ≤ 18446744073709551615 := by
  have h1 : t * b2 ≤ 4294967295 * 4294967295 := Nat.mul_le_mul (by omega) (by omega)
  omega

set_option maxHeartbeats 3200000 in
theorem guess_any (vp vb : Value) (p bl : List Nat) (w : World) (h : IsS w .u64 vp p) (h' : IsS w .u64 vb bl) (lp : Lt 4294967296 p) (lb : Lt 4294967296 bl) (hp : p.length = bl.length + 1) (hb2 : 2 ≤ bl.length) (hbl : bl.length ≤ 1000000) (hnz : ∀ d, bl[bl.length - 1]? = some d → 0 < d) (hVD : val 4294967296 p < 4294967296 * val 4294967296 bl) :
    Calls Try.prog 60 #[vp, vb] w (RetGu (val 4294967296 p) (val 4294967296 bl) w) := by
  obtain ⟨A, k, rfl, hk, hm, hr⟩ := h
  obtain ⟨A', k', rfl, hk', hm', hr'⟩ := h'
  unfold maxLen at hm hm'
  obtain ⟨m, hm0⟩ : ∃ m, m = bl.length := ⟨_, rfl⟩
  have hpl : p.length = m + 1 := by omega
  rw [hpl, ← hm0]
  rw [hpl] at hk
  rw [← hm0] at hk' hb2 hbl hnz
  obtain ⟨ad, u1, rfl, hu1, cu1⟩ := hr.at_ (i := m) (by omega)
  obtain ⟨_, u0, e0, hu0, cu0⟩ := hr.at_ (i := m - 1) (by omega)
  injection e0 with e0; subst e0
  obtain ⟨_, c, e0, hc, cc⟩ := hr.at_ (i := m - 2) (by omega)
  injection e0 with e0; subst e0
  obtain ⟨ad', v, rfl, hv, cv⟩ := hr'.at_ (i := m - 1) (by omega)
  obtain ⟨_, b2, e0, hb2', cb2⟩ := hr'.at_ (i := m - 2) (by omega)
  injection e0 with e0; subst e0
  have hv0 := hnz v hv
  have eV := three (B := 4294967296) (n := m - 2) (by omega) (by rw [show m - 2 + 2 = m by omega]; exact hu1) (by rw [show m - 2 + 1 = m - 1 by omega]; exact hu0) hc
  have eD := two (B := 4294967296) (n := m - 2) (by omega) (by rw [show m - 2 + 1 = m - 1 by omega]; exact hv) hb2'
  have hX : val 4294967296 (p.take (m - 2)) < 4294967296 ^ (m - 2) := by
    have := val_lt (lp.take (m - 2)); rwa [show (p.take (m - 2)).length = m - 2 from by simp; omega] at this
  have hY : val 4294967296 (bl.take (m - 2)) < 4294967296 ^ (m - 2) := by
    have := val_lt (lb.take (m - 2)); rwa [show (bl.take (m - 2)).length = m - 2 from by simp; omega] at this
  have lu1 := lp.at hu1
  have lu0 := lp.at hu0
  have lc := lp.at hc
  have lv := lb.at hv
  have lb2 := lb.at hb2'
  obtain ⟨V, hV⟩ : ∃ V, V = val 4294967296 p := ⟨_, rfl⟩
  obtain ⟨D, hD⟩ : ∃ D, D = val 4294967296 bl := ⟨_, rfl⟩
  rw [← hV] at eV hVD ⊢
  rw [← hD] at eD hVD ⊢
  have HV := Lib.hid eV
  have HD := Lib.hid eD
  have HX := Lib.hid hX
  have HY := Lib.hid hY
  have HVD := Lib.hid hVD
  clear eV eD hX hY hVD hV hD hu1 hu0 hc hv hb2' hpl hm0 hr hr' hp hnz lp lb
  have hL : Hid (∀ t left : Nat, GU 4294967296 V D u1 u0 v t left → left * 4294967296 + c < t * b2 → 1 ≤ t ∧ GU 4294967296 V D u1 u0 v (t - 1) (left + v)) := fun t left h1 h2 => h1.step HV.out HX.out HD.out h2
  have hE : Hid (∀ t left : Nat, GU 4294967296 V D u1 u0 v t left → t * b2 ≤ left * 4294967296 + c → Guess V D t) := fun t left h1 h2 => h1.done HV.out HD.out HY.out hv0 h2
  have hS1 : Hid (u1 < v → GU 4294967296 V D u1 u0 v ((u1 * 4294967296 + u0) / v) ((u1 * 4294967296 + u0) % v)) := fun h => GU.start_div HV.out HX.out lc lu0 HD.out h
  have hS2 : Hid (v ≤ u1 → u1 = v ∧ GU 4294967296 V D u1 u0 v (4294967296 - 1) (u1 + u0)) := fun h => GU.start_top HV.out HD.out HY.out lb2 HVD.out h hv0 (by omega)
  clear HV HD HX HY HVD
  have i1 : IntKind.i64.wrap ((m : Int) - 1) = (m : Int) - 1 := IntWalk.i64_in _ (by omega)
  have i2 : IntKind.i64.wrap ((m : Int) - 2) = (m : Int) - 2 := IntWalk.i64_in _ (by omega)
  have i3 : (0 : Int) ≤ (m : Int) - 1 := by omega
  have i4 : (0 : Int) ≤ (m : Int) - 2 := by omega
  have i5 : ((m : Int) - 1).toNat = m - 1 := by omega
  have i6 : ((m : Int) - 2).toNat = m - 2 := by omega
  rcases Nat.lt_or_ge u1 v with hc1 | hc1
  · have hG := Lib.hid (hS1.out hc1)
    obtain ⟨t0, ht0⟩ : ∃ t, t = (u1 * 4294967296 + u0) / v := ⟨_, rfl⟩
    obtain ⟨r0, hr0⟩ : ∃ r, r = (u1 * 4294967296 + u0) % v := ⟨_, rfl⟩
    have hrv : r0 < v := by rw [hr0]; exact Nat.mod_lt _ hv0
    have he : Hid (t0 * (v % 4294967296) + r0 = u1 * 4294967296 + u0) := by show _ = _; rw [Nat.mod_eq_of_lt lv, ht0, hr0, Nat.mul_comm]; exact Nat.div_add_mod _ _
    rw [← ht0, ← hr0] at hG
    clear ht0 hr0 hS1 hS2
    go_enter Try.func60, Try.ntmps60
    go_wp2
    go_quiet ((go_at_call 35; exact Calls.quiet_of (div_ok _ _ _ u1 u0 v t0 r0 _ rfl rfl rfl (by omega) lu0 (by omega) (by omega) he.out)))
    go_wp2
    go_loopw [6, 7] (fun vt vl wr => ∃ (t left j : Nat), t < 4294967296 ∧ left < 8589934592 ∧ Hid (GU 4294967296 V D u1 u0 v t left) ∧ wr = w.drewN j ∧ vt = .int .u64 (t : Int) ∧ vl = .int .u64 (left : Int)) (fun _ vl _ => 4294967296 - (intOf vl).toNat)
    case atStart => exact ⟨t0, r0, nq, by have := hG.out.2.2; exact this, by omega, hG, rfl, rfl, rfl⟩
    case round =>
      clear hG
      obtain ⟨t, left, j, ht, hleft, hG, rfl, rfl, rfl⟩ := hrel
      by_cases hlt : left < 4294967296
      · obtain ⟨b1, b3, b4⟩ := guess_loop_facts ht lb2 hlt lc
        obtain ⟨M, hM⟩ : ∃ M, M = t * b2 := ⟨_, rfl⟩
        obtain ⟨S, hS⟩ : ∃ S, S = left * 4294967296 + c := ⟨_, rfl⟩
        have w1 : IntKind.u64.wrap ((t : Int) * (b2 : Int)) = (M : Int) := by rw [IntWalk.u64_in _ (by rw [← Int.natCast_mul]; omega), ← Int.natCast_mul, ← hM]
        have w2 : IntKind.u64.wrap ((left : Int) * 4294967296) = (left : Int) * 4294967296 := IntWalk.u64_in _ (by omega)
        have w3 : IntKind.u64.wrap ((left : Int) * 4294967296 + (c : Int)) = (S : Int) := by rw [IntWalk.u64_in _ (by omega)]; omega
        by_cases hcmp : S < M
        · obtain ⟨g1, g2⟩ := hL.out t left hG.out (by omega)
          have hG2 := Lib.hid g2
          have c1 : decide (S < M) = true := decide_eq_true hcmp
          have c2 : decide ((S : Int) < (M : Int)) = true := decide_eq_true (by omega)
          have T1 : Hid ((t : Int) - 1 = ((t - 1 : Nat) : Int)) := by show _ = _; omega
          have hn1 : ¬ (4294967296 : Int) ≤ (left : Int) := by omega
          have HLT := Lib.hid hlt
          have HLE := Lib.hid hleft
          clear b1 b3 b4 hM hS g2 hcmp hlt hleft
          go_wp2
          go_quiet (fail)
          go_wp2
          go_roundw
          case rel => exact ⟨t - 1, left + v, _, by omega, by have := HLT.out; omega, hG2, rfl, int_eq T1.out, by go_num⟩
          case measure => have := HLT.out; simp [intOf]; omega
        · have hGu := Lib.hid (hE.out t left hG.out (by omega))
          have c1 : decide (S < M) = false := decide_eq_false hcmp
          have c2 : decide ((S : Int) < (M : Int)) = false := decide_eq_false (by omega)
          have hn1 : ¬ (4294967296 : Int) ≤ (left : Int) := by omega
          clear b1 b3 b4 hM hS hcmp hlt hleft
          go_wp2
          go_quiet (fail)
          go_wp2
          go_ret
          exact ⟨t, _, rfl, hGu.out, ht, World.drewN_drewN _ _ _⟩
      · have hGu := Lib.hid (hE.out t left hG.out (by
          have h1 : t * b2 ≤ 4294967295 * 4294967295 := Nat.mul_le_mul (by omega) (by omega)
          omega))
        have c1 : decide (left < 4294967296) = false := decide_eq_false hlt
        have c2 : decide ((left : Int) < 4294967296) = false := decide_eq_false (by omega)
        go_wp2
        go_quiet (fail)
        go_wp2
        go_ret
        exact ⟨t, _, rfl, hGu.out, ht, World.drewN_drewN _ _ _⟩
  · obtain ⟨huv, hG0⟩ := hS2.out hc1
    have hG := Lib.hid hG0
    have hsum : IntKind.u64.wrap ((u1 : Int) + (u0 : Int)) = (u1 : Int) + (u0 : Int) := IntWalk.u64_in _ (by omega)
    clear hG0 huv hS1 hS2
    go_enter Try.func60, Try.ntmps60
    go_wp2
    go_quiet ((go_at_call 35; exact Calls.quiet_of (div_top _ _ _ u1 u0 v _ rfl rfl rfl hc1 (by omega) lu0 hv0)))
    go_wp2
    go_quiet (fail)
    go_wp2
    go_loopw [6, 7] (fun vt vl wr => ∃ (t left j : Nat), t < 4294967296 ∧ left < 8589934592 ∧ Hid (GU 4294967296 V D u1 u0 v t left) ∧ wr = w.drewN j ∧ vt = .int .u64 (t : Int) ∧ vl = .int .u64 (left : Int)) (fun _ vl _ => 4294967296 - (intOf vl).toNat)
    case atStart => exact ⟨4294967296 - 1, u1 + u0, _, by omega, by omega, hG, World.drewN_drewN _ _ _, rfl, by go_num⟩
    case round =>
      clear hG
      obtain ⟨t, left, j, ht, hleft, hG, rfl, rfl, rfl⟩ := hrel
      by_cases hlt : left < 4294967296
      · obtain ⟨b1, b3, b4⟩ := guess_loop_facts ht lb2 hlt lc
        obtain ⟨M, hM⟩ : ∃ M, M = t * b2 := ⟨_, rfl⟩
        obtain ⟨S, hS⟩ : ∃ S, S = left * 4294967296 + c := ⟨_, rfl⟩
        have w1 : IntKind.u64.wrap ((t : Int) * (b2 : Int)) = (M : Int) := by rw [IntWalk.u64_in _ (by rw [← Int.natCast_mul]; omega), ← Int.natCast_mul, ← hM]
        have w2 : IntKind.u64.wrap ((left : Int) * 4294967296) = (left : Int) * 4294967296 := IntWalk.u64_in _ (by omega)
        have w3 : IntKind.u64.wrap ((left : Int) * 4294967296 + (c : Int)) = (S : Int) := by rw [IntWalk.u64_in _ (by omega)]; omega
        by_cases hcmp : S < M
        · obtain ⟨g1, g2⟩ := hL.out t left hG.out (by omega)
          have hG2 := Lib.hid g2
          have c1 : decide (S < M) = true := decide_eq_true hcmp
          have c2 : decide ((S : Int) < (M : Int)) = true := decide_eq_true (by omega)
          have T1 : Hid ((t : Int) - 1 = ((t - 1 : Nat) : Int)) := by show _ = _; omega
          have hn1 : ¬ (4294967296 : Int) ≤ (left : Int) := by omega
          have HLT := Lib.hid hlt
          have HLE := Lib.hid hleft
          clear b1 b3 b4 hM hS g2 hcmp hlt hleft
          go_wp2
          go_quiet (fail)
          go_wp2
          go_roundw
          case rel => exact ⟨t - 1, left + v, _, by omega, by have := HLT.out; omega, hG2, rfl, int_eq T1.out, by go_num⟩
          case measure => have := HLT.out; simp [intOf]; omega
        · have hGu := Lib.hid (hE.out t left hG.out (by omega))
          have c1 : decide (S < M) = false := decide_eq_false hcmp
          have c2 : decide ((S : Int) < (M : Int)) = false := decide_eq_false (by omega)
          have hn1 : ¬ (4294967296 : Int) ≤ (left : Int) := by omega
          clear b1 b3 b4 hM hS hcmp hlt hleft
          go_wp2
          go_quiet (fail)
          go_wp2
          go_ret
          exact ⟨t, _, rfl, hGu.out, ht, World.drewN_drewN _ _ _⟩
      · have hGu := Lib.hid (hE.out t left hG.out (by
          have h1 : t * b2 ≤ 4294967295 * 4294967295 := Nat.mul_le_mul (by omega) (by omega)
          omega))
        have c1 : decide (left < 4294967296) = false := decide_eq_false hlt
        have c2 : decide ((left : Int) < 4294967296) = false := decide_eq_false (by omega)
        go_wp2
        go_quiet (fail)
        go_wp2
        go_ret
        exact ⟨t, _, rfl, hGu.out, ht, World.drewN_drewN _ _ _⟩

/-- step ends with the quotient, and leaves in the part what is left. -/
def RetSt (base g n cap s : Nat) (X p Y bl : List Nat) (w : World) (e : Ending) (w' : World) : Prop := ∃ (t : Nat) (p' : List Nat), e = .returned (.int .u64 (t : Int)) ∧ t = val 4294967296 p / val 4294967296 bl ∧ t < 4294967296 ∧ Lt 4294967296 p' ∧ p'.length = p.length ∧ val 4294967296 p' = val 4294967296 p % val 4294967296 bl ∧ Mid w' base g n cap s X p' Y ∧ w.grownBy w' (some g)
set_option maxHeartbeats 1600000 in
theorem step_any (base g n cap s c : Nat) (X p Y bl : List Nat) (vb : Value) (w : World) (hM : Mid w base g n cap s X p Y) (lp : Lt 4294967296 p) (hp : p.length = bl.length + 1) (hpc : p.length ≤ c) (hcm : c ≤ maxLen) (hb : IsS w .u64 vb bl) (lb : Lt 4294967296 bl) (hf : Apart g vb) (hb2 : 2 ≤ bl.length) (hbl : bl.length ≤ 900000) (hnz : ∀ d, bl[bl.length - 1]? = some d → 0 < d) (hVD : val 4294967296 p < 4294967296 * val 4294967296 bl) :
    Calls Try.prog 46 #[.slice (some ⟨g, s, none⟩) p.length c, vb] w (RetSt base g n cap s X p Y bl w) := by
  have hD : 0 < val 4294967296 bl := by
    rcases Nat.eq_zero_or_pos (val 4294967296 bl) with h | h
    · rw [h] at hVD; omega
    · exact h
  have hVM := val_lt lp
  have HP := Lib.hid hp
  have HNZ := Lib.hid hnz
  clear hp hnz
  go_enter Try.func46, Try.ntmps46
  go_wp2_with fail
  refine (guess_any _ vb p bl w ⟨_, c, rfl, hpc, hcm, hM.rd⟩ hb lp lb HP.out hb2 (by have := HP.out; omega) HNZ.out hVD).mono ?_
  rintro e w1 ⟨t, k1, rfl, hG, ht, rfl⟩
  have hM1 := hM.drewN k1
  have hb1 : IsS (w.drewN k1) .u64 vb bl := hb
  have hg1 : w.grownBy (w.drewN k1) (some g) := grown_drewN (World.grownBy.refl _ _) k1
  go_wp2_with fail
  refine (takeOff_any base g n cap s c X p Y bl vb _ t _ rfl ht hM1 lp HP.out (by have := HP.out; omega) hb1 lb hf).mono ?_
  rintro e w2 ⟨k, p', hk, rfl, z1, z2, z4, hM2, hg2⟩
  have hg3 := hg1.trans hg2
  rcases (show k = 0 ∨ k = 1 from by omega) with rfl | rfl
  · have hb3 := hb.grown hf hg3
    have Z2 := Lib.hid z2
    have Z4 : Hid (val 4294967296 p' + val 4294967296 bl * t = val 4294967296 p + 4294967296 ^ p.length) := by show _ = _; omega
    clear z2 z4
    go_wp2_with fail
    rw [← Z2.out]
    refine (putBack_any base g n cap s c X p' Y bl vb _ hM2 z1 (by rw [Z2.out]; exact HP.out) (by have := Z2.out; have := HP.out; omega) hb3 lb hf).mono ?_
    rintro e w3 ⟨k, p2, rfl, y1, y2, y4, hM3, hg4⟩
    rw [Z2.out] at y2 y4
    have hV' := val_lt z1
    have hW := val_lt y1
    rw [Z2.out] at hV'
    rw [y2] at hW
    obtain ⟨q1, q2⟩ := hG.more hD hV' Z4.out y4 hW hVM
    have Q1 : Hid (t - 1 = val 4294967296 p / val 4294967296 bl) := by show _ = _; rw [q1]; exact Nat.add_sub_cancel _ _
    have ht1 : 1 ≤ t := by rw [q1]; exact Nat.le_add_left _ _
    have T1 : Hid ((t : Int) - 1 = ((t - 1 : Nat) : Int)) := by show _ = _; omega
    have Q2 := Lib.hid q2
    have Y2 := Lib.hid y2
    clear y2 y4 q1 q2 hG
    go_wp2
    go_ret
    exact ⟨t - 1, p2, by rw [← T1.out]; rfl, Q1.out, by omega, y1, Y2.out, Q2.out, hM3, hg3.trans hg4⟩
  · obtain ⟨q1, q2⟩ := hG.right (V' := val 4294967296 p') hD (by omega)
    have Q1 := Lib.hid q1
    have Q2 := Lib.hid q2
    have Z2 := Lib.hid z2
    clear q1 q2 z2 z4 hG
    go_wp2
    go_ret
    exact ⟨t, p', rfl, Q1.out, ht, z1, Z2.out, Q2.out, hM2, hg3⟩
end Go.Proofs.Ytcgmbmiingppgaa.nat
