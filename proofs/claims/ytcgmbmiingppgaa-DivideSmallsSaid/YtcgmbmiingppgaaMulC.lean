/- Package mul: byCuts (Karatsuba's way), Short, Mul, Square. Condition: slices read as limbs. -/
import Derived.Test.YtcgmbmiingppgaaMulB
import Derived.StillTailTactics
namespace Go.Proofs.Ytcgmbmiingppgaa.mem
open Go.RowKit Go.Proofs.Ytcgmbmiingppgaa.num
set_option linter.unusedVariables false
/-- A row read from place d on. -/
theorem Own.dropAt {w : World} {base : Nat} {e : TypeId} {k : IntKind} {g n cap : Nat} {l : List Nat} (h : Own w base e k (.slice (some ⟨g, 0, none⟩) n cap) l) (d : Nat) : Rd w (some ⟨g, d, none⟩) k (l.drop d) := by
  intro i x hx
  rw [List.getElem?_drop] at hx
  refine ⟨_, rfl, ?_⟩
  have ha : (⟨g, d, none⟩ : Addr).add i = ⟨g, d + i, none⟩ := by unfold Addr.add; split <;> simp_all
  rw [ha]; exact h.cellAt hx
theorem nv_splice (k : IntKind) (l m : List Nat) (off : Nat) : splice (nv k l) off (nv k m) = nv k (splice l off m) := by simp [splice, nv]
section
variable {P : Program}
/-- 'copy(dst, src)', dst lying in a row of the call's own, of its full length. -/
theorem wpList_copy_rd {w : World} {ops : Array Oper} {rest : List Oper} {o : Oper} {a : Act} {Q : Exit → Act → World → Prop} (hgd : o.guard = none) (d s : Operand) {t : TypeId}
    (ho : o.op = .call { callee := .builtin .copy, args := #[d, s], argTypes := #[t, t] })
    {base : Nat} {e : TypeId} {k : IntKind} (hT : SliceT P t e k) {g n : Nat} {l m : List Nat} (hown : Own w base e k (.slice (some ⟨g, 0, none⟩) n n) l)
    {dp sp : Option Addr} {dLen dCap sLen sCap : Nat} (hd : a.eval d = .slice dp dLen dCap) (hs : a.eval s = .slice sp sLen sCap) (off : Nat) (hdp : 0 < m.length → dp = some ⟨g, off, none⟩) (hsl : sLen = m.length) (hle : m.length ≤ dLen) (hfit : off + m.length ≤ l.length) (hr : Rd w sp k m)
    (h : ∀ w', Own w' base e k (.slice (some ⟨g, 0, none⟩) n n) (splice l off m) → Below base w w' → ∀ v, wpList P ops Q rest (a.put o.dst v) w') : wpList P ops Q (o :: rest) a w := by
  obtain ⟨i, hi, _, hsz, _⟩ := hT.info
  obtain ⟨hg, hb, hn, hm⟩ := hown.whole
  refine wpList_copy_splice hgd d s t t ho e hT.und (by rw [hi]; simp [hsz]) dp sp dLen dCap sLen sCap hd hs g off (nv k l) e hg (nv k m) (by rw [nv_len]; simp only [Nat.min_def]; split <;> omega) ?_ (by rw [nv_len, nv_len]; exact hfit) (nv_one k m) base w (Below.refl _ _) hb ?_
  · intro h0
    rw [nv_len] at h0
    obtain ⟨ad, hA, _⟩ := hr 0 _ (List.getElem?_eq_getElem h0)
    refine ⟨hdp h0, ad, hA, fun j v hj => ?_⟩
    simp only [nv, List.getElem?_map, Option.map_eq_some_iff] at hj
    obtain ⟨x, hx, rfl⟩ := hj
    obtain ⟨ad', h1, h2⟩ := hr j x hx
    rw [hA] at h1; injection h1 with h1; subst h1
    exact h2
  · intro w' hw hbw
    have hw := hw.out
    rw [nv_splice] at hw
    exact h w' (own_of_whole hw hb (by rw [length_splice _ _ _ hfit]; exact hn) hm) hbw _
/-- The same as one step of a region that draws its order. -/
theorem step_copy_rd {w : World} {ops : Array Oper} {o : Oper} {a : Act} {K : Act → World → Prop} {Q : Exit → Act → World → Prop} {E : Prop} (hgd : o.guard = none) (d s : Operand) {t : TypeId}
    (ho : o.op = .call { callee := .builtin .copy, args := #[d, s], argTypes := #[t, t] })
    {base : Nat} {e : TypeId} {k : IntKind} (hT : SliceT P t e k) {g n : Nat} {l m : List Nat} (hown : Own w base e k (.slice (some ⟨g, 0, none⟩) n n) l)
    {dp sp : Option Addr} {dLen dCap sLen sCap : Nat} (hd : a.eval d = .slice dp dLen dCap) (hs : a.eval s = .slice sp sLen sCap) (off : Nat) (hdp : 0 < m.length → dp = some ⟨g, off, none⟩) (hsl : sLen = m.length) (hle : m.length ≤ dLen) (hfit : off + m.length ≤ l.length) (hr : Rd w sp k m)
    (h : ∀ w', Own w' base e k (.slice (some ⟨g, 0, none⟩) n n) (splice l off m) → Below base w w' → K (a.put o.dst (goInt m.length)) w') :
    if Region.wanted o (yielded ops a.tmps) = true then Oper.wp P o a w K Q else E := by
  obtain ⟨i, hi, _, hsz, _⟩ := hT.info
  obtain ⟨hg, hb, hn, hm⟩ := hown.whole
  refine step_copy_splice hgd d s t t ho e hT.und (by rw [hi]; simp [hsz]) dp sp dLen dCap sLen sCap hd hs g off (nv k l) e hg (nv k m) (by rw [nv_len]; simp only [Nat.min_def]; split <;> omega) ?_ (by rw [nv_len, nv_len]; exact hfit) (nv_one k m) base w (Below.refl _ _) hb ?_
  · intro h0
    rw [nv_len] at h0
    obtain ⟨ad, hA, _⟩ := hr 0 _ (List.getElem?_eq_getElem h0)
    refine ⟨hdp h0, ad, hA, fun j v hj => ?_⟩
    simp only [nv, List.getElem?_map, Option.map_eq_some_iff] at hj
    obtain ⟨x, hx, rfl⟩ := hj
    obtain ⟨ad', h1, h2⟩ := hr j x hx
    rw [hA] at h1; injection h1 with h1; subst h1
    exact h2
  · intro w' hw hbw
    have hw := hw.out
    rw [nv_splice] at hw
    have := h w' (own_of_whole hw hb (by rw [length_splice _ _ _ hfit]; exact hn) hm) hbw
    rwa [nv_len]
end
end Go.Proofs.Ytcgmbmiingppgaa.mem
namespace Go.Proofs.Ytcgmbmiingppgaa.nat
open Go.RowKit Go.Proofs.Ytcgmbmiingppgaa.num Go.Proofs.Ytcgmbmiingppgaa.mem Go.Proofs.Ytcgmbmiingppgaa.limb
set_option linter.unusedVariables false

/-- What byCuts cuts: at h, half of the longer one. -/
theorem half_len {x h : Nat} (hh : (digs 4294967296 x).length ≤ 2 * h) : (digs 4294967296 (x % 4294967296 ^ h)).length ≤ h ∧ (digs 4294967296 (x / 4294967296 ^ h)).length ≤ (digs 4294967296 x).length - h ∧ (digs 4294967296 (x % 4294967296 ^ h + x / 4294967296 ^ h)).length ≤ h + 1 := by
  have hp : 0 < 4294967296 ^ h := Nat.pow_pos (by omega)
  have h1 : x % 4294967296 ^ h < 4294967296 ^ h := Nat.mod_lt _ hp
  have h2 : (digs 4294967296 (x / 4294967296 ^ h)).length ≤ (digs 4294967296 x).length - h := by
    rw [← drop_div (m := min h (digs 4294967296 x).length) rfl, List.length_drop]; omega
  have h3 := digs_lt_pow (B := 4294967296) (by omega) (x / 4294967296 ^ h)
  have h4 := Nat.pow_le_pow_right (n := 4294967296) (by omega) (show (digs 4294967296 (x / 4294967296 ^ h)).length ≤ h by omega)
  refine ⟨digs_len_le (by omega) h1, h2, digs_len_le (by omega) ?_⟩
  rw [Nat.pow_succ]; omega

/-- byCuts is the product of numbers of fewer than K limbs. -/
def ByC (least K : Nat) : Prop := ∀ (x y : Nat) (v u : Value) (w : World), (digs 4294967296 x).length < K → (digs 4294967296 y).length < K → IsS w .u64 v (digs 4294967296 x) → IsS w .u64 u (digs 4294967296 y) →
  Calls Try.prog 37 #[v, u, .int .i64 (least : Int)] w (RetS .u64 (digs 4294967296 (x * y)) w)

set_option maxHeartbeats 800000 in
theorem byCuts_few (least : Nat) (hl2 : least ≤ 1000) (x y : Nat) (v u : Value) (w : World) (hx : (digs 4294967296 x).length ≤ 100000) (hy : (digs 4294967296 y).length ≤ 100000) (h : IsS w .u64 v (digs 4294967296 x)) (h' : IsS w .u64 u (digs 4294967296 y))
    (hf : (digs 4294967296 x).length < least ∨ (digs 4294967296 y).length < least) :
    Calls Try.prog 37 #[v, u, .int .i64 (least : Int)] w (RetS .u64 (digs 4294967296 (x * y)) w) := by
  obtain ⟨A1, c1, rfl, _⟩ := id h
  obtain ⟨A2, c2, rfl, _⟩ := id h'
  by_cases hle : (digs 4294967296 x).length ≤ (digs 4294967296 y).length
  · have hlt : (digs 4294967296 x).length < least := by omega
    clear hf
    go_enter Try.func37, Try.ntmps37
    go_wp2_with fail
    all_goals
      refine (long_any _ _ x y _ h h' (by omega) (by omega) (x * y) rfl).mono ?_
      rintro e w1 ⟨v1, rfl, k1, f1, b1⟩
      go_wp2
      go_ret
      exact ⟨_, rfl, k1, f1, b1⟩
  · have hlt : (digs 4294967296 y).length < least := by omega
    clear hf
    go_enter Try.func37, Try.ntmps37
    go_wp2_with fail
    all_goals
      refine (long_any _ _ x y _ h h' (by omega) (by omega) (x * y) rfl).mono ?_
      rintro e w1 ⟨v1, rfl, k1, f1, b1⟩
      go_wp2
      go_ret
      exact ⟨_, rfl, k1, f1, b1⟩

theorem mul_len (a b : Nat) : (digs 4294967296 (a * b)).length ≤ (digs 4294967296 a).length + (digs 4294967296 b).length := by
  refine digs_len_le (by omega) ?_
  rw [Nat.pow_add]
  exact Nat.mul_lt_mul'' (digs_lt_pow (by omega) a) (digs_lt_pow (by omega) b)

set_option maxHeartbeats 6400000 in
set_option maxRecDepth 100000 in
theorem byCuts_step (least K : Nat) (h4 : 4 ≤ least) (hl2 : least ≤ 1000) (hK : K ≤ 100000) (ih : ByC least K) : ByC least (K + 1) := by
  intro x y v u w hx hy h h'
  by_cases hf : (digs 4294967296 x).length < least ∨ (digs 4294967296 y).length < least
  · exact byCuts_few least hl2 x y v u w (by omega) (by omega) h h' hf
  have hf1 : least ≤ (digs 4294967296 x).length := by omega
  have hf2 : least ≤ (digs 4294967296 y).length := by omega
  clear hf
  obtain ⟨d, hd⟩ : ∃ d, d = (max (digs 4294967296 x).length (digs 4294967296 y).length + 1) / 2 := ⟨_, rfl⟩
  have e1 : (digs 4294967296 x).length ≤ 2 * d := by omega
  have e2 : (digs 4294967296 y).length ≤ 2 * d := by omega
  have e3 : d + 1 < K := by omega
  have e4 : 2 * d < (digs 4294967296 x).length + (digs 4294967296 y).length := by omega
  have e5 : 2 ≤ d := by omega
  obtain ⟨a1, a2, a3⟩ := half_len e1
  obtain ⟨a4, a5, a6⟩ := half_len e2
  have gx := digs_lt_pow (B := 4294967296) (by omega) x
  have gy := digs_lt_pow (B := 4294967296) (by omega) y
  obtain ⟨x0, hx0⟩ : ∃ t, t = x % 4294967296 ^ d := ⟨_, rfl⟩
  obtain ⟨x1, hx1⟩ : ∃ t, t = x / 4294967296 ^ d := ⟨_, rfl⟩
  obtain ⟨y0, hy0⟩ : ∃ t, t = y % 4294967296 ^ d := ⟨_, rfl⟩
  obtain ⟨y1, hy1⟩ : ∃ t, t = y / 4294967296 ^ d := ⟨_, rfl⟩
  obtain ⟨lo, hlo⟩ : ∃ t, t = x0 * y0 := ⟨_, rfl⟩
  obtain ⟨hi, hhi⟩ : ∃ t, t = x1 * y1 := ⟨_, rfl⟩
  obtain ⟨mid, hmid⟩ : ∃ t, t = x0 * y1 + x1 * y0 := ⟨_, rfl⟩
  obtain ⟨al, hal⟩ : ∃ t, t = (x0 + x1) * (y0 + y1) := ⟨_, rfl⟩
  obtain ⟨q, hq⟩ : ∃ q, q = (lo + 4294967296 ^ (2 * d) * hi) / 4294967296 ^ d := ⟨_, rfl⟩
  have C : Cuts 4294967296 x y d (digs 4294967296 x).length (digs 4294967296 y).length lo hi mid := by
    subst hx0; subst hx1; subst hy0; subst hy1
    exact ⟨hlo, hhi, hmid, gx, gy, by omega⟩
  rw [← hx0] at a1 a3
  rw [← hx1] at a2 a3
  rw [← hy0] at a4 a6
  rw [← hy1] at a5 a6
  have c1 : lo + hi + mid = al := by rw [hal, hx0, hx1, hy0, hy1]; exact C.all.symm
  have c2 : (digs 4294967296 al).length ≤ 2 * d + 2 := by rw [hal]; have := mul_len (x0 + x1) (y0 + y1); omega
  have c3 : (digs 4294967296 (lo + hi)).length ≤ 2 * d + 2 := by have := digs_len_mono (B := 4294967296) (by omega) (show lo + hi ≤ al by omega); omega
  have c4 := C.lo_len (by omega)
  have c5 := C.hi_len (by omega)
  have c6 := C.t_len (by omega) (t := q + mid) (by rw [hq])
  have c7 := C.one (by omega)
  have c8 := C.two (by omega)
  have c9 := C.mids (by omega)
  rw [← hq] at c9
  have c10 := C.three (by omega) (t := q + mid) (by rw [hq])
  have HX0 := Lib.hid hx0
  have HX1 := Lib.hid hx1
  have HY0 := Lib.hid hy0
  have HY1 := Lib.hid hy1
  have HLO := Lib.hid hlo
  have HHI := Lib.hid hhi
  have HAL := Lib.hid hal
  have HMID : Hid (mid = al - (lo + hi)) := by show _ = _; omega
  have HLE : Hid (lo + hi ≤ al) := by show _ ≤ _; omega
  have H7 := Lib.hid c7
  have H8 := Lib.hid c8
  have H9 := Lib.hid c9
  have H10 := Lib.hid c10
  clear hx0 hx1 hy0 hy1 hlo hhi hal hmid hq gx gy C c1 c7 c8 c9 c10
  have HD := Lib.hid hd
  clear hd
  obtain ⟨A1, C1, rfl, _⟩ := id h
  obtain ⟨A2, C2, rfl, _⟩ := id h'
  have hcases : ((digs 4294967296 x).length < (digs 4294967296 y).length ∧ (((digs 4294967296 y).length + 1 : Int) / 2 = (d : Int))) ∨ (((digs 4294967296 y).length ≤ (digs 4294967296 x).length ∧ (digs 4294967296 x).length ≤ (digs 4294967296 y).length) ∧ (((digs 4294967296 x).length + 1 : Int) / 2 = (d : Int))) ∨ ((digs 4294967296 y).length < (digs 4294967296 x).length ∧ (((digs 4294967296 x).length + 1 : Int) / 2 = (d : Int))) := by have := HD.out; omega
  rcases hcases with ⟨hle, hhI⟩ | ⟨⟨hle, hle2⟩, hhI⟩ | ⟨hle, hhI⟩
  all_goals
    go_enter Try.func37, Try.ntmps37
    go_wp2_with fail
    rw [hhI]
    have HH := Lib.hid hhI
    clear hhI
    have B0 : Below w.heap.size w w := Below.refl _ _
    refine (cut_any _ x _ d _ rfl h (by omega) (by omega)).mono ?_
    rintro e w1 ⟨vx0, vx1, n1, rfl, kx0, kx1, rfl⟩
    rw [← HX0.out] at kx0
    rw [← HX1.out] at kx1
    replace B0 := below_drewN B0 n1
    go_wp2_with fail
    refine (cut_any _ y _ d _ rfl (h'.below B0) (by omega) (by omega)).mono ?_
    rintro e w2 ⟨vy0, vy1, n2, rfl, ky0, ky1, rfl⟩
    rw [← HY0.out] at ky0
    rw [← HY1.out] at ky1
    replace ky0 : IsS w .u64 vy0 (digs 4294967296 y0) := ky0
    replace ky1 : IsS w .u64 vy1 (digs 4294967296 y1) := ky1
    replace B0 : Below w.heap.size w (w.drewN (n1 + n2)) := below_drewN (Below.refl _ _) _
    replace kx0 := kx0.below B0
    replace kx1 := kx1.below B0
    replace ky0 := ky0.below B0
    replace ky1 := ky1.below B0
    go_wp2_with fail
    refine (ih x0 y0 _ _ _ (by omega) (by omega) kx0 ky0).mono ?_
    rintro e w4 ⟨vl, rfl, kl, fl, b4⟩
    rw [← HLO.out] at kl
    replace B0 := B0.trans (b4.mono B0.size)
    replace kx0 := kx0.below b4
    replace kx1 := kx1.below b4
    replace ky0 := ky0.below b4
    replace ky1 := ky1.below b4
    go_wp2_with fail
    refine (ih x1 y1 _ _ _ (by omega) (by omega) kx1 ky1).mono ?_
    rintro e w5 ⟨vh, rfl, kh, fh, b5⟩
    rw [← HHI.out] at kh
    replace B0 := B0.trans (b5.mono B0.size)
    replace kx0 := kx0.below b5
    replace kx1 := kx1.below b5
    replace ky0 := ky0.below b5
    replace ky1 := ky1.below b5
    replace kl := kl.below b5
    go_wp2_with fail
    refine (add_any _ _ x0 x1 _ kx0 kx1 (x0 + x1) rfl (by omega)).mono ?_
    rintro e w6 ⟨vsx, rfl, ksx, fsx, b6⟩
    replace B0 := B0.trans (b6.mono B0.size)
    replace ky0 := ky0.below b6
    replace ky1 := ky1.below b6
    replace kl := kl.below b6
    replace kh := kh.below b6
    go_wp2_with fail
    refine (add_any _ _ y0 y1 _ ky0 ky1 (y0 + y1) rfl (by omega)).mono ?_
    rintro e w7 ⟨vsy, rfl, ksy, fsy, b7⟩
    replace B0 := B0.trans (b7.mono B0.size)
    replace ksx := ksx.below b7
    replace kl := kl.below b7
    replace kh := kh.below b7
    go_wp2_with fail
    refine (ih (x0 + x1) (y0 + y1) _ _ _ (by omega) (by omega) ksx ksy).mono ?_
    rintro e w8 ⟨va, rfl, ka, fa, b8⟩
    rw [← HAL.out] at ka
    replace B0 := B0.trans (b8.mono B0.size)
    replace kl := kl.below b8
    replace kh := kh.below b8
    go_wp2_with fail
    refine (add_any _ _ lo hi _ kl kh (lo + hi) rfl (by omega)).mono ?_
    rintro e w9 ⟨vs, rfl, ks, fs, b9⟩
    replace B0 := B0.trans (b9.mono B0.size)
    replace ka := ka.below b9
    replace kl := kl.below b9
    replace kh := kh.below b9
    go_wp2_with fail
    refine (sub_ok _ _ al (lo + hi) _ ka ks (by omega) HLE.out mid HMID.out).mono ?_
    rintro e w10 ⟨vm, rfl, km, fm, b10⟩
    replace B0 := B0.trans (b10.mono B0.size)
    replace kl := kl.below b10
    replace kh := kh.below b10
    obtain ⟨Al, Cl, rfl, hcl, hml, hrl⟩ := kl
    obtain ⟨Ah, Ch, rfl, hch, hmh, hrh⟩ := kh
    clear b4 b5 b6 b7 b8 b9 b10
    have hfit1 : 0 + (digs 4294967296 lo).length ≤ (List.replicate ((digs 4294967296 x).length + (digs 4294967296 y).length) 0).length := by simp; omega
    have HF1 := Lib.hid hfit1
    have hfit2 : 2 * d + (digs 4294967296 hi).length ≤ (cut1 4294967296 ((digs 4294967296 x).length + (digs 4294967296 y).length) lo).length := by rw [H7.out.2.1]; omega
    have HF2 := Lib.hid hfit2
    clear hfit1 hfit2
    go_wp2_with (first
      | (at_make; refine wpList_make_rd rfl _ _ rfl sl24 ((digs 4294967296 x).length + (digs 4294967296 y).length) rfl rfl (by omega) (by omega) (by omega) (Nat.le_refl _) ?_; intro w11 hown11 hb11 hs11)
      | ((with_reducible refine wpList_copy_rd rfl (.tmp 77) (.tmp 78) rfl sl24 hown11 rfl rfl 0 (fun _ => rfl) rfl (by omega) HF1.out (hrl.below hb11) ?_); intro w12 hown12 hb12 r12; have hown12b : Own w12 _ 30 .u64 _ (cut1 4294967296 ((digs 4294967296 x).length + (digs 4294967296 y).length) lo) := hown12; have hb12b := hb11.trans hb12)
      | ((with_reducible refine wpList_copy_rd rfl (.tmp 83) (.tmp 84) rfl sl24 hown12b rfl rfl (2 * d) (fun _ => rfl) rfl (by omega) HF2.out (hrh.below hb12b) ?_); intro w13 hown13 hb13 r13; have hown13b : Own w13 _ 30 .u64 _ (cut2 4294967296 ((digs 4294967296 x).length + (digs 4294967296 y).length) d lo hi) := hown13; have hb13b := hb12b.trans hb13))
    have hd1 := hown13b.dropAt d
    have hq1 : trim ((cut2 4294967296 ((digs 4294967296 x).length + (digs 4294967296 y).length) d lo hi).drop d) = digs 4294967296 q := by
      rw [trim_digs (by omega) (H8.out.1.drop d), H9.out]
    have hdl : (digs 4294967296 x).length + (digs 4294967296 y).length - d = ((cut2 4294967296 ((digs 4294967296 x).length + (digs 4294967296 y).length) d lo hi).drop d).length := by rw [List.length_drop, H8.out.2.1]
    have kq := hd1.isTrim (c := (digs 4294967296 x).length + (digs 4294967296 y).length - d) (by omega) (by unfold maxLen; omega)
    rw [hq1] at kq
    have HQ1 := Lib.hid hq1
    have HDL := Lib.hid hdl
    replace km := km.below hb13b
    have hfit3 : d + (digs 4294967296 (q + mid)).length ≤ (cut2 4294967296 ((digs 4294967296 x).length + (digs 4294967296 y).length) d lo hi).length := by rw [H8.out.2.1]; omega
    have HF3 := Lib.hid hfit3
    clear hq1 hdl hfit3
    have hdI : (d : Int) ≤ ((digs 4294967296 x).length : Int) + ((digs 4294967296 y).length : Int) := by omega
    have hdN : ¬ (digs 4294967296 x).length + (digs 4294967296 y).length = d := by omega
    go_region_law (first
      | (refine step_copy_rd rfl (.tmp 88) (.tmp 94) rfl sl24 hown15 (by rfl) (by rfl) d (fun _ => by rfl) rfl (by omega) HF3.out hrt ?_; intro w16 hown16 hb16)
      | (go_simp; go_at_call 43; refine (mtrimmed_any _ _ _ _ _ HDL.out (by rw [← HDL.out]; omega) (by unfold maxLen; omega) (by exact hd1)).mono ?_; rintro e w14 ⟨rfl, rfl⟩; rw [HQ1.out])
      | (go_simp; go_at_call 21; refine (add_any _ _ q mid _ (by exact kq) (by exact km) (q + mid) rfl (by omega)).mono ?_; rintro e w15 ⟨vt, rfl, kt, ft, b15⟩; obtain ⟨At, Ct, rfl, hct, hmt, hrt⟩ := kt; have hown15 := Own.below (by exact hown13b) b15; have hb15 := (by first | exact hb13b.trans (b15.mono hb13b.size) | exact hb13b.drew.trans (b15.mono hb13b.drew.size) | exact hb13b.drew.drew.trans (b15.mono hb13b.drew.drew.size) : Below w10.heap.size w10 w15)))
    all_goals
      have hownF : Own w16 w10.heap.size 30 .u64 (.slice (some ⟨w10.heap.size, 0, none⟩) ((digs 4294967296 x).length + (digs 4294967296 y).length) ((digs 4294967296 x).length + (digs 4294967296 y).length)) (cut3 4294967296 ((digs 4294967296 x).length + (digs 4294967296 y).length) d lo hi (q + mid)) := hown16
      have hT : trim (cut3 4294967296 ((digs 4294967296 x).length + (digs 4294967296 y).length) d lo hi (q + mid)) = digs 4294967296 (x * y) := by rw [trim_digs (by omega) H10.out.1, ← H10.out.2]
      have HT := Lib.hid hT
      have hlen := hownF.len_eq
      have hmx := hownF.whole.2.2.2
      have hF0 := hownF.dropAt 0
      rw [List.drop_zero] at hF0
      have HLN := Lib.hid hlen
      clear hT hlen
      go_wp2_with fail
      refine (mtrimmed_any _ _ _ _ _ HLN.out (by have := HLN.out; omega) hmx hF0).mono ?_
      rintro e w17 ⟨rfl, rfl⟩
      go_wp2
      go_ret
      refine ⟨_, rfl, by rw [← HT.out]; exact hF0.isTrim (by have := HLN.out; omega) hmx, (hownF.fresh.mono B0.size).cut _ _, B0.trans ((hb15.trans hb16).mono B0.size)⟩

theorem byCuts_all (least : Nat) (h4 : 4 ≤ least) (hl2 : least ≤ 1000) (K : Nat) (hK : K ≤ 100001) : ByC least K := by
  induction K with
  | zero => intro x y v u w hx; omega
  | succ K ih => exact byCuts_step least K h4 hl2 (by omega) (ih (by omega))

/-- A product of two numbers, in new memory. -/
theorem mul_any (v u : Value) (x y : Nat) (w : World) (h : IsS w .u64 v (digs 4294967296 x)) (h' : IsS w .u64 u (digs 4294967296 y)) (hl : (digs 4294967296 x).length ≤ 100000) (hl' : (digs 4294967296 y).length ≤ 100000) (z : Nat) (hz : z = x * y) :
    Calls Try.prog 20 #[v, u] w (RetS .u64 (digs 4294967296 z) w) := by
  subst hz
  obtain ⟨A1, c1, rfl, _⟩ := id h
  obtain ⟨A2, c2, rfl, _⟩ := id h'
  go_enter Try.func20, Try.ntmps20
  go_wp2_with fail
  refine (byCuts_all 160 (by omega) (by omega) 100001 (by omega) x y _ _ _ (by omega) (by omega) h h').mono ?_
  rintro e w1 ⟨v1, rfl, k1, f1, b1⟩
  go_wp2
  go_ret
  exact ⟨_, rfl, k1, f1, b1⟩
end Go.Proofs.Ytcgmbmiingppgaa.nat
