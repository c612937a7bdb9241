/- An append of a whole row of fractions to a row of the call's own. Condition: as each says.
Package gauss: tables that a call changes row by row; first, own, square. Condition: as each says.
Package gauss: clearPlace. Condition: as each says.
Rows of one-cell elements that a call makes by append, all of whose cells, also those behind the last element, are of one sort; what of fractions stays when such a row is written. Condition: as each says.
Package gauss: down. Condition: as each says.
Package gauss: up: a range over slices.Backward. Condition: as each says.
Package gauss: Reduce, Rank. Condition: as each says.
Package gauss: square, Det; ints compared. Condition: as each says.
The chapter's example of layer 12; the statements' Among. Condition: as each says.
The chapter's example of layer 14. Condition: as each says.
Determinants of products; how small the tables of a statement are. Condition: as each says.
Mathematics of the inverse: beside the table that changes nothing. Condition: as each says.
Products of two tables of longer numbers. Condition: as each says.
Package gauss: Kernel. Condition: as each says.
The document's Reduce. Condition: as each says.
How small the tables of the statements are; the rank is one; what is its own steps. Condition: as each says.
The document's Det. Condition: as each says.
Rows of noughts and of one 1, the table that changes nothing: their limbs lie in new memory. Condition: as each says.
Package gauss: Inverse. Condition: as each says.
Package gauss: Inverse. Condition: as each says.
What the statement of the determinant and the inverse asks. Condition: as each says. -/
import Derived.Test.YtmpalajamfiiiaaGreatKC5
import Derived.Deep.CutRange
import Derived.RangeFuncFrom
import Derived.RangeFuncCalls
import Derived.RangeFuncLeaves
import Derived.Shelf.Abstract
import Derived.Shelf.RegionOpen
import Derived.WalkKit
import Derived.OwnWalkIn
import Derived.TacticsInMore
import Derived.LoopNIn
import Derived.LoopIn
import Derived.OwnWalk
import Derived.Deep.RegionHeld
set_option linter.unusedVariables false
set_option linter.unusedSimpArgs false
set_option maxRecDepth 100000
set_option maxHeartbeats 6400000
open And renaming intro -> zA
open List renaming setIfInBounds_toArray -> zA0, set_cons_succ -> zA1, set_cons_zero -> zA2, getElem?_eq_getElem -> zA3, getElem?_eq_some_iff -> zA4, mem_of_getElem? -> zA5, getD_eq_getElem?_getD -> zA6, take_of_length_le -> zA7, getElem_toArray -> zA8, getElem_cons_zero -> zA9, getElem_cons_succ -> zB, length_append -> zB0, replicate -> zB1, getElem?_append_left -> zB2
open Nat renaming le_refl -> zB3, le_trans -> zB4
namespace Go.Proofs.YtmpalajamfiiiaaGreat.rat
open Go.RowKit num mem nat txt str flow whl
theorem yD7 : ∀ (ps : List Elt) (j : Nat) (u : Value), (zE8 ps)[j]? = some u -> ∃ i p, ps[i]? = some p /\ ((j = i * 3 /\ u = .bool (ngB p.1.num)) \/ (j = i * 3 + 1 /\ u = p.2.1) \/ (j = i * 3 + 2 /\ u = p.2.2))
  | [], j, u, h => by simp [zE8] at h
  | p :: ps, 0, u, h => ⟨0, p, rfl, .inl ⟨rfl, by simpa [zE8, zJ5] using h.symm⟩⟩
  | p :: ps, 1, u, h => ⟨0, p, rfl, .inr (.inl ⟨rfl, by simpa [zE8, zJ5] using h.symm⟩)⟩
  | p :: ps, 2, u, h => ⟨0, p, rfl, .inr (.inr ⟨rfl, by simpa [zE8, zJ5] using h.symm⟩)⟩
  | p :: ps, j + 3, u, h => by
    have e : (zE8 (p :: ps))[j + 3]? = (zE8 ps)[j]? := by simp [zE8, zJ5]
    rw [e] at h
    obtain ⟨i, q, hq, h2⟩ := yD7 ps j u h
    refine ⟨i + 1, q, by simpa using hq, ?_⟩
    rcases h2 with ⟨a, b⟩ | ⟨a, b⟩ | ⟨a, b⟩
    · exact .inl ⟨by omega, b⟩
    · exact .inr (.inl ⟨by omega, b⟩)
    · exact .inr (.inr ⟨by omega, b⟩)
section
variable {P : Program}
theorem yX5 {w : World} {t ty T : TypeId} (hT : P.underlying t = some (.slice T)) (hI : ∃ i, P.info? T = some i /\ i.zero = some (.agg #[.bool false, .slice none 0 0, .slice none 0 0]) /\ i.size = 3 /\ i.bytes = 56) {A : Option Addr} {n c : Nat} (hn : n <= c) :
  (Builtin.append_ #[t, t] ty #[.slice A n c, .slice none 0 0]).run P w = .ok (.slice A n c) w := by
 obtain ⟨i, hi, hz, hs, hb⟩ := hI
 cases A with
 | none => simp [Builtin.append_, go_sem, run_underlying hT, sizeOf, typeInfo, hi, Builtin.lenOf, Builtin.firstCells, hn]
 | some a => simp [Builtin.append_, go_sem, run_underlying hT, sizeOf, typeInfo, hi, Builtin.lenOf, Builtin.firstCells, hn, storeCells]
theorem yX6 {w : World} {base : Nat} {t ty T : TypeId} (hT : P.underlying t = some (.slice T)) (hI : ∃ i, P.info? T = some i /\ i.zero = some (.agg #[.bool false, .slice none 0 0, .slice none 0 0]) /\ i.size = 3 /\ i.bytes = 56) {v u : Value} {ps qs : List Elt} (hown : zE0 T w base v ps) (hu : zL1 w u qs) (hone : ∀ p ∈ qs, p.2.1.oneCell' = true /\ p.2.2.oneCell' = true) (hlen : ps.length <= 1000000000) (hlen2 : qs.length <= 1000000000) (hbase : base <= w.heap.size) :
    ∃ v' w', (Builtin.append_ #[t, t] ty #[v, u]).run P w = .ok v' w' /\ zE0 T w' base v' (ps ++ qs) /\ zH9 w w' v v' := by
  obtain ⟨A, c, rfl, hc, hm, hcells⟩ := hu
  obtain ⟨Av, cv, rfl, hcv, hmv, _⟩ := hown.isVF
  by_cases hq : qs = []
  · subst hq
    cases A with
    | none =>
      refine ⟨_, w, ?_, by rw [List.append_nil]; exact hown, zH9.of_below _ (Below.refl _ w)⟩
      by_cases hc0 : c = 0
      · subst hc0
        exact yX5 hT hI hcv
      · obtain ⟨i, hi, hz, hs, hb⟩ := hI
        cases Av with
        | none => simp [Builtin.append_, go_sem, run_underlying hT, sizeOf, typeInfo, hi, Builtin.lenOf, Builtin.firstCells, hcv]
        | some a => simp [Builtin.append_, go_sem, run_underlying hT, sizeOf, typeInfo, hi, Builtin.lenOf, Builtin.firstCells, hcv, storeCells]
    | some ad =>
      obtain ⟨i, hi, hz, hs, hb⟩ := hI
      obtain ⟨v', w', g1, g2, g3, _, g5⟩ := run_append_own_at (P := P) (w := w) base t ty T i (.agg #[.bool false, .slice none 0 0, .slice none 0 0]) 3 56 hT hi hz hs hb rfl (by decide) _ ps.length (zE8 ps) hown ad 0 c [] rfl (fun j a ha => by simp at ha) (fun a ha => by simp at ha) (by unfold maxLen; omega) (by omega) hbase
      refine ⟨v', w', g1, by unfold zE0; rw [List.append_nil]; simpa using g2, qL5 g3 g5, g3, fun g hg hne e1 => ?_⟩
      rcases g5 with h | h
      · exact hne (h ▸ e1)
      · rw [h] at e1; injection e1 with e1; omega
  · obtain ⟨p0, hp0⟩ : ∃ p0, qs[0]? = some p0 := ⟨_, zA3 (List.length_pos_iff.2 hq)⟩
    obtain ⟨g0, o0, rfl, _⟩ := hcells 0 p0 hp0
    obtain ⟨i, hi, hz, hs, hb⟩ := hI
    have hadd : ∀ j, (⟨g0, o0, none⟩ : Addr).add j = ⟨g0, o0 + j, none⟩ := by
      intro j
      unfold Addr.add
      by_cases h : j = 0
      · simp [h]
      · simp [h]
    obtain ⟨v', w', g1, g2, g3, _, g5⟩ := run_append_own_at (P := P) (w := w) base t ty T i (.agg #[.bool false, .slice none 0 0, .slice none 0 0]) 3 56 hT hi hz hs hb rfl (by decide) _ ps.length (zE8 ps) hown ⟨g0, o0, none⟩ qs.length c (zE8 qs) (qI5 qs) (fun j a ha => by
      obtain ⟨k, p, hp, h⟩ := yD7 qs j a ha
      obtain ⟨g', o', e, c0, c1, c2⟩ := hcells k p hp
      injection e with e
      injection e with e1 e2
      subst e1; subst e2
      rw [hadd]
      rcases h with ⟨rfl, rfl⟩ | ⟨rfl, rfl⟩ | ⟨rfl, rfl⟩
      · exact c0
      · rw [<- Nat.add_assoc]; exact c1
      · rw [<- Nat.add_assoc]; exact c2) (fun a ha => by
      obtain ⟨p, hp, hc⟩ := yB6 ha
      simp only [zJ5, List.mem_cons, List.not_mem_nil, or_false] at hc
      rcases hc with rfl | rfl | rfl
      · rfl
      · exact (hone p hp).1
      · exact (hone p hp).2) (by unfold maxLen; omega) (by omega) hbase
    refine ⟨v', w', g1, by unfold zE0; rw [zB0, zE8, List.flatMap_append]; exact g2, qL5 g3 g5, g3, fun g hg hne e1 => ?_⟩
    rcases g5 with h | h
    · exact hne (h ▸ e1)
    · rw [h] at e1; injection e1 with e1; omega
theorem qQ1 {w : World} {ops : Array Oper} {o : Oper} {a : Act} {K : Act -> World -> Prop} {Q : Exit -> Act -> World -> Prop} {E : Prop} (hgd : o.guard = none) (s x : Operand) {t : TypeId}
  (ho : o.op = .call { callee := .builtin .append, args := #[s, x], argTypes := #[t, t] })
  {base : Nat} {T : TypeId} (hT : P.underlying t = some (.slice T)) (hI : ∃ i, P.info? T = some i /\ i.zero = some (.agg #[.bool false, .slice none 0 0, .slice none 0 0]) /\ i.size = 3 /\ i.bytes = 56) {v u : Value} {ps qs : List Elt} (hs : a.eval s = v) (hown : zE0 T w base v ps) (hx : a.eval x = u) (hu : zL1 w u qs) (hone : ∀ p ∈ qs, p.2.1.oneCell' = true /\ p.2.2.oneCell' = true) (hlen : ps.length <= 1000000000) (hlen2 : qs.length <= 1000000000) (hbase : base <= w.heap.size)
  (h : ∀ v' w', zE0 T w' base v' (ps ++ qs) -> Below base w w' -> Hid (zH9 w w' v v') -> K (a.put o.dst v') w') :
  if Region.wanted o (yielded ops a.tmps) = true then Oper.wp P o a w K Q else E := by
 have hw : Region.wanted o (yielded ops a.tmps) = true := by simp [Region.wanted, hgd]
 rw [if_pos hw]
 obtain ⟨v', w', hrun, g2, g3⟩ := yX6 (P := P) (ty := o.type) hT hI hown hu hone hlen hlen2 hbase
 unfold Oper.wp execOp
 simp only [ho, resolve, invoke, builtin, Sem.run_bind, Sem.run_pure, Result.andThen_ok, List.map_toArray, List.map_cons, List.map_nil, hs, hx, hrun]
 exact h v' w' g2 ((Below.refl base w).grown g3.2.1 hbase hown.base_le) g3
end
theorem yX7 (g o i : Nat) : (⟨g, o, none⟩ : Addr).add i = ⟨g, o + i, none⟩ := by
 unfold Addr.add
 by_cases h : i = 0
 ·simp [h]
 ·simp [h]
theorem zD9.at_ {k : IntKind} {B : Nat} {w : World} {g : Nat} {TS : TypeId} {us : List Value} {T : List (List Rat)} (h : zD9 k B w g TS us T) {i : Nat} {r : List Rat} (hr : T[i]? = some r) : ∃ Ar cr, us[i]? = some (.slice Ar r.length cr) /\ w.cell? ⟨g, i, none⟩ = some (.slice Ar r.length cr) /\ SlF k B w (.slice Ar r.length cr) r := by
 have hi : i < us.length := by rw [h.2.1]; exact (zA4.1 hr).1
 have hu : us[i]? = some us[i] := zA3 hi
 have hs := h.2.2 i _ r hu hr
 obtain ⟨Ar, cr, e, _, _⟩ := hs.shape
 have hc := h.1.cell hu
 rw [zU5] at hc
 rw [e] at hu hs hc
 exact ⟨Ar, cr, hu, hc, hs⟩
/-- A part of the table, read. -/
theorem zD9.sub {k : IntKind} {B : Nat} {w : World} {g : Nat} {TS : TypeId} {us : List Value} {T : List (List Rat)} (h : zD9 k B w g TS us T) {o m c : Nat} (hm : o + m <= T.length) (hc : m <= c) (hx : c <= maxLen) : SlT k B w (.slice (some ⟨g, o, none⟩) m c) ((T.drop o).take m) := by
 have hl : us.length = T.length := h.2.1
 have e1 : ((us.drop o).take m).length = m := by rw [List.length_take, List.length_drop]; omega
 refine ⟨(us.drop o).take m, by rw [e1, List.length_take, List.length_drop]; omega, ⟨some ⟨g, o, none⟩, c, by rw [e1], by rw [e1]; exact hc, hx, fun i u hu => ⟨_, rfl, ?_⟩⟩, fun i u r hu hr => ?_⟩
 ·rw [yX7]
  have hi : i < m := by have := (zA4.1 hu).1; omega
  rw [List.getElem?_take_of_lt hi, List.getElem?_drop] at hu
  have hcc := h.1.cell hu
  rwa [zU5] at hcc
 ·have hi : i < m := by have := (zA4.1 hu).1; omega
  rw [List.getElem?_take_of_lt hi, List.getElem?_drop] at hu hr
  exact h.2.2 _ u r hu hr
/-- A table of the call's own, at its full length, as one that is written row by row. -/
theorem TabO.tabS {T0 : TypeId} {w : World} {base g n : Nat} {TS : TypeId} {us : List Value} {pss : List (List Elt)} {k : IntKind} {B : Nat} (h : TabO k B T0 w base TS (.slice (some ⟨g, 0, none⟩) n n) us pss) (hn : us.length = n) : zD9 k B w g TS us (zE2 pss) := by
  refine ⟨⟨?_, fun u hu => ?_⟩, by rw [qC6]; exact h.len, fun i u r hu hr => ?_⟩
  · rcases h.row.2 with ⟨e, _⟩ | ⟨g', cap, cur, e, _, hg, _, _, h1, h2⟩
    · cases e
    · injection e with e1 e2 e3
      injection e1 with e1
      injection e1 with e1 _ _
      subst e1
      have e : cur = us.toArray := by
        apply Array.toList_inj.1
        rw [<- h2, zA7 (by simp; omega)]
      unfold Blk
      rw [hg, e]
  · obtain ⟨i, hi⟩ := List.mem_iff_getElem?.1 hu
    obtain ⟨ps, hp⟩ : ∃ ps, pss[i]? = some ps := ⟨_, zA3 (by rw [<- h.len]; exact (zA4.1 hi).1)⟩
    have hf := (h.own i u ps hi hp).isVF
    obtain ⟨A, c, e, _⟩ := hf
    exact ⟨A, _, c, e⟩
  · rw [zE2, List.getElem?_map] at hr
    cases hp : pss[i]? with
    | none => rw [hp] at hr; cases hr
    | some ps =>
      rw [hp] at hr
      obtain rfl : ps.map (·.1) = r := by simpa using hr
      exact (h.own i u ps hu hp).sl (h.far u (zA5 hu) ps (zA5 hp))
theorem zD6.weak {w : World} {base base' : Nat} {TS : TypeId} {V : Value} {us : List Value} (h : zD6 w base TS V us) (hb : base' <= base) : zD6 w base' TS V us := by
 refine ⟨h.1, ?_⟩
 rcases h.2 with hn | ⟨g, cap, cur, hv, hg, rest⟩
 ·exact .inl hn
 ·exact .inr ⟨g, cap, cur, hv, zB4 hb hg, rest⟩
theorem TabO.weak {k : IntKind} {B : Nat} {T TS : TypeId} {w : World} {base base' : Nat} {V : Value} {us : List Value} {pss : List (List Elt)} (h : TabO k B T w base TS V us pss) (hb : base' <= base) : TabO k B T w base' TS V us pss :=
 ⟨zD6.weak h.row hb, h.len, fun i u ps hu hp => zE0.weak (h.own i u ps hu hp) hb, h.far, h.farV, h.apart⟩
theorem yX8 {w : World} {v u0 : Value} {t0 : List (List Rat)} (h : IsV w v [u0]) (h0 : SlT .u64 4294967296 w u0 t0) : zK w v [t0] :=
  ⟨[u0], rfl, h, by simp, fun i u t hu ht => by
    rcases i with _ | i
    · obtain rfl : u0 = u := by simpa using hu
      obtain rfl : t0 = t := by simpa using ht
      exact h0
    · simp at hu⟩
/-- The first row that is not nought at the place. -/
def yX9 (L : List (List Rat)) (a : Nat) (w : World) (e : Ending) (w' : World) : Prop := ∃ k : Nat, e = .returned (.int .i64 (k : Int)) /\ k <= L.length /\ (∀ i, i < k -> zC L i a = 0) /\ (k < L.length -> zC L k a ≠ 0) /\ Below w.heap.size w w'
theorem yD8 (a0 : Value) (L : List (List Rat)) (a : Nat) (w : World) (h0 : SlT .u64 4294967296 w a0 L) (hl : ∀ r ∈ L, a < r.length) : Calls Tryz.prog 69 #[a0, .int .i64 (a : Int)] w (yX9 L a w) := by
 have st0 := h0
 obtain ⟨A0, c0, rfl, hc0, hm0⟩ := h0.shape
 unfold maxLen at hm0
 have HL := Lib.hid hl
 clear hl
 go_enter Tryz.func69, Tryz.ntmps69
 go_wp2
 go_loopw [8] (fun v8 wr => ∃ k : Nat, k <= L.length /\ Hid (∀ i, i < k -> zC L i a = 0) /\ Below w.heap.size w wr /\ v8 = .int .i64 (k : Int)) (fun v8 _ => L.length - (intOf v8).toNat)
 case atStart => exact ⟨0, by omega, (by show ∀ i, _; intro i hi; omega), Below.refl _ _, rfl⟩
 case round =>
  obtain ⟨k, hk, HZ, bb, rfl⟩ := hrel
  by_cases hlt : k < L.length
  ·obtain ⟨r, hr⟩ : ∃ r, L[k]? = some r := ⟨_, zA3 hlt⟩
   have hal := HL.out r (zA5 hr)
   obtain ⟨q, hq⟩ : ∃ q, r[a]? = some q := ⟨_, zA3 hal⟩
   have he : Hid (zC L k a = q) := qO8 hr hq
   obtain ⟨ad, rfl⟩ := st0.place (List.length_pos_iff.1 (by omega))
   obtain ⟨Ar, cr, hik, ecr, sr⟩ := (st0.below bb).at2 hr
   obtain ⟨gr, or, u, t, rfl, hia, k0, k1, k2, su, st⟩ := sr.at_ hq
   obtain ⟨Au, cu, rfl, _⟩ := id su
   obtain ⟨At, ct, rfl, _⟩ := id st
   have hix := fun w => zH8 (P := Tryz.prog) Tryz.underlying64 (by kernel_rfl) (g := gr) (o := or) (c := cr) hia w
   have kq : IsQ wr (.agg #[.bool (ngB q.num), .slice Au (digs 4294967296 q.num.natAbs).length cu, .slice At (digs 4294967296 q.den).length ct]) q := ⟨_, _, rfl, su, st⟩
   obtain ⟨t, ht⟩ : ∃ t, t = zM0 q.num 0 := ⟨_, rfl⟩
   have hz : (t == 0) = decide (q = 0) := by rw [ht, yD0]
   have HT := Lib.hid ht
   clear hr hq ht sr
   go_wp2_with fail
   refine (zS4 _ q t _ kq HT.out).mono ?_
   rintro e w4 ⟨rfl, b4⟩
   have bb4 := bb.trans (b4.mono bb.size)
   by_cases hq0 : q = 0
   ·obtain rfl : t = 0 := by
     rw [hq0] at hz
     simpa using hz
    have HZ2 : Hid (∀ i, i < k + 1 -> zC L i a = 0) := by
     show ∀ i, _
     intro i hi
     by_cases e : i = k
     ·subst e; rw [he.out]; exact hq0
     ·exact HZ.out i (by omega)
    clear hz hq0 kq k0 k1 k2
    go_wp2
    go_roundw
    case rel => exact ⟨k + 1, by omega, HZ2, bb4, by go_num⟩
    case measure => simp [intOf]; omega
   ·have hz1 : ¬ t = 0 := by
     intro e
     rw [e, decide_eq_false hq0] at hz
     exact absurd hz (by decide)
    have HN : Hid (zC L k a ≠ 0) := by show _ ≠ _; rw [he.out]; exact hq0
    clear hz hq0 kq k0 k1 k2
    go_wp2
    go_ret
    exact ⟨k, rfl, by omega, HZ.out, fun _ => HN.out, bb4⟩
  ·obtain rfl : k = L.length := by omega
   go_wp2
   go_ret
   exact ⟨_, rfl, zB3 _, HZ.out, fun h => by omega, bb⟩
theorem yY (T : List (List Rat)) : zW2 T.length [T] ↔ zG8 T := by
 unfold zW2
 constructor
 ·intro h; exact (h T List.mem_cons_self).1
 ·intro h t ht
  obtain rfl := List.mem_singleton.1 ht
  exact ⟨h, rfl⟩
theorem yY0 (T : List (List Rat)) : zP T.length [T] = T := qZ5 T
theorem yD9 (a0 : Value) (T : List (List Rat)) (w : World) (h0 : SlT .u64 4294967296 w a0 T) (hl : zC4 T <= 200 /\ T.length <= 200 /\ zE9 T 100000) : Calls Tryz.prog 33 #[a0] w (fun e w' => (zG8 T /\ RetTO T.length T w e w') \/ (¬ zG8 T /\ zU3 [] 8 w e w')) := by
 have st0 := h0
 obtain ⟨A0, c0, rfl, hc0, hm0⟩ := h0.shape
 have HL := Lib.hid hl
 clear hl
 have ba := zC8 (w := w) (zB3 _) (.cells #[.slice A0 T.length c0] 22)
 have HV := yX8 (zT3 w 22 [.slice A0 T.length c0]) (st0.below ba)
 have HLV := Lib.hid HV
 clear HV
 go_enter Tryz.func33, Tryz.ntmps33
 go_wp2_with fail
 refine (yX _ [T] T _ HLV.out rfl ⟨by simp, by simp; exact HL.out.1, fun t ht => by rw [List.mem_singleton.1 ht]; exact HL.out.2.2, HL.out.2.1⟩).mono ?_
 rintro e w2 h2
 rw [yY, yY0] at h2
 rcases h2 with ⟨hm, g, us, pss, rfl, hT, hV, hU, hg, b2⟩ | ⟨hm, V, rfl, hS, b2⟩
 ·have bb := ba.trans (b2.mono ba.size)
  have hw : w.heap.size <= (w.alloc (.cells #[.slice A0 T.length c0] 22)).heap.size := ba.size
  have HE := Lib.hid (zA hm (zA hV (zA hU (zB4 hw hg))))
  have HT := Lib.hid hT
  clear hm hT hV hU hg hw
  go_wp2
  go_ret2
  exact .inl ⟨HE.out.1, g, us, pss, rfl, TabO.weak HT.out ba.size, HE.out.2.1, HE.out.2.2.1, HE.out.2.2.2, bb⟩
 ·rw [if_neg (by decide)] at hS
  obtain ⟨AV, cV, rfl, -, -⟩ := hS.shape
  have bb := ba.trans (b2.mono ba.size)
  have HN := Lib.hid hm
  clear hm
  go_wp2
  go_ret2
  exact .inr ⟨HN.out, _, rfl, by rw [if_neg (by decide)]; exact hS, bb⟩
/-- No row lies in such a block. -/
def zO3 (us : List Value) (G : Nat -> Prop) : Prop := ∀ u ∈ us, ∀ g, u.ownBlock = some g -> ¬ G g
/-- What rows are new lie in new memory. -/
def zR (w : World) (us us' : List Value) : Prop := ∀ G : Nat -> Prop, (∀ x, G x -> x < w.heap.size) -> zO3 us G -> zO3 us' G
theorem zR.refl (w : World) (us : List Value) : zR w us us := fun _ _ h => h
theorem zR.set {w w1 : World} {us us' : List Value} (h : zR w us us') (hw : w.heap.size <= w1.heap.size) {g n c : Nat} (hg : w1.heap.size <= g) (i : Nat) : zR w us (us'.set i (.slice (some ⟨g, 0, none⟩) n c)) := fun G hG ho u hu x hx => by
 rcases List.mem_or_eq_of_mem_set hu with hu | rfl
 ·exact h G hG ho u hu x hx
 ·intro hGx
  have h1 := hG x hGx
  have h2 : g = x := by simpa [Value.ownBlock] using hx
  omega
/-- The table is changed in its place, and nothing else. -/
def qJ1 (g : Nat) (us : List Value) (T' : List (List Rat)) (w : World) (e : Ending) (w' : World) : Prop := e = .returned (.tuple #[]) /\ ∃ us', zD9 .u64 4294967296 w' g 64 us' T' /\ w.grownBy w' (some g) /\ zR w us us'
theorem yE (w : World) (row : Option Nat) : w.grownBy w row := yD (Below.refl _ w) row
theorem yY1 {w w1 : World} {g i : Nat} {u : Value} (h : w.grownBy w1 (some g)) : w.grownBy (w1.setCell ⟨g, i, none⟩ u) (some g) := h.trans (zJ0 w1 g i u)
theorem yE0 (g o m c a n C S : Nat) (us : List Value) (a1 : Value) (p : List Rat) (T : List (List Rat)) (P : Nat -> Bool) (w : World) (h : zD9 .u64 4294967296 w g 64 us T) (hp : SlF .u64 4294967296 w a1 p) (hc : Hid (shp T n C /\ p.length = C /\ a < C /\ o + m <= n /\ m <= c /\ n <= 1000000 /\ C <= 1000 /\ (∀ i, i < o -> P i = false) /\ (∀ i, o <= i -> i < o + m -> P i = true) /\ (∀ r ∈ T, zK2 r S) /\ zK2 p S /\ (0 < m -> S + S <= 4900))) :
  Calls Tryz.prog 73 #[.slice (some ⟨g, o, none⟩) m c, a1, .int .i64 (a : Int)] w (qJ1 g us (zG9 T P p a (o + m)) w) := by
 obtain ⟨A1, c1, rfl, _, _⟩ := hp.shape
 have ha := hc.out.2.2.1
 have hom := hc.out.2.2.2.1
 have hmc := hc.out.2.2.2.2.1
 have hn := hc.out.2.2.2.2.2.1
 go_enter Tryz.func73, Tryz.ntmps73
 go_wp2
 go_loopw [10] (fun v10 wr => ∃ (k : Nat) (us' : List Value), k <= m /\ zD9 .u64 4294967296 wr g 64 us' (zG9 T P p a (o + k)) /\ Hid (w.grownBy wr (some g)) /\ Hid (zR w us us') /\ v10 = .int .i64 (k : Int)) (fun v10 _ => m - (intOf v10).toNat)
 case atStart => exact ⟨0, us, by omega, by rw [Nat.add_zero, qC3 o hc.out.2.2.2.2.2.2.2.1]; exact h, yE _ _, zR.refl _ _, rfl⟩
 case round =>
  obtain ⟨k, us', hk, TS, HG, HST, rfl⟩ := hrel
  by_cases hlt : k < m
  ·have hs := hc.out.1
   obtain ⟨r, hr, hrl⟩ := zI0 hs (show o + k < n by omega)
   have hr2 : (zG9 T P p a (o + k))[o + k]? = some r := by rw [qI0 T P p a (o + k) (o + k) (zB3 _)]; exact hr
   obtain ⟨q, hq⟩ : ∃ q, r[a]? = some q := ⟨_, zA3 (by omega)⟩
   have he : Hid (zC T (o + k) a = q) := qO8 hr hq
   have hP := hc.out.2.2.2.2.2.2.2.2.1 (o + k) (by omega) (by omega)
   obtain ⟨Ar, cr, hur, ecr, sr⟩ := TS.at_ hr2
   obtain ⟨gr, or, u, t, rfl, hia, k0, k1, k2, su, st⟩ := sr.at_ hq
   obtain ⟨Au, cu, rfl, _⟩ := id su
   obtain ⟨At, ct, rfl, _⟩ := id st
   have hix := fun w => zH8 (P := Tryz.prog) Tryz.underlying64 (by kernel_rfl) (g := gr) (o := or) (c := cr) hia w
   have ba := zC8 (w := wr) (zB3 _) (.cells #[.bool (ngB q.num), .slice Au (digs 4294967296 q.num.natAbs).length cu, .slice At (digs 4294967296 q.den).length ct] 44)
   have BT := Blk.new wr 44 #[.bool (ngB q.num), .slice Au (digs 4294967296 q.num.natAbs).length cu, .slice At (digs 4294967296 q.den).length ct]
   have kq : IsQ (wr.alloc (.cells #[.bool (ngB q.num), .slice Au (digs 4294967296 q.num.natAbs).length cu, .slice At (digs 4294967296 q.den).length ct] 44)) (.agg #[.bool (ngB q.num), .slice Au (digs 4294967296 q.num.natAbs).length cu, .slice At (digs 4294967296 q.den).length ct]) q := ⟨_, _, rfl, su.below ba, st.below ba⟩
   obtain ⟨t, ht⟩ : ∃ t, t = zM0 q.num 0 := ⟨_, rfl⟩
   have hz : (t == 0) = decide (q = 0) := by rw [ht, yD0]
   have HT := Lib.hid ht
   have sp := (h.1.keepF HG.out hp).below ba
   have TSa := TS.below ba
   have sra := sr.below ba
   have HR := Lib.hid (zA hr (zA hrl (zA hq (zA hP hr2))))
   clear hr hrl hq ht su st sr hr2 hP hs TS hur
   go_wp2_with fail
   refine (zS4 _ q t _ kq HT.out).mono ?_
   rintro e w4 ⟨rfl, b4⟩
   have bb4 := ba.trans (b4.mono ba.size)
   have TS4 := TSa.below b4
   have BT4 := BT.below b4
   have kq4 := kq.below b4
   have sp4 := sp.below b4
   have sr4 := sra.below b4
   have HG4 : Hid (w.grownBy w4 (some g)) := zK8 HG.out bb4
   clear TSa BT kq sp sra b4 ba bb4 HG k0 k1 k2 ecr hix
   by_cases hq0 : q = 0
   ·obtain rfl : t = 0 := by
     rw [hq0] at hz
     simpa using hz
    have TS5 : zD9 .u64 4294967296 w4 g 64 us' (zG9 T P p a (o + (k + 1))) := by
     rw [<- Nat.add_assoc, yT2 HR.out.2.2.2.1 HR.out.1 (by rw [he.out]; exact hq0) (by rw [HR.out.2.1]; exact hc.out.2.1.symm)]
     exact TS4
    clear hz hq0 kq4 TS4 BT4 sp4 sr4
    go_wp2
    go_roundw
    case rel => exact ⟨k + 1, us', by omega, TS5, HG4, HST, by go_num⟩
    case measure => simp [intOf]; omega
   ·have hz1 : ¬ t = 0 := by
     intro e
     rw [e, decide_eq_false hq0] at hz
     exact absurd hz (by decide)
    clear hz
    have bd := (Below.refl w4.heap.size w4).drew
    have TSd := TS4.below bd
    have BTd : Blk w4.drew _ _ _ := BT4.drew
    obtain ⟨V0, V1, V2, _, _, _⟩ := three BTd
    have kqd := kq4.below bd
    have spd := sp4.below bd
    have srd := sr4.below bd
    obtain ⟨Ar2, cr2, hur2, ecr2, srd2⟩ := TSd.at_ HR.out.2.2.2.2
    have HLS : Hid (r.length = p.length /\ r.length <= 1000 /\ (∀ x ∈ r, zC3 x S) /\ zC3 q S /\ (∀ x ∈ p, zC3 x S) /\ S <= 4900 /\ S + S <= 4900) := by
     have h1 := hc.out.2.2.2.2.2.2.2.2.2.1 r (zA5 HR.out.1)
     have h2 := hc.out.2.2.2.2.2.2.2.2.2.2.1
     have h3 := hc.out.2.2.2.2.2.2.2.2.2.2.2 (by omega)
     exact ⟨by rw [HR.out.2.1]; exact hc.out.2.1.symm, by rw [HR.out.2.1]; exact hc.out.2.2.2.2.2.2.1, h1.len, h1.len q (zA5 HR.out.2.2.1), h2.len, by omega, h3⟩
    have HNL : Hid ((zI2 r q p).length <= 1000000000) := by
     show _ <= _
     rw [qN8 HLS.out.1]; have := HLS.out.2.1; omega
    have HNX : Hid ((zG9 T P p a (o + k)).set (o + k) (zI2 r q p) = zG9 T P p a (o + (k + 1))) := by
     show _ = _
     rw [<- Nat.add_assoc, qP HR.out.2.2.2.1 HR.out.1, he.out]
    have hokl : o + k < (zG9 T P p a (o + k)).length := (zA4.1 HR.out.2.2.2.2).1
    have HG5 : Hid (w.grownBy w4.drew (some g)) := zK8 HG4.out bd
    clear TS4 BT4 kq4 sp4 sr4 HG4 hq0
    go_upto_region 5 with (fail)
    go_region_law (go_simp; go_at_call 106; refine (yV9 _ _ _ r q p S S S _ (by exact srd2) (by exact kqd) (by exact spd) HLS.out.1 HLS.out.2).mono ?_; rintro e w6 ⟨gn, rfl, RNn, hgn, b6⟩; have sR := RNn.sl rfl HNL.out; have TS6 := TSd.below b6; obtain ⟨u0, c6⟩ := TS6.cellAt (i := o + k) hokl; have f6 := TS6.frozenAt (o + k))
    all_goals
     have TS7 := TS6.stored (o + k) sR
     rw [HNX.out] at TS7
     have HG7 : Hid (w.grownBy (w6.setCell ⟨g, o + k, none⟩ (.slice (some ⟨gn, 0, none⟩) (zI2 r q p).length (zI2 r q p).length)) (some g)) := yY1 (zK8 HG5.out b6)
     have HST7 : Hid (zR w us (us'.set (o + k) (.slice (some ⟨gn, 0, none⟩) (zI2 r q p).length (zI2 r q p).length))) := zR.set HST.out HG5.out.size hgn (o + k)
     clear TS6 TSd
     go_wp2
     go_roundw
     case rel => exact ⟨k + 1, _, by omega, TS7, HG7, HST7, by go_num⟩
     case measure => simp [intOf]; omega
  ·obtain rfl : k = m := by omega
   go_wp2
   go_end0
   exact ⟨rfl, us', TS, HG.out, HST.out⟩
/-- A row of the call's own, whose block holds but cells of a sort. -/
def zE5 (S : Value -> Prop) (w : World) (base : Nat) (e : TypeId) (v : Value) (vs : List Value) : Prop := zD6 w base e v vs /\ ∀ g, v.ownBlock = some g -> ∃ cs, w.heap[g]? = some (.cells cs e (0, 0)) /\ ∀ c ∈ cs, S c
theorem zE5.grown {S : Value -> Prop} {w w' : World} {base : Nat} {e : TypeId} {v : Value} {vs : List Value} {row : Option Nat} (h : zE5 S w base e v vs) (hg : w.grownBy w' row) (hne : ∀ g, v.ownBlock = some g -> row ≠ some g) : zE5 S w' base e v vs := by
 refine ⟨zD6.kept h.1 hg hne, fun g e1 => ?_⟩
 obtain ⟨cs, h1, h2⟩ := h.2 g e1
 exact ⟨cs, (hg.block g (h.1.under g e1) (fun e2 => hne g e1 e2.symm)).trans h1, h2⟩
theorem zE5.below {S : Value -> Prop} {w w' : World} {base : Nat} {e : TypeId} {v : Value} {vs : List Value} (h : zE5 S w base e v vs) (hb : Below w.heap.size w w') : zE5 S w' base e v vs := by
 refine ⟨h.1.below hb, fun g e1 => ?_⟩
 obtain ⟨cs, h1, h2⟩ := h.2 g e1
 exact ⟨cs, (hb.block g (h.1.under g e1)).trans h1, h2⟩
theorem yY2 (S : Value -> Prop) (w : World) (base : Nat) (e : TypeId) : zE5 S w base e (.slice none 0 0) [] := ⟨⟨rfl, .inl ⟨rfl, rfl⟩⟩, fun g h => by cases h⟩
/-- What holds no truth and no limb, written: a row of fractions stays. -/
theorem SlF.keepX {k : IntKind} {B : Nat} {w w' : World} {v : Value} {r : List Rat} {g : Nat} {e : TypeId} {cs : Array Value} (h : SlF k B w v r) (hB : w.heap[g]? = some (.cells cs e (0, 0))) (hb : ∀ c ∈ cs, ∀ b, c ≠ .bool b) (hi : ∀ c ∈ cs, ∀ n, c ≠ .int k n) (hg : w.grownBy w' (some g)) : SlF k B w' v r := by
 obtain ⟨ps, h1, ⟨A, c, e1, h2, h3, h4⟩, h5⟩ := h
 refine ⟨ps, h1, ⟨A, c, e1, h2, h3, fun i p hp => ?_⟩, fun p hp => ⟨Go.Proofs.YtmpalajamfiiiaaGreat.flow.off (h5 p hp).1 hB hi hg, Go.Proofs.YtmpalajamfiiiaaGreat.flow.off (h5 p hp).2 hB hi hg⟩⟩
 obtain ⟨g', o, e2, c0, c1, c2⟩ := h4 i p hp
 have hne : some g' ≠ some g := by
  intro e3
  injection e3 with e3
  subst e3
  rw [cell_of_row w g' _ cs e (0, 0) hB] at c0
  exact hb _ (Array.mem_of_getElem? c0) _ rfl
 exact ⟨g', o, e2, hg.cell c0 hne, hg.cell c1 hne, hg.cell c2 hne⟩
def isI (v : Value) : Prop := ∃ n, v = .int .i64 n
section
variable {P : Program}
/-- Append of ints to such a row. -/
theorem yY3 {w : World} {base : Nat} {t ty e : TypeId} (hT : P.underlying t = some (.slice e)) (hI : ∃ i, P.info? e = some i /\ i.zero = some (.int .i64 0) /\ i.size = 1 /\ i.bytes = 8) {v : Value} {vs news : List Value} (hown : zE5 isI w base e v vs) {ad : Addr} {m c : Nat} (hm : m = news.length) (hm0 : 0 < m)
  (hr : ∀ (i : Nat) (u : Value), news[i]? = some u -> w.cell? (ad.add i) = some u) (h1 : ∀ u ∈ news, isI u) (hlen : vs.length + m <= 1000000000) (hbase : base <= w.heap.size) :
  ∃ v' w', (Builtin.append_ #[t, t] ty #[v, .slice (some ad) m c]).run P w = .ok v' w' /\ zE5 isI w' base e v' (vs ++ news) /\ w.grownBy w' v.ownBlock /\ (v'.ownBlock = v.ownBlock \/ v'.ownBlock = some w.heap.size) := by
 obtain ⟨i, hi, hz, hs, hby⟩ := hI
 subst hm
 have one : ∀ u ∈ news, u.oneCell' = true := fun u hu => by obtain ⟨n, rfl⟩ := h1 u hu; rfl
 have hl : news.length = news.length * i.size := by rw [hs, Nat.mul_one]
 have zs : ∀ n, ∀ c ∈ Builtin.zeroCells (Value.int .i64 0).cells n, isI c := by
  intro n c hc
  have : c = .int .i64 0 := by
   have h0 : ∀ n, ∀ c ∈ (Builtin.zeroCells (Value.int .i64 0).cells n), c = .int .i64 0 := by
    intro n c hc
    unfold Builtin.zeroCells at hc
    simp [Value.cells, Nat.mod_one] at hc
    obtain ⟨_, h3⟩ := hc
    first | exact h3.symm | exact h3.2.symm
   exact h0 n c hc
  exact ⟨0, this⟩
 obtain ⟨v', w', g1, g2, g3, _, g5⟩ := run_append_own_at (P := P) w base t ty e i (.int .i64 0) 1 8 hT hi hz hs hby rfl (by decide) v vs.length vs hown.1 ad news.length c news (by simp) (fun j u hu => hr j u hu) one (by unfold maxLen; omega) (by omega) hbase
 refine ⟨v', w', g1, ⟨by unfold zD6; rw [zB0]; exact g2, fun g hg => ?_⟩, g3, g5⟩
 rcases hown.1.2 with ⟨rfl, h0⟩ | ⟨g', cap, cur, rfl, hbg, hgg, hnc, hcm, hcs, htake⟩
 ·have hx : vs = [] := List.eq_nil_of_length_eq_zero h0
  subst hx
  have hr2 := run_append_nil (P := P) w t ty e i (.int .i64 0) hT hi hz ad news.length c news hl hr hm0 (by omega) (by rw [hby]; simp at hlen; omega)
  rw [hr2] at g1
  injection g1 with g1 g1'
  subst g1; subst g1'
  obtain rfl : w.heap.size = g := by simpa [Value.ownBlock] using hg
  refine ⟨_, heap_alloc_new w.drew _, fun c hc => ?_⟩
  rcases Array.mem_append.1 hc with hc | hc
  ·exact h1 c (by simpa using hc)
  ·exact zs _ c hc
 ·obtain ⟨cs, hcs1, hcs2⟩ := hown.2 g' rfl
  rw [hgg] at hcs1
  injection hcs1 with hcs1
  injection hcs1 with hcs1 _ _
  subst hcs1
  by_cases hroom : vs.length + news.length <= cap
  ·have hfit : vs.length * i.size + news.length <= cur.size := by rw [hcs, hs]; omega
   have hr2 := run_append_room (P := P) w t ty e i hT hi g' vs.length cap cur hgg ad news.length c news hl hr one hroom hfit
   rw [hr2] at g1
   injection g1 with g1 g1'
   subst g1; subst g1'
   obtain rfl : g' = g := by simpa [Value.ownBlock] using hg
   refine ⟨_, setRow_heap w g' cur _ e _ hgg, fun c hc => ?_⟩
   have hc2 : c ∈ cur.toList.take (vs.length * i.size) ++ news ++ cur.toList.drop (vs.length * i.size + news.length) := by simpa using hc
   rcases List.mem_append.1 hc2 with hc2 | hc2
   ·rcases List.mem_append.1 hc2 with hc2 | hc2
    ·exact hcs2 c (by simpa using List.mem_of_mem_take hc2)
    ·exact h1 c hc2
   ·exact hcs2 c (by simpa using List.mem_of_mem_drop hc2)
  ·have holds : ∀ j u, vs[j]? = some u -> w.cell? ((⟨g', 0, none⟩ : Addr).add j) = some u := World.ownsRow.cells hown.1 (g := g') rfl
   have hr2 := run_append_grow (P := P) w t ty e i (.int .i64 0) hT hi hz ⟨g', 0, none⟩ vs.length cap vs (by rw [hs]; omega) holds ad news.length c news hl hr (by omega) (by omega) (growslice_fits (by omega) (by rw [hby]; omega))
   rw [hr2] at g1
   injection g1 with g1 g1'
   subst g1; subst g1'
   obtain rfl : w.heap.size = g := by simpa [Value.ownBlock] using hg
   refine ⟨_, heap_alloc_new w.drew _, fun c hc => ?_⟩
   rcases Array.mem_append.1 hc with hc | hc
   ·rcases Array.mem_append.1 hc with hc | hc
    ·have hcv : c ∈ vs := by simpa using hc
     rw [<- htake] at hcv
     exact hcs2 c (by simpa using List.mem_of_mem_take hcv)
    ·exact h1 c (by simpa using hc)
   ·exact zs _ c hc
theorem yY4 {w : World} {o : Oper} {a : Act} {K : Act -> World -> Prop} {Q : Exit -> Act -> World -> Prop} (s x : Operand) {t : TypeId}
  (ho : o.op = .call { callee := .builtin .append, args := #[s, x], argTypes := #[t, t] })
  {base : Nat} {e : TypeId} (hT : P.underlying t = some (.slice e)) (hI : ∃ i, P.info? e = some i /\ i.zero = some (.int .i64 0) /\ i.size = 1 /\ i.bytes = 8) {v : Value} {vs news : List Value} (hs : a.eval s = v) (hown : zE5 isI w base e v vs) {ad : Addr} {m c : Nat} (hx : a.eval x = .slice (some ad) m c) (hm : m = news.length) (hm0 : 0 < m)
  (hr : ∀ (i : Nat) (u : Value), news[i]? = some u -> w.cell? (ad.add i) = some u) (h1 : ∀ u ∈ news, isI u) (hlen : vs.length + m <= 1000000000) (hbase : base <= w.heap.size)
  (h : ∀ v' w', zE5 isI w' base e v' (vs ++ news) -> Hid (w.grownBy w' v.ownBlock) -> Hid (v'.ownBlock = v.ownBlock \/ v'.ownBlock = some w.heap.size) -> K (a.put o.dst v') w') : o.wp P a w K Q := by
 obtain ⟨v', w', hrun, h2, h3, h4⟩ := yY3 (P := P) (ty := o.type) hT hI hown (c := c) hm hm0 hr h1 hlen hbase
 unfold Oper.wp execOp
 simp only [ho, resolve, invoke, builtin, Sem.run_bind, Sem.run_pure, Result.andThen_ok, List.map_toArray, List.map_cons, List.map_nil, hs, hx, hrun]
 exact h v' w' h2 h3 h4
theorem yE1 {w : World} {ops : Array Oper} {rest : List Oper} {o : Oper} {a : Act} {Q : Exit -> Act -> World -> Prop} (hgd : o.guard = none) (s x : Operand) {t : TypeId}
  (ho : o.op = .call { callee := .builtin .append, args := #[s, x], argTypes := #[t, t] })
  {base : Nat} {e : TypeId} (hT : P.underlying t = some (.slice e)) (hI : ∃ i, P.info? e = some i /\ i.zero = some (.int .i64 0) /\ i.size = 1 /\ i.bytes = 8) {v : Value} {vs news : List Value} (hs : a.eval s = v) (hown : zE5 isI w base e v vs) {ad : Addr} {m c : Nat} (hx : a.eval x = .slice (some ad) m c) (hm : m = news.length) (hm0 : 0 < m)
  (hr : ∀ (i : Nat) (u : Value), news[i]? = some u -> w.cell? (ad.add i) = some u) (h1 : ∀ u ∈ news, isI u) (hlen : vs.length + m <= 1000000000) (hbase : base <= w.heap.size)
  (h : ∀ v' w', zE5 isI w' base e v' (vs ++ news) -> Hid (w.grownBy w' v.ownBlock) -> Hid (v'.ownBlock = v.ownBlock \/ v'.ownBlock = some w.heap.size) -> wpList P ops Q rest (a.put o.dst v') w') : wpList P ops Q (o :: rest) a w :=
 wpList_plain hgd fun _ hK => yY4 s x ho hT hI hs hown hx hm hm0 hr h1 hlen hbase fun v' w' h2 h3 h4 => hK _ _ (h v' w' h2 h3 h4)
end
/-- A row of ints, written: fractions of the program's stay; a table too. -/
theorem zE5.keepF {w w' : World} {base : Nat} {e : TypeId} {V : Value} {vs : List Value} {v : Value} {r : List Rat} (h : zE5 isI w base e V vs) (hg : w.grownBy w' V.ownBlock) (hs : SlF .u64 4294967296 w v r) : SlF .u64 4294967296 w' v r := by
  cases ho : V.ownBlock with
  | none => rw [ho] at hg; exact hs.below ⟨hg.os, hg.tape, hg.output, hg.size, fun k hk => hg.block k hk (by simp)⟩
  | some g =>
    rw [ho] at hg
    obtain ⟨cs, h1, h2⟩ := h.2 g ho
    exact hs.keepX h1 (fun c hc b => by obtain ⟨n, rfl⟩ := h2 c hc; simp) (fun c hc n => by obtain ⟨n', rfl⟩ := h2 c hc; simp) hg
theorem zD9.keepX {w w' : World} {base g : Nat} {e TS : TypeId} {V : Value} {vs us : List Value} {T : List (List Rat)} (h : zD9 .u64 4294967296 w g TS us T) (hX : zE5 isI w base e V vs) (hne : V.ownBlock ≠ some g) (hg : w.grownBy w' V.ownBlock) : zD9 .u64 4294967296 w' g TS us T :=
 ⟨h.1.grown hg hne, h.2.1, fun i u r hu hr => hX.keepF hg (h.2.2 i u r hu hr)⟩
theorem zE5.notTab {w : World} {base g : Nat} {e TS : TypeId} {V : Value} {vs us : List Value} (h : zE5 isI w base e V vs) (hT : zH w g TS us) (hne : e ≠ TS) : V.ownBlock ≠ some g := fun e1 => by
 obtain ⟨cs, h1, _⟩ := h.2 g e1
 have h2 := hT.1
 unfold Blk at h2
 rw [h1] at h2
 injection h2 with h2
 injection h2 with _ h2
 exact hne h2
/-- What was laid since is written: what was there stays. -/
theorem zY8 {w w1 w2 : World} {row : Option Nat} {g : Nat} (h : w.grownBy w1 row) (h2 : w1.grownBy w2 (some g)) (hg : w.heap.size <= g) : w.grownBy w2 row := by
 refine ⟨h2.os.trans h.os, h2.tape.trans h.tape, h2.output.trans h.output, zB4 h.size h2.size, fun k hk hne => ?_⟩
 rw [h2.block k (Nat.lt_of_lt_of_le hk h.size) (fun e => by injection e with e; omega)]
 exact h.block k hk hne
theorem yE2 {w w1 w2 : World} {row : Option Nat} {v : Value} (h : w.grownBy w1 row) (h2 : w1.grownBy w2 v.ownBlock) (hg : ∀ g, v.ownBlock = some g -> w.heap.size <= g) : w.grownBy w2 row := by
 cases e : v.ownBlock with
 | none => rw [e] at h2; exact zK8 h ⟨h2.os, h2.tape, h2.output, h2.size, fun k hk => h2.block k hk (by simp)⟩
 | some g => rw [e] at h2; exact zY8 h h2 (hg g e)
theorem Dwn.small {T0 T : List (List Rat)} {n C a S : Nat} {ps : List Nat} {d : Rat} (h : Dwn T0 T n C a ps d S) (hS : (S + 1) * 2 ^ (n - 1) <= 400) : zF6 T 399 := by
 obtain ⟨S', h1, h2⟩ := h.len
 refine h1.mono ?_
 have h3 : (S + 1) * 2 ^ (min ps.length (n - 1)) <= (S + 1) * 2 ^ (n - 1) := Nat.mul_le_mul_left _ (Nat.pow_le_pow_right (by omega) (Nat.min_le_right _ _))
 omega
theorem zD9.offQ {w w' : World} {g gx n C : Nat} {TS t : TypeId} {us : List Value} {T : List (List Rat)} {a b c : Value} (h : zD9 .u64 4294967296 w g TS us T) (hs : shp T n C) (hB : Blk w gx t #[a, b, c]) (hno : ∀ x ∈ (#[a, b, c] : Array Value), ∀ n, x ≠ .int .u64 n) (hne : TS ≠ t) (hg : w.grownBy w' (some gx)) (hoff : 0 < C -> ∀ u ∈ us, u.ownBlock ≠ some gx) : zD9 .u64 4294967296 w' g TS us T := by
 have hgx : g ≠ gx := fun e => by
  have h1 := h.1.1
  unfold Blk at h1 hB
  rw [e, hB] at h1
  injection h1 with h1
  injection h1 with _ h1
  exact hne h1.symm
 refine ⟨h.1.grown hg (fun e => hgx (by injection e with e; exact e.symm)), h.2.1, fun i u r hu hr => ?_⟩
 have hsl := h.2.2 i u r hu hr
 by_cases h0 : r = []
 ·subst h0; exact hsl.any
 ·have hC : 0 < C := by rw [<- hs.2 r (zA5 hr)]; exact List.length_pos_iff.2 h0
  exact hsl.off hB hno hg (hoff hC u (zA5 hu))
theorem zE5.keepS {w w' : World} {base : Nat} {e : TypeId} {V : Value} {vs : List Value} {v : Value} {l : List Nat} (h : zE5 isI w base e V vs) (hg : w.grownBy w' V.ownBlock) (hs : IsS w .u64 v l) : IsS w' .u64 v l := by
  cases ho : V.ownBlock with
  | none => rw [ho] at hg; exact hs.below ⟨hg.os, hg.tape, hg.output, hg.size, fun k hk => hg.block k hk (by simp)⟩
  | some g =>
    rw [ho] at hg
    obtain ⟨cs, h1, h2⟩ := h.2 g ho
    exact Go.Proofs.YtmpalajamfiiiaaGreat.flow.off hs h1 (fun c hc n => by obtain ⟨n', rfl⟩ := h2 c hc; simp) hg
theorem zE5.notBlk {w : World} {base g : Nat} {e t : TypeId} {V : Value} {vs : List Value} {cs : Array Value} (h : zE5 isI w base e V vs) (hT : Blk w g t cs) (hne : e ≠ t) : ∀ x, V.ownBlock = some x -> some g ≠ some x := fun x e1 e2 => by
 obtain ⟨cs, h1, _⟩ := h.2 x e1
 injection e2 with e2
 subst e2
 unfold Blk at hT
 rw [h1] at hT
 injection hT with hT
 injection hT with _ hT
 exact hne hT
theorem zE5.keepBlk {w w' : World} {base g : Nat} {e t : TypeId} {V : Value} {vs : List Value} {cs : Array Value} (h : zE5 isI w base e V vs) (hT : Blk w g t cs) (hne : e ≠ t) (hg : w.grownBy w' V.ownBlock) : Blk w' g t cs := by
  cases ho : V.ownBlock with
  | none => rw [ho] at hg; exact hT.below ⟨hg.os, hg.tape, hg.output, hg.size, fun k hk => hg.block k hk (by simp)⟩
  | some x =>
    rw [ho] at hg
    exact Blk.grown hT hg (fun e => h.notBlk hT hne x ho (by rw [e]))
theorem zR0 (w : World) (g : Nat) (x y z : Value) : w.grownBy (((w.setCell ⟨g, 0, none⟩ x).setCell ⟨g, 1, none⟩ y).setCell ⟨g, 2, none⟩ z) (some g) := ((zJ0 w g 0 x).trans (zJ0 _ g 1 y)).trans (zJ0 _ g 2 z)
theorem no3 {k : IntKind} {A D : Option Addr} {n m c e : Nat} (b : Bool) : ∀ x ∈ (#[.bool b, .slice A n c, .slice D m e] : Array Value), ∀ z, x ≠ .int k z := by
 intro x hx z
 have : x = .bool b \/ x = .slice A n c \/ x = .slice D m e := by simpa using hx
 rcases this with rfl | rfl | rfl <;> simp
theorem zO3.set {us : List Value} {G : Nat -> Prop} (h : zO3 us G) {u : Value} (hu : ∀ g, u.ownBlock = some g -> ¬ G g) (i : Nat) : zO3 (us.set i u) G := fun x hx g hg => by
 rcases List.mem_or_eq_of_mem_set hx with hx | rfl
 ·exact h x hx g hg
 ·exact hu g hg
/-- The pivots as a row of ints. -/
def pI (ps : List Nat) : List Value := vi (ps.map fun (i : Nat) => (i : Int))
theorem zT (ps : List Nat) : (pI ps).length = ps.length := by unfold pI; rw [vi_len, List.length_map]
theorem pI_snoc (ps : List Nat) (a : Nat) : pI ps ++ [.int .i64 (a : Int)] = pI (ps ++ [a]) := by unfold pI vi; simp
/-- What down hands back: the pivots, a number; and the table is changed in its place. -/
structure DownEnd (T0 : List (List Rat)) (g n C pl S : Nat) (w : World) (v v5 : Value) (w' : World) (T : List (List Rat)) (us : List Value) (ps : List Nat) (d : Rat) : Prop where
 dwn : Dwn T0 T n C pl ps d S
 tab : zD9 .u64 4294967296 w' g 64 us T
 piv : zE5 isI w' w.heap.size 3 v (pI ps)
 num : IsQ w' v5 d
 len : zC3 d (1 + 400 * ps.length)
 own : w.grownBy w' (some g)
def yE3 (T0 : List (List Rat)) (g n C pl S : Nat) (w : World) (e : Ending) (w' : World) : Prop := ∃ v v5 T us ps d, e = .returned (.tuple #[v, v5]) /\ DownEnd T0 g n C pl S w v v5 w' T us ps d
theorem qQ2 (g n C pl S : Nat) (us : List Value) (T0 : List (List Rat)) (w : World) (h : zD9 .u64 4294967296 w g 64 us T0) (hc : Hid (shp T0 n C /\ pl <= C /\ n <= 5 /\ C <= 1000 /\ zF6 T0 S /\ (S + 1) * 2 ^ (n - 1) <= 400)) :
    Calls Tryz.prog 34 #[.slice (some ⟨g, 0, none⟩) n n, .int .i64 (pl : Int)] w (yE3 T0 g n C pl S w) := by
  have hn5 := hc.out.2.2.1
  have hC := hc.out.2.2.2.1
  have hpl := hc.out.2.1
  obtain ⟨O, hO⟩ : ∃ O : Rat, O = 1 := ⟨_, rfl⟩
  have CO : ∀ w, Calls Tryz.prog 30 #[.int .i64 1] w (RetQ O w) := fun w => by
    have h := zQ8 1 w (by omega) (by omega)
    rwa [show ((1 : Int) : Rat) = O by rw [hO]; rfl] at h
  have HO := Lib.hid hO
  clear hO
  go_enter Tryz.func34, Tryz.ntmps34
  go_wp2_with fail
  refine (CO _).mono ?_
  rintro e w2 ⟨v2, rfl, k2, -, b2⟩
  obtain ⟨u2, t2, rfl, s2, d2⟩ := k2
  obtain ⟨A2, c2, rfl, _⟩ := id s2
  obtain ⟨D2, e2, rfl, _⟩ := id d2
  have ba := zC8 (w := w) (zB3 _) (.cells #[.bool false, .slice none 0 0, .slice none 0 0] 44)
  have hs1 : (w.alloc (.cells #[.bool false, .slice none 0 0, .slice none 0 0] 44)).heap.size = w.heap.size + 1 := by first | rfl | exact Array.size_push _
  have BR0 := (Blk.new w 44 #[.bool false, .slice none 0 0, .slice none 0 0]).below b2
  have ba2 := zC8 (w := w2) (zB3 _) (.cells #[.bool (ngB O.num), .slice A2 (digs 4294967296 O.num.natAbs).length c2, .slice D2 (digs 4294967296 O.den).length e2] 44)
  have BP0 := Blk.new w2 44 #[.bool (ngB O.num), .slice A2 (digs 4294967296 O.num.natAbs).length c2, .slice D2 (digs 4294967296 O.den).length e2]
  have hgP : w.heap.size < w2.heap.size := by have := b2.size; omega
  have hglt : g < w.heap.size := h.lt
  have bb2 := ba.trans (b2.mono ba.size)
  have TS0 := (h.below bb2).below ba2
  have HG0 : Hid (w.grownBy _ (some g)) := yD (bb2.trans (ba2.mono bb2.size)) (some g)
  have s20 := s2.below ba2
  have d20 := d2.below ba2
  have BR1 := BR0.below ba2
  have HD0 : Hid (Dwn T0 T0 n C 0 [] O S) := by
    show Dwn T0 T0 n C 0 [] O S
    rw [HO.out]
    exact Dwn.start hc.out.1 hc.out.2.2.2.2.1
  have HL0 : Hid (zC3 O (1 + 400 * ([] : List Nat).length)) := by
    show zC3 O _
    rw [HO.out]
    exact qY8 (.inr rfl)
  have HO0 : Hid (0 < C -> zO3 us (fun x => x = w.heap.size \/ x = w2.heap.size)) := by
    show _ -> _
    intro hC0 u hu x hx hG
    obtain ⟨i, hi⟩ := List.mem_iff_getElem?.1 hu
    obtain ⟨r, hr⟩ : ∃ r, T0[i]? = some r := ⟨_, zA3 (by rw [<- h.2.1]; exact (zA4.1 hi).1)⟩
    have hsl := h.2.2 i u r hi hr
    have hr0 : r ≠ [] := List.length_pos_iff.1 (by rw [hc.out.1.2 r (zA5 hr)]; exact hC0)
    obtain ⟨g', o', c', rfl, hlt, _⟩ := hsl.place hr0
    have e1 : g' = x := by simpa [Value.ownBlock] using hx
    rcases hG with e2 | e2 <;> omega
  clear ba b2 ba2 bb2 s2 d2 BR0 hs1
  go_wp2
  go_loopw [6, 15] (fun v6 v15 wr => ∃ (j : Nat) (T : List (List Rat)) (us' : List Value) (ps : List Nat) (d : Rat) (u t : Value), j <= pl /\ Hid (Dwn T0 T n C j ps d S) /\ zD9 .u64 4294967296 wr g 64 us' T /\ zE5 isI wr w.heap.size 3 v6 (pI ps) /\ Blk wr w2.heap.size 44 #[.bool (ngB d.num), u, t] /\ IsS wr .u64 u (digs 4294967296 d.num.natAbs) /\ IsS wr .u64 t (digs 4294967296 d.den) /\ Blk wr w.heap.size 44 #[.bool false, .slice none 0 0, .slice none 0 0] /\ Hid (zC3 d (1 + 400 * ps.length)) /\ Hid (w.grownBy wr (some g)) /\ Hid (0 < C -> zO3 us' (fun x => x = w.heap.size \/ x = w2.heap.size)) /\ v15 = .int .i64 (j : Int)) (fun _ v15 _ => pl - (intOf v15).toNat)
  case atStart => exact ⟨0, T0, us, [], O, _, _, by omega, HD0, TS0, yY2 _ _ _ _, BP0, s20, d20, BR1, HL0, HG0, HO0, rfl⟩
  case round =>
    clear TS0 BP0 s20 d20 BR1 HL0 HG0 HD0 HO0 CO HO
    obtain ⟨j, T, us', ps, d, u, t, hj, HD, TS, RP, BP, su, st, BR, HLD, HG, HOF, rfl⟩ := hrel
    obtain ⟨Au, cu, rfl, _⟩ := id su
    obtain ⟨At, ct, rfl, _⟩ := id st
    by_cases hlt : j < pl
    · obtain ⟨A6, c6, e6⟩ := zD6.slice RP.1
      rw [zT] at e6
      subst e6
      have hkn : ps.length <= n := HD.out.ech.le
      by_cases hk : ps.length < n
      · have hnk : ¬ n = ps.length := by omega
        have hTl : T.length = n := HD.out.sh.1
        have SL := TS.sub (o := ps.length) (m := n - ps.length) (c := n - ps.length) (by omega) (zB3 _) (by unfold maxLen; omega)
        have hj : j < C := by omega
        have HSH := Lib.hid HD.out.sh
        go_wp2_with fail
        refine (yD8 _ _ j _ SL (fun r hr => by rw [HSH.out.2 r (List.mem_of_mem_drop (List.mem_of_mem_take hr))]; omega)).mono ?_
        rintro e w4 ⟨f, rfl, hf, hz, hnz, b4⟩
        have hLl : ((T.drop ps.length).take (n - ps.length)).length = n - ps.length := by rw [List.length_take, List.length_drop]; omega
        have hent : ∀ i, i < n - ps.length -> zC ((T.drop ps.length).take (n - ps.length)) i j = zC T (ps.length + i) j := fun i hi => by
          have e : ((T.drop ps.length).take (n - ps.length)).getD i [] = T.getD (ps.length + i) [] := by rw [zA6, List.getElem?_take_of_lt hi, List.getElem?_drop, zA6]
          unfold zC
          rw [e]
        rw [hLl] at hf hnz
        have TS4 := TS.below b4
        have RP4 := RP.below b4
        have BP4 := BP.below b4
        have su4 := su.below b4
        have st4 := st.below b4
        have BR4 := BR.below b4
        have HG4 : Hid (w.grownBy w4 (some g)) := zK8 HG.out b4
        clear TS RP BP su st BR HG SL
        by_cases hfl : f < n - ps.length
        · have hne : zC T (ps.length + f) j ≠ 0 := by rw [<- hent f hfl]; exact hnz hfl
          have HNE := Lib.hid hne
          clear hz hnz hent hne hLl
          go_upto_if 30 with (fail)
          have hb28 : ((f : Int) == ((n - ps.length : Nat) : Int)) = false := by rw [beq_eq_false_iff_ne]; omega
          obtain ⟨B30, hB⟩ : ∃ B, B = decide (0 < f) := ⟨_, rfl⟩
          rw [hb28, <- hB]
          have HB := Lib.hid hB
          clear hb28 hB
          go_cut [] from 31 to 44 (fun wx => ∃ (us2 : List Value) (d2 : Rat) (u2 t2 : Value), zD9 .u64 4294967296 wx g 64 us2 (zH4 T ps.length (ps.length + f)) /\ Hid (zO3 us2 (fun x => x = w.heap.size \/ x = w2.heap.size)) /\ zE5 isI wx w.heap.size 3 (.slice A6 ps.length c6) (pI ps) /\ Blk wx w2.heap.size 44 #[.bool (ngB d2.num), u2, t2] /\ IsS wx .u64 u2 (digs 4294967296 d2.num.natAbs) /\ IsS wx .u64 t2 (digs 4294967296 d2.den) /\ Blk wx w.heap.size 44 #[.bool false, .slice none 0 0, .slice none 0 0] /\ Hid (d2 = if ps.length + f = ps.length then d else -d) /\ Hid (w.grownBy wx (some g)))
          case first =>
            by_cases hf0 : f = 0
            · subst hf0
              have hb : B30 = false := HB.out
              subst hb
              have e1 : zH4 T ps.length (ps.length + 0) = T := yT6 (by omega)
              have e2 : d = if ps.length + 0 = ps.length then d else -d := (if_pos rfl).symm
              go_wp2_with fail
              go_meet
              exact ⟨us', d, _, _, by rw [e1]; exact TS4, HOF.out (by omega), RP4, BP4, su4, st4, BR4, e2, HG4.out⟩
            · have hb : B30 = true := by rw [HB.out]; exact decide_eq_true (by omega)
              subst hb
              obtain ⟨rk, hrk, hrkl⟩ := zI0 HSH.out (show ps.length < n by omega)
              obtain ⟨rf, hrf, hrfl⟩ := zI0 HSH.out (show ps.length + f < n by omega)
              obtain ⟨Ak, ck, huk, eck, srk⟩ := TS4.at_ hrk
              obtain ⟨Af, cf, huf, ecf, srf⟩ := TS4.at_ hrf
              have fk := TS4.frozenAt ps.length
              have ff := TS4.frozenAt (ps.length + f)
              have hpos : 0 < n - ps.length := by omega
              go_upto_region 10 with (fail)
              go_region
              all_goals
                have TS5 := TS4.stored ps.length srf
                have srk5 := TS4.1.keepF (zJ0 w4 g ps.length (.slice Af rf.length cf)) srk
                have TS6 := TS5.stored (ps.length + f) srk5
                rw [show (T.set ps.length rf).set (ps.length + f) rk = zH4 T ps.length (ps.length + f) by unfold zH4; rw [zJ8 hrk, zJ8 hrf]] at TS6
                have G8 := zK8 ((zJ0 w4 g ps.length (.slice Af rf.length cf)).trans (zJ0 _ g (ps.length + f) (.slice Ak rk.length ck))) (Below.refl _ ((w4.setCell ⟨g, ps.length, none⟩ (.slice Af rf.length cf)).setCell ⟨g, ps.length + f, none⟩ (.slice Ak rk.length ck))).drew
                have TS8 := TS6.below (Below.refl _ _).drew
                have HO8 : Hid (zO3 ((us'.set ps.length (.slice Af rf.length cf)).set (ps.length + f) (.slice Ak rk.length ck)) (fun x => x = w.heap.size \/ x = w2.heap.size)) := ((HOF.out (by omega)).set (fun x hx => HOF.out (by omega) _ (zA5 huf) x hx) ps.length).set (fun x hx => HOF.out (by omega) _ (zA5 huk) x hx) (ps.length + f)
                have RP8 := RP4.grown G8 (fun x e1 e2 => RP4.notTab TS4.1 (by decide) (by rw [e1, e2]))
                have BP8 := Blk.grown BP4 G8 (by omega)
                have BR8 := Blk.grown BR4 G8 (by omega)
                have su8 := TS4.1.keep G8 su4
                have st8 := TS4.1.keep G8 st4
                have HG8 : Hid (w.grownBy _ (some g)) := HG4.out.trans G8
                have kd : IsQ _ (.agg #[.bool (ngB d.num), .slice Au (digs 4294967296 d.num.natAbs).length cu, .slice At (digs 4294967296 d.den).length ct]) d := ⟨_, _, rfl, su8, st8⟩
                obtain ⟨V0, V1, V2, _, _, _⟩ := three BP8
                have HLd : Hid (zC3 d 100000) := HLD.out.mono (by have := HD.out.ech.le; omega)
                clear TS5 TS6 srk5 G8 TS4 RP4 BP4 BR4 su4 st4 HG4 srk srf eck ecf fk ff su8 st8
                rw [hrfl, hrkl] at *
                obtain ⟨M, hM⟩ : ∃ M, M = -d := ⟨_, rfl⟩
                have CN : ∀ w a, IsQ w a d -> Calls Tryz.prog 60 #[a] w (RetQ M w) := fun w a h => by rw [hM]; exact qY4 a d w h HLd.out
                have HM := Lib.hid hM
                clear hM
                go_wp2_with fail
                refine (CN _ _ kd).mono ?_
                rintro e w9 ⟨v9, rfl, k9, -, b9⟩
                obtain ⟨u9, t9, rfl, s9, d9⟩ := k9
                obtain ⟨A9, c9, rfl, _⟩ := id s9
                obtain ⟨D9, e9, rfl, _⟩ := id d9
                have BP9 := BP8.below b9
                obtain ⟨X0, X1, X2, F0, F1, F2⟩ := three BP9
                have G10 := zR0 w9 w2.heap.size (.bool (ngB M.num)) (.slice A9 (digs 4294967296 M.num.natAbs).length c9) (.slice D9 (digs 4294967296 M.den).length e9)
                have B10 := zQ9 BP9 (.bool (ngB M.num)) (.slice A9 (digs 4294967296 M.num.natAbs).length c9) (.slice D9 (digs 4294967296 M.den).length e9)
                have TS10 := (TS8.below b9).offQ (qH9 HSH.out (by omega) (by omega)) BP9 (no3 _) (by decide) G10 (fun hC0 u hu e => HO8.out u hu _ e (.inr rfl))
                have RP10 := (RP8.below b9).grown G10 (fun x e1 e2 => (RP8.below b9).notBlk BP9 (by decide) x e1 e2)
                have BR10 := Blk.grown (BR8.below b9) G10 (by omega)
                have s10 := Go.Proofs.YtmpalajamfiiiaaGreat.flow.off s9 BP9 (no3 _) G10
                have d10 := Go.Proofs.YtmpalajamfiiiaaGreat.flow.off d9 BP9 (no3 _) G10
                have HG10 : Hid (w.grownBy _ (some g)) := zY8 (zK8 HG8.out b9) G10 (by omega)
                have E2 : Hid (M = if ps.length + f = ps.length then d else -d) := HM.out.trans (if_neg (by omega)).symm
                clear TS8 RP8 BP8 BR8 BP9 s9 d9 kd
                go_wp2
                go_meet
                exact ⟨_, M, _, _, TS10, HO8, RP10, B10, s10, d10, BR10, E2, HG10.out⟩
          case rest =>
            obtain ⟨us2, d2, u2, t2, TS5, HO5, RP5, BP5, su5, st5, BR5, HD2, HG5⟩ := hcut
            obtain ⟨w5, hw5⟩ : ∃ w5, w5 = wc := ⟨_, rfl⟩
            subst hw5
            clear TS4 RP4 BP4 su4 st4 BR4 HG4 HOF HB
            obtain ⟨T1, hT1⟩ : ∃ T1, T1 = zH4 T ps.length (ps.length + f) := ⟨_, rfl⟩
            rw [<- hT1] at TS5
            have hs1 : shp T1 n C := by rw [hT1]; exact qH9 HSH.out (by omega) (by omega)
            obtain ⟨r1, hr1, hrl1, hq1⟩ := zW1 hs1 hk hj
            obtain ⟨q1, hqe⟩ : ∃ q1, q1 = zC T1 ps.length j := ⟨_, rfl⟩
            rw [<- hqe] at hq1
            have hqf : q1 = zC T (ps.length + f) j := by
              rw [hqe, hT1, qO9 HSH.out (by omega) (by omega)]
              exact congrFun (if_pos rfl) j
            have hq0 : q1 ≠ 0 := by rw [hqf]; exact HNE.out
            have hR1 : zF6 T1 399 := by rw [hT1]; exact yB HSH.out (by omega) (by omega) (HD.out.small hc.out.2.2.2.2.2)
            have hLr : zK2 r1 399 := hR1 r1 (zA5 hr1)
            obtain ⟨Dn, hDn⟩ : ∃ Dn, Dn = d2 * q1 := ⟨_, rfl⟩
            obtain ⟨X, hX⟩ : ∃ X, X = q1⁻¹ := ⟨_, rfl⟩
            have hLX : zC3 X 399 := by rw [hX]; exact yM4 hq0 (hLr.len q1 (zA5 hq1))
            have hL2 : zC3 d2 (1 + 400 * ps.length) := by
              rw [HD2.out]
              by_cases e : ps.length + f = ps.length
              · rw [if_pos e]; exact HLD.out
              · rw [if_neg e]; exact qM3 HLD.out
            have hLn : zC3 Dn (1 + 400 * (ps.length + 1)) := by rw [hDn]; exact (zU0 hL2 (hLr.len q1 (zA5 hq1))).mono (by omega)
            obtain ⟨Au2, cu2, rfl, _⟩ := id su5
            obtain ⟨At2, ct2, rfl, _⟩ := id st5
            have CM : ∀ w a b, IsQ w a d2 -> IsQ w b q1 -> Calls Tryz.prog 70 #[a, b] w (RetQ Dn w) := fun w a b h1 h2 => by rw [hDn]; exact qI4 a d2 b q1 w h1 h2 (hL2.mono (by omega)) ((hLr.len q1 (zA5 hq1)).mono (by omega))
            have CV : ∀ w a, IsQ w a q1 -> Calls Tryz.prog 71 #[a] w (RetQF X 0 w) := fun w a h1 => by rw [hX]; exact inv8_ok a q1 w h1 ((hLr.len q1 (zA5 hq1)).mono (by omega)) hq0
            have HE := Lib.hid (zA hT1 (zA hs1 (zA hr1 (zA hrl1 (zA hq1 (zA hqe (zA hqf (zA hq0 (zA hR1 (zA hDn (zA hX (zA hLX hLn))))))))))))
            have HLR := Lib.hid hLr
            clear hT1 hs1 hqe hqf hq0 hR1 hDn hX hLX hLn hL2 hLr hrl1
            have bd := (Below.refl w5.heap.size w5).drew
            have TSd := TS5.below bd
            have RPd := RP5.below bd
            have BPd := BP5.below bd
            have sud := su5.below bd
            have std := st5.below bd
            have BRd := BR5.below bd
            have HGd : Hid (w.grownBy w5.drew (some g)) := zK8 HG5.out bd
            obtain ⟨Ar, cr, hur, ecr, sr⟩ := TSd.at_ hr1
            obtain ⟨gr, or, uq, tq, rfl, hia, k0, k1, k2, sq, dq⟩ := sr.at_ hq1
            obtain ⟨Aq, cq, rfl, _⟩ := id sq
            obtain ⟨Dq, eq, rfl, _⟩ := id dq
            have hix := fun w => zH8 (P := Tryz.prog) Tryz.underlying64 (by kernel_rfl) (g := gr) (o := or) (c := cr) hia w
            have kq : IsQ w5.drew (.agg #[.bool (ngB q1.num), .slice Aq (digs 4294967296 q1.num.natAbs).length cq, .slice Dq (digs 4294967296 q1.den).length eq]) q1 := ⟨_, _, rfl, sq, dq⟩
            have kd : IsQ w5.drew (.agg #[.bool (ngB d2.num), .slice Au2 (digs 4294967296 d2.num.natAbs).length cu2, .slice At2 (digs 4294967296 d2.den).length ct2]) d2 := ⟨_, _, rfl, sud, std⟩
            obtain ⟨V0, V1, V2, _, _, _⟩ := three BPd
            have hpos : 0 < n - ps.length := by omega
            clear TS5 RP5 BP5 su5 st5 BR5 HG5 bd sr hr1 hq1
            go_upto_region 12 with (fail)
            go_cut [] from 45 to 52 (fun wx => ∃ u3 t3 : Value, zD9 .u64 4294967296 wx g 64 us2 T1 /\ zE5 isI wx w.heap.size 3 (.slice A6 ps.length c6) (pI ps) /\ Blk wx w2.heap.size 44 #[.bool (ngB Dn.num), u3, t3] /\ IsS wx .u64 u3 (digs 4294967296 Dn.num.natAbs) /\ IsS wx .u64 t3 (digs 4294967296 Dn.den) /\ Blk wx w.heap.size 44 #[.bool false, .slice none 0 0, .slice none 0 0] /\ Hid (w.grownBy wx (some g)))
            case first =>
             go_region_law (go_simp; go_at_call 70; refine (CM _ _ _ (by exact kd) (by exact kq)).mono ?_; rintro e w6 ⟨v6, rfl, k6, -, b6⟩; obtain ⟨u6, t6, rfl, s6, d6⟩ := k6; obtain ⟨A7, c7, rfl, _⟩ := id s6; obtain ⟨D7, e7, rfl, _⟩ := id d6; have BP6 := BPd.below b6; obtain ⟨X0, X1, X2, F0, F1, F2⟩ := three BP6)
             all_goals
              have G7 := zR0 w6 w2.heap.size (.bool (ngB Dn.num)) (.slice A7 (digs 4294967296 Dn.num.natAbs).length c7) (.slice D7 (digs 4294967296 Dn.den).length e7)
              have B7 := zQ9 BP6 (.bool (ngB Dn.num)) (.slice A7 (digs 4294967296 Dn.num.natAbs).length c7) (.slice D7 (digs 4294967296 Dn.den).length e7)
              have TS7 := (TSd.below b6).offQ HE.out.2.1 BP6 (no3 _) (by decide) G7 (fun hC0 u hu e => HO5.out u hu _ e (.inr rfl))
              have RP7 := (RPd.below b6).grown G7 (fun x e1 e2 => (RPd.below b6).notBlk BP6 (by decide) x e1 e2)
              have BR7 := Blk.grown (BRd.below b6) G7 (by omega)
              have s7 := Go.Proofs.YtmpalajamfiiiaaGreat.flow.off s6 BP6 (no3 _) G7
              have d7 := Go.Proofs.YtmpalajamfiiiaaGreat.flow.off d6 BP6 (no3 _) G7
              have HG7 : Hid (w.grownBy _ (some g)) := zY8 (zK8 HGd.out b6) G7 (by omega)
              clear TSd RPd BPd BRd HGd BP6 s6 d6 kq kd sud std sq dq k0 k1 k2 ecr hix hur V0 V1 V2
              go_wp2
              go_meet
              exact ⟨_, _, TS7, RP7, B7, s7, d7, BR7, HG7⟩
            case rest =>
              obtain ⟨u3, t3, TS7, RP7, BP7, su7, st7, BR7, HG7⟩ := hcut
              obtain ⟨w7, hw7⟩ : ∃ w7, w7 = wc := ⟨_, rfl⟩
              subst hw7
              clear TSd RPd BPd BRd HGd kq kd sud std sq dq k0 k1 k2 ecr hix hur V0 V1 V2 CM
              obtain ⟨Ar, cr, hur, ecr, sr⟩ := TS7.at_ HE.out.2.2.1
              obtain ⟨gr, or, uq, tq, rfl, hia, k0, k1, k2, sq, dq⟩ := sr.at_ HE.out.2.2.2.2.1
              obtain ⟨Aq, cq, rfl, _⟩ := id sq
              obtain ⟨Dq, eq, rfl, _⟩ := id dq
              have hix := fun w => zH8 (P := Tryz.prog) Tryz.underlying64 (by kernel_rfl) (g := gr) (o := or) (c := cr) hia w
              have kq : IsQ w7 (.agg #[.bool (ngB q1.num), .slice Aq (digs 4294967296 q1.num.natAbs).length cq, .slice Dq (digs 4294967296 q1.den).length eq]) q1 := ⟨_, _, rfl, sq, dq⟩
              clear sr
              go_wp2_with fail
              refine (CV _ _ kq).mono ?_
              rintro e w8 ⟨v8, rfl, k8, -, b8⟩
              obtain ⟨u8, t8, rfl, s8, d8⟩ := k8
              obtain ⟨A8, c8, rfl, _⟩ := id s8
              obtain ⟨D8, e8, rfl, _⟩ := id d8
              have ba := zC8 (w := w8) (zB3 _) (.cells #[.bool (ngB X.num), .slice A8 (digs 4294967296 X.num.natAbs).length c8, .slice D8 (digs 4294967296 X.den).length e8] 44)
              have BU := Blk.new w8 44 #[.bool (ngB X.num), .slice A8 (digs 4294967296 X.num.natAbs).length c8, .slice D8 (digs 4294967296 X.den).length e8]
              have bb := b8.trans (ba.mono b8.size)
              have bd := (Below.refl (w8.alloc (.cells #[.bool (ngB X.num), .slice A8 (digs 4294967296 X.num.natAbs).length c8, .slice D8 (digs 4294967296 X.den).length e8] 44)).heap.size (w8.alloc (.cells #[.bool (ngB X.num), .slice A8 (digs 4294967296 X.num.natAbs).length c8, .slice D8 (digs 4294967296 X.den).length e8] 44))).drew
              have bb9 := bb.trans (bd.mono bb.size)
              have TS9 := TS7.below bb9
              have RP9 := RP7.below bb9
              have BP9 := BP7.below bb9
              have su9 := su7.below bb9
              have st9 := st7.below bb9
              have BR9 := BR7.below bb9
              have HG9 : Hid (w.grownBy _ (some g)) := zK8 HG7.out bb9
              have BU9 := BU.below bd
              obtain ⟨V0, V1, V2, _, _, _⟩ := three BU9
              have kX : IsQ _ (.agg #[.bool (ngB X.num), .slice A8 (digs 4294967296 X.num.natAbs).length c8, .slice D8 (digs 4294967296 X.den).length e8]) X := ⟨_, _, rfl, s8.below (ba.trans (bd.mono ba.size)), d8.below (ba.trans (bd.mono ba.size))⟩
              obtain ⟨Ar2, cr2, hur2, ecr2, sr2⟩ := TS9.at_ HE.out.2.2.1
              have HLS : Hid (r1.length <= 1000 /\ (∀ x ∈ r1, zC3 x 399) /\ zC3 X 399 /\ 399 <= 4900 /\ 399 <= 4900) := ⟨by rw [HE.out.2.2.2.1]; exact hC, HLR.out.len, HE.out.2.2.2.2.2.2.2.2.2.2.2.1, by omega, by omega⟩
              have HNL : Hid ((zG7 r1 X).length <= 1000000000) := by
                show _ <= _
                rw [qH0]; have := HLS.out.1; omega
              have hkl : ps.length < T1.length := by rw [HE.out.2.1.1]; exact hk
              clear TS7 RP7 BP7 su7 st7 BR7 HG7 ba BU bb bd bb9 s8 d8 kq sq dq k0 k1 k2 ecr hix hur CV
              go_upto_region 14 with (fail)
              go_cut [] from 63 to 69 (fun wx => ∃ us3 : List Value, zD9 .u64 4294967296 wx g 64 us3 (T1.set ps.length (zG7 r1 X)) /\ Hid (zO3 us3 (fun x => x = w.heap.size \/ x = w2.heap.size)) /\ zE5 isI wx w.heap.size 3 (.slice A6 ps.length c6) (pI ps) /\ Blk wx w2.heap.size 44 #[.bool (ngB Dn.num), u3, t3] /\ IsS wx .u64 u3 (digs 4294967296 Dn.num.natAbs) /\ IsS wx .u64 t3 (digs 4294967296 Dn.den) /\ Blk wx w.heap.size 44 #[.bool false, .slice none 0 0, .slice none 0 0] /\ Hid (w.grownBy wx (some g)))
              case first =>
                go_region_law (go_simp; go_at_call 72; refine (yV6 _ _ r1 X 399 399 _ (by exact sr2) (by exact kX) HLS.out).mono ?_; rintro e w10 ⟨gn, rfl, RNn, hgn, b10⟩; have sR := RNn.sl rfl HNL.out; have TS10 := TS9.below b10; obtain ⟨u0, c10⟩ := TS10.cellAt (i := ps.length) hkl; have f10 := TS10.frozenAt ps.length)
                all_goals
                  have TS11 := TS10.stored ps.length sR
                  have G11 := zJ0 w10 g ps.length (.slice (some ⟨gn, 0, none⟩) (zG7 r1 X).length (zG7 r1 X).length)
                  have hb10 := b10.size
                  have HO11 : Hid (zO3 (us2.set ps.length (.slice (some ⟨gn, 0, none⟩) (zG7 r1 X).length (zG7 r1 X).length)) (fun x => x = w.heap.size \/ x = w2.heap.size)) := HO5.out.set (fun x hx hG => by
                    have h1 : gn = x := by simpa [Value.ownBlock] using hx
                    have h2 := BP9.lt
                    have h3 := BR9.lt
                    rcases hG with e | e <;> omega) ps.length
                  have RP11 := (RP9.below b10).grown G11 (fun x e1 e2 => (RP9.below b10).notTab TS10.1 (by decide) (by rw [e1, e2]))
                  have BP11 := Blk.grown (BP9.below b10) G11 (by omega)
                  have BR11 := Blk.grown (BR9.below b10) G11 (by omega)
                  have su11 := TS10.1.keep G11 (su9.below b10)
                  have st11 := TS10.1.keep G11 (st9.below b10)
                  have HG11 : Hid (w.grownBy _ (some g)) := (zK8 HG9.out b10).trans G11
                  clear TS9 RP9 BP9 su9 st9 BR9 HG9 TS10 sR kX sr2
                  go_wp2
                  go_meet
                  exact ⟨_, TS11, HO11, RP11, BP11, su11, st11, BR11, HG11⟩
              case rest =>
                obtain ⟨us3, TS9', HO9, RP9', BP9', su9', st9', BR9', HG9'⟩ := hcut
                obtain ⟨w9, hw9⟩ : ∃ w9, w9 = wc := ⟨_, rfl⟩
                subst hw9
                clear TS9 RP9 BP9 su9 st9 BR9 HG9 BU9 V0 V1 V2 kX hur2 ecr2 sr2 HNL HLS HO5
                obtain ⟨T2, hT2⟩ : ∃ T2, T2 = T1.set ps.length (zG7 r1 X) := ⟨_, rfl⟩
                rw [<- hT2] at TS9'
                have eT2 : T2 = zO2 (zH4 T ps.length (ps.length + f)) ps.length (zC (zH4 T ps.length (ps.length + f)) ps.length j)⁻¹ := by
                  rw [hT2, zO2, <- HE.out.1, zJ8 HE.out.2.2.1, HE.out.2.2.2.2.2.2.2.2.2.2.1, HE.out.2.2.2.2.2.1]
                have hs2 : shp T2 n C := by rw [hT2]; exact qC1 HE.out.2.1 (by rw [qH0]; exact HE.out.2.2.2.1)
                have hp2 : T2[ps.length]? = some (zG7 r1 X) := by rw [hT2]; exact List.getElem?_set_self hkl
                have hR2 : zF6 T2 399 := by
                  rw [hT2]
                  intro x hx
                  rcases List.mem_or_eq_of_mem_set hx with hx | rfl
                  · exact HE.out.2.2.2.2.2.2.2.2.1 x hx
                  · rw [HE.out.2.2.2.2.2.2.2.2.2.2.1]
                    exact HLR.out.scale (zA5 HE.out.2.2.2.2.1) HE.out.2.2.2.2.2.2.2.1
                have HPV : Hid (zG9 T2 (fun i => decide (ps.length < i)) (zG7 r1 X) j n = zK7 T (fun i => decide (ps.length < i)) ps.length (ps.length + f) j n) := by
                  show _ = _
                  unfold zK7
                  rw [<- eT2, zJ8 hp2]
                have HDN : Hid (Dwn T0 (zK7 T (fun i => decide (ps.length < i)) ps.length (ps.length + f) j n) n C (j + 1) (ps ++ [j]) Dn S) := by
                  have h1 := HD.out.pivot hj (show ps.length <= ps.length + f by omega) (show ps.length + f < n by omega) HNE.out
                  have h2 : Dn = (if ps.length + f = ps.length then d else -d) * zC T (ps.length + f) j := by rw [HE.out.2.2.2.2.2.2.2.2.2.1, HD2.out, HE.out.2.2.2.2.2.2.1]
                  show Dwn _ _ _ _ _ _ _ _
                  rw [h2]; exact h1
                have HLL : Hid (zC3 Dn (1 + 400 * (ps ++ [j]).length)) := by
                  show zC3 _ _
                  rw [zB0]; exact HE.out.2.2.2.2.2.2.2.2.2.2.2.2
                have HPS : Hid (pI ps ++ [.int .i64 (j : Int)] = pI (ps ++ [j])) := pI_snoc ps j
                have HRP2 : Hid (zK2 (zG7 r1 X) 399) := hR2 _ (zA5 hp2)
                have hpl2 : Hid ((zG7 r1 X).length = C) := hs2.2 _ (zA5 hp2)
                have H2 := Lib.hid (zA hs2 (zA hp2 hR2))
                have bd := (Below.refl w9.heap.size w9).drew
                have TSd := TS9'.below bd
                obtain ⟨Ap, cp, hup, ecp, sp⟩ := TSd.at_ hp2
                have CC : ∀ o m : Nat, o + m = n \/ m = 0 -> ps.length <= o -> o <= n -> (m = 0 -> n = ps.length + 1) -> (m ≠ 0 -> o = ps.length + 1) -> Calls Tryz.prog 73 #[.slice (some ⟨g, o, none⟩) m m, .slice Ap (zG7 r1 X).length cp, .int .i64 (j : Int)] w9.drew (qJ1 g us3 (zK7 T (fun i => decide (ps.length < i)) ps.length (ps.length + f) j n) w9.drew) := fun o m h1 h2 h3 h4 h5 => by
                  have hc1 := yE0 g o m m j n C 399 us3 _ (zG7 r1 X) T2 (fun i => decide (ps.length < i)) w9.drew TSd sp ⟨H2.out.1, hpl2.out, hj, by omega, zB3 _, by omega, hC, fun i hi => by simp; omega, fun i h6 h7 => by simp; omega, H2.out.2.2, HRP2.out, fun _ => by omega⟩
                  have e : zG9 T2 (fun i => decide (ps.length < i)) (zG7 r1 X) j (o + m) = zK7 T (fun i => decide (ps.length < i)) ps.length (ps.length + f) j n := by
                    rw [<- HPV.out]
                    rcases h1 with h1 | h1
                    · rw [h1]
                    · subst h1
                      have h6 := h4 rfl
                      rw [qC3 (o + 0) (fun i hi => by simp; omega), qC3 n (fun i hi => by simp; omega)]
                  rwa [e] at hc1
                have RPd := RP9'.below bd
                have BPd := BP9'.below bd
                have sud := su9'.below bd
                have std := st9'.below bd
                have BRd := BR9'.below bd
                have HGd : Hid (w.grownBy w9.drew (some g)) := zK8 HG9'.out bd
                have h1m : (1 : Int) <= ((n - ps.length : Nat) : Int) := by omega
                clear TS9' RP9' BP9' su9' st9' BR9' HG9' hT2 eT2 hs2 hp2 hR2 hup
                by_cases hm2 : n - ps.length = 1
                · have HM2 := Lib.hid hm2
                  have hcc := CC ps.length 0 (.inr rfl) (zB3 _) (by omega) (fun _ => by omega) (fun e => absurd rfl e)
                  go_upto_region 15 with (fail)
                  go_region_law (go_simp; go_at_call 73; refine hcc.mono ?_; rintro e w10 ⟨rfl, us4, TS10, G10, ST10⟩)
                  all_goals
                    have RP10 := RPd.grown G10 (fun x e1 e2 => RPd.notTab TSd.1 (by decide) (by rw [e1, e2]))
                    have BP10 := Blk.grown BPd G10 (by omega)
                    have BR10 := Blk.grown BRd G10 (by omega)
                    have su10 := TSd.1.keep G10 sud
                    have st10 := TSd.1.keep G10 std
                    have HG10 : Hid (w.grownBy w10 (some g)) := HGd.out.trans G10
                    have HO10 : Hid (zO3 us4 (fun x => x = w.heap.size \/ x = w2.heap.size)) := ST10 _ (fun x hx => by
                      have h2 := BPd.lt
                      have h3 := BRd.lt
                      rcases hx with rfl | rfl
                      · exact h3
                      · exact h2) HO9.out
                    have ba := zC8 (w := w10) (zB3 _) (.cells #[.int .i64 (j : Int)] 3)
                    have RP11 := RP10.below ba
                    have TS11 := TS10.below ba
                    have BP11 := BP10.below ba
                    have BR11 := BR10.below ba
                    have su11 := su10.below ba
                    have st11 := st10.below ba
                    have HG11 : Hid (w.grownBy _ (some g)) := zK8 HG10.out ba
                    have hbase : w.heap.size <= (w10.alloc (.cells #[.int .i64 (j : Int)] 3)).heap.size := zB4 HG10.out.size ba.size
                    have hone := cell_one_new w10 (.int .i64 (j : Int)) 3
                    have hlp : (pI ps).length + 1 <= 1000000000 := by rw [zT]; omega
                    clear TSd RPd BPd BRd sud std HGd G10 TS10 RP10 BP10 BR10 su10 st10 HG10 ba ST10 ecp sp CC
                    go_wp2_with (at_builtin; refine yE1 rfl (.tmp 77) (.tmp 79) rfl Tryz.underlying26 info_int rfl RP11 rfl rfl (by decide) hone (fun u hu => by (obtain rfl := List.mem_singleton.1 hu; exact ⟨_, rfl⟩)) hlp hbase ?_; intro v12 w12 RP12 HG12 HX12)
                    have TS13 := TS11.keepX RP11 (RP11.notTab TS11.1 (by decide)) HG12.out
                    have BP13 := RP11.keepBlk BP11 (by decide) HG12.out
                    have BR13 := RP11.keepBlk BR11 (by decide) HG12.out
                    have su13 := RP11.keepS HG12.out su11
                    have st13 := RP11.keepS HG12.out st11
                    have HG13 : Hid (w.grownBy w12 (some g)) := yE2 HG11.out HG12.out (fun x e => RP11.1.base_le x e)
                    rw [HPS.out] at RP12
                    clear TS11 RP11 BP11 BR11 su11 st11 HG11 hone
                    go_wp2
                    go_roundw
                    case rel => exact ⟨j + 1, _, us4, ps ++ [j], Dn, _, _, by omega, HDN, TS13, RP12, BP13, su13, st13, BR13, HLL, HG13, fun _ => HO10.out, by go_num⟩
                    case measure => simp [intOf]; omega
                · have hcc := CC (ps.length + 1) (n - ps.length - 1) (.inl (by omega)) (by omega) (by omega) (fun e => by omega) (fun _ => rfl)
                  go_upto_region 15 with (fail)
                  go_region_law (go_simp; go_at_call 73; refine hcc.mono ?_; rintro e w10 ⟨rfl, us4, TS10, G10, ST10⟩)
                  all_goals
                    have RP10 := RPd.grown G10 (fun x e1 e2 => RPd.notTab TSd.1 (by decide) (by rw [e1, e2]))
                    have BP10 := Blk.grown BPd G10 (by omega)
                    have BR10 := Blk.grown BRd G10 (by omega)
                    have su10 := TSd.1.keep G10 sud
                    have st10 := TSd.1.keep G10 std
                    have HG10 : Hid (w.grownBy w10 (some g)) := HGd.out.trans G10
                    have HO10 : Hid (zO3 us4 (fun x => x = w.heap.size \/ x = w2.heap.size)) := ST10 _ (fun x hx => by
                      have h2 := BPd.lt
                      have h3 := BRd.lt
                      rcases hx with rfl | rfl
                      · exact h3
                      · exact h2) HO9.out
                    have ba := zC8 (w := w10) (zB3 _) (.cells #[.int .i64 (j : Int)] 3)
                    have RP11 := RP10.below ba
                    have TS11 := TS10.below ba
                    have BP11 := BP10.below ba
                    have BR11 := BR10.below ba
                    have su11 := su10.below ba
                    have st11 := st10.below ba
                    have HG11 : Hid (w.grownBy _ (some g)) := zK8 HG10.out ba
                    have hbase : w.heap.size <= (w10.alloc (.cells #[.int .i64 (j : Int)] 3)).heap.size := zB4 HG10.out.size ba.size
                    have hone := cell_one_new w10 (.int .i64 (j : Int)) 3
                    have hlp : (pI ps).length + 1 <= 1000000000 := by rw [zT]; omega
                    clear TSd RPd BPd BRd sud std HGd G10 TS10 RP10 BP10 BR10 su10 st10 HG10 ba ST10 ecp sp CC
                    go_wp2_with (at_builtin; refine yE1 rfl (.tmp 77) (.tmp 79) rfl Tryz.underlying26 info_int rfl RP11 rfl rfl (by decide) hone (fun u hu => by (obtain rfl := List.mem_singleton.1 hu; exact ⟨_, rfl⟩)) hlp hbase ?_; intro v12 w12 RP12 HG12 HX12)
                    have TS13 := TS11.keepX RP11 (RP11.notTab TS11.1 (by decide)) HG12.out
                    have BP13 := RP11.keepBlk BP11 (by decide) HG12.out
                    have BR13 := RP11.keepBlk BR11 (by decide) HG12.out
                    have su13 := RP11.keepS HG12.out su11
                    have st13 := RP11.keepS HG12.out st11
                    have HG13 : Hid (w.grownBy w12 (some g)) := yE2 HG11.out HG12.out (fun x e => RP11.1.base_le x e)
                    rw [HPS.out] at RP12
                    clear TS11 RP11 BP11 BR11 su11 st11 HG11 hone
                    go_wp2
                    go_roundw
                    case rel => exact ⟨j + 1, _, us4, ps ++ [j], Dn, _, _, by omega, HDN, TS13, RP12, BP13, su13, st13, BR13, HLL, HG13, fun _ => HO10.out, by go_num⟩
                    case measure => simp [intOf]; omega
        · obtain rfl : f = n - ps.length := by omega
          have HD5 : Hid (Dwn T0 T n C (j + 1) ps d S) := HD.out.skip fun i h1 h2 => by
            have h3 := hz (i - ps.length) (by omega)
            rw [hent _ (by omega), show ps.length + (i - ps.length) = i by omega] at h3
            exact h3
          clear hz hnz hent hLl
          go_wp2
          go_roundw
          case rel => exact ⟨j + 1, T, us', ps, d, _, _, by omega, HD5, TS4, RP4, BP4, su4, st4, BR4, HLD, HG4, HOF, by go_num⟩
          case measure => simp [intOf]; omega
      · have hn0 : n - ps.length = 0 := by omega
        have SL := TS.sub (o := 0) (m := 0) (c := 0) (by omega) (zB3 _) (by unfold maxLen; omega)
        go_wp2_with fail
        refine (yD8 _ _ j _ SL (fun r hr => by simp at hr)).mono ?_
        rintro e w4 ⟨f, rfl, hf, -, -, b4⟩
        obtain rfl : f = 0 := by simpa using hf
        have TS4 := TS.below b4
        have RP4 := RP.below b4
        have BP4 := BP.below b4
        have su4 := su.below b4
        have st4 := st.below b4
        have BR4 := BR.below b4
        have HG4 : Hid (w.grownBy w4 (some g)) := zK8 HG.out b4
        have HD5 : Hid (Dwn T0 T n C (j + 1) ps d S) := HD.out.skip fun i h1 h2 => by omega
        clear TS RP BP su st BR HG SL
        go_wp2
        go_roundw
        case rel => exact ⟨j + 1, T, us', ps, d, _, _, by omega, HD5, TS4, RP4, BP4, su4, st4, BR4, HLD, HG4, HOF, by go_num⟩
        case measure => simp [intOf]; omega
    · obtain rfl : j = pl := by omega
      obtain ⟨V0, V1, V2, _, _, _⟩ := three BP
      obtain ⟨R0, R1, R2, F0, F1, F2⟩ := three BR
      have G9 := zR0 wr w.heap.size (.bool (ngB d.num)) (.slice Au (digs 4294967296 d.num.natAbs).length cu) (.slice At (digs 4294967296 d.den).length ct)
      have B9 := zQ9 BR (.bool (ngB d.num)) (.slice Au (digs 4294967296 d.num.natAbs).length cu) (.slice At (digs 4294967296 d.den).length ct)
      have TS9 := TS.offQ HD.out.sh BR (no3 _) (by decide) G9 (fun hC0 u hu e => HOF.out hC0 u hu _ e (.inl rfl))
      have RP9 := RP.grown G9 (fun x e1 e2 => RP.notBlk BR (by decide) x e1 e2)
      have s9 := Go.Proofs.YtmpalajamfiiiaaGreat.flow.off su BR (no3 _) G9
      have d9 := Go.Proofs.YtmpalajamfiiiaaGreat.flow.off st BR (no3 _) G9
      have HG9 : Hid (w.grownBy _ (some g)) := zY8 HG.out G9 (zB3 _)
      obtain ⟨w9, hw9⟩ : ∃ w9, w9 = (((wr.setCell ⟨w.heap.size, 0, none⟩ (.bool (ngB d.num))).setCell ⟨w.heap.size, 1, none⟩ (.slice Au (digs 4294967296 d.num.natAbs).length cu)).setCell ⟨w.heap.size, 2, none⟩ (.slice At (digs 4294967296 d.den).length ct)) := ⟨_, rfl⟩
      rw [<- hw9] at B9 TS9 RP9 s9 d9 HG9
      have bd := (Below.refl w9.heap.size w9).drew
      have B10 := B9.below bd
      have HEND : Hid (yE3 T0 g n C j S w (.returned (.tuple #[u6, .agg #[.bool (ngB d.num), .slice Au (digs 4294967296 d.num.natAbs).length cu, .slice At (digs 4294967296 d.den).length ct]])) w9.drew) := ⟨_, _, T, us', ps, d, rfl, HD.out, TS9.below bd, RP9.below bd, ⟨_, _, rfl, s9.below bd, d9.below bd⟩, HLD.out, zK8 HG9.out bd⟩
      obtain ⟨C0, C1, C2, _, _, _⟩ := three B10
      clear TS9 RP9 s9 d9 HG9 B9 bd B10
      rw [hw9] at C0 C1 C2
      have HW := Lib.hid hw9
      clear hw9
      go_upto_region 18 with (fail)
      go_region
      all_goals
        go_wp2
        exact bodyPost_ret (v := .tuple #[u6, .agg #[.bool (ngB d.num), .slice Au (digs 4294967296 d.num.natAbs).length cu, .slice At (digs 4294967296 d.den).length ct]]) (by simp [results, Tryz.results34, go_sem, C0, C1, C2]) rfl (by have h := HEND.out; rw [HW.out] at h; exact h)
end Go.Proofs.YtmpalajamfiiiaaGreat.rat
namespace Go.Proofs.YtmpalajamfiiiaaGreat.rat
open Go.RowKit Go.Shelf num mem nat txt str flow whl
attribute [local go_sem] Oper.semAt_some
theorem yY5 {F : Fence} {n : Nat} {P : Program} {ops : Array Oper} {Q : Exit -> Act -> World -> Prop} {i : Nat} {K : Act -> World -> Prop} {a : Act} {w : World} (l : Nat) (hro : F.round = none) (hd : ∀ (j : Nat) (o : Oper), ops[j]? = some o -> ∀ c, o.op ≠ .defer c) (h : wpOpIn F n P ops Q i K a w) : wpOpIn (F.inRound l) n P ops Q i K a w := by
 unfold wpOpIn at *
 split
 ·rename_i e
  rw [e] at h
  exact h
 ·rename_i o e
  simp only [e] at h
  split
  ·rename_i hw
   simp only [hw, if_true] at h
   unfold Oper.wpIn at *
   refine ⟨h.1, ?_⟩
   have h := h.2
   rw [hro, Oper.semAt_none] at h
   rw [Fence.inRound_round, Oper.semAt_some l _ o (hd i o e)]
   generalize (execOp a.eval o).run P w = r at *
   cases r with
   | ok x w' => cases x <;> exact h
   | halt x w' => cases x <;> exact h
  ·rename_i hw
   simp only [hw] at h
   exact h
theorem yE4 {F : Fence} {n : Nat} {P : Program} {md : Region.Mode} {ops : Array Oper} {Q : Exit -> Act -> World -> Prop} (l : Nat) (hro : F.round = none) (hd : ∀ (j : Nat) (o : Oper), ops[j]? = some o -> ∀ c, o.op ≠ .defer c) : ∀ (fuel : Nat) (listed : Array Bool) (a : Act) (w : World), wpAnyIn F n P md ops Q fuel listed a w -> wpAnyIn (F.inRound l) n P md ops Q fuel listed a w
 | 0, _, _, _, h => h
 | fuel + 1, listed, a, w, h => ⟨h.1, fun i hi => yY5 l hro hd (wpOpIn_mono (fun a w h => yE4 l hro hd fuel _ a w h) (h.2 i hi))⟩
theorem yY6 {n : Nat} {P : Program} {l : List Oper} {Q : Exit -> Act -> World -> Prop} {id : Nat} {a : Act} {w : World} (r : Nat) (hm : P.follows .mixedOrders = true) (hd : l.all (fun o => match o.op with | .defer _ => false | _ => true) = true)
  (h : wpAnyIn Fence.wide n P .any l.toArray Q l.length (Array.replicate l.length false) a w.drew) : (Code.region id l.toArray true).wpIn (Fence.wide.inRound r) n P Q a w := by
 refine wpIn_region_any hm ?_
 refine yE4 r rfl (fun j o hj c hc => ?_) _ _ _ _ h
 have h1 := List.all_eq_true.1 hd o (by simpa using zA5 (by simpa using hj))
 rw [hc] at h1
 cases h1
theorem IsS.own {w w' : World} {row : Option Nat} {k : IntKind} {v : Value} {l : List Nat} (h : IsS w k v l) (hg : w.grownBy w' row) (hr : ∀ x, row = some x -> ∃ o : Obj, w.heap[x]? = some o /\ o.isCells = false) : IsS w' k v l := by
 obtain ⟨A, c, e, h1, h2, h3⟩ := h
 refine ⟨A, c, e, h1, h2, fun i d hd => ?_⟩
 obtain ⟨ad, h4, h5⟩ := h3 i d hd
 exact ⟨ad, h4, cell_kept h5 hg hr⟩
theorem SlF.own {w w' : World} {row : Option Nat} {k : IntKind} {B : Nat} {v : Value} {r : List Rat} (h : SlF k B w v r) (hg : w.grownBy w' row) (hr : ∀ x, row = some x -> ∃ o : Obj, w.heap[x]? = some o /\ o.isCells = false) : SlF k B w' v r := by
 obtain ⟨ps, h1, ⟨A, c, e1, h2, h3, h4⟩, h5⟩ := h
 refine ⟨ps, h1, ⟨A, c, e1, h2, h3, fun i p hp => ?_⟩, fun p hp => ⟨IsS.own (h5 p hp).1 hg hr, IsS.own (h5 p hp).2 hg hr⟩⟩
 obtain ⟨g', o, e2, c0, c1, c2⟩ := h4 i p hp
 exact ⟨g', o, e2, cell_kept c0 hg hr, cell_kept c1 hg hr, cell_kept c2 hg hr⟩
theorem zD9.ownK {w w' : World} {row : Option Nat} {k : IntKind} {B g : Nat} {TS : TypeId} {us : List Value} {T : List (List Rat)} (h : zD9 k B w g TS us T) (hg : w.grownBy w' row) (hr : ∀ x, row = some x -> ∃ o : Obj, w.heap[x]? = some o /\ o.isCells = false) : zD9 k B w' g TS us T := by
 refine ⟨h.1.grown hg fun e => ?_, h.2.1, fun i u r hu h2 => SlF.own (h.2.2 i u r hu h2) hg hr⟩
 obtain ⟨o, h1, h2⟩ := hr g e
 have h3 := h.1.1
 unfold Blk at h3
 rw [h1] at h3
 injection h3 with h3
 subst h3
 cases h2
/-- What a round keeps: all that lies below n0 but the table. -/
def KpG (g n0 : Nat) (W W' : World) : Prop := W.heap.size <= W'.heap.size /\ ∀ k, k < n0 -> k < W.heap.size -> k ≠ g -> W'.heap[k]? = W.heap[k]?
theorem KpG.refl (g n0 : Nat) (W : World) : KpG g n0 W W := ⟨zB3 _, fun _ _ _ _ => rfl⟩
theorem KpG.trans {g n0 : Nat} {A B C : World} (h : KpG g n0 A B) (k : KpG g n0 B C) : KpG g n0 A C :=
 ⟨zB4 h.1 k.1, fun i hi hl hg => (k.2 i hi (Nat.lt_of_lt_of_le hl h.1) hg).trans (h.2 i hi hl hg)⟩
theorem KpG.cell {g n0 : Nat} {W W' : World} {p : Addr} {v : Value} (h : KpG g n0 W W') (hp : W.cell? p = some v) (hn : p.block < n0) (hg : p.block ≠ g) : W'.cell? p = some v := by
 have h1 := h.2 p.block hn (World.block_lt_of_cell? _ _ hp) hg
 exact (World.cell?_of_block h1).trans hp
/-- What Backward hands a round: a place, and the pivot there. -/
abbrev BkT (ps : List Nat) := { x : Nat × Nat // x.1 < ps.length /\ x.2 = pv ps x.1 }
def bkE {ps : List Nat} (x : BkT ps) : Array Value := #[.int .i64 (x.1.1 : Int), .int .i64 (x.1.2 : Int)]
/-- From the last one on. -/
def zN4 {ps : List Nat} (xs : List (BkT ps)) : Prop := ∀ (t : Nat) (x : BkT ps), xs[t]? = some x -> x.1.1 + t + 1 = ps.length
theorem zN4.snoc {ps : List Nat} {xs : List (BkT ps)} {x : BkT ps} (h : zN4 xs) (hx : x.1.1 + xs.length + 1 = ps.length) : zN4 (xs ++ [x]) := fun t y hy => by
 by_cases ht : t < xs.length
 ·rw [zB2 ht] at hy; exact h t y hy
 ·rw [List.getElem?_append_right (by omega)] at hy
  have e : t - xs.length = 0 := by
   have := (zA4.1 hy).1
   simp at this; omega
  rw [e] at hy
  obtain rfl : x = y := by simpa using hy
  omega
theorem zN4.init {ps : List Nat} {xs : List (BkT ps)} {x : BkT ps} (h : zN4 (xs ++ [x])) : zN4 xs /\ x.1.1 + xs.length + 1 = ps.length :=
 ⟨fun t y hy => h t y (by rw [zB2 (zA4.1 hy).1]; exact hy), h xs.length x (by rw [List.getElem?_append_right (zB3 _)]; simp)⟩
theorem yY7 (F : Fence) (n : Nat) (hf : F.fn 107) (hro : F.round = none) (hn : 1 <= n) (l Bs g n0 c : Nat) (A : Option Addr) (ps : List Nat) (hps : ps.length <= 1000) (J Jx : List (BkT ps) -> World -> Prop)
  (hY : ∀ pre x W, J pre W -> pre.length < ps.length -> YieldAt F (n - 1) Tryz.prog l (bkE x) W fun e W' =>
   (e = .returned (.bool true) /\ J (pre ++ [x]) W' /\ KpG g n0 W W') \/ (e = .returned (.bool false) /\ Jx (pre ++ [x]) W'))
  (W : World) (hBs : W.cell? ⟨Bs, 0, none⟩ = some (.slice A ps.length c)) (hBn : Bs < n0) (hBg : Bs ≠ g) (hc : ∀ i, i < ps.length -> ∃ ad, A = some ad /\ ad.block < n0 /\ ad.block ≠ g /\ W.cell? (ad.add i) = some (.int .i64 (pv ps i : Int))) (h0 : J [] W) :
  CallsIn F n Tryz.prog 107 #[.func (.yield l) #[] #[], .pointer (some ⟨Bs, 0, none⟩)] W fun e W' => (∃ v, e = .returned v) /\
   ((∃ xs : List (BkT ps), (xs.length = ps.length /\ zN4 xs) /\ J xs W') \/ (∃ pre, True /\ Jx pre W')) := by
 refine callsIn_of_wp Tryz.func107 rfl hf ?_ hro
 simp only [Tryz.ntmps107, List.size_toArray, List.length_cons, List.length_nil, Nat.reduceAdd, Nat.reduceSub, Array.replicate_succ, Array.replicate_zero, List.push_toArray, List.append_toArray, List.nil_append, List.cons_append]
 gi_wp2
 gi_loopw [3] (fun v3 wr => ∃ (z : Int) (xs : List (BkT ps)), z = (ps.length : Int) - 1 - (xs.length : Int) /\ xs.length <= ps.length /\ Hid (zN4 xs) /\ v3 = .int .i64 z /\ Hid (J xs wr) /\ Hid (KpG g n0 W wr)) (fun v3 _ => (intOf v3 + 1).toNat)
 case atStart => exact ⟨_, [], by simp, Nat.zero_le _, (fun t x h => by simp at h), rfl, h0, KpG.refl _ _ _⟩
 case round =>
  obtain ⟨z, xs, hz, hxl, HB, rfl, HJ, HK⟩ := hrel
  have hBr := HK.out.cell hBs hBn hBg
  by_cases hlt : xs.length < ps.length
  ·obtain ⟨i, rfl⟩ : ∃ i : Nat, z = i := ⟨ps.length - 1 - xs.length, by omega⟩
   have hip : i < ps.length := by omega
   obtain ⟨ad, rfl, ha1, ha2, ha3⟩ := hc i hip
   have hcx := HK.out.cell ha3 (by unfold Addr.add; split <;> exact ha1) (by unfold Addr.add; split <;> exact ha2)
   obtain ⟨x, hx⟩ : ∃ x : BkT ps, x = ⟨(i, pv ps i), hip, rfl⟩ := ⟨_, rfl⟩
   have hxe : bkE x = #[.int .i64 (i : Int), .int .i64 (pv ps i : Int)] := by rw [hx]; rfl
   have hxi : x.1.1 = i := by rw [hx]
   obtain ⟨fn, tmps, assign, body, hy, hR⟩ := hY xs x wr HJ.out hlt
   rw [hxe] at hy
   have HX := Lib.hid hxi
   have HZ := Lib.hid hz
   clear hx hxe hxi hz ha3 hc
   have h0i : (0 : Int) <= (i : Int) := by omega
   gi_wp2
   refine hR.mono ?_
   rintro e W3 (⟨rfl, hJ3, hk3⟩ | ⟨rfl, hJx3⟩)
   ·have HB3 : Hid (zN4 (xs ++ [x])) := HB.out.snoc (by rw [HX.out]; have := HZ.out; omega)
    have HK3 : Hid (KpG g n0 W W3) := HK.out.trans hk3
    have HJ3 := Lib.hid hJ3
    clear hJ3 hk3
    gi_wp2
    go_roundw
    case rel => exact ⟨(i : Int) - 1, xs ++ [x], by (have := HZ.out; first | (simp; omega) | (simp; done) | omega), by simp; omega, HB3, by go_num, HJ3, HK3⟩
    case measure => first | (simp [intOf]; omega) | (simp [intOf]; done)
   ·gi_wp2
    refine bodyPost_ret (results_none rfl _ _ _) rfl ?_
    exact ⟨⟨_, rfl⟩, .inr ⟨_, trivial, hJx3⟩⟩
  ·have hz0 : ¬ (0 : Int) <= z := by omega
   have hxe : xs.length = ps.length := by omega
   have HXE := Lib.hid hxe
   clear hxe
   gi_wp2
   go_end0
   exact ⟨⟨_, rfl⟩, .inl ⟨xs, ⟨HXE.out, HB.out⟩, HJ.out⟩⟩
theorem back_in (F : Fence) (n : Nat) (hf : F.fn 74) (hro : F.round = none) (a : Option Addr) (len cap : Nat) (w : World) :
  CallsIn F n Tryz.prog 74 #[.slice a len cap] w fun e w' => e = .returned (.func (.func 107) #[] #[.pointer (some ⟨w.heap.size, 0, none⟩)]) /\ w' = w.alloc (.cells #[.slice a len cap] 26) := by
 refine callsIn_of_wp Tryz.func74 rfl hf ?_ hro
 simp only [Tryz.ntmps74, List.size_toArray, List.length_cons, List.length_nil, Nat.reduceAdd, Nat.reduceSub, Array.replicate_succ, Array.replicate_zero, List.push_toArray, List.append_toArray, List.nil_append, List.cons_append]
 gi_wp2
 go_ret
 exact ⟨rfl, rfl⟩
theorem yY8 (F : Fence) (n : Nat) (hf : F.fn 107) (hro : F.round = none) (hn : 1 <= n) (Bs g c : Nat) (A : Option Addr) (ps : List Nat) (hps : ps.length <= 1000) (w : World)
  (hBs : w.cell? ⟨Bs, 0, none⟩ = some (.slice A ps.length c)) (hBg : Bs ≠ g) (hc : ∀ i, i < ps.length -> ∃ ad, A = some ad /\ ad.block ≠ g /\ w.cell? (ad.add i) = some (.int .i64 (pv ps i : Int))) :
  SeqStopsK F n Tryz.prog 107 #[.pointer (some ⟨Bs, 0, none⟩)] (bkE (ps := ps)) (KpG g w.heap.size) (fun xs => xs.length = ps.length /\ zN4 xs) (fun _ => True) ps.length w := fun l J Jx W hW _ _ hY h0 => by
 have hB1 := World.block_lt_of_cell? _ _ hBs
 exact yY7 F n hf hro hn l Bs g w.heap.size c A ps hps J Jx hY W ((hW.cell hB1).trans hBs) hB1 hBg (fun i hi => by
  obtain ⟨ad, e, h1, h2⟩ := hc i hi
  have h3 := World.block_lt_of_cell? _ _ h2
  have h4 : (ad.add i).block = ad.block := by unfold Addr.add; split <;> rfl
  exact ⟨ad, e, by rw [<- h4]; exact h3, h1, (hW.cell h3).trans h2⟩) h0
/-- What up has, when the rounds xs are over. -/
def UpI (T0 : List (List Rat)) (g n C a S : Nat) (ps : List Nat) (w : World) (xs : List (BkT ps)) (W : World) : Prop := ∃ (us : List Value) (T : List (List Rat)) (S' : Nat), shp T n C /\ zF6 T S' /\ S' + 1 <= (S + 1) * 2 ^ xs.length /\ zD9 .u64 4294967296 W g 64 us T /\ (zN4 xs -> Upw T0 T n C a ps (ps.length - xs.length) S) /\ W.cell? ⟨w.heap.size, 0, none⟩ = some (.slice (some ⟨g, 0, none⟩) n n) /\ w.grownBy W (some g)
theorem UpI.ownFrom (T0 : List (List Rat)) (g n C a S : Nat) (ps : List Nat) (w : World) {B : Nat} (hB : w.heap.size <= B) : OwnFrom B (UpI T0 g n C a S ps w) := fun xs W W' row h hg hr => by
 obtain ⟨us, T, S', h1, h2, h3, h4, h5, h6, h7⟩ := h
 have hr2 : ∀ x, row = some x -> ∃ o : Obj, W.heap[x]? = some o /\ o.isCells = false := fun x e => (hr x e).2
 refine ⟨us, T, S', h1, h2, h3, zD9.ownK h4 hg hr2, h5, cell_kept h6 hg hr2, ?_⟩
 cases e : row with
 | none => rw [e] at hg; exact zK8 h7 ⟨hg.os, hg.tape, hg.output, hg.size, fun k hk => hg.block k hk (by simp)⟩
 | some x => rw [e] at hg; exact zY8 h7 hg (zB4 hB (hr x e).1)
def RetUp (T0 : List (List Rat)) (g n C a S : Nat) (ps : List Nat) (w : World) (e : Ending) (w' : World) : Prop := e = .returned (.tuple #[]) /\ ∃ us T, Upw T0 T n C a ps 0 S /\ zD9 .u64 4294967296 w' g 64 us T /\ w.grownBy w' (some g)
theorem yE5 (g n C a S c6 : Nat) (A6 : Option Addr) (us : List Value) (ps : List Nat) (T0 T : List (List Rat)) (w : World) (h : zD9 .u64 4294967296 w g 64 us T) (hp : ∀ i, i < ps.length -> ∃ ad, A6 = some ad /\ ad.block ≠ g /\ w.cell? (ad.add i) = some (.int .i64 (pv ps i : Int)))
  (hc : Hid (shp T n C /\ a <= C /\ n <= 5 /\ C <= 1000 /\ zF6 T S /\ (S + 1) * 2 ^ (ps.length - 1) <= 2450 /\ Ech n a (zC T) ps.length (pv ps) /\ zH3 n C (zC T0) (zC T))) :
  Calls Tryz.prog 35 #[.slice (some ⟨g, 0, none⟩) n n, .slice A6 ps.length c6] w (RetUp T0 g n C a S ps w) := by
 have hle := hc.out.2.2.2.2.2.2.1.le
 have hn5 := hc.out.2.2.1
 have hC := hc.out.2.2.2.1
 have hgl := h.lt
 refine (callsIn_wide (n := 3)).1 ?_
 refine callsIn_of_wp_marks Tryz.func35 rfl trivial ?_ rfl
 simp only [Tryz.ntmps35, List.size_toArray, List.length_cons, List.length_nil, Nat.reduceAdd, Nat.reduceSub, Array.replicate_succ, Array.replicate_zero, List.push_toArray, List.append_toArray, List.nil_append, List.cons_append]
 gi_wp2
 refine ⟨trivial, ?_⟩
 gi_at_call 74
 refine (back_in Fence.wide _ trivial rfl _ _ _ _).mono ?_
 rintro e w' ⟨rfl, rfl⟩
 gi_wp2
 have hgr0 : w.grownBy ((w.alloc (.cells #[.slice (some ⟨g, 0, none⟩) n n] 22)).alloc (.cells #[.slice A6 ps.length c6] 26)) none := (World.grownBy_alloc _ _ none).trans (World.grownBy_alloc _ _ none)
 have hs : ((w.alloc (.cells #[.slice (some ⟨g, 0, none⟩) n n] 22)).alloc (.cells #[.slice A6 ps.length c6] 26)).cell? ⟨w.heap.size, 0, none⟩ = some (.slice (some ⟨g, 0, none⟩) n n) :=
  cell_kept (by rw [World.cell?_alloc_new]; rfl) (World.grownBy_alloc _ _ none) (fun r e => by cases e)
 have hb : ((w.alloc (.cells #[.slice (some ⟨g, 0, none⟩) n n] 22)).alloc (.cells #[.slice A6 ps.length c6] 26)).cell? ⟨w.heap.size + 1, 0, none⟩ = some (.slice A6 ps.length c6) := by
  have := World.cell?_alloc_new (w := w.alloc (.cells #[.slice (some ⟨g, 0, none⟩) n n] 22)) #[.slice A6 ps.length c6] 26 0
  rw [World.size_alloc] at this
  exact this
 have hT0 := zD9.ownK h hgr0 (fun x e => by cases e)
 obtain ⟨W0, hW0⟩ : ∃ W0, ((w.alloc (.cells #[.slice (some ⟨g, 0, none⟩) n n] 22)).alloc (.cells #[.slice A6 ps.length c6] 26)) = W0 := ⟨_, rfl⟩
 have hsz : W0.heap.size = w.heap.size + 2 := by rw [<- hW0]; simp
 rw [hW0] at hgr0 hs hb hT0 |-
 refine wpIn_rangeFunc_ownF rfl (by omega) (gf := 107) (lb := #[.pointer (some ⟨w.heap.size + 1, 0, none⟩)]) rfl trivial (enters_of Tryz.func107 (by kernel_rfl) rfl)
  (yY8 Fence.wide _ trivial rfl (by omega) (w.heap.size + 1) g c6 A6 ps (by omega) W0 hb (by omega) (fun i hi => by
   obtain ⟨ad, e, h1, h2⟩ := hp i hi
   exact ⟨ad, e, h1, cell_kept h2 hgr0 (fun r e => by cases e)⟩))
  KpG.trans (fun W l o o' hl hW ho hwk => ⟨(grownBy_putObj' W l o').size, fun k hk hkw hkg => (grownBy_putObj' W l o').block k hkw (fun e => by injection e with e; omega)⟩) (Below.refl _ _) (fun _ => rfl)
  (UpI T0 g n C a S ps w) (fun _ _ _ => False)
  (UpI.ownFrom T0 g n C a S ps w (by omega))
  (fun _ _ _ _ _ hs _ _ => hs)
  ⟨us, T, S, hc.out.1, hc.out.2.2.2.2.1, by simp, hT0, fun _ => Upw.start hc.out.1 hc.out.2.2.2.2.2.2.1 hc.out.2.2.2.2.2.2.2 hc.out.2.2.2.2.1, hs, ⟨hgr0.os, hgr0.tape, hgr0.output, hgr0.size, fun k hk _ => hgr0.block k hk (by simp)⟩⟩
  (fun x => { tmps := #[.slice (some ⟨g, 0, none⟩) n n, .slice A6 ps.length c6, .pointer (some ⟨w.heap.size, 0, none⟩), undef, .int .i64 (x.1.1 : Int), .int .i64 (x.1.2 : Int), .slice A6 ps.length c6, .func (.func 107) #[] #[.pointer (some ⟨w.heap.size + 1, 0, none⟩)], .int .i64 (x.1.1 : Int), .int .i64 (x.1.2 : Int), undef, undef, undef, undef, undef, undef, undef, undef, undef], defers := [] }) ?assign ?body ?done ?stop
 case assign =>
  intro l x W K hK
  simp only [bkE]
  gi_wp2
  exact hK
 case body =>
  rintro l pre x W ⟨us1, T1, S1, q1, q2, q3, q4, q5, q6, q7⟩ hlen
  obtain ⟨⟨i, p⟩, hip, hpe⟩ := x
  dsimp only at hip hpe
  subst hpe
  obtain ⟨r, hr, hrl⟩ := zI0 q1 (show i < n by omega)
  obtain ⟨Ar, cr, hu, hcl, hsr⟩ := q4.at_ hr
  have HQ := Lib.hid (zA q1 (zA q2 (zA q3 q5)))
  have hS1 : Hid (S1 + S1 <= 4900) := by
   have e2 : (S + 1) * 2 ^ pre.length <= (S + 1) * 2 ^ (ps.length - 1) := Nat.mul_le_mul_left _ (Nat.pow_le_pow_right (by omega) (by omega))
   have e3 := hc.out.2.2.2.2.2.1
   exact (by omega : S1 + S1 <= 4900)
  have hai : pv ps i < C := Nat.lt_of_lt_of_le (hc.out.2.2.2.2.2.2.1.lt i hip) hc.out.2.1
  obtain ⟨b, hbp⟩ : ∃ b, b = pv ps i := ⟨_, rfl⟩
  have HBP := Lib.hid hbp
  have CC : ∀ w', zD9 .u64 4294967296 w' g 64 us1 T1 -> SlF .u64 4294967296 w' (.slice Ar r.length cr) r -> Calls Tryz.prog 73 #[.slice (some ⟨g, 0, none⟩) i n, .slice Ar r.length cr, .int .i64 (pv ps i : Int)] w' (qJ1 g us1 (upT T1 i (pv ps i)) w') := fun w' k1 k2 => by
   have := yE0 g 0 i n (pv ps i) n C S1 us1 (.slice Ar r.length cr) r T1 (fun _ => true) w' k1 k2 ⟨HQ.out.1, hrl, hai, by omega, by omega, by omega, hC, fun i hi => absurd hi (by omega), fun _ _ _ => rfl, HQ.out.2.1, HQ.out.2.1 r (zA5 hr), fun _ => hS1.out⟩
   rw [Nat.zero_add] at this
   unfold upT
   rw [zJ8 hr]
   exact this
  rw [hrl] at hu hcl hsr CC
  have HRL := Lib.hid (zA hr hrl)
  have hin : i <= n := by omega
  have hin2 : i < n := by omega
  have hmix : Tryz.prog.follows .mixedOrders = true := by kernel_rfl
  have fin : ∀ (a' : Act) (W' : World) (us2 : List Value), zD9 .u64 4294967296 W' g 64 us2 (upT T1 i (pv ps i)) -> W.drew.grownBy W' (some g) -> ownPostK (KpG g W0.heap.size) (UpI T0 g n C a S ps w) (fun _ _ _ => False) (pre ++ [(⟨(i, pv ps i), hip, rfl⟩ : BkT ps)]) W .normal a' W' := fun a' W' us2 k1 k2 => by
   have G : W.grownBy W' (some g) := (zK8 (yE W (some g)) (Below.refl _ W).drew).trans k2
   have hgW := q4.1.1
   have hgl2 := q4.lt
   unfold Blk at hgW
   obtain ⟨e1, e2, e3, e4⟩ := HQ.out
   refine ⟨KeepsOthers.of_grownBy G (fun j o e hj => by cases e; rw [hgW] at hj; cases hj; rfl), ⟨G.size, fun k hk hl hkg => G.block k hl (fun e => by injection e with e; omega)⟩, ?_⟩
   refine ⟨us2, _, S1 + S1 + 1, ?_, ?_, ?_, k1, fun hB => ?_, (World.cell?_of_block (G.block w.heap.size (World.block_lt_of_cell? _ _ q6) (fun e => by injection e with e; omega))).trans q6, q7.trans G⟩
   ·unfold upT
    rw [zJ8 hr]
    exact qC2 e1 hrl i (by omega)
   ·unfold upT
    rw [zJ8 hr]
    exact qI1 e1 hai e2 (e2 r (zA5 hr)) i (by omega)
   ·rw [zB0]
    exact qP1 e3
   ·obtain ⟨b1, b2⟩ := zN4.init hB
    have b3 : i + pre.length + 1 = ps.length := b2
    have u1 := e4 b1
    rw [show ps.length - pre.length = i + 1 by omega] at u1
    have u2 := u1.step hc.out.2.1 hip
    rw [show ps.length - (pre ++ [(⟨(i, pv ps i), hip, rfl⟩ : BkT ps)]).length = i by rw [zB0]; simp only [List.length_cons, List.length_nil]; omega]
    exact u2
  have hcall : Calls Tryz.prog 73 #[.slice (some ⟨g, 0, none⟩) i n, .slice Ar C cr, .int .i64 (pv ps i : Int)] W.drew (qJ1 g us1 (upT T1 i (pv ps i)) W.drew) := CC W.drew q4.drew hsr.drew
  clear CC HQ q4 hsr q1 q2 q3 q5 hS1 hai hp hT0 hb hs hgr0 hc
  obtain ⟨QQ, hQQ⟩ : ∃ QQ, QQ = ownPostK (KpG g W0.heap.size) (UpI T0 g n C a S ps w) (fun _ _ _ => False) (pre ++ [(⟨(i, pv ps i), hip, rfl⟩ : BkT ps)]) W := ⟨_, rfl⟩
  rw [<- hQQ] at fin
  have HPAN : ∀ c a a' w, QQ (.panic c) a w -> QQ (.panic c) a' w := by rw [hQQ]; exact fun _ _ _ _ h => h
  show Code.wpIn _ _ _ _ (ownPostK (KpG g W0.heap.size) (UpI T0 g n C a S ps w) (fun _ _ _ => False) (pre ++ [(⟨(i, pv ps i), hip, rfl⟩ : BkT ps)]) W) _ _
  rw [<- hQQ]
  clear hQQ
  gi_wp2
  have HPN : ∀ (o : Option Nat) (v : Value) c a w, Exit.inBlock 1 QQ (.panic c) (a.put o v) w -> Exit.inBlock 1 QQ (.panic c) a w := fun o v c a w h => HPAN c _ a w h
  refine yY6 l hmix (by kernel_rfl) ?_
  change wpAnyIn Fence.wide 1 Tryz.prog .any _ _ 9 #[false, false, false, false, false, false, false, false, false] _ _
  refine wpAnyIn_take (i := 1) (v := ?_) rfl rfl (by kernel_rfl) (by kernel_rfl) (by kernel_rfl) (HPN _ _) ⟨Or.inl ⟨by rfl, ?_⟩, fun _ => rfl⟩ ?_
  rotate_left
  ·intro w
   go_simp
   try with_reducible rfl
  refine wpAnyIn_take (i := 4) (v := ?_) rfl rfl (by kernel_rfl) (by kernel_rfl) (by kernel_rfl) (HPN _ _) ⟨Or.inl ⟨by rfl, ?_⟩, fun _ => rfl⟩ ?_
  rotate_left
  ·intro w
   go_simp
   try with_reducible rfl
  refine wpAnyIn_take (i := 7) (v := ?_) rfl rfl (by kernel_rfl) (by kernel_rfl) (by kernel_rfl) (HPN _ _) ⟨Or.inl ⟨by rfl, ?_⟩, fun _ => rfl⟩ ?_
  rotate_left
  ·intro w
   go_simp
   try with_reducible rfl
  refine wpAnyIn_ready (rs := [0, 3]) (by kernel_rfl) (by simp) ?_
  refine AllReadyIn.cons rfl (fun K hK => ?_) ?_
  ·go_simp
   refine hK _ _ ?_
   clear hK K
   refine wpAnyIn_take (i := 2) (v := ?_) rfl rfl (by kernel_rfl) (by kernel_rfl) (by kernel_rfl) (HPN _ _) ⟨Or.inl ⟨by rfl, ?_⟩, fun _ => rfl⟩ ?_
   rotate_left
   ·intro w
    go_simp
    try with_reducible rfl
   refine wpAnyIn_ready (rs := [3]) (by kernel_rfl) (by simp) ?_
   refine AllReadyIn.cons rfl (fun K hK => ?_) ?_
   ·go_simp
    refine hK _ _ ?_
    clear hK K
    refine wpAnyIn_take (i := 5) (v := ?_) rfl rfl (by kernel_rfl) (by kernel_rfl) (by kernel_rfl) (HPN _ _) ⟨Or.inl ⟨by rfl, ?_⟩, fun _ => rfl⟩ ?_
    rotate_left
    ·intro w
     go_simp
     try with_reducible rfl
    refine wpAnyIn_ready (rs := [6]) (by kernel_rfl) (by simp) ?_
    refine AllReadyIn.cons rfl (fun K hK => ?_) ?_
    ·go_simp
     refine hK _ _ ?_
     clear hK K
     refine wpAnyIn_ready (rs := [8]) (by kernel_rfl) (by simp) ?_
     refine AllReadyIn.cons rfl (fun K hK => ?_) AllReadyIn.nil
     go_simp
     refine ⟨trivial, ?_⟩
     refine (callsIn_wide.2 hcall).mono ?_
     rintro e w' ⟨rfl, us2, k1, k2, -⟩
     refine hK _ _ ?_
     refine wpAnyIn_done (by kernel_rfl) ?_ _
     exact fin _ _ us2 k1 k2
    exact AllReadyIn.nil
   exact AllReadyIn.nil
  refine AllReadyIn.cons rfl (fun K hK => ?_) ?_
  ·go_simp
   refine hK _ _ ?_
   clear hK K
   refine wpAnyIn_take (i := 5) (v := ?_) rfl rfl (by kernel_rfl) (by kernel_rfl) (by kernel_rfl) (HPN _ _) ⟨Or.inl ⟨by rfl, ?_⟩, fun _ => rfl⟩ ?_
   rotate_left
   ·intro w
    go_simp
    try with_reducible rfl
   refine wpAnyIn_ready (rs := [0, 6]) (by kernel_rfl) (by simp) ?_
   refine AllReadyIn.cons rfl (fun K hK => ?_) ?_
   ·go_simp
    refine hK _ _ ?_
    clear hK K
    refine wpAnyIn_take (i := 2) (v := ?_) rfl rfl (by kernel_rfl) (by kernel_rfl) (by kernel_rfl) (HPN _ _) ⟨Or.inl ⟨by rfl, ?_⟩, fun _ => rfl⟩ ?_
    rotate_left
    ·intro w
     go_simp
     try with_reducible rfl
    refine wpAnyIn_ready (rs := [6]) (by kernel_rfl) (by simp) ?_
    refine AllReadyIn.cons rfl (fun K hK => ?_) ?_
    ·go_simp
     refine hK _ _ ?_
     clear hK K
     refine wpAnyIn_ready (rs := [8]) (by kernel_rfl) (by simp) ?_
     refine AllReadyIn.cons rfl (fun K hK => ?_) AllReadyIn.nil
     go_simp
     refine ⟨trivial, ?_⟩
     refine (callsIn_wide.2 hcall).mono ?_
     rintro e w' ⟨rfl, us2, k1, k2, -⟩
     refine hK _ _ ?_
     refine wpAnyIn_done (by kernel_rfl) ?_ _
     exact fin _ _ us2 k1 k2
    exact AllReadyIn.nil
   refine AllReadyIn.cons rfl (fun K hK => ?_) ?_
   ·go_simp
    refine hK _ _ ?_
    clear hK K
    refine wpAnyIn_ready (rs := [0]) (by kernel_rfl) (by simp) ?_
    refine AllReadyIn.cons rfl (fun K hK => ?_) ?_
    ·go_simp
     refine hK _ _ ?_
     clear hK K
     refine wpAnyIn_take (i := 2) (v := ?_) rfl rfl (by kernel_rfl) (by kernel_rfl) (by kernel_rfl) (HPN _ _) ⟨Or.inl ⟨by rfl, ?_⟩, fun _ => rfl⟩ ?_
     rotate_left
     ·intro w
      go_simp
      try with_reducible rfl
     refine wpAnyIn_ready (rs := [8]) (by kernel_rfl) (by simp) ?_
     refine AllReadyIn.cons rfl (fun K hK => ?_) AllReadyIn.nil
     go_simp
     refine ⟨trivial, ?_⟩
     refine (callsIn_wide.2 hcall).mono ?_
     rintro e w' ⟨rfl, us2, k1, k2, -⟩
     refine hK _ _ ?_
     refine wpAnyIn_done (by kernel_rfl) ?_ _
     exact fin _ _ us2 k1 k2
    exact AllReadyIn.nil
   exact AllReadyIn.nil
  exact AllReadyIn.nil
 case done =>
  rintro D xs W hD ⟨hxl, hB⟩ ⟨us1, T1, S1, q1, q2, q3, q4, q5, q6, q7⟩ hK
  have hup := q5 hB
  rw [show ps.length - xs.length = 0 by omega] at hup
  have hDl : ∃ o : Obj, W.heap[D]? = some o /\ o.isCells = false := ⟨_, hK, rfl⟩
  refine ⟨by simp, .inl ⟨_, _, rfl, run_takeDeferred hK, ?_⟩⟩
  refine ⟨_, results_none rfl _ _ _, rfl, us1, T1, hup, zD9.ownK q4 (grownBy_putObj' W D (.deferred none)) (fun x e => by cases e; exact hDl), ?_⟩
  exact zY8 q7 (grownBy_putObj' W D (.deferred none)) (by omega)
 case stop =>
  rintro D c pre W _ _ h _
  exact h.elim
theorem qQ3 {T : List (List Rat)} (h : zG8 T) : shp T T.length (zC4 T) := ⟨rfl, h.2.2⟩
theorem pI_at {ps : List Nat} {i : Nat} (h : i < ps.length) : (pI ps)[i]? = some (.int .i64 (pv ps i : Int)) := by
 unfold pI vi pv
 rw [List.map_map, List.getElem?_map, zA3 h]
 simp [zA6, h]
theorem zE5.pvs {w : World} {base g m c : Nat} {TS : TypeId} {us : List Value} {A : Option Addr} {ps : List Nat} (h : zE5 isI w base 3 (.slice A m c) (pI ps)) (hT : zH w g TS us) (hne : 3 ≠ TS) : ∀ i, i < ps.length -> ∃ ad, A = some ad /\ ad.block ≠ g /\ w.cell? (ad.add i) = some (.int .i64 (pv ps i : Int)) := fun i hi => by
 have hn := h.notTab hT hne
 rcases h.1.2 with ⟨e, h0⟩ | ⟨g', cap, cur, e, _⟩
 ·rw [zT] at h0; omega
 ·have e2 := e
  injection e2 with e1 e2 e3
  subst e1
  have hc := h.1
  rw [e] at hc
  refine ⟨_, rfl, fun e4 => hn (by rw [<- e4]; rfl), ?_⟩
  rw [zU5]
  exact hc.cellAt (pI_at hi)
theorem zE5.weak {S : Value -> Prop} {w : World} {base base' : Nat} {e : TypeId} {v : Value} {vs : List Value} (h : zE5 S w base e v vs) (hb : base' <= base) : zE5 S w base' e v vs := ⟨zD6.weak h.1 hb, h.2⟩
theorem qD {S n m : Nat} (h : m <= n) : (S + 1) * 2 ^ m <= (S + 1) * 2 ^ n := Nat.mul_le_mul_left _ (Nat.pow_le_pow_right (by omega) h)
/-- What Reduce hands back. -/
structure RedE (T0 : List (List Rat)) (n C S : Nat) (w : World) (g : Nat) (v : Value) (w' : World) (T : List (List Rat)) (us : List Value) (ps : List Nat) : Prop where
 sh : shp T n C
 ech : Ech n C (zC T) ps.length (pv ps)
 red : Red n (zC T) ps.length (pv ps) 0
 ker : zH3 n C (zC T0) (zC T)
 len : ∃ S', zF6 T S' /\ S' + 1 <= (S + 1) * 2 ^ (min ps.length (n - 1)) * 2 ^ (ps.length - 1)
 tab : zD9 .u64 4294967296 w' g 64 us T
 piv : zE5 isI w' w.heap.size 3 v (pI ps)
 bel : Below w.heap.size w w'
 lo : w.heap.size <= g
def qJ2 (T : List (List Rat)) (S : Nat) : Prop := T.length <= 5 /\ zC4 T <= 200 /\ zF6 T S /\ S <= 100000 /\ (S + 1) * 2 ^ (T.length - 1) <= 400 /\ (S + 1) * 2 ^ (T.length - 1) * 2 ^ (T.length - 1) <= 2450
theorem yY9 (a0 : Value) (T : List (List Rat)) (S : Nat) (w : World) (h0 : SlT .u64 4294967296 w a0 T) (hc : Hid (qJ2 T S)) :
  Calls Tryz.prog 7 #[a0] w (fun e w' => (zG8 T /\ ∃ g v T' us ps, e = .returned (.tuple #[.slice (some ⟨g, 0, none⟩) T.length T.length, v, .int .i64 0]) /\ RedE T T.length (zC4 T) S w g v w' T' us ps) \/ (¬ zG8 T /\ e = .returned (.tuple #[.slice none 0 0, .slice none 0 0, .int .i64 8]) /\ Below w.heap.size w w')) := by
 have st0 := h0
 obtain ⟨A0, c0, rfl, hc0, hm0⟩ := h0.shape
 obtain ⟨n, hn⟩ : ∃ n, n = T.length := ⟨_, rfl⟩
 obtain ⟨C, hC⟩ : ∃ C, C = zC4 T := ⟨_, rfl⟩
 have HST := Lib.hid st0
 clear h0 st0 hc0 hm0
 go_enter Tryz.func7, Tryz.ntmps7
 go_wp2_with fail
 refine (yD9 _ T _ HST.out ⟨hc.out.2.1, by have := hc.out.1; omega, hc.out.2.2.1.len.mono hc.out.2.2.2.1⟩).mono ?_
 rintro e w2 (⟨hm, g, us, pss, rfl, hT, hV, hU, hg, b2⟩ | ⟨hm, V, rfl, hS, b2⟩)
 ·have TS := TabO.tabS hT hU
  rw [hV] at TS
  rw [<- hn]
  rw [<- hn] at hU
  have HM := Lib.hid hm
  have HH := Lib.hid (zA hn hC)
  have sl := TS.slT hn.symm (by have := hc.out.1; omega)
  clear hT hV hn hC hm
  go_wp2_with fail
  refine (zS7 _ T _ sl).mono ?_
  rintro e w3 ⟨rfl, b3⟩
  rw [<- HH.out.1, <- HH.out.2]
  have TS3 := TS.below b3
  have b23 := b2.trans (b3.mono b2.size)
  clear sl TS b3 b2
  go_wp2_with fail
  refine (qQ2 g n C C S us T _ TS3 ⟨by rw [HH.out.1, HH.out.2]; exact qQ3 HM.out, zB3 _, by rw [HH.out.1]; exact hc.out.1, by rw [HH.out.2]; have := hc.out.2.1; omega, hc.out.2.2.1, by rw [HH.out.1]; exact hc.out.2.2.2.2.1⟩).mono ?_
  rintro e w4 ⟨v, v5, T4, us4, ps, d, rfl, hD⟩
  obtain ⟨dwn, tab, piv, num, len, own⟩ := hD
  obtain ⟨u, t, rfl, su, st⟩ := num
  obtain ⟨Au, cu, rfl, _⟩ := id su
  obtain ⟨At, ct, rfl, _⟩ := id st
  obtain ⟨A6, c6, e6⟩ := zD6.slice piv.1
  rw [zT] at e6
  subst e6
  have hpn : ps.length <= n := dwn.ech.le
  have b24 := b23.grown own b23.size (fun k e => by cases e; exact hg)
  obtain ⟨S1, r1, hS1⟩ := dwn.len
  have hp1 := qD (S := S) (show min ps.length (n - 1) <= n - 1 by omega)
  have hp2 := qD (S := S1) (show ps.length - 1 <= n - 1 by omega)
  have hm2 : (S1 + 1) * 2 ^ (n - 1) <= (S + 1) * 2 ^ (n - 1) * 2 ^ (n - 1) := Nat.mul_le_mul_right _ (zB4 hS1 hp1)
  have hq1 := hc.out.2.2.2.2.2
  rw [<- HH.out.1] at hq1
  have HB := Lib.hid (zA hp1 (zA hp2 (zA hm2 (zA hq1 hS1))))
  clear hp1 hp2 hm2 hq1 hS1
  have ba := zC8 (w := w4) (zB3 _) (.cells #[.bool (ngB d.num), .slice Au (digs 4294967296 d.num.natAbs).length cu, .slice At (digs 4294967296 d.den).length ct] 44)
  have tab4 := tab.below ba
  have piv4 := (piv.below ba).weak b23.size
  have b25 := b24.trans (ba.mono b24.size)
  have HDW := Lib.hid dwn
  have HR1 := Lib.hid r1
  clear tab piv ba dwn r1 su st own TS3 b23 b24
  go_wp2_with fail
  have cu := yE5 g n C C S1 c6 A6 us4 ps T T4 _ tab4 (piv4.pvs tab4.1 (by decide)) ⟨HDW.out.sh, zB3 _, by rw [HH.out.1]; exact hc.out.1, by rw [HH.out.2]; have := hc.out.2.1; omega, HR1.out, by have := HB.out; omega, HDW.out.ech, HDW.out.ker⟩
  refine cu.mono ?_
  rintro e w6 ⟨rfl, us6, T6, hU6, tab6, own6⟩
  have piv6 := piv4.grown own6 (fun x e1 e2 => piv4.notTab tab4.1 (by decide) (by rw [e1, e2]))
  have b26 := b25.grown own6 b25.size (fun k e => by cases e; exact hg)
  clear cu piv4 tab4
  go_wp2
  go_ret3
  refine .inl ⟨HM.out, g, .slice A6 ps.length c6, T6, us6, ps, ?_, ?_⟩
  ·rw [<- HH.out.1]
   rfl
  ·rw [<- HH.out.1, <- HH.out.2]
   obtain ⟨S2, r2, hS2⟩ := hU6.len
   refine ⟨hU6.sh, hU6.ech, hU6.red, hU6.ker, ⟨S2, r2, zB4 hS2 ?_⟩, tab6, piv6, b26, hg⟩
   exact Nat.mul_le_mul HB.out.2.2.2.2 (Nat.pow_le_pow_right (by omega) (by omega))
 ·rw [if_neg (by decide)] at hS
  obtain ⟨AV, cV, rfl, -, -⟩ := hS.shape
  have HN := Lib.hid hm
  clear hm
  go_wp2
  go_ret3
  exact .inr ⟨HN.out, rfl, b2⟩
/-- Places, read. -/
def PvI (w : World) (v : Value) (ps : List Nat) : Prop := ∃ A c, v = .slice A ps.length c /\ ∀ i, i < ps.length -> ∃ ad, A = some ad /\ w.cell? (ad.add i) = some (.int .i64 (pv ps i : Int))
theorem PvI.below {w w' : World} {v : Value} {ps : List Nat} (h : PvI w v ps) (hb : Below w.heap.size w w') : PvI w' v ps := by
 obtain ⟨A, c, e, h1⟩ := h
 refine ⟨A, c, e, fun i hi => ?_⟩
 obtain ⟨ad, e2, h2⟩ := h1 i hi
 exact ⟨ad, e2, (hb.cell (World.block_lt_of_cell? _ _ h2)).trans h2⟩
theorem zE5.pvI {w : World} {base : Nat} {v : Value} {ps : List Nat} (h : zE5 isI w base 3 v (pI ps)) : PvI w v ps := by
 obtain ⟨A, c, e⟩ := zD6.slice h.1
 rw [zT] at e
 subst e
 refine ⟨A, c, rfl, fun i hi => ?_⟩
 rcases h.1.2 with ⟨e, h0⟩ | ⟨g', cap, cur, e, _⟩
 ·rw [zT] at h0; omega
 ·have e2 := e
  injection e2 with e1 e2 e3
  subst e1
  have hc := h.1
  rw [e] at hc
  refine ⟨_, rfl, ?_⟩
  rw [zU5]
  exact hc.cellAt (pI_at hi)
theorem yZ (a0 a1 : Value) (ps qs : List Nat) (w : World) (h0 : PvI w a0 ps) (h1 : PvI w a1 qs) (hm : ps.length <= 1000) :
    Calls Tryz.prog 14 #[a0, a1] w (zD7 (.bool (decide (ps = qs))) w) := by
  have st0 := h0
  have st1 := h1
  obtain ⟨A0, c0, rfl, _⟩ := h0
  obtain ⟨A1, c1, rfl, _⟩ := h1
  go_enter Tryz.func14, Tryz.ntmps14
  by_cases hl : ps.length = qs.length
  · rw [<- hl] at st1 |-
    have HLQ := Lib.hid hl
    clear hl
    go_wp2
    go_loopw [5] (fun v5 wr => ∃ k : Nat, k <= ps.length /\ Hid (∀ i, i < k -> pv ps i = pv qs i) /\ Below w.heap.size w wr /\ v5 = .int .i64 (k : Int)) (fun v5 _ => ps.length - (intOf v5).toNat)
    case atStart => exact ⟨0, by omega, (by show ∀ i, _; intro i hi; omega), Below.refl _ _, rfl⟩
    case round =>
      obtain ⟨k, hk, HZ, bb, rfl⟩ := hrel
      by_cases hlt : k < ps.length
      · obtain ⟨A, c, e, hA⟩ := st0.below bb
        injection e with e1 _ e3
        subst e1; subst e3
        obtain ⟨A', c', e, hA'⟩ := st1.below bb
        injection e with e1 _ e3
        subst e1; subst e3
        obtain ⟨ad, rfl, k0⟩ := hA k hlt
        obtain ⟨ad', rfl, k1⟩ := hA' k (by have := HLQ.out; omega)
        have bd := bb.drew
        obtain ⟨x, hx⟩ : ∃ x, x = pv ps k := ⟨_, rfl⟩
        obtain ⟨y, hy⟩ : ∃ y, y = pv qs k := ⟨_, rfl⟩
        rw [<- hx] at k0
        rw [<- hy] at k1
        have HX := Lib.hid (zA hx hy)
        clear hx hy hA hA' st0 st1
        by_cases hxy : x = y
        · subst hxy
          go_upto_region 6 with (fail)
          go_region
          all_goals
            have HZ2 : Hid (∀ i, i < k + 1 -> pv ps i = pv qs i) := by
              show ∀ i, _
              intro i hi
              by_cases e : i = k
              · subst e; rw [<- HX.out.1, <- HX.out.2]
              · exact HZ.out i (by omega)
            go_wp2
            go_roundw
            case rel => exact ⟨k + 1, by omega, HZ2, bd, by go_num⟩
            case measure => simp [intOf]; omega
        · go_upto_region 6 with (fail)
          go_region
          all_goals
            have HT : Hid (decide (ps = qs) = false) := decide_eq_false (fun e => by have h := HX.out; rw [<- e] at h; exact hxy (h.1.trans h.2.symm))
            go_wp2
            go_ret
            exact ⟨by rw [HT.out]; rfl, bd⟩
      · obtain rfl : k = ps.length := by omega
        have HT : Hid (decide (ps = qs) = true) := decide_eq_true (yA8 HLQ.out fun i hi => HZ.out i hi)
        go_wp2
        go_ret
        exact ⟨by rw [HT.out]; rfl, bb⟩
  · have hl2 := hl
    have HT : Hid (decide (ps = qs) = false) := decide_eq_false (fun e => hl (by rw [e]))
    go_wp2
    go_ret
    exact ⟨by rw [HT.out]; rfl, Below.refl _ _⟩
theorem yE6 (a0 : Value) (T : List (List Rat)) (w : World) (h0 : SlT .u64 4294967296 w a0 T) (hl : zC4 T <= 200 /\ T.length <= 200 /\ zE9 T 100000) : Calls Tryz.prog 43 #[a0] w (fun e w' => ((zG8 T /\ T.length = zC4 T) /\ RetTO T.length T w e w') \/ (¬ (zG8 T /\ T.length = zC4 T) /\ zU3 [] 8 w e w')) := by
 have st0 := h0
 obtain ⟨A0, c0, rfl, hc0, hm0⟩ := h0.shape
 have HL := Lib.hid hl
 obtain ⟨C, hC⟩ : ∃ C, C = zC4 T := ⟨_, rfl⟩
 have HC := Lib.hid hC
 clear hl hC
 go_enter Tryz.func43, Tryz.ntmps43
 go_wp2_with fail
 refine (zS7 _ T _ st0).mono ?_
 rintro e w2 ⟨rfl, b2⟩
 rw [<- HC.out]
 by_cases hn : T.length = C
 ·have hni : ((T.length : Nat) : Int) = ((C : Nat) : Int) := by omega
  have st2 := st0.below b2
  have HN := Lib.hid hn
  clear hn
  go_wp2_with fail
  refine (yD9 _ T _ st2 HL.out).mono ?_
  rintro e w3 (⟨hm, g, us, pss, rfl, hT, hV, hU, hg, b3⟩ | ⟨hm, V, rfl, hS, b3⟩)
  ·have HE := Lib.hid (zA hm (zA hV (zA hU (zB4 b2.size hg))))
   have HT := Lib.hid hT
   have bb := b2.trans (b3.mono b2.size)
   clear hm hT hV hU hg
   go_wp2
   go_ret2
   exact .inl ⟨⟨HE.out.1, HN.out.trans HC.out⟩, g, us, pss, rfl, TabO.weak HT.out b2.size, HE.out.2.1, HE.out.2.2.1, HE.out.2.2.2, bb⟩
  ·rw [if_neg (by decide)] at hS
   obtain ⟨AV, cV, rfl, -, -⟩ := hS.shape
   have bb := b2.trans (b3.mono b2.size)
   have HM := Lib.hid hm
   clear hm
   go_wp2
   go_ret2
   exact .inr ⟨fun h => HM.out h.1, _, rfl, by rw [if_neg (by decide)]; exact hS, bb⟩
 ·have hni : ¬ ((T.length : Nat) : Int) = ((C : Nat) : Int) := by omega
  have HN := Lib.hid hn
  clear hn
  go_wp2
  go_ret2
  exact .inr ⟨fun h => HN.out (h.2.trans HC.out.symm), .slice none 0 0, rfl, by rw [if_neg (by decide)]; exact yB1 _ _ _, b2⟩
theorem yZ0 (a0 : Value) (T : List (List Rat)) (S : Nat) (w : World) (h0 : SlT .u64 4294967296 w a0 T) (hc : Hid (qJ2 T S)) :
  Calls Tryz.prog 15 #[a0] w (fun e w' => ((zG8 T /\ T.length = zC4 T) /\ qB0 (zE3 T.length (zC T)) 0 w e w' /\ zC3 (zE3 T.length (zC T)) 2001 /\ ∀ F, RowFn T.length T.length F -> F (zC T) = zE3 T.length (zC T) * F idF) \/ (¬ (zG8 T /\ T.length = zC4 T) /\ RetQN 8 w e w')) := by
 have st0 := h0
 obtain ⟨A0, c0, rfl, hc0, hm0⟩ := h0.shape
 obtain ⟨n, hn⟩ : ∃ n, n = T.length := ⟨_, rfl⟩
 obtain ⟨Z, hZ⟩ : ∃ Z : Rat, Z = 0 := ⟨_, rfl⟩
 have CO : ∀ w, Calls Tryz.prog 30 #[.int .i64 0] w (RetQ Z w) := fun w => by
  have h := zQ8 0 w (by omega) (by omega)
  rwa [show ((0 : Int) : Rat) = Z by rw [hZ]; rfl] at h
 have HZ := Lib.hid hZ
 clear hZ
 have ba0 := zC8 (w := w) (zB3 _) (.cells #[.bool false, .slice none 0 0, .slice none 0 0] 44)
 have st1 := st0.below ba0
 have BR0 := Blk.new w 44 #[.bool false, .slice none 0 0, .slice none 0 0]
 have hs1 : (w.alloc (.cells #[.bool false, .slice none 0 0, .slice none 0 0] 44)).heap.size = w.heap.size + 1 := by first | rfl | exact Array.size_push _
 have HST := Lib.hid st1
 clear h0 st0 st1 hc0 hm0
 go_enter Tryz.func15, Tryz.ntmps15
 go_wp2_with fail
 refine (yE6 _ T _ HST.out ⟨hc.out.2.1, by have := hc.out.1; omega, hc.out.2.2.1.len.mono hc.out.2.2.2.1⟩).mono ?_
 rintro e w2 (⟨hm, g, us, pss, rfl, hT, hV, hU, hg, b2⟩ | ⟨hm, V, rfl, hS, b2⟩)
 ·have TS := TabO.tabS hT hU
  rw [hV] at TS
  have HW := Lib.hid hm.2
  have HM := Lib.hid hm.1
  rw [<- hn]
  rw [<- hn] at hU
  have HH := Lib.hid hn
  have BR2 := BR0.below b2
  have b02 := ba0.trans (b2.mono ba0.size)
  have hgb : w.heap.size < g := by omega
  clear hT hV hn hm BR0 ba0
  go_wp2_with fail
  refine (qQ2 g n n n S us T _ TS ⟨by have := qQ3 HM.out; rwa [<- HW.out, <- HH.out] at this, zB3 _, by rw [HH.out]; exact hc.out.1, by rw [HH.out]; have := hc.out.1; omega, hc.out.2.2.1, by rw [HH.out]; exact hc.out.2.2.2.2.1⟩).mono ?_
  rintro e w4 ⟨v, v5, T4, us4, ps, d, rfl, hD⟩
  obtain ⟨dwn, tab, piv, num, len, own⟩ := hD
  obtain ⟨u, t, rfl, su, st⟩ := num
  obtain ⟨Au, cu, rfl, _⟩ := id su
  obtain ⟨At, ct, rfl, _⟩ := id st
  obtain ⟨A6, c6, e6⟩ := zD6.slice piv.1
  rw [zT] at e6
  subst e6
  have b24 := b02.grown own b02.size (fun k e => by cases e; omega)
  have BR4 := Blk.grown BR2 own (by omega)
  have hdet : Hid (zE3 T.length (zC T) = if ps.length = n then d else 0) := by
   show zE3 _ _ = _
   rw [<- HH.out, dwn.fn n (zE3 n) (zB3 _) (qH6 n), RowFn.steps (qH6 n) dwn.ech, qO7]
   split
   ·exact Rat.mul_one d
   ·exact Rat.mul_zero d
  have hle := dwn.ech.le
  have hfn : Hid (∀ F, RowFn T.length T.length F -> F (zC T) = zE3 T.length (zC T) * F idF) := by
   show ∀ F, _
   intro F hF
   rw [hdet.out]
   rw [<- HH.out] at hF
   rw [dwn.fn n F (zB3 _) hF, RowFn.steps hF dwn.ech]
   split
   ·rfl
   ·rw [Rat.mul_zero, Rat.zero_mul]
  have hln : Hid (zC3 (zE3 T.length (zC T)) 2001) := by
   show zC3 _ _
   rw [hdet.out]
   split
   ·exact len.mono (by have := hc.out.1; have := HH.out; omega)
   ·exact (qO 0).mono (by omega)
  have hs4 : w.heap.size < w4.heap.size := BR4.lt
  have ba := zC8 (w := w4) (zB3 _) (.cells #[.bool (ngB d.num), .slice Au (digs 4294967296 d.num.natAbs).length cu, .slice At (digs 4294967296 d.den).length ct] 44)
  have BP5 := Blk.new w4 44 #[.bool (ngB d.num), .slice Au (digs 4294967296 d.num.natAbs).length cu, .slice At (digs 4294967296 d.den).length ct]
  have BR5 := BR4.below ba
  have b25 := b24.trans (ba.mono b24.size)
  have su5 := su.below ba
  have st5 := st.below ba
  have HSQ := Lib.hid (zA HM.out HW.out)
  clear dwn tab piv ba su st own TS b24 BR4 b02 BR2 len
  by_cases hk : ps.length < n
  ·have hkn : ¬ ps.length = n := by omega
   have HV : Hid (zE3 T.length (zC T) = Z) := by
    show _ = _
    rw [hdet.out, if_neg hkn, HZ.out]
   clear hdet hkn
   go_wp2_with fail
   refine (CO _).mono ?_
   rintro e w6 ⟨v6, rfl, k6, -, b6⟩
   obtain ⟨u6, t6, rfl, s6, d6⟩ := k6
   obtain ⟨A7, c7, rfl, _⟩ := id s6
   obtain ⟨D7, e7, rfl, _⟩ := id d6
   have BR6 := BR5.below b6
   have b26 := b25.trans (b6.mono b25.size)
   obtain ⟨X0, X1, X2, F0, F1, F2⟩ := three BR6
   have G7 := zR0 w6 w.heap.size (.bool (ngB Z.num)) (.slice A7 (digs 4294967296 Z.num.natAbs).length c7) (.slice D7 (digs 4294967296 Z.den).length e7)
   have B7 := zQ9 BR6 (.bool (ngB Z.num)) (.slice A7 (digs 4294967296 Z.num.natAbs).length c7) (.slice D7 (digs 4294967296 Z.den).length e7)
   have s7 := Go.Proofs.YtmpalajamfiiiaaGreat.flow.off s6 BR6 (no3 _) G7
   have d7 := Go.Proofs.YtmpalajamfiiiaaGreat.flow.off d6 BR6 (no3 _) G7
   have b27 := b26.grown G7 b26.size (fun k e => by cases e; exact zB3 _)
   obtain ⟨C0, C1, C2, _, _, _⟩ := three B7
   clear s6 d6 BR6 BR5 BP5 su5 st5
   go_wp2
   refine bodyPost_ret (v := .tuple #[.agg #[.bool (ngB Z.num), .slice A7 (digs 4294967296 Z.num.natAbs).length c7, .slice D7 (digs 4294967296 Z.den).length e7], .int .i64 0]) (by simp [results, Tryz.results15, go_sem, C0, C1, C2]) rfl ?_
   exact .inl ⟨HSQ.out, by rw [HV.out]; exact ⟨_, rfl, ⟨_, _, rfl, s7, d7⟩, b27⟩, hln.out, hfn.out⟩
  ·have hkn : ps.length = n := by omega
   have HV : Hid (zE3 T.length (zC T) = d) := by
    show _ = _
    rw [hdet.out, if_pos hkn]
   clear hdet hkn
   go_upto_region 7 with (fail)
   obtain ⟨w5, hw5⟩ : ∃ w5, w4.alloc (.cells #[.bool (ngB d.num), .slice Au (digs 4294967296 d.num.natAbs).length cu, .slice At (digs 4294967296 d.den).length ct] 44) = w5 := ⟨_, rfl⟩
   rw [hw5] at BP5 BR5 su5 st5 b25 |-
   clear hw5
   obtain ⟨V0, V1, V2, _, _, _⟩ := three BP5
   obtain ⟨X0, X1, X2, F0, F1, F2⟩ := three BR5
   have G7 := zR0 w5 w.heap.size (.bool (ngB d.num)) (.slice Au (digs 4294967296 d.num.natAbs).length cu) (.slice At (digs 4294967296 d.den).length ct)
   have B7 := zQ9 BR5 (.bool (ngB d.num)) (.slice Au (digs 4294967296 d.num.natAbs).length cu) (.slice At (digs 4294967296 d.den).length ct)
   have s7 := Go.Proofs.YtmpalajamfiiiaaGreat.flow.off su5 BR5 (no3 _) G7
   have d7 := Go.Proofs.YtmpalajamfiiiaaGreat.flow.off st5 BR5 (no3 _) G7
   have b27 := b25.grown G7 b25.size (fun k e => by cases e; exact zB3 _)
   obtain ⟨C0, C1, C2, _, _, _⟩ := three B7
   clear BR5 BP5 su5 st5
   go_wp2
   refine bodyPost_ret (v := .tuple #[.agg #[.bool (ngB d.num), .slice Au (digs 4294967296 d.num.natAbs).length cu, .slice At (digs 4294967296 d.den).length ct], .int .i64 0]) (by simp [results, Tryz.results15, go_sem, C0, C1, C2]) rfl ?_
   exact .inl ⟨HSQ.out, by rw [HV.out]; exact ⟨_, rfl, ⟨_, _, rfl, s7, d7⟩, b27⟩, hln.out, hfn.out⟩
 ·rw [if_neg (by decide)] at hS
  obtain ⟨AV, cV, rfl, -, -⟩ := hS.shape
  have HN := Lib.hid hm
  have BR2 := BR0.below b2
  have b02 := ba0.trans (b2.mono ba0.size)
  obtain ⟨X0, X1, X2, F0, F1, F2⟩ := three BR2
  have G7 := zR0 w2 w.heap.size (.bool false) (.slice none 0 0) (.slice none 0 0)
  have B7 := zQ9 BR2 (.bool false) (.slice none 0 0) (.slice none 0 0)
  have b27 := b02.grown G7 b02.size (fun k e => by cases e; exact zB3 _)
  obtain ⟨C0, C1, C2, _, _, _⟩ := three B7
  clear hm BR0 BR2
  go_wp2
  refine bodyPost_ret (v := .tuple #[.agg #[.bool false, .slice none 0 0, .slice none 0 0], .int .i64 8]) (by simp [results, Tryz.results15, go_sem, C0, C1, C2]) rfl ?_
  exact .inr ⟨HN.out, rfl, b27⟩
end Go.Proofs.YtmpalajamfiiiaaGreat.rat
namespace Go.Proofs.YtmpalajamfiiiaaGreat.rat
open Go.RowKit num mem nat txt str flow whl
theorem yE7 {k : IntKind} {B : Nat} {w : World} {v u0 u1 : Value} {r0 r1 : List Rat} (h : IsV w v [u0, u1]) (h0 : SlF k B w u0 r0) (h1 : SlF k B w u1 r1) (hc : ∀ A n c, v = .slice A n c -> c <= maxLen) : SlT k B w v [r0, r1] := by
 obtain ⟨A, c, e, h2, h3⟩ := h
 refine ⟨[u0, u1], rfl, ⟨A, c, e, h2, hc _ _ _ e, h3⟩, fun i x y hx hy => ?_⟩
 rcases i with _ | _ | i
 ·obtain rfl : u0 = x := by simpa using hx
  obtain rfl : r0 = y := by simpa using hy
  exact h0
 ·obtain rfl : u1 = x := by simpa using hx
  obtain rfl : r1 = y := by simpa using hy
  exact h1
 ·simp at hx
end Go.Proofs.YtmpalajamfiiiaaGreat.rat
namespace Go.Proofs.YtmpalajamfiiiaaGreat.rat
open Go.RowKit Go.Shelf num mem nat txt str flow whl
theorem qJ3 : ∀ i, i < 1 -> pv [0] i = 0 := fun i hi => by
 obtain rfl : i = 0 := by omega
 rfl
theorem yZ1 : Ech 2 2 (zC [[1, 2], [0, 0]]) 1 (pv [0]) := by
 refine ⟨by omega, fun i j h1 h2 => by omega, fun i hi => by rw [qJ3 i hi]; omega, fun i hi => ?_, fun i hi j hj => by rw [qJ3 i hi] at hj; omega, fun i h1 h2 j hj => ?_⟩
 ·rw [qJ3 i hi]
  obtain rfl : i = 0 := by omega
  decide +kernel
 ·obtain rfl : i = 1 := by omega
  rcases (show j = 0 \/ j = 1 by omega) with rfl | rfl <;> decide +kernel
theorem yZ2 : Red 2 (zC [[1, 2], [0, 0]]) 1 (pv [0]) 0 := fun m _ hm i hi hne => by
 rw [qJ3 m hm]
 obtain rfl : i = 1 := by omega
 decide +kernel
theorem yZ3 : zH3 2 2 (zC [[2, 4], [1, 2]]) (zC [[1, 2], [0, 0]]) := fun x => by
 have a : ∀ (M : Nat -> Nat -> Rat) i, zC7 2 (fun j => M i j * x j) = M i 0 * x 0 + M i 1 * x 1 := fun M i => by
  show 0 + _ + _ = _
  rw [Rat.zero_add]
 have e00 : zC [[2, 4], [1, 2]] 0 0 = 2 := by decide +kernel
 have e01 : zC [[2, 4], [1, 2]] 0 1 = 4 := by decide +kernel
 have e10 : zC [[2, 4], [1, 2]] 1 0 = 1 := by decide +kernel
 have e11 : zC [[2, 4], [1, 2]] 1 1 = 2 := by decide +kernel
 have f00 : zC [[1, 2], [0, 0]] 0 0 = 1 := by decide +kernel
 have f01 : zC [[1, 2], [0, 0]] 0 1 = 2 := by decide +kernel
 have f10 : zC [[1, 2], [0, 0]] 1 0 = 0 := by decide +kernel
 have f11 : zC [[1, 2], [0, 0]] 1 1 = 0 := by decide +kernel
 constructor
 ·intro h i hi
  have h1 := h 1 (by omega)
  rw [a, e10, e11] at h1
  rw [a]
  rcases (show i = 0 \/ i = 1 by omega) with rfl | rfl
  ·rw [f00, f01]; exact h1
  ·rw [f10, f11]; grind
 ·intro h i hi
  have h1 := h 0 (by omega)
  rw [a, f00, f01] at h1
  rw [a]
  rcases (show i = 0 \/ i = 1 by omega) with rfl | rfl
  ·rw [e00, e01]; grind
  ·rw [e10, e11]; exact h1
theorem ex14_ok : qJ2 [[2, 4], [1, 2]] 3 := by
 have hs : shp [[2, 4], [1, 2]] 2 2 := ⟨rfl, fun r hr => by simp at hr; rcases hr with rfl | rfl <;> rfl⟩
 have hl : zE9 [[2, 4], [1, 2]] 1 := fun r hr x hx => by
  simp at hr
  rcases hr with rfl | rfl <;> simp at hx <;> rcases hx with rfl | rfl <;> exact ⟨zI3 (k := 1) (by omega) (by decide +kernel), zI3 (k := 1) (by omega) (by decide +kernel)⟩
 exact ⟨by simp, by show 2 <= 200; omega, yT4 hs hl, by omega, by simp, by simp⟩
theorem yZ4 : zG8 [[2, 4], [1, 2]] := ⟨by simp, by show 2 <= 200; omega, fun r hr => by simp at hr; rcases hr with rfl | rfl <;> rfl⟩
theorem PvI.lit {w : World} (T : TypeId) : PvI (w.alloc (.cells #[.int .i64 0] T)) (.slice (some ⟨w.heap.size, 0, none⟩) 1 1) [0] := by
 refine ⟨some ⟨w.heap.size, 0, none⟩, 1, rfl, fun i hi => ⟨_, rfl, ?_⟩⟩
 obtain rfl : i = 0 := by simpa using hi
 rw [zU5]
 rw [World.cell?_alloc_new]
 rfl
theorem qJ4 (w : World) : Calls Tryz.prog 11 #[] w (zD7 (.bool true) w) := by
 obtain ⟨Z, hZ⟩ : ∃ Z : Rat, Z = ((0 : Int) : Rat) := ⟨_, rfl⟩
 obtain ⟨O, hO⟩ : ∃ O : Rat, O = ((1 : Int) : Rat) := ⟨_, rfl⟩
 obtain ⟨P, hP⟩ : ∃ P : Rat, P = ((2 : Int) : Rat) := ⟨_, rfl⟩
 obtain ⟨Q, hQ⟩ : ∃ Q : Rat, Q = ((4 : Int) : Rat) := ⟨_, rfl⟩
 have CZ : ∀ w, Calls Tryz.prog 30 #[.int .i64 0] w (RetQ Z w) := fun w => by rw [hZ]; exact zQ8 0 _ (by omega) (by omega)
 have CO : ∀ w, Calls Tryz.prog 30 #[.int .i64 1] w (RetQ O w) := fun w => by rw [hO]; exact zQ8 1 _ (by omega) (by omega)
 have CP : ∀ w, Calls Tryz.prog 30 #[.int .i64 2] w (RetQ P w) := fun w => by rw [hP]; exact zQ8 2 _ (by omega) (by omega)
 have CQ : ∀ w, Calls Tryz.prog 30 #[.int .i64 4] w (RetQ Q w) := fun w => by rw [hQ]; exact zQ8 4 _ (by omega) (by omega)
 obtain ⟨T, hT⟩ : ∃ T, T = [[P, Q], [O, P]] := ⟨_, rfl⟩
 obtain ⟨U, hU⟩ : ∃ U, U = [[O, P], [Z, Z]] := ⟨_, rfl⟩
 have eT : T = [[2, 4], [1, 2]] := by rw [hT, hP, hQ, hO]; rfl
 have eU : U = [[1, 2], [0, 0]] := by rw [hU, hP, hO, hZ]; rfl
 have HE := Lib.hid (zA hT (zA hU (zA eT eU)))
 clear hZ hO hP hQ hT hU eT eU
 go_enter Tryz.func11, Tryz.ntmps11
 go_wp2_with fail
 refine (CP _).mono ?_
 rintro e w1 ⟨v0, rfl, k0, -, b1⟩
 obtain ⟨u0, t0, rfl, q0, d0⟩ := k0
 obtain ⟨A0, c0, rfl, _⟩ := id q0
 obtain ⟨D0, e0, rfl, _⟩ := id d0
 go_wp2_with fail
 refine (CQ _).mono ?_
 rintro e w2 ⟨v1, rfl, k1, -, b2⟩
 obtain ⟨u1, t1, rfl, q1, d1⟩ := k1
 obtain ⟨A1, c1, rfl, _⟩ := id q1
 obtain ⟨D1, e1, rfl, _⟩ := id d1
 have s0 := qI3 w2 44 (q0.below b2) (d0.below b2) q1 d1
 have ba := zC8 (w := w2) (zB3 _) (.cells #[.bool (ngB P.num), .slice A0 (digs 4294967296 P.num.natAbs).length c0, .slice D0 (digs 4294967296 P.den).length e0, .bool (ngB Q.num), .slice A1 (digs 4294967296 Q.num.natAbs).length c1, .slice D1 (digs 4294967296 Q.den).length e1] 44)
 have b12 := b1.trans (b2.mono b1.size)
 have b13 := b12.trans (ba.mono b12.size)
 clear q0 d0 q1 d1 b1 b2 ba b12
 go_wp2_with fail
 refine (CO _).mono ?_
 rintro e w3 ⟨v2, rfl, k2, -, b3⟩
 obtain ⟨u2, t2, rfl, q2, d2⟩ := k2
 obtain ⟨A2, c2, rfl, _⟩ := id q2
 obtain ⟨D2, e2, rfl, _⟩ := id d2
 have s03 := s0.below b3
 have b14 := b13.trans (b3.mono b13.size)
 clear s0 b13 b3
 go_wp2_with fail
 refine (CP _).mono ?_
 rintro e w4 ⟨v3, rfl, k3, -, b4⟩
 obtain ⟨u3, t3, rfl, q3, d3⟩ := k3
 obtain ⟨A3, c3, rfl, _⟩ := id q3
 obtain ⟨D3, e3, rfl, _⟩ := id d3
 have s1 := qI3 w4 44 (q2.below b4) (d2.below b4) q3 d3
 have ba := zC8 (w := w4) (zB3 _) (.cells #[.bool (ngB O.num), .slice A2 (digs 4294967296 O.num.natAbs).length c2, .slice D2 (digs 4294967296 O.den).length e2, .bool (ngB P.num), .slice A3 (digs 4294967296 P.num.natAbs).length c3, .slice D3 (digs 4294967296 P.den).length e3] 44)
 have hs1 : (w4.alloc (.cells #[.bool (ngB O.num), .slice A2 (digs 4294967296 O.num.natAbs).length c2, .slice D2 (digs 4294967296 O.den).length e2, .bool (ngB P.num), .slice A3 (digs 4294967296 P.num.natAbs).length c3, .slice D3 (digs 4294967296 P.den).length e3] 44)).heap.size = w4.heap.size + 1 := by simp
 have s04 := (s03.below b4).below ba
 have b15 := b14.trans (b4.mono b14.size)
 have b16 := b15.trans (ba.mono b15.size)
 clear s03 b14 b4 q2 d2 q3 d3 ba b15
 have bt := zC8 (w := w4.alloc (.cells #[.bool (ngB O.num), .slice A2 (digs 4294967296 O.num.natAbs).length c2, .slice D2 (digs 4294967296 O.den).length e2, .bool (ngB P.num), .slice A3 (digs 4294967296 P.num.natAbs).length c3, .slice D3 (digs 4294967296 P.den).length e3] 44)) (zB3 _) (.cells #[.slice (some ⟨w2.heap.size, 0, none⟩) 2 2, .slice (some ⟨w4.heap.size, 0, none⟩) 2 2] 64)
 have hv := zT3 (w4.alloc (.cells #[.bool (ngB O.num), .slice A2 (digs 4294967296 O.num.natAbs).length c2, .slice D2 (digs 4294967296 O.den).length e2, .bool (ngB P.num), .slice A3 (digs 4294967296 P.num.natAbs).length c3, .slice D3 (digs 4294967296 P.den).length e3] 44)) 64 [.slice (some ⟨w2.heap.size, 0, none⟩) 2 2, .slice (some ⟨w4.heap.size, 0, none⟩) 2 2]
 have ST := yE7 hv (s04.below bt) (s1.below bt) (fun A n c e => by injection e with _ _ e3; subst e3; unfold maxLen; simp)
 have b17 := b16.trans (bt.mono b16.size)
 rw [hs1] at ST
 rw [<- HE.out.1] at ST
 clear hv bt s04 s1 b16
 have HST := Lib.hid ST
 have HB := Lib.hid b17
 clear ST b17
 go_wp2_with fail
 refine (yY9 _ T 3 _ HST.out (by have := ex14_ok; rw [<- HE.out.2.2.1] at this; exact this)).mono ?_
 rintro e w5 (⟨hm, g, v, T', us, ps, rfl, hR⟩ | ⟨hm, rfl, b5⟩)
 ·have e2 : T.length = 2 := by rw [HE.out.2.2.1]; rfl
  have e3 : zC4 T = 2 := by rw [HE.out.2.2.1]; rfl
  rw [e2, e3] at hR
  rw [e2]
  obtain ⟨rfl, rfl⟩ : T' = U /\ ps = [0] := by
   refine yT7 (T0 := T) hR.sh hR.ech hR.red hR.ker ?_ ?_ ?_ ?_
   ·rw [HE.out.2.2.2]; exact ⟨rfl, fun r hr => by simp at hr; rcases hr with rfl | rfl <;> rfl⟩
   ·rw [HE.out.2.2.2]; exact yZ1
   ·rw [HE.out.2.2.2]; exact yZ2
   ·rw [HE.out.2.2.2, HE.out.2.2.1]; exact yZ3
  obtain ⟨Av, cv, ev⟩ := zD6.slice hR.piv.1
  rw [show (pI [0]).length = 1 from rfl] at ev
  subst ev
  have pv0 := hR.piv.pvI
  have sT := hR.tab.slT hR.sh.1 (by omega)
  have b5 := HB.out.trans (hR.bel.mono HB.out.size)
  clear hR HST HB
  have ba := zC8 (w := w5) (zB3 _) (.cells #[.int .i64 0] 3)
  have pv1 := pv0.below ba
  have sT1 := sT.below ba
  have b6 := b5.trans (ba.mono b5.size)
  have HP := Lib.hid (zA pv1 (zA sT1 b6))
  clear pv0 sT b5 ba pv1 sT1 b6
  go_wp2_with fail
  refine (yZ _ _ [0] [0] _ HP.out.1 (PvI.lit _) (by simp)).mono ?_
  rintro e w7 ⟨rfl, b7⟩
  rw [show decide (([0] : List Nat) = [0]) = true from rfl]
  have sT7 := HP.out.2.1.below b7
  have b17 := HP.out.2.2.trans (b7.mono HP.out.2.2.size)
  clear HP b7
  go_wp2_with fail
  refine (CO _).mono ?_
  rintro e w8 ⟨v4, rfl, k4, -, b8⟩
  obtain ⟨u4, t4, rfl, q4, d4⟩ := k4
  obtain ⟨A4, c4, rfl, _⟩ := id q4
  obtain ⟨D4, e4, rfl, _⟩ := id d4
  go_wp2_with fail
  refine (CP _).mono ?_
  rintro e w9 ⟨v5, rfl, k5, -, b9⟩
  obtain ⟨u5, t5, rfl, q5, d5⟩ := k5
  obtain ⟨A5, c5, rfl, _⟩ := id q5
  obtain ⟨D5, e5, rfl, _⟩ := id d5
  have s0 := qI3 w9 44 (q4.below b9) (d4.below b9) q5 d5
  have ba := zC8 (w := w9) (zB3 _) (.cells #[.bool (ngB O.num), .slice A4 (digs 4294967296 O.num.natAbs).length c4, .slice D4 (digs 4294967296 O.den).length e4, .bool (ngB P.num), .slice A5 (digs 4294967296 P.num.natAbs).length c5, .slice D5 (digs 4294967296 P.den).length e5] 44)
  have sT9 := ((sT7.below b8).below b9).below ba
  have b12 := b17.trans (b8.mono b17.size)
  have b13 := b12.trans (b9.mono b12.size)
  have b14 := b13.trans (ba.mono b13.size)
  clear q4 d4 q5 d5 sT7 b17 b8 b9 ba b12 b13
  go_wp2_with fail
  refine (CZ _).mono ?_
  rintro e w10 ⟨v6, rfl, k6, -, b10⟩
  obtain ⟨u6, t6, rfl, q6, d6⟩ := k6
  obtain ⟨A6, c6, rfl, _⟩ := id q6
  obtain ⟨D6, e6, rfl, _⟩ := id d6
  have s03 := s0.below b10
  have sT10 := sT9.below b10
  have b15 := b14.trans (b10.mono b14.size)
  clear s0 b10 sT9 b14
  go_wp2_with fail
  refine (CZ _).mono ?_
  rintro e w11 ⟨v7, rfl, k7, -, b11⟩
  obtain ⟨u7, t7, rfl, q7, d7⟩ := k7
  obtain ⟨A7, c7, rfl, _⟩ := id q7
  obtain ⟨D7, e7, rfl, _⟩ := id d7
  have s1 := qI3 w11 44 (q6.below b11) (d6.below b11) q7 d7
  have ba := zC8 (w := w11) (zB3 _) (.cells #[.bool (ngB Z.num), .slice A6 (digs 4294967296 Z.num.natAbs).length c6, .slice D6 (digs 4294967296 Z.den).length e6, .bool (ngB Z.num), .slice A7 (digs 4294967296 Z.num.natAbs).length c7, .slice D7 (digs 4294967296 Z.den).length e7] 44)
  have hs1 : (w11.alloc (.cells #[.bool (ngB Z.num), .slice A6 (digs 4294967296 Z.num.natAbs).length c6, .slice D6 (digs 4294967296 Z.den).length e6, .bool (ngB Z.num), .slice A7 (digs 4294967296 Z.num.natAbs).length c7, .slice D7 (digs 4294967296 Z.den).length e7] 44)).heap.size = w11.heap.size + 1 := by simp
  have s04 := (s03.below b11).below ba
  have sT11 := (sT10.below b11).below ba
  have b16 := b15.trans (b11.mono b15.size)
  have b17 := b16.trans (ba.mono b16.size)
  clear s03 b15 b11 q6 d6 q7 d7 ba b16 sT10
  have bt := zC8 (w := w11.alloc (.cells #[.bool (ngB Z.num), .slice A6 (digs 4294967296 Z.num.natAbs).length c6, .slice D6 (digs 4294967296 Z.den).length e6, .bool (ngB Z.num), .slice A7 (digs 4294967296 Z.num.natAbs).length c7, .slice D7 (digs 4294967296 Z.den).length e7] 44)) (zB3 _) (.cells #[.slice (some ⟨w9.heap.size, 0, none⟩) 2 2, .slice (some ⟨w11.heap.size, 0, none⟩) 2 2] 64)
  have hv := zT3 (w11.alloc (.cells #[.bool (ngB Z.num), .slice A6 (digs 4294967296 Z.num.natAbs).length c6, .slice D6 (digs 4294967296 Z.den).length e6, .bool (ngB Z.num), .slice A7 (digs 4294967296 Z.num.natAbs).length c7, .slice D7 (digs 4294967296 Z.den).length e7] 44)) 64 [.slice (some ⟨w9.heap.size, 0, none⟩) 2 2, .slice (some ⟨w11.heap.size, 0, none⟩) 2 2]
  have ST := yE7 hv (s04.below bt) (s1.below bt) (fun A n c e => by injection e with _ _ e3; subst e3; unfold maxLen; simp)
  have sT12 := sT11.below bt
  have b18 := b17.trans (bt.mono b17.size)
  rw [hs1] at ST
  rw [<- HE.out.2.1] at ST
  clear hv bt s04 s1 b17 sT11
  have HST := Lib.hid (zA ST (zA sT12 b18))
  clear ST b18 sT12
  go_wp2_with fail
  refine (qQ0 _ _ T' T' true _ HST.out.2.1 HST.out.1 (decide_eq_true rfl).symm).mono ?_
  rintro e w13 ⟨rfl, b13⟩
  go_wp2
  go_ret
  exact ⟨rfl, HST.out.2.2.trans (b13.mono HST.out.2.2.size)⟩
 ·exact absurd (by rw [HE.out.2.2.1]; exact yZ4) hm
theorem yE8 {r v : List Rat} (hl : r.length = v.length) : ∀ k, k <= r.length -> zI1 (r.take k) (v.take k) = zC7 k (fun l => r.getD l 0 * v.getD l 0)
  | 0, _ => by rw [List.take_zero]; exact yQ2 _
  | k + 1, hk => by
    obtain ⟨x, hx⟩ : ∃ x, r[k]? = some x := ⟨_, zA3 (by omega)⟩
    obtain ⟨y, hy⟩ : ∃ y, v[k]? = some y := ⟨_, zA3 (by omega)⟩
    rw [yX1 hx hy, yE8 hl k (by omega)]
    show _ = zC7 k _ + r.getD k 0 * v.getD k 0
    rw [zA6, zA6, hx, hy]
    rfl
theorem yZ5 {q : List (List Rat)} {l j : Nat} : (zK1 q j).getD l 0 = zC q l j := by
 unfold zK1 zC
 rw [zA6, List.getElem?_map, zA6 (l := q)]
 cases q[l]? with
 | none => simp
 | some r => rfl
theorem yZ6 {p q : List (List Rat)} {n m C : Nat} (hp : shp p n m) (hq : q.length = m) (hw : zC4 q = C) {i j : Nat} (hi : i < n) (hj : j < C) : zC (zI6 p q) i j = zQ7 m (zC p) (zC q) i j := by
 obtain ⟨r, hr, hrl⟩ := zI0 hp hi
 have h1 : (zI6 p q)[i]? = some (zQ6 r q (zC4 q)) := by unfold zI6; rw [List.getElem?_map, hr]; rfl
 rw [zN3 h1, hw, yR hj]
 have hl : r.length = (zK1 q j).length := by rw [qH2, hrl, hq]
 have h2 := yE8 hl r.length (zB3 _)
 rw [List.take_length, hl, List.take_length, <- hl, hrl] at h2
 rw [h2]
 unfold zQ7
 exact zJ7 fun l hl => by rw [yZ5, zN3 hr]
theorem qQ4 {T : List (List Rat)} {n C : Nat} (h : shp T n C) (h0 : n = 0 -> C = 0) : zC4 T = C := by
 cases T with
 | nil => exact (h0 h.1.symm).symm
 | cons r T => exact h.2 r List.mem_cons_self
theorem yE9 (n : Nat) (f : Nat -> Rat) : ∀ m, zC7 (n + m) f = zC7 n f + zC7 m (fun j => f (n + j))
  | 0 => (Rat.add_zero _).symm
  | m + 1 => by
    show zC7 (n + m) f + f (n + m) = zC7 n f + (zC7 m (fun j => f (n + j)) + f (n + m))
    rw [yE9 n f m, Rat.add_assoc]
/-- Two halves beside each other. -/
def zP7 (n : Nat) (A X : Nat -> Nat -> Rat) : Nat -> Nat -> Rat := fun i j => if j < n then A i j else X i (j - n)
theorem qJ5 (n m : Nat) (A X : Nat -> Nat -> Rat) (x y : Nat -> Rat) (i : Nat) : zC7 (n + m) (fun j => zP7 n A X i j * (if j < n then x j else y (j - n))) = zC7 n (fun j => A i j * x j) + zC7 m (fun j => X i j * y j) := by
 rw [yE9]
 congr 1
 ·exact zJ7 fun j hj => by unfold zP7; rw [if_pos hj, if_pos hj]
 ·exact zJ7 fun j hj => by unfold zP7; rw [if_neg (by omega), if_neg (by omega), Nat.add_sub_cancel_left]
theorem qJ6 {n i : Nat} (hi : i < n) (x : Nat -> Rat) : zC7 n (fun j => idF i j * x j) = x i := by
 rw [zS6 hi (fun j _ hne => by unfold idF; rw [if_neg (fun e => hne e.symm), Rat.zero_mul])]
 unfold idF
 rw [if_pos rfl, Rat.one_mul]
theorem yF (n : Nat) (f g : Nat -> Rat) : zC7 n (fun j => f j * -(g j)) = -(zC7 n (fun j => f j * g j)) := by
 have h := zP0 n (-1) (fun j => f j * g j)
 rw [show (-1 : Rat) * zC7 n (fun j => f j * g j) = -(zC7 n (fun j => f j * g j)) by grind] at h
 rw [<- h]
 exact zJ7 fun j _ => by grind
/-- Where a table beside that which changes nothing has become that beside another, the other is the inverse, from either side. -/
theorem yZ7 {n : Nat} {A X : Nat -> Nat -> Rat} (hk : zH3 n (n + n) (zP7 n A idF) (zP7 n idF X)) : (∀ i c, i < n -> c < n -> zQ7 n A X i c = idF i c) /\ ∀ i c, i < n -> c < n -> zQ7 n X A i c = idF i c := by
 constructor
 ·intro i c hi hc
  have h := (hk (fun j => if j < n then X j c else -(idF (j - n) c))).2 (fun i hi => by
   rw [qJ5 n n idF X (fun j => X j c) (fun j => -(idF j c)), qJ6 hi (fun j => X j c), yF]
   have e : zC7 n (fun j => X i j * idF j c) = X i c := by
    rw [zS6 hc (fun j _ hne => by unfold idF; rw [if_neg hne, Rat.mul_zero])]
    unfold idF
    rw [if_pos rfl, Rat.mul_one]
   rw [e]
   grind) i hi
  rw [qJ5 n n A idF (fun j => X j c) (fun j => -(idF j c)), qJ6 hi (fun j => -(idF j c))] at h
  unfold zQ7
  grind
 ·intro i c hi hc
  have h := (hk (fun j => if j < n then idF j c else -(A (j - n) c))).1 (fun i hi => by
   rw [qJ5 n n A idF (fun j => idF j c) (fun j => -(A j c)), qJ6 hi (fun j => -(A j c))]
   have e : zC7 n (fun j => A i j * idF j c) = A i c := by
    rw [zS6 hc (fun j _ hne => by unfold idF; rw [if_neg hne, Rat.mul_zero])]
    unfold idF
    rw [if_pos rfl, Rat.mul_one]
   rw [e]
   grind) i hi
  rw [qJ5 n n idF X (fun j => idF j c) (fun j => -(A j c)), qJ6 hi (fun j => idF j c), yF] at h
  unfold zQ7
  grind
def zO4 (N : Nat) : Nat -> Nat
 | 0 => N
 | n + 1 => (zO4 N n + zO4 N n + 1) * 4 + 1
theorem yF0 (N n : Nat) : N <= zO4 N n := by
 induction n with
 | zero => exact zB3 _
 | succ n ih => show N <= (zO4 N n + zO4 N n + 1) * 4 + 1; omega
theorem yZ8 (a0 : Value) (ts : List (List (List Rat))) (N : Nat) (w : World) (hN : Hid (1 <= N /\ N <= 590)) (h0 : zK w a0 ts) (hl : ts.length <= 2 /\ ∀ t ∈ ts, t.length <= 4 /\ (∀ r ∈ t, r.length <= 4) /\ zE9 t N) :
    Calls Tryz.prog 23 #[a0] w (fun e w' => (zY1 ts /\ zU3 (qH4 ts) 0 w e w') \/ (¬ zY1 ts /\ zU3 [] 8 w e w')) := by
  have st0 := h0
  obtain ⟨A0, c0, rfl, hc0⟩ := h0.shape
  have HL := Lib.hid hl
  have hl3 : ts.length <= 2 := hl.1
  clear hl
  go_enter Tryz.func23, Tryz.ntmps23
  by_cases hn : ts = []
  · subst hn
    go_wp2
    go_ret2
    exact .inr ⟨fun h => h.1 rfl, qC9 8 (by decide) (Below.refl _ _)⟩
  have hpos : 0 < ts.length := List.length_pos_iff.2 hn
  have hne0 : ¬ ((ts.length : Nat) : Int) = 0 := by omega
  have hneb : (((ts.length : Nat) : Int) == 0) = false := by rw [beq_eq_false_iff_ne]; omega
  obtain ⟨ad, rfl⟩ := st0.place hn
  go_wp2
  go_loopw [14] (fun v14 wr => ∃ k : Nat, k <= ts.length /\ Hid (∀ (i : Nat) (t : List (List Rat)), i < k -> ts[i]? = some t -> okAt ts i t) /\ Below w.heap.size w wr /\ v14 = .int .i64 (k : Int)) (fun v14 _ => ts.length - (intOf v14).toNat)
  case atStart => exact ⟨0, by omega, (by show ∀ i, _; intro i t hi; omega), Below.refl _ _, rfl⟩
  case round =>
    obtain ⟨k, hk, HA, bb, rfl⟩ := hrel
    by_cases hlt : k < ts.length
    · obtain ⟨t, ht⟩ : ∃ t, ts[k]? = some t := ⟨_, zA3 hlt⟩
      have HT := Lib.hid ht
      obtain ⟨At, ct, hit, ect, stt⟩ := (st0.below bb).at2 ht
      clear ht
      by_cases hm : zG8 t
      · have HM := Lib.hid hm
        clear hm
        go_wp2_with fail
        refine (zY6 _ t true _ stt (decide_eq_true HM.out).symm).mono ?_
        rintro e w2 ⟨rfl, b2⟩
        have bb2 := bb.trans (b2.mono bb.size)
        have stt2 := stt.below b2
        clear ect stt b2
        by_cases hk0 : 0 < k
        · obtain ⟨j, rfl⟩ : ∃ j, k = j + 1 := ⟨k - 1, by omega⟩
          obtain ⟨s, hs⟩ : ∃ s, ts[j]? = some s := ⟨_, zA3 (by omega)⟩
          have HS := Lib.hid hs
          obtain ⟨As, cs, his, ecs, sts⟩ := (st0.below bb2).at2 hs
          have hgt : (0 : Int) < ((j + 1 : Nat) : Int) := by omega
          clear hs
          go_wp2_with fail
          by_cases hf : zC4 s = t.length
          · have HF := Lib.hid hf
            clear hf
            refine (yC3 _ _ s t true _ sts stt2 (decide_eq_true HF.out).symm).mono ?_
            rintro e w3 ⟨rfl, b3⟩
            have bb3 := bb2.trans (b3.mono bb2.size)
            have HA2 : Hid (∀ (i : Nat) (t : List (List Rat)), i < j + 1 + 1 -> ts[i]? = some t -> okAt ts i t) := by
              show ∀ i, _
              intro i t' hi h'
              by_cases e : i = j + 1
              · subst e
                rw [HT.out] at h'
                injection h' with h'
                subst h'
                refine ⟨HM.out, fun s' _ hs' => ?_⟩
                rw [Nat.add_sub_cancel, HS.out] at hs'
                injection hs' with hs'
                subst hs'
                exact HF.out
              · exact HA.out i t' (by omega) h'
            have hsk : ts.length - (j + 1 + 1) < ts.length - (j + 1) := by omega
            clear ecs sts stt2 b3 HA
            go_wp2
            go_roundw
            case rel => exact ⟨j + 1 + 1, by omega, HA2, bb3, by go_num⟩
            case measure => simp [intOf]; omega
          · have HF := Lib.hid hf
            clear hf
            refine (yC3 _ _ s t false _ sts stt2 (decide_eq_false HF.out).symm).mono ?_
            rintro e w3 ⟨rfl, b3⟩
            have bb3 := bb2.trans (b3.mono bb2.size)
            have HN : Hid (¬ zY1 ts) := fun h => HF.out ((h.2 (j + 1) t HT.out).2 s (by omega) (by rw [Nat.add_sub_cancel]; exact HS.out))
            clear ecs sts stt2 b3 HA
            go_wp2
            go_ret2
            exact .inr ⟨HN.out, qC9 8 (by decide) bb3⟩
        · have hgt : ¬ (0 : Int) < (k : Int) := by omega
          have HA2 : Hid (∀ (i : Nat) (t : List (List Rat)), i < k + 1 -> ts[i]? = some t -> okAt ts i t) := by
            show ∀ i, _
            intro i t' hi h'
            obtain rfl : i = k := by omega
            rw [HT.out] at h'
            injection h' with h'
            subst h'
            exact ⟨HM.out, fun s' h0' _ => absurd h0' hk0⟩
          have hsk : ts.length - (k + 1) < ts.length - k := by omega
          clear HA stt2
          go_wp2
          go_roundw
          case rel => exact ⟨k + 1, by omega, HA2, bb2, by go_num⟩
          case measure => simp [intOf]; omega
      · have HM := Lib.hid hm
        clear hm
        go_wp2_with fail
        refine (zY6 _ t false _ stt (decide_eq_false HM.out).symm).mono ?_
        rintro e w2 ⟨rfl, b2⟩
        have bb2 := bb.trans (b2.mono bb.size)
        have HN : Hid (¬ zY1 ts) := fun h => HM.out (h.2 k t HT.out).1
        go_wp2
        go_ret2
        exact .inr ⟨HN.out, qC9 8 (by decide) bb2⟩
    · obtain rfl : k = ts.length := by omega
      have HF : Hid (zY1 ts) := ⟨hn, fun i t ht => HA.out i t (zA4.1 ht).1 ht⟩
      obtain ⟨t0, ht0⟩ : ∃ t0, ts[0]? = some t0 := ⟨_, zA3 hpos⟩
      have HT0 := Lib.hid ht0
      have bd := bb.drew
      obtain ⟨At, ct, hit, ecd, std⟩ := (st0.below bd).at2 ht0
      have HB0 : Hid (t0.length <= 4 /\ (∀ r ∈ t0, r.length <= 4) /\ zE9 t0 N) := HL.out.2 t0 (zA5 ht0)
      have ht04 : t0.length <= 4 := HB0.out.1
      have ead : ad.add 0 = ad := by simp [Addr.add]
      rw [ead] at ecd
      have ecz : wr.cell? ad = some (.slice At t0.length ct) := ecd
      clear ht0 HA
      go_upto_region 9 with (fail)
      go_region_law (first
        | (go_simp; go_at_call 52; refine (zY7 _ t0.length _ rfl (by omega)).mono ?_; rintro e w4 ⟨g, rfl, TB, hg, b4⟩; have TO : zP6 w4 wr.drew.heap.size _ _ _ := TB.owned hg (by omega); have ec4 := (b4.cell (World.block_lt_of_cell? _ _ ecd)).trans ecd)
        | (go_simp; go_at_call 55; refine (yC7 g t0.length t0.length _ _ _ t0 wr.drew w4 TO std b4 (by simp) rfl hg ⟨fun r hr => by rw [qI7] at hr; rw [(List.mem_replicate.1 hr).2]; exact Nat.zero_le _, fun r hr => zB4 (HB0.out.2.1 r hr) (by decide), HB0.out.2.2.mono (by have := hN.out; omega)⟩).mono ?_; rintro e w5 ⟨us5, pss5, rfl, T5, V5, L5, b5⟩))
      all_goals
        have SA : SlT .u64 4294967296 w5 (.slice (some ⟨g, 0, none⟩) t0.length t0.length) t0 := by
          have h := T5.slT
          rw [V5, qI7, qZ5] at h
          exact h
        have bb5 : Below w.heap.size w w5 := bd.trans ((b4.trans b5).mono bd.size)
        obtain ⟨A', hA', stT⟩ : ∃ A' : Addr, (if c0 = 1 then some ad else some ({ block := ad.block, off := ad.off + 1 } : Addr)) = some A' /\ zK w (.slice (some A') (ts.length - 1) (c0 - 1)) ts.tail := by
          have h := st0.tail hn
          by_cases hc1 : c0 = 1
          · rw [if_pos hc1] at h
            exact ⟨ad, by rw [if_pos hc1], h⟩
          · rw [if_neg hc1] at h
            exact ⟨_, by rw [if_neg hc1]; simp [Addr.add], h⟩
        have h1n : (1 : Int) <= ((ts.length : Nat) : Int) := by omega
        have HTL : Hid (ts.tail.length = ts.length - 1) := List.length_tail
        clear T5 V5 L5 TB TO b4 b5 std ecz ecd bb bd
        go_wp2
        go_loopw [6, 49] (fun v6 v49 wr => ∃ (j : Nat) (ans : List (List Rat)), j <= ts.length - 1 /\ SlT .u64 4294967296 wr v6 ans /\ Hid (ans = (ts.tail.take j).foldl zI6 t0) /\ Hid ((∀ s, ts[j]? = some s -> ∀ r ∈ ans, r.length = zC4 s) /\ ans.length <= 4 /\ zE9 ans (zO4 N j)) /\ Below w.heap.size w wr /\ v49 = .int .i64 (j : Int)) (fun _ v49 _ => (ts.length - 1) - (intOf v49).toNat)
        case atStart => exact ⟨0, t0, by omega, SA, by show _ = _; rw [List.take_zero]; rfl, ⟨fun s hs r hr => by rw [HT0.out] at hs; injection hs with hs; subst hs; exact ((HF.out.2 0 t0 HT0.out).1.2.2 r hr), HB0.out.1, HB0.out.2.2⟩, bb5, rfl⟩
        case round =>
          clear SA bb5
          obtain ⟨j, ans, hj, SA, HAN, HAB, bb, rfl⟩ := hrel
          obtain ⟨AA, cA, eA, _, _⟩ := SA.shape
          subst eA
          by_cases hlt2 : j < ts.length - 1
          · obtain ⟨t, ht⟩ : ∃ t, ts.tail[j]? = some t := ⟨_, zA3 (by rw [HTL.out]; exact hlt2)⟩
            have HT := Lib.hid ht
            obtain ⟨At1, ct1, hit1, ect, stt⟩ := (stT.below bb).at2 ht
            have ht1 : ts[j + 1]? = some t := by rw [List.getElem?_tail] at ht; exact ht
            obtain ⟨s, hs⟩ : ∃ s, ts[j]? = some s := ⟨_, zA3 (by omega)⟩
            have hok := HF.out.2 (j + 1) t ht1
            have htm := zA5 ht1
            have hws : zC4 s = t.length := hok.2 s (by omega) (by rw [Nat.add_sub_cancel]; exact hs)
            have hj1 : zO4 N j <= N := by
              obtain rfl : j = 0 := by omega
              exact zB3 _
            have htl : t.length <= 4 := (HL.out.2 t htm).1
            have hrows : ∀ r ∈ ans, r.length = t.length := fun r hr => by rw [HAB.out.1 s hs r hr, hws]
            have hmul : (N + zO4 N j + 1) * t.length + 1 <= 4800 := by
              have := Nat.mul_le_mul (show N + zO4 N j + 1 <= 1181 by have := hN.out; omega) htl
              omega
            have HPR : Hid ((∀ r ∈ ans, r.length = t.length) /\ ans.length <= 1000 /\ t.length <= 1000 /\ zC4 t <= 1000 /\ zW t /\ zE9 ans (zO4 N j) /\ zE9 t N /\ 1 <= N /\ N <= 4800 /\ (N + zO4 N j + 1) * t.length + 1 <= 4800) := ⟨hrows, by have := HAB.out.2.1; omega, by omega, zB4 hok.1.2.1 (by decide), hok.1.2.2, HAB.out.2.2, (HL.out.2 t htm).2.2, hN.out.1, by have := hN.out; omega, hmul⟩
            have HAN2 : Hid (zI6 ans t = (ts.tail.take (j + 1)).foldl zI6 t0) := by show _ = _; rw [yC8 zI6 t0 HT.out, HAN.out]
            have HAB2 : Hid ((∀ s, ts[j + 1]? = some s -> ∀ r ∈ zI6 ans t, r.length = zC4 s) /\ (zI6 ans t).length <= 4 /\ zE9 (zI6 ans t) (zO4 N (j + 1))) := by
              refine ⟨fun s' hs' r hr => ?_, by rw [qN9]; exact HAB.out.2.1, ?_⟩
              · rw [ht1] at hs'
                injection hs' with hs'
                subst hs'
                exact qY9 r hr
              · exact yR9 HAB.out.2.2 ((HL.out.2 t htm).2.2.mono (yF0 N j)) (zB4 hN.out.1 (yF0 N j)) hrows htl
            clear ht ht1 hs hok htm hws hrows hmul
            go_wp2_with fail
            refine (yW6 _ _ ans t (zO4 N j) N _ SA stt HPR.out.1 HPR.out.2).mono ?_
            rintro e w7 ⟨V7, rfl, S7, b7⟩
            have bb7 := bb.trans (b7.mono bb.size)
            have hsk : ts.length - 1 - (j + 1) < ts.length - 1 - j := by omega
            obtain ⟨A7, c7, e7, _, _⟩ := S7.shape
            subst e7
            clear SA stt ect HAN HAB
            go_wp2
            go_roundw
            case rel => exact ⟨j + 1, zI6 ans t, by omega, S7, HAN2, HAB2, bb7, by go_num⟩
            case measure => simp [intOf]; omega
          · obtain rfl : j = ts.length - 1 := by omega
            have HE : Hid (ans = qH4 ts) := by
              show _ = _
              rw [HAN.out, zA7 (by rw [HTL.out]; exact zB3 _), qH4]
              congr 1
              cases ts with
              | nil => exact absurd rfl hn
              | cons a l => have h := HT0.out; simpa using h.symm
            have hS : SlT .u64 4294967296 wr (.slice AA ans.length cA) (qH4 ts) := by rw [<- HE.out]; exact SA
            clear SA HAN HAB
            go_wp2
            go_ret2
            exact .inl ⟨HF.out, _, rfl, by rw [if_pos rfl]; exact hS, bb⟩
/-- Cells that hold slices. -/
def zN5 (v : Value) : Prop := ∃ A n c, v = .slice A n c
section
variable {P : Program}
/-- Append of slices to such a row. -/
theorem yZ9 {w : World} {base : Nat} {t ty e : TypeId} (hT : P.underlying t = some (.slice e)) (hI : ∃ i, P.info? e = some i /\ i.zero = some (.slice none 0 0) /\ i.size = 1 /\ i.bytes = 24) {v : Value} {vs news : List Value} (hown : zE5 zN5 w base e v vs) {ad : Addr} {m c : Nat} (hm : m = news.length) (hm0 : 0 < m)
  (hr : ∀ (i : Nat) (u : Value), news[i]? = some u -> w.cell? (ad.add i) = some u) (h1 : ∀ u ∈ news, zN5 u) (hlen : vs.length + m <= 1000000000) (hbase : base <= w.heap.size) :
  ∃ v' w', (Builtin.append_ #[t, t] ty #[v, .slice (some ad) m c]).run P w = .ok v' w' /\ zE5 zN5 w' base e v' (vs ++ news) /\ w.grownBy w' v.ownBlock /\ (v'.ownBlock = v.ownBlock \/ v'.ownBlock = some w.heap.size) := by
 obtain ⟨i, hi, hz, hs, hby⟩ := hI
 subst hm
 have one : ∀ u ∈ news, u.oneCell' = true := fun u hu => by obtain ⟨A_, n_, c_, rfl⟩ := h1 u hu; rfl
 have hl : news.length = news.length * i.size := by rw [hs, Nat.mul_one]
 have zs : ∀ n, ∀ c ∈ Builtin.zeroCells (Value.slice none 0 0).cells n, zN5 c := by
  intro n c hc
  have : c = .slice none 0 0 := by
   have h0 : ∀ n, ∀ c ∈ (Builtin.zeroCells (Value.slice none 0 0).cells n), c = .slice none 0 0 := by
    intro n c hc
    unfold Builtin.zeroCells at hc
    simp [Value.cells, Nat.mod_one] at hc
    obtain ⟨_, h3⟩ := hc
    first | exact h3.symm | exact h3.2.symm
   exact h0 n c hc
  exact ⟨none, 0, 0, this⟩
 obtain ⟨v', w', g1, g2, g3, _, g5⟩ := run_append_own_at (P := P) w base t ty e i (.slice none 0 0) 1 24 hT hi hz hs hby rfl (by decide) v vs.length vs hown.1 ad news.length c news (by simp) (fun j u hu => hr j u hu) one (by unfold maxLen; omega) (by omega) hbase
 refine ⟨v', w', g1, ⟨by unfold zD6; rw [zB0]; exact g2, fun g hg => ?_⟩, g3, g5⟩
 rcases hown.1.2 with ⟨rfl, h0⟩ | ⟨g', cap, cur, rfl, hbg, hgg, hnc, hcm, hcs, htake⟩
 ·have hx : vs = [] := List.eq_nil_of_length_eq_zero h0
  subst hx
  have hr2 := run_append_nil (P := P) w t ty e i (.slice none 0 0) hT hi hz ad news.length c news hl hr hm0 (by omega) (by rw [hby]; simp at hlen; omega)
  rw [hr2] at g1
  injection g1 with g1 g1'
  subst g1; subst g1'
  obtain rfl : w.heap.size = g := by simpa [Value.ownBlock] using hg
  refine ⟨_, heap_alloc_new w.drew _, fun c hc => ?_⟩
  rcases Array.mem_append.1 hc with hc | hc
  ·exact h1 c (by simpa using hc)
  ·exact zs _ c hc
 ·obtain ⟨cs, hcs1, hcs2⟩ := hown.2 g' rfl
  rw [hgg] at hcs1
  injection hcs1 with hcs1
  injection hcs1 with hcs1 _ _
  subst hcs1
  by_cases hroom : vs.length + news.length <= cap
  ·have hfit : vs.length * i.size + news.length <= cur.size := by rw [hcs, hs]; omega
   have hr2 := run_append_room (P := P) w t ty e i hT hi g' vs.length cap cur hgg ad news.length c news hl hr one hroom hfit
   rw [hr2] at g1
   injection g1 with g1 g1'
   subst g1; subst g1'
   obtain rfl : g' = g := by simpa [Value.ownBlock] using hg
   refine ⟨_, setRow_heap w g' cur _ e _ hgg, fun c hc => ?_⟩
   have hc2 : c ∈ cur.toList.take (vs.length * i.size) ++ news ++ cur.toList.drop (vs.length * i.size + news.length) := by simpa using hc
   rcases List.mem_append.1 hc2 with hc2 | hc2
   ·rcases List.mem_append.1 hc2 with hc2 | hc2
    ·exact hcs2 c (by simpa using List.mem_of_mem_take hc2)
    ·exact h1 c hc2
   ·exact hcs2 c (by simpa using List.mem_of_mem_drop hc2)
  ·have holds : ∀ j u, vs[j]? = some u -> w.cell? ((⟨g', 0, none⟩ : Addr).add j) = some u := World.ownsRow.cells hown.1 (g := g') rfl
   have hr2 := run_append_grow (P := P) w t ty e i (.slice none 0 0) hT hi hz ⟨g', 0, none⟩ vs.length cap vs (by rw [hs]; omega) holds ad news.length c news hl hr (by omega) (by omega) (growslice_fits (by omega) (by rw [hby]; omega))
   rw [hr2] at g1
   injection g1 with g1 g1'
   subst g1; subst g1'
   obtain rfl : w.heap.size = g := by simpa [Value.ownBlock] using hg
   refine ⟨_, heap_alloc_new w.drew _, fun c hc => ?_⟩
   rcases Array.mem_append.1 hc with hc | hc
   ·rcases Array.mem_append.1 hc with hc | hc
    ·have hcv : c ∈ vs := by simpa using hc
     rw [<- htake] at hcv
     exact hcs2 c (by simpa using List.mem_of_mem_take hcv)
    ·exact h1 c (by simpa using hc)
   ·exact zs _ c hc
theorem jA {w : World} {o : Oper} {a : Act} {K : Act -> World -> Prop} {Q : Exit -> Act -> World -> Prop} (s x : Operand) {t : TypeId}
  (ho : o.op = .call { callee := .builtin .append, args := #[s, x], argTypes := #[t, t] })
  {base : Nat} {e : TypeId} (hT : P.underlying t = some (.slice e)) (hI : ∃ i, P.info? e = some i /\ i.zero = some (.slice none 0 0) /\ i.size = 1 /\ i.bytes = 24) {v : Value} {vs news : List Value} (hs : a.eval s = v) (hown : zE5 zN5 w base e v vs) {ad : Addr} {m c : Nat} (hx : a.eval x = .slice (some ad) m c) (hm : m = news.length) (hm0 : 0 < m)
  (hr : ∀ (i : Nat) (u : Value), news[i]? = some u -> w.cell? (ad.add i) = some u) (h1 : ∀ u ∈ news, zN5 u) (hlen : vs.length + m <= 1000000000) (hbase : base <= w.heap.size)
  (h : ∀ v' w', zE5 zN5 w' base e v' (vs ++ news) -> Hid (w.grownBy w' v.ownBlock) -> Hid (v'.ownBlock = v.ownBlock \/ v'.ownBlock = some w.heap.size) -> K (a.put o.dst v') w') : o.wp P a w K Q := by
 obtain ⟨v', w', hrun, h2, h3, h4⟩ := yZ9 (P := P) (ty := o.type) hT hI hown (c := c) hm hm0 hr h1 hlen hbase
 unfold Oper.wp execOp
 simp only [ho, resolve, invoke, builtin, Sem.run_bind, Sem.run_pure, Result.andThen_ok, List.map_toArray, List.map_cons, List.map_nil, hs, hx, hrun]
 exact h v' w' h2 h3 h4
end
/-! The kernel's rows. -/
theorem jA0 (S : Value -> Prop) (w : World) (base : Nat) (e : TypeId) (hb : base <= w.heap.size) : zE5 S (w.alloc (.cells #[] e)) base e (.slice (some ⟨w.heap.size, 0, none⟩) 0 0) [] :=
 ⟨qL1 w base e hb, fun g hg => by
  obtain rfl : w.heap.size = g := by simpa [Value.ownBlock] using hg
  exact ⟨_, heap_alloc_new w _, fun c hc => by simp at hc⟩⟩
section
variable {P : Program}
end
theorem wide_le {t : List (List Rat)} {m : Nat} (h : ∀ r ∈ t, r.length <= m) : zC4 t <= m := by
 cases t with
 | nil => exact Nat.zero_le _
 | cons r t => exact h r List.mem_cons_self
theorem yF1 {p : List (List Rat)} {m : Nat} (h2 : ∀ r ∈ p, r.length <= m) (h3 : zE9 p 1) : zF6 p (m + 1) := fun r hr => (qP0 (fun x hx => h3 r hr x hx)).mono (by have := h2 r hr; omega)
/-- A row of slices, written: fractions of either kind stay. -/
theorem zE5.keepH {k : IntKind} {B : Nat} {w w' : World} {base : Nat} {e : TypeId} {V : Value} {vs : List Value} {v : Value} {r : List Rat} (h : zE5 zN5 w base e V vs) (hg : w.grownBy w' V.ownBlock) (hs : SlF k B w v r) : SlF k B w' v r := by
  cases ho : V.ownBlock with
  | none => rw [ho] at hg; exact hs.below ⟨hg.os, hg.tape, hg.output, hg.size, fun k hk => hg.block k hk (by simp)⟩
  | some g =>
    rw [ho] at hg
    obtain ⟨cs, h1, h2⟩ := h.2 g ho
    exact hs.keepX h1 (fun c hc b => by obtain ⟨A, n, m, rfl⟩ := h2 c hc; simp) (fun c hc n => by obtain ⟨A, n', m, rfl⟩ := h2 c hc; simp) hg
/-- A table of the document's that a call makes by append. -/
structure TabG (w : World) (base : Nat) (V : Value) (us : List Value) (K : List (List Rat)) : Prop where
 row : zE5 zN5 w base 70 V us
 len : us.length = K.length
 own : ∀ (i : Nat) (u : Value) (r : List Rat), us[i]? = some u -> K[i]? = some r -> SlF .i64 10000 w u r
theorem TabG.below {w w' : World} {base : Nat} {V : Value} {us : List Value} {K : List (List Rat)} (h : TabG w base V us K) (hb : Below w.heap.size w w') : TabG w' base V us K := ⟨h.row.below hb, h.len, fun i u r hu hr => (h.own i u r hu hr).below hb⟩
theorem TabG.snoc {w w' : World} {base : Nat} {V V' u : Value} {us : List Value} {K : List (List Rat)} {r : List Rat} (h : TabG w base V us K) (h' : zE5 zN5 w' base 70 V' (us ++ [u])) (hg : w.grownBy w' V.ownBlock) (hu : SlF .i64 10000 w u r) : TabG w' base V' (us ++ [u]) (K ++ [r]) := by
 refine ⟨h', by simp [h.len], fun i a b ha hb => ?_⟩
 by_cases hi : i < us.length
 ·rw [zB2 hi] at ha
  rw [zB2 (by rw [<- h.len]; exact hi)] at hb
  exact h.row.keepH hg (h.own i a b ha hb)
 ·rw [List.getElem?_append_right (by omega)] at ha
  rw [List.getElem?_append_right (by rw [<- h.len]; omega), <- h.len] at hb
  rcases hj : i - us.length with _ | j
  ·rw [hj] at ha hb
   obtain rfl : u = a := by simpa using ha
   obtain rfl : r = b := by simpa using hb
   exact h.row.keepH hg hu
  ·rw [hj] at ha
   simp at ha
theorem TabG.slT {w : World} {base : Nat} {V : Value} {us : List Value} {K : List (List Rat)} (h : TabG w base V us K) : SlT .i64 10000 w V K := by
 refine ⟨us, h.len, ?_, h.own⟩
 have h1 := h.row.1
 rcases h1.2 with ⟨e, h0⟩ | ⟨g, cap, cur, e, _, hg, hn, hm, _, _⟩
 ·obtain rfl : us = [] := List.length_eq_zero_iff.1 h0
  exact ⟨none, 0, e, by simp, by unfold maxLen; omega, fun i u hu => by simp at hu⟩
 ·exact ⟨_, cap, e, hn, hm, fun i u hu => ⟨_, rfl, World.ownsRow.cells h1 (g := g) (by rw [e]; rfl) i u hu⟩⟩
section
variable {P : Program}
theorem jA1 {w : World} {ops : Array Oper} {o : Oper} {a : Act} {K : Act -> World -> Prop} {Q : Exit -> Act -> World -> Prop} {E : Prop} (hgd : o.guard = none) (s x : Operand) {t : TypeId}
  (ho : o.op = .call { callee := .builtin .append, args := #[s, x], argTypes := #[t, t] })
  {base : Nat} {e : TypeId} (hT : P.underlying t = some (.slice e)) (hI : ∃ i, P.info? e = some i /\ i.zero = some (.slice none 0 0) /\ i.size = 1 /\ i.bytes = 24) {v : Value} {vs news : List Value} (hs : a.eval s = v) (hown : zE5 zN5 w base e v vs) {ad : Addr} {m c : Nat} (hx : a.eval x = .slice (some ad) m c) (hm : m = news.length) (hm0 : 0 < m)
  (hr : ∀ (i : Nat) (u : Value), news[i]? = some u -> w.cell? (ad.add i) = some u) (h1 : ∀ u ∈ news, zN5 u) (hlen : vs.length + m <= 1000000000) (hbase : base <= w.heap.size)
  (h : ∀ v' w', zE5 zN5 w' base e v' (vs ++ news) -> Hid (w.grownBy w' v.ownBlock) -> Hid (v'.ownBlock = v.ownBlock \/ v'.ownBlock = some w.heap.size) -> K (a.put o.dst v') w') :
  if Region.wanted o (yielded ops a.tmps) = true then Oper.wp P o a w K Q else E := by
 have hw : Region.wanted o (yielded ops a.tmps) = true := by simp [Region.wanted, hgd]
 rw [if_pos hw]
 exact jA s x ho hT hI hs hown hx hm hm0 hr h1 hlen hbase h
end
/-! What is left without the first row and one place. -/
theorem yF2 {α : Type} {l : List α} {k : Nat} {x : α} (h : l[k]? = some x) : l.take (k + 1) = l.take k ++ [x] := by rw [List.take_add_one, h]; rfl
def zT0 (r : List Rat) (j : Nat) : List Rat := r.take j ++ r.drop (j + 1)
def zL2 (T : List (List Rat)) (j : Nat) : List (List Rat) := (T.drop 1).map fun r => zT0 r j
theorem jA2 {r : List Rat} {j n : Nat} (h : r.length = n + 1) (hj : j < n + 1) : (zT0 r j).length = n := by
 unfold zT0
 rw [zB0, List.length_take, List.length_drop]
 omega
theorem yF3 (T : List (List Rat)) (j : Nat) : (zL2 T j).length = T.length - 1 := by unfold zL2; rw [List.length_map, List.length_drop]
theorem yF4 {T : List (List Rat)} {i j : Nat} {r : List Rat} (h : T[i + 1]? = some r) : (zL2 T j)[i]? = some (zT0 r j) := by
 unfold zL2
 rw [List.getElem?_map, List.getElem?_drop, Nat.add_comm, h]
 rfl
theorem jA3 {T : List (List Rat)} {n j : Nat} (h : shp T (n + 1) (n + 1)) (hj : j < n + 1) : shp (zL2 T j) n n := by
 refine ⟨by rw [yF3, h.1]; omega, fun r hr => ?_⟩
 unfold zL2 at hr
 obtain ⟨x, hx, rfl⟩ := List.mem_map.1 hr
 exact jA2 (h.2 x (List.mem_of_mem_drop hx)) hj
theorem jA4 {r : List Rat} {j c : Nat} (hj : j < r.length) : (zT0 r j).getD c 0 = r.getD (zG0 j c) 0 := by
 unfold zT0 zG0
 rw [zA6, zA6]
 have hl : (r.take j).length = j := by rw [List.length_take]; omega
 by_cases h : c < j
 ·rw [if_pos h, zB2 (by omega), List.getElem?_take_of_lt h]
 ·rw [if_neg h, List.getElem?_append_right (by omega), hl, List.getElem?_drop, show j + 1 + (c - j) = c + 1 by omega]
theorem jA5 {T : List (List Rat)} {n j i c : Nat} (h : shp T (n + 1) (n + 1)) (hj : j < n + 1) (hi : i < n) : zC (zL2 T j) i c = zH7 (zC T) j i c := by
 obtain ⟨r, hr, hl⟩ := zI0 h (show i + 1 < n + 1 by omega)
 rw [zN3 (yF4 hr)]
 unfold zH7
 rw [zN3 hr, jA4 (by omega)]
theorem jA6 {T : List (List Rat)} {m j : Nat} (h : zE9 T m) : zE9 (zL2 T j) m := by
 intro r hr x hx
 unfold zL2 at hr
 obtain ⟨y, hy, rfl⟩ := List.mem_map.1 hr
 unfold zT0 at hx
 rcases List.mem_append.1 hx with hx | hx
 ·exact h y (List.mem_of_mem_drop hy) x (List.mem_of_mem_take hx)
 ·exact h y (List.mem_of_mem_drop hy) x (List.mem_of_mem_drop hx)
def dL : Nat -> Nat
 | 0 => 1
 | n + 1 => (dL n + 2) * (n + 1) + 1
theorem yF5 {x : Rat} {m : Nat} (j : Nat) (h : zC3 x m) : zC3 (sgN j * x) m := by
 unfold sgN
 split
 ·rw [Rat.one_mul]; exact h
 ·rw [show (-1 : Rat) * x = -x by grind]; exact qM3 h
theorem qQ5 {L : Nat} {f : Nat -> Rat} : ∀ j : Nat, (∀ c, c < j -> zC3 (f c) (L + 1)) -> zC3 (zC7 j f) ((L + 2) * j + 1)
  | 0, _ => qO 0
  | j + 1, h => by
    have h1 := qY1 (qQ5 j (fun c hc => h c (by omega))) (h j (by omega))
    exact h1.mono (by rw [Nat.mul_succ]; omega)
theorem qQ6 : ∀ (n : Nat) {M : Nat -> Nat -> Rat}, (∀ i j, i < n -> j < n -> zC3 (M i j) 1) -> zC3 (zE3 n M) (dL n)
  | 0, _, _ => qY8 (.inr rfl)
  | n + 1, M, h => by
    refine qQ5 (n + 1) (fun c hc => ?_)
    rw [Rat.mul_assoc]
    exact yF5 c ((zU0 (h 0 c (by omega) hc) (qQ6 n (fun i j hi hj => h _ _ (by omega) (zU1 hj)))).mono (by omega))
theorem qJ7 {T : List (List Rat)} {n m i j : Nat} (hs : shp T n n) (h : zE9 T m) (hi : i < n) (hj : j < n) : zC3 (zC T i j) m := by
 obtain ⟨r, hr, _, hq⟩ := zW1 hs hi hj
 exact h r (zA5 hr) _ (zA5 hq)
theorem jA7 {T : List (List Rat)} {n j : Nat} (h : shp T (n + 1) (n + 1)) (hj : j < n + 1) : zE3 n (zC (zL2 T j)) = zE3 n (zH7 (zC T) j) := zU2 n fun i c hi _ => jA5 h hj hi
/-- What a cut of such a row reads as. -/
theorem zL1.cutTo {w : World} {A : Option Addr} {n c j : Nat} {ps : List Elt} (h : zL1 w (.slice A n c) ps) (hj : j <= ps.length) : zL1 w (.slice A j c) (ps.take j) := by
 obtain ⟨A', c', e, h1, h2, h3⟩ := h
 injection e with e1 e2 e3
 subst e1; subst e3
 have hl : (ps.take j).length = j := by rw [List.length_take]; omega
 refine ⟨A, c, by rw [hl], by omega, h2, fun i p hp => ?_⟩
 have hi : i < j := by have := (zA4.1 hp).1; omega
 rw [List.getElem?_take_of_lt hi] at hp
 exact h3 i p hp
theorem zL1.cutFrom {w : World} {g o n c k : Nat} {A : Option Addr} {ps : List Elt} (h : zL1 w (.slice (some ⟨g, o, none⟩) n c) ps) (hk : k <= ps.length) (hA : k < ps.length -> A = some ⟨g, o + k * 3, none⟩) : zL1 w (.slice A (n - k) (c - k)) (ps.drop k) := by
 obtain ⟨A', c', e, h1, h2, h3⟩ := h
 injection e with e1 e2 e3
 subst e1; subst e2; subst e3
 refine ⟨A, c - k, by rw [List.length_drop], by rw [List.length_drop]; omega, by omega, fun i p hp => ?_⟩
 rw [List.getElem?_drop] at hp
 have hi := (zA4.1 hp).1
 obtain ⟨g', o', e, c0, c1, c2⟩ := h3 _ p hp
 injection e with e
 injection e with e4 e5
 subst e4; subst e5
 refine ⟨g, o + k * 3, hA (by omega), ?_, ?_, ?_⟩
 ·rw [show o + k * 3 + i * 3 = o + (k + i) * 3 by omega]; exact c0
 ·rw [show o + k * 3 + i * 3 = o + (k + i) * 3 by omega]; exact c1
 ·rw [show o + k * 3 + i * 3 = o + (k + i) * 3 by omega]; exact c2
/-- The document's determinant of tables of so many rows. -/
def DetC (n : Nat) : Prop := ∀ (a0 : Value) (T : List (List Rat)) (w : World), SlT .i64 10000 w a0 T -> shp T n n -> zE9 T 1 -> Calls Tryz.prog 18 #[a0] w (zQ2 (zE3 n (zC T)) w)
theorem jA8 : DetC 0 := by
 intro a0 T w h0 hs hl
 obtain ⟨A0, c0, rfl, hc0, hm0⟩ := h0.shape
 obtain rfl : T = [] := List.length_eq_zero_iff.1 hs.1
 obtain ⟨Z, hZ⟩ : ∃ Z : Rat, Z = 1 := ⟨_, rfl⟩
 have CN : ∀ w, Calls Tryz.prog 44 #[.int .i64 1, .int .i64 1] w (zM2 Z w) := fun w => by
  have h := qX8 1 1 w 1 rfl (by omega) (by omega) (by omega) (by omega)
  rwa [show mkRat 1 1 = Z by rw [hZ]; decide +kernel] at h
 have HV : Hid (zE3 0 (zC []) = Z) := hZ.symm
 have ba0 := zC8 (w := w) (zB3 _) (.cells #[.bool false, .slice none 0 0, .slice none 0 0] 55)
 have BR0 := Blk.new w 55 #[.bool false, .slice none 0 0, .slice none 0 0]
 clear hZ
 go_enter Tryz.func18, Tryz.ntmps18
 go_wp2_with fail
 refine (CN _).mono ?_
 rintro e w2 ⟨v2, rfl, k2, -, b2⟩
 obtain ⟨u2, t2, rfl, s2, d2⟩ := k2
 obtain ⟨A2, c2, rfl, _⟩ := id s2
 obtain ⟨D2, e2, rfl, _⟩ := id d2
 have BR2 := BR0.below b2
 have b02 := ba0.trans (b2.mono ba0.size)
 obtain ⟨X0, X1, X2, F0, F1, F2⟩ := three BR2
 have G7 := zR0 w2 w.heap.size (.bool (ngB Z.num)) (.slice A2 (digs 10000 Z.num.natAbs).length c2) (.slice D2 (digs 10000 Z.den).length e2)
 have B7 := zQ9 BR2 (.bool (ngB Z.num)) (.slice A2 (digs 10000 Z.num.natAbs).length c2) (.slice D2 (digs 10000 Z.den).length e2)
 have s7 := Go.Proofs.YtmpalajamfiiiaaGreat.flow.off s2 BR2 (no3 _) G7
 have d7 := Go.Proofs.YtmpalajamfiiiaaGreat.flow.off d2 BR2 (no3 _) G7
 have b27 := b02.grown G7 b02.size (fun k e => by cases e; exact zB3 _)
 obtain ⟨C0, C1, C2, _, _, _⟩ := three B7
 clear s2 d2 BR2 BR0
 go_wp2
 refine bodyPost_ret (v := .agg #[.bool (ngB Z.num), .slice A2 (digs 10000 Z.num.natAbs).length c2, .slice D2 (digs 10000 Z.den).length e2]) (by simp [results, Tryz.results18, go_sem, C0, C1, C2]) rfl ?_
 rw [HV.out]
 exact ⟨_, rfl, ⟨_, _, rfl, s7, d7⟩, b27⟩
theorem jA9 (n : Nat) (hn : n <= 3) (ih : DetC n) : DetC (n + 1) := by
  intro a0 T w h0 hs hl
  obtain ⟨N, hN⟩ : ∃ N, N = T.length := ⟨_, rfl⟩
  have hN1 : N = n + 1 := by rw [hN]; exact hs.1
  obtain ⟨A0, c0, rfl, hc0, hm0⟩ := h0.shape
  rw [<- hN] at h0 hc0 |-
  have hNp : 0 < N := by omega
  have hN4 : N <= 4 := by omega
  have hTne : T ≠ [] := fun e => by rw [e] at hN; simp at hN; omega
  obtain ⟨ad, rfl⟩ := h0.place hTne
  have HN := Lib.hid (zA hN hN1)
  have HST := Lib.hid h0
  have HS := Lib.hid hs
  have HL := Lib.hid hl
  obtain ⟨F, hF⟩ : ∃ F : Nat -> Rat, F = fun c => sgN c * zC T 0 c * zE3 n (zH7 (zC T) c) := ⟨_, rfl⟩
  have HF := Lib.hid hF
  have HFL : Hid (∀ c, c < N -> zC3 (F c) 47) := by
    show ∀ c, _
    intro c hc
    rw [hF]
    show zC3 (sgN c * zC T 0 c * zE3 n (zH7 (zC T) c)) 47
    rw [Rat.mul_assoc]
    have h1 := qQ6 n (M := zH7 (zC T) c) (fun i j hi hj => qJ7 hs hl (by omega) (zU1 hj))
    have h2 : dL n <= 46 := by
      rcases (by omega : n = 0 \/ n = 1 \/ n = 2 \/ n = 3) with rfl | rfl | rfl | rfl <;> decide
    exact yF5 c ((zU0 (qJ7 hs hl (by omega) (by omega)) h1).mono (by omega))
  obtain ⟨Z, hZ⟩ : ∃ Z : Rat, Z = 0 := ⟨_, rfl⟩
  have CN : ∀ w, Calls Tryz.prog 44 #[.int .i64 0, .int .i64 1] w (zM2 Z w) := fun w => by
    have h := qX8 0 1 w 1 rfl (by omega) (by omega) (by omega) (by omega)
    rwa [show mkRat 0 1 = Z by rw [hZ]; decide +kernel] at h
  have HZ : Hid (Z = zC7 0 F) := hZ
  have ba0 := zC8 (w := w) (zB3 _) (.cells #[.bool false, .slice none 0 0, .slice none 0 0] 55)
  have BR0 := Blk.new w 55 #[.bool false, .slice none 0 0, .slice none 0 0]
  have hs1 : (w.alloc (.cells #[.bool false, .slice none 0 0, .slice none 0 0] 55)).heap.size = w.heap.size + 1 := by first | rfl | exact Array.size_push _
  clear hZ hF hN hN1 hs hl h0 hTne hm0
  go_enter Tryz.func18, Tryz.ntmps18
  go_wp2_with fail
  refine (CN _).mono ?_
  rintro e w2 ⟨v2, rfl, k2, -, b2⟩
  obtain ⟨u2, t2, rfl, s2, d2⟩ := k2
  obtain ⟨A2, c2, rfl, _⟩ := id s2
  obtain ⟨D2, e2, rfl, _⟩ := id d2
  have ba2 := zC8 (w := w2) (zB3 _) (.cells #[.bool (ngB Z.num), .slice A2 (digs 10000 Z.num.natAbs).length c2, .slice D2 (digs 10000 Z.den).length e2] 55)
  have BP0 := Blk.new w2 55 #[.bool (ngB Z.num), .slice A2 (digs 10000 Z.num.natAbs).length c2, .slice D2 (digs 10000 Z.den).length e2]
  have BR2 := (BR0.below b2).below ba2
  have b01 := ba0.trans (b2.mono ba0.size)
  have HB0 : Hid (Below w.heap.size w _) := b01.trans (ba2.mono b01.size)
  have hg2 : w.heap.size < w2.heap.size := by have := b2.size; omega
  have s20 := s2.below ba2
  have d20 := d2.below ba2
  clear s2 d2 BR0 ba0 ba2 b01 b2 hs1
  go_wp2
  go_loopw [4] (fun v4 wr => ∃ (j : Nat) (s : Rat) (u t : Value), j <= N /\ Hid (s = zC7 j F) /\ Blk wr w2.heap.size 55 #[.bool (ngB s.num), u, t] /\ IsS wr .i64 u (digs 10000 s.num.natAbs) /\ IsS wr .i64 t (digs 10000 s.den) /\ Blk wr w.heap.size 55 #[.bool false, .slice none 0 0, .slice none 0 0] /\ Hid (Below w.heap.size w wr) /\ v4 = .int .i64 (j : Int)) (fun v4 _ => N - (intOf v4).toNat)
  case atStart => exact ⟨0, Z, _, _, by omega, HZ, BP0, s20, d20, BR2, HB0, rfl⟩
  case round =>
    clear BP0 s20 d20 BR2 HB0 CN
    obtain ⟨j, s, u, t, hj, HSU, BP, su, st, BR, HB, rfl⟩ := hrel
    obtain ⟨Au, cu, rfl, _⟩ := id su
    obtain ⟨At, ct, rfl, _⟩ := id st
    obtain ⟨wo, hwo⟩ : ∃ wo, wo = wr := ⟨_, rfl⟩
    subst hwo
    by_cases hlt : j < N
    · obtain ⟨r0, hr0, hr0l, hq⟩ := zW1 HS.out (show 0 < n + 1 by omega) (show j < n + 1 by have := HN.out.2; omega)
      obtain ⟨q, hqe⟩ : ∃ q, q = zC T 0 j := ⟨_, rfl⟩
      rw [<- hqe] at hq
      have HQE := Lib.hid hqe
      obtain ⟨Ar, cr, hN0, ecr, sr⟩ := (HST.out.below HB.out).at2 hr0
      obtain ⟨gr, or, uq, tq, rfl, hia, k0, k1, k2, sq, dq⟩ := sr.at_ hq
      obtain ⟨Aq, cq, rfl, _⟩ := id sq
      obtain ⟨Dq, eq, rfl, _⟩ := id dq
      have ead : ad.add 0 = ad := by simp [Addr.add]
      have ecz := ecr
      rw [ead] at ecz
      have hix := fun w => zH8 (P := Tryz.prog) Tryz.underlying70 (by kernel_rfl) (g := gr) (o := or) (c := cr) hia w
      have kq : IsP wo (.agg #[.bool (ngB q.num), .slice Aq (digs 10000 q.num.natAbs).length cq, .slice Dq (digs 10000 q.den).length eq]) q := ⟨_, _, rfl, sq, dq⟩
      have HR0 := Lib.hid (zA hr0 hq)
      clear hr0 hq hqe hr0l sr
      by_cases hq0 : q = 0
      · have CZ := qG5 _ q true _ kq (decide_eq_true hq0).symm
        have HSN : Hid (s = zC7 (j + 1) F) := by
          show s = zC7 j F + F j
          rw [<- HSU.out, HF.out]
          show s = s + sgN j * zC T 0 j * zE3 n (zH7 (zC T) j)
          rw [<- HQE.out, hq0, Rat.mul_zero, Rat.zero_mul, Rat.add_zero]
        clear hq0 kq
        go_wp2_with fail
        refine CZ.mono ?_
        rintro e w5 ⟨rfl, b5⟩
        have BP5 := BP.below b5
        have su5 := su.below b5
        have st5 := st.below b5
        have BR5 := BR.below b5
        have HB5 : Hid (Below w.heap.size w w5) := HB.out.trans (b5.mono HB.out.size)
        clear CZ BP su st BR HB b5 k0 k1 k2 sq dq ecr ecz
        go_wp2
        go_roundw
        case rel => exact ⟨j + 1, s, _, _, by omega, HSN, BP5, su5, st5, BR5, HB5, by go_num⟩
        case measure => simp [intOf]; omega
      · have CZ := qG5 _ q false _ kq (decide_eq_false hq0).symm
        clear hq0 kq
        go_wp2_with fail
        refine CZ.mono ?_
        rintro e w5 ⟨rfl, b5⟩
        have BP5 := BP.below b5
        have su5 := su.below b5
        have st5 := st.below b5
        have BR5 := BR.below b5
        have HB5 : Hid (Below w.heap.size w w5) := HB.out.trans (b5.mono HB.out.size)
        clear CZ BP su st BR HB b5 k0 k1 k2 sq dq ecr ecz hix
        obtain ⟨wj, hwj⟩ : ∃ wj, wj = w5 := ⟨_, rfl⟩
        subst hwj
        have ba5 := zC8 (w := wj) (zB3 _) (.cells #[] 70)
        have TG5 : TabG (wj.alloc (.cells #[] 70)) wj.heap.size (.slice (some ⟨wj.heap.size, 0, none⟩) 0 0) [] ((zL2 T j).take (1 - 1)) := ⟨jA0 zN5 wj wj.heap.size 70 (zB3 _), by simp, fun i u r hu => by simp at hu⟩
        go_wp2
        go_loopw [5, 6] (fun v5 v6 wr => ∃ (i : Nat) (us : List Value), 1 <= i /\ i <= N /\ TabG wr wj.heap.size v5 us ((zL2 T j).take (i - 1)) /\ Hid (Below wj.heap.size wj wr) /\ v6 = .int .i64 (i : Int)) (fun _ v6 _ => N - (intOf v6).toNat)
        case atStart => exact ⟨1, [], by omega, by omega, TG5, ba5, rfl⟩
        case round =>
          clear TG5 ba5
          obtain ⟨i, us, hi1, hiN, TG, HBi, rfl⟩ := hrel
          obtain ⟨wi, hwi⟩ : ∃ wi, wi = wr := ⟨_, rfl⟩
          subst hwi
          obtain ⟨A5, c5, e5⟩ := zD6.slice TG.row.1
          subst e5
          by_cases hil : i < N
          · obtain ⟨ri, hri, hril⟩ := zI0 HS.out (show i < n + 1 by have := HN.out.2; omega)
            obtain ⟨Ari, ci, hiN2, ecj, sri⟩ := (HST.out.below HB5.out).at2 hri
            have hjr : j + 1 <= ri.length := by have := HN.out.2; omega
            obtain ⟨gi, oi, cc, esl, -, hrc, hcm⟩ := sri.place (fun e => by rw [e] at hjr; simp at hjr)
            injection esl with esl1 _ esl3
            subst esl1; subst esl3
            obtain ⟨psi, hpm, hVF, hIE⟩ := sri
            have hpl : psi.length = ri.length := by rw [<- hpm, List.length_map]
            obtain ⟨J1, hJ1⟩ : ∃ J1 : Nat, J1 = j + 1 := ⟨_, rfl⟩
            obtain ⟨A2, hA2⟩ : ∃ A2 : Option Addr, A2 = if ci = J1 then some ⟨gi, oi, none⟩ else some ⟨gi, oi + J1 * 3, none⟩ := ⟨_, rfl⟩
            have VTo := hVF.cutTo (show j <= psi.length by omega)
            have VFrom := hVF.cutFrom (k := J1) (A := A2) (by omega) (fun h => by rw [hA2, if_neg (by omega)])
            have hone : ∀ p ∈ psi, p.2.1.oneCell' = true /\ p.2.2.oneCell' = true := fun p hp => by
              obtain ⟨⟨A, c, e, _⟩, B, d, e', _⟩ := hIE p hp
              rw [e, e']
              exact ⟨rfl, rfl⟩
            have hone1 : ∀ p ∈ psi.take j, p.2.1.oneCell' = true /\ p.2.2.oneCell' = true := fun p hp => hone p (List.mem_of_mem_take hp)
            have hone2 : ∀ p ∈ psi.drop J1, p.2.1.oneCell' = true /\ p.2.2.oneCell' = true := fun p hp => hone p (List.mem_of_mem_drop hp)
            have hlen1 : (psi.take j).length <= 1000000000 := by rw [List.length_take]; unfold maxLen at hcm; omega
            have hlen2 : (psi.drop J1).length <= 1000000000 := by rw [List.length_drop]; unfold maxLen at hcm; omega
            have hlen3 : ([] ++ psi.take j : List Elt).length <= 1000000000 := by rw [List.nil_append]; exact hlen1
            have bdi := (Below.refl wi.heap.size wi).drew
            have HBd0 : Hid (Below wj.heap.size wj wi.drew) := HBi.out.drew
            have baL0 := zC8 (w := wi.drew) (zB3 _) (.cells #[] 55)
            have RL := qN 55 wi.drew wi.drew.heap.size (zB3 _)
            have baL : Below wj.heap.size wj (wi.drew.alloc (.cells #[] 55)) := HBd0.out.trans (baL0.mono HBd0.out.size)
            have HRI := Lib.hid (zA hri hpm)
            have HIE := Lib.hid hIE
            have hjc : ¬ ci < j := by omega
            have hjc2 : ¬ ci < J1 := by omega
            have hjc3 : ¬ ri.length < J1 := by omega
            have hA3 := hA2.symm
            have hwr : IntKind.i64.wrap ((j : Int) + 1) = (J1 : Int) := by
              have h1 : ((j : Int) + 1) = (J1 : Int) := by omega
              rw [h1]
              exact Go.IntWalk.i64_in _ (by omega)
            have HJ1 := Lib.hid hJ1
            clear hri hpm hVF hIE hone hril hA2 hJ1
            go_upto_region 12 with (fail)
            refine wp_region_held_drew (S := fun w' : World => Below wj.heap.size wj w') (by kernel_rfl) HBd0.out (fun hHeld => ?_)
            refine wpAnyH_take (i := 0) (v := .slice A5 us.length c5) rfl (by kernel_rfl) (by kernel_rfl) (by kernel_rfl) (fun _ _ _ h => h) (Or.inl ⟨by kernel_rfl, fun w hSw => by (go_simp; first | done | with_reducible rfl)⟩) hHeld ?_
            simp only [Act.put, zA8, zA9, zB, zA0, zA2, zA1]
            refine wpAnyH_take (i := 2) (v := .slice (some ad) N c0) rfl (by kernel_rfl) (by kernel_rfl) (by kernel_rfl) (fun _ _ _ h => h) (Or.inl ⟨by kernel_rfl, fun w hSw => by (go_simp; first | done | with_reducible rfl)⟩) hHeld ?_
            simp only [Act.put, zA8, zA9, zB, zA0, zA2, zA1]
            refine wpAnyH_take (i := 3) (v := .int .i64 (i : Int)) rfl (by kernel_rfl) (by kernel_rfl) (by kernel_rfl) (fun _ _ _ h => h) (Or.inl ⟨by kernel_rfl, fun w hSw => by (go_simp; first | done | with_reducible rfl)⟩) hHeld ?_
            simp only [Act.put, zA8, zA9, zB, zA0, zA2, zA1]
            refine wpAnyH_take (i := 4) (v := .pointer (some (ad.add i))) rfl (by kernel_rfl) (by kernel_rfl) (by kernel_rfl) (fun _ _ _ h => h) (Or.inl ⟨by kernel_rfl, fun w hSw => by (go_simp; first | done | with_reducible rfl)⟩) hHeld ?_
            simp only [Act.put, zA8, zA9, zB, zA0, zA2, zA1]
            refine wpAnyH_take (i := 5) (v := .slice (some ⟨gi, oi, none⟩) ri.length ci) rfl (by kernel_rfl) (by kernel_rfl) (by kernel_rfl) (fun _ _ _ h => h) (Or.inl ⟨by kernel_rfl, fun w hSw => by (have hBw : Below wj.heap.size wj w := hSw; have f0 := (hBw.cell (World.block_lt_of_cell? _ _ ecj)).trans ecj; go_simp; first | done | with_reducible rfl)⟩) hHeld ?_
            simp only [Act.put, zA8, zA9, zB, zA0, zA2, zA1]
            refine wpAnyH_take (i := 6) (v := .int .i64 (j : Int)) rfl (by kernel_rfl) (by kernel_rfl) (by kernel_rfl) (fun _ _ _ h => h) (Or.inl ⟨by kernel_rfl, fun w hSw => by (go_simp; first | done | with_reducible rfl)⟩) hHeld ?_
            simp only [Act.put, zA8, zA9, zB, zA0, zA2, zA1]
            refine wpAnyH_take (i := 7) (v := .slice (some ⟨gi, oi, none⟩) j ci) rfl (by kernel_rfl) (by kernel_rfl) (by kernel_rfl) (fun _ _ _ h => h) (Or.inl ⟨by kernel_rfl, fun w hSw => by (go_simp; first | done | with_reducible rfl)⟩) hHeld ?_
            simp only [Act.put, zA8, zA9, zB, zA0, zA2, zA1]
            refine wpAnyH_take (i := 9) (v := .slice (some ad) N c0) rfl (by kernel_rfl) (by kernel_rfl) (by kernel_rfl) (fun _ _ _ h => h) (Or.inl ⟨by kernel_rfl, fun w hSw => by (go_simp; first | done | with_reducible rfl)⟩) hHeld ?_
            simp only [Act.put, zA8, zA9, zB, zA0, zA2, zA1]
            refine wpAnyH_take (i := 10) (v := .int .i64 (i : Int)) rfl (by kernel_rfl) (by kernel_rfl) (by kernel_rfl) (fun _ _ _ h => h) (Or.inl ⟨by kernel_rfl, fun w hSw => by (go_simp; first | done | with_reducible rfl)⟩) hHeld ?_
            simp only [Act.put, zA8, zA9, zB, zA0, zA2, zA1]
            refine wpAnyH_take (i := 11) (v := .pointer (some (ad.add i))) rfl (by kernel_rfl) (by kernel_rfl) (by kernel_rfl) (fun _ _ _ h => h) (Or.inl ⟨by kernel_rfl, fun w hSw => by (go_simp; first | done | with_reducible rfl)⟩) hHeld ?_
            simp only [Act.put, zA8, zA9, zB, zA0, zA2, zA1]
            refine wpAnyH_take (i := 12) (v := .slice (some ⟨gi, oi, none⟩) ri.length ci) rfl (by kernel_rfl) (by kernel_rfl) (by kernel_rfl) (fun _ _ _ h => h) (Or.inl ⟨by kernel_rfl, fun w hSw => by (have hBw : Below wj.heap.size wj w := hSw; have f0 := (hBw.cell (World.block_lt_of_cell? _ _ ecj)).trans ecj; go_simp; first | done | with_reducible rfl)⟩) hHeld ?_
            simp only [Act.put, zA8, zA9, zB, zA0, zA2, zA1]
            refine wpAnyH_take (i := 13) (v := .int .i64 (j : Int)) rfl (by kernel_rfl) (by kernel_rfl) (by kernel_rfl) (fun _ _ _ h => h) (Or.inl ⟨by kernel_rfl, fun w hSw => by (go_simp; first | done | with_reducible rfl)⟩) hHeld ?_
            simp only [Act.put, zA8, zA9, zB, zA0, zA2, zA1]
            refine wpAnyH_take (i := 14) (v := .int .i64 (J1 : Int)) rfl (by kernel_rfl) (by kernel_rfl) (by kernel_rfl) (fun _ _ _ h => h) (Or.inl ⟨by kernel_rfl, fun w hSw => by (go_simp; first | done | with_reducible rfl)⟩) hHeld ?_
            simp only [Act.put, zA8, zA9, zB, zA0, zA2, zA1]
            refine wpAnyH_take (i := 15) (v := .slice A2 (ri.length - J1) (ci - J1)) rfl (by kernel_rfl) (by kernel_rfl) (by kernel_rfl) (fun _ _ _ h => h) (Or.inl ⟨by kernel_rfl, fun w hSw => by (go_simp; first | done | with_reducible rfl)⟩) hHeld ?_
            simp only [Act.put, zA8, zA9, zB, zA0, zA2, zA1]
            refine wpAnyH_ready (rs := [1]) (by kernel_rfl) (by simp) ?_
            refine AllReadyH.cons rfl (fun K hK => ?_) AllReadyH.nil
            go_simp
            refine hK.out _ _ (by exact baL) (fun hHeld => ?_)
            clear hK K
            try simp only [Act.put, zA8, zA9, zB, zA0, zA2, zA1]
            refine wpAnyH_ready (rs := [8]) (by kernel_rfl) (by simp) ?_
            refine AllReadyH.cons rfl (fun K hK => ?_) AllReadyH.nil
            refine qQ1 rfl (.tmp 34) (.tmp 40) rfl Tryz.underlying70 qN0 rfl RL rfl (VTo.below baL) hone1 (by simp) hlen1 baL0.size ?_
            intro v8 w8 RF8 b8 HK8
            have b08 := baL.trans (b8.mono HBd0.out.size)
            refine hK.out _ _ (by exact b08) (fun hHeld => ?_)
            clear hK K
            try simp only [Act.put, zA8, zA9, zB, zA0, zA2, zA1]
            refine wpAnyH_ready (rs := [16]) (by kernel_rfl) (by simp) ?_
            refine AllReadyH.cons rfl (fun K hK => ?_) AllReadyH.nil
            refine qQ1 rfl (.tmp 41) (.tmp 48) rfl Tryz.underlying70 qN0 rfl RF8 rfl (VFrom.below b08) hone2 hlen3 hlen2 (zB4 baL0.size b8.size) ?_
            intro v9 w9 RF9 b9 HK9
            have b09 := b08.trans (b9.mono HBd0.out.size)
            obtain ⟨A9, c9, rfl, -⟩ := RF9.isVF
            obtain ⟨m9, hm9⟩ : ∃ m9, m9 = (([] ++ psi.take j) ++ psi.drop J1).length := ⟨_, rfl⟩
            rw [<- hm9] at RF9 |-
            clear hm9
            refine hK.out _ _ (by exact b09) (fun hHeld => ?_)
            clear hK K
            try simp only [Act.put, zA8, zA9, zB, zA0, zA2, zA1]
            obtain ⟨w9', hw9⟩ : ∃ w9', w9' = w9 := ⟨_, rfl⟩
            subst hw9
            have SR : SlF .i64 10000 w9' (.slice A9 m9 c9) (zT0 ri j) := ⟨([] ++ psi.take j) ++ psi.drop J1, by rw [List.nil_append, List.map_append, List.map_take, List.map_drop, HRI.out.2, HJ1.out]; rfl, RF9.isVF, fun p hp => (HIE.out p (by
              rw [List.nil_append] at hp
              rcases List.mem_append.1 hp with hp | hp
              · exact List.mem_of_mem_take hp
              · exact List.mem_of_mem_drop hp)).below b09⟩
            have bi9 : Below wi.heap.size wi w9' := ((bdi.trans (baL0.mono bdi.size)).trans (b8.mono bdi.size)).trans (b9.mono bdi.size)
            have TG9 := TG.below bi9
            have ba10 := zC8 (w := w9') (zB3 _) (.cells #[.slice A9 m9 c9] 70)
            have TG10 := TG9.below ba10
            have SR10 := SR.below ba10
            have hone10 := cell_one_new w9' (.slice A9 m9 c9) 70
            have b010 := b09.trans (ba10.mono b09.size)
            have hlu : us.length + 1 <= 1000000000 := by
              have h1 := TG10.len
              rw [List.length_take] at h1
              omega
            have HTK : Hid ((zL2 T j).take (i + 1 - 1) = (zL2 T j).take (i - 1) ++ [zT0 ri j]) := by
              show _ = _
              rw [show i + 1 - 1 = (i - 1) + 1 by omega]
              exact yF2 (yF4 (by rw [show i - 1 + 1 = i by omega]; exact HRI.out.1))
            clear RF9 RF8 HK8 HK9 SR TG9 TG RL
            refine wpAnyH_ready (rs := [17]) (by kernel_rfl) (by simp) ?_
            refine AllReadyH.cons rfl (fun K hK => ?_) AllReadyH.nil
            go_simp
            refine hK.out _ _ (by exact b010) (fun hHeld => ?_)
            clear hK K
            try simp only [Act.put, zA8, zA9, zB, zA0, zA2, zA1]
            refine wpAnyH_ready (rs := [18]) (by kernel_rfl) (by simp) ?_
            refine AllReadyH.cons rfl (fun K hK => ?_) AllReadyH.nil
            refine jA1 rfl (.tmp 33) (.tmp 50) rfl Tryz.underlying23 yC5 rfl TG10.row rfl rfl (by decide) hone10 (fun u hu => by (obtain rfl := List.mem_singleton.1 hu; exact ⟨_, _, _, rfl⟩)) hlu b010.size ?_
            intro v11 w11 RX11 HG11 HX11
            have b011 := b010.grown HG11.out b010.size (fun g hg => TG10.row.1.base_le g hg)
            have TG11 := TG10.snoc RX11 HG11.out SR10
            obtain ⟨A11, c11, e11⟩ := zD6.slice TG11.row.1
            subst e11
            obtain ⟨m11, hm11⟩ : ∃ m11, m11 = (us ++ [Value.slice A9 m9 c9]).length := ⟨_, rfl⟩
            rw [<- hm11] at TG11 |-
            clear hm11
            refine hK.out _ _ (by exact b011) (fun hHeld => ?_)
            clear hK K
            try simp only [Act.put, zA8, zA9, zB, zA0, zA2, zA1]
            refine wpAnyH_take (i := 19) (v := .slice A11 m11 c11) rfl (by kernel_rfl) (by kernel_rfl) (by kernel_rfl) (fun _ _ _ h => h) (Or.inl ⟨by kernel_rfl, fun w hSw => by (go_simp; first | done | with_reducible rfl)⟩) hHeld ?_
            simp only [Act.put, zA8, zA9, zB, zA0, zA2, zA1]
            refine wpAnyH_done (by kernel_rfl) ?_ _
            go_wp2
            go_roundw
            case rel => exact ⟨i + 1, us ++ [_], by omega, by omega, by rw [HTK.out]; exact TG11, b011, by go_num⟩
            case measure => simp [intOf]; omega
          · have e : i = N := by omega
            have hsm : SlT .i64 10000 wi (.slice A5 us.length c5) (zL2 T j) := by
              have h := TG.slT
              rwa [zA7 (by rw [yF3]; have := HN.out.1; omega)] at h
            have hjn : j < n + 1 := by have := HN.out.2; omega
            obtain ⟨D, hD⟩ : ∃ D, D = zE3 n (zH7 (zC T) j) := ⟨_, rfl⟩
            have hlD : zC3 D 46 := by
              rw [hD]
              have h1 := qQ6 n (M := zH7 (zC T) j) (fun i j hi hj => qJ7 HS.out HL.out (by omega) (zU1 hj))
              exact h1.mono (by rcases (by omega : n = 0 \/ n = 1 \/ n = 2 \/ n = 3) with rfl | rfl | rfl | rfl <;> decide)
            have CD : ∀ w' V, SlT .i64 10000 w' V (zL2 T j) -> Calls Tryz.prog 18 #[V] w' (zQ2 D w') := fun w' V h => by rw [hD, <- jA7 HS.out hjn]; exact ih V (zL2 T j) w' h (jA3 HS.out hjn) (jA6 HL.out)
            have HBw : Hid (Below w.heap.size w wi) := HB5.out.trans (HBi.out.mono HB5.out.size)
            obtain ⟨Ar, cr, hN0, ec0, sr⟩ := (HST.out.below HBw.out).at2 HR0.out.1
            obtain ⟨gr, or, uq, tq, rfl, hia, k0, k1, k2, sq, dq⟩ := sr.at_ HR0.out.2
            obtain ⟨Aq, cq, rfl, _⟩ := id sq
            obtain ⟨Dq, eq, rfl, _⟩ := id dq
            have kq : IsP wi (.agg #[.bool (ngB q.num), .slice Aq (digs 10000 q.num.natAbs).length cq, .slice Dq (digs 10000 q.den).length eq]) q := ⟨_, _, rfl, sq, dq⟩
            have hlq : zC3 q 1 := by rw [HQE.out]; exact qJ7 HS.out HL.out (by omega) hjn
            obtain ⟨X, hX⟩ : ∃ X, X = q * D := ⟨_, rfl⟩
            have CM : ∀ w a b, IsP w a q -> IsP w b D -> Calls Tryz.prog 45 #[a, b] w (zM2 X w) := fun w a b h1 h2 => by rw [hX]; exact yO3 a q b D w h1 h2 (hlq.mono (by omega)) (hlD.mono (by omega))
            have hlX : zC3 X 47 := by rw [hX]; exact (zU0 hlq hlD).mono (by omega)
            have BP6 := BP5.below HBi.out
            have su6 := su5.below HBi.out
            have st6 := st5.below HBi.out
            have BR6 := BR5.below HBi.out
            have HXE := Lib.hid (zA hX hD)
            have hgP : w2.heap.size < wi.heap.size := BP6.lt
            have HE := Lib.hid e
            clear BP5 su5 st5 BR5 TG HBi e hX hD sr hlq hlD
            go_upto_region 13 with (fail)
            go_cut [7] from 52 to 60 (fun s7 wx => ∃ (g7 : Nat) (u7 t7 : Value), s7 = .pointer (some ⟨g7, 0, none⟩) /\ wi.heap.size <= g7 /\ Blk wx g7 55 #[.bool (ngB X.num), u7, t7] /\ IsS wx .i64 u7 (digs 10000 X.num.natAbs) /\ IsS wx .i64 t7 (digs 10000 X.den) /\ Hid (Below wi.heap.size wi wx))
            case first =>
              refine flow 10 [Pd.eq (.slice (some ad) N c0), Pd.eq (.pointer (some (ad.add 0))), Pd.eq (.slice (some ⟨gr, or, none⟩) r0.length cr), Pd.eq (.int .i64 (j : Int)), Pd.eq (.pointer (some ⟨gr, or + j * 3, none⟩)), Pd.eq (.agg #[.bool (ngB q.num), .slice Aq (digs 10000 q.num.natAbs).length cq, .slice Dq (digs 10000 q.den).length eq]), Pd.eq (.slice A5 us.length c5), pp D, ppf X wi.heap.size, pn 55 #[.bool false, .slice none 0 0, .slice none 0 0] wi.heap.size] (by kernel_rfl) (by kernel_rfl) ?ob1 ?done1
              case ob1 =>
                refine zA (zC1 rfl (zB6 rfl) (zB8 rfl rfl) (fun _ _ h => h)) ?_
                refine zA (zH6 rfl (zB6 rfl) (zB7 (j := 0) (by kernel_rfl) rfl rfl) (zF0 _) (fun _ _ _ hx hy => ⟨_, by rw [hx, hy]; exact zY (k := 0) Tryz.underlying23 (by kernel_rfl) ad hN0 _, rfl⟩)) ?_
                refine zA (zB9 rfl (zB6 rfl) (zB7 (j := 1) (by kernel_rfl) rfl rfl) (fun w2 hb => zC2 Tryz.underlying70 rfl ((hb.cell (World.block_lt_of_cell? wi _ ec0)).trans ec0)) (fun _ _ => rfl)) ?_
                refine zA (zC1 rfl (zB6 rfl) (zB8 rfl rfl) (fun _ _ h => h)) ?_
                refine zA (zH6 rfl (zB6 rfl) (zB7 (j := 2) (by kernel_rfl) rfl rfl) (zB7 (j := 3) (by kernel_rfl) rfl rfl) (fun _ _ _ hx hy => ⟨_, by rw [hx, hy]; exact zH8 Tryz.underlying70 (by kernel_rfl) hia _, rfl⟩)) ?_
                refine zA (zB9 rfl (zB6 rfl) (zB7 (j := 4) (by kernel_rfl) rfl rfl) (fun w2 hb => zN2 Tryz.underlying55 rfl (by kernel_rfl) ((hb.cell (World.block_lt_of_cell? wi _ k0)).trans k0) ((hb.cell (World.block_lt_of_cell? wi _ k1)).trans k1) ((hb.cell (World.block_lt_of_cell? wi _ k2)).trans k2)) (fun _ _ => rfl)) ?_
                refine zA (zC1 rfl (zB6 rfl) (zB8 rfl rfl) (fun _ _ h => h)) ?_
                refine zA (zE4 rfl Tryz.func18 (by kernel_rfl) (zB6 rfl) (zB7 (j := 6) (by kernel_rfl) rfl rfl) (fun w2 u0 hb h0 => by obtain rfl := h0; exact (CD w2 _ (hsm.drew.below hb)).mono fun e w3 h => zQ2.pd h)) ?_
                refine zA (zD rfl Tryz.func45 (by kernel_rfl) (zB6 rfl) (zB7 (j := 5) (by kernel_rfl) rfl rfl) (zB7 (j := 7) (by kernel_rfl) rfl rfl) (fun w2 u0 u1 hb h0 h1 => by obtain rfl := h0; exact (CM w2 _ _ (kq.drew.below hb) h1).mono fun e w3 h => zM2.pdf h hb.size)) ?_
                refine zA (zL (z := .agg #[.bool false, .slice none 0 0, .slice none 0 0]) rfl rfl (fun _ => by kernel_rfl) (fun _ _ hB h => ⟨_, rfl, hB, h⟩)) ?_
                trivial
              case done1 =>
                refine fun w7 hb7 v0 h0 v1 h1 v2 h2 v3 h3 v4 h4 v5 h5 v6 h6 v7 h7 v8 h8 v9 h9 d9 b hbf => ?_
                obtain rfl := h0; obtain rfl := h1; obtain rfl := h2; obtain rfl := h3; obtain rfl := h4; obtain rfl := h5; obtain rfl := h6
                obtain ⟨q8, f8⟩ := h8
                obtain ⟨g9, rfl, hg9, B9⟩ := h9
                simp only [Act.put, zA0, zA2, zA1] at hbf
                subst hbf
                have bw7 : Below wi.heap.size wi w7 := (Below.refl wi.heap.size wi).trans (hb7.mono (zB3 _))
                obtain ⟨u8, t8, rfl, s8, d8⟩ := q8
                obtain ⟨A8, c8, rfl, _⟩ := id s8
                obtain ⟨D8, e8, rfl, _⟩ := id d8
                refine zG2 (i := 10) (by kernel_rfl) rfl rfl rfl rfl rfl rfl (cells := [.bool (ngB X.num), .slice A8 (digs 10000 X.num.natAbs).length c8, .slice D8 (digs 10000 X.den).length e8]) rfl B9 rfl (by kernel_rfl) (zF9 rfl rfl rfl) fun w10 hg10 BN => ?_
                have s10 := Go.Proofs.YtmpalajamfiiiaaGreat.flow.off s8 B9 zD2 hg10
                have d10 := Go.Proofs.YtmpalajamfiiiaaGreat.flow.off d8 B9 zD2 hg10
                have bw10 := bw7.grown hg10 bw7.size (fun k e => by injection e with e; omega)
                have HC := Lib.hid (zA bw10 (zA s10 d10))
                clear s8 d8 B9 bw7 bw10 s10 d10 BP6 su6 st6 BR6 k0 k1 k2 sq dq kq ec0 hsm CD CM f8 h7
                refine zF2 (by kernel_rfl) ?_
                go_wp2
                go_meet
                exact ⟨g9, _, _, rfl, hg9, BN, HC.out.2.1, HC.out.2.2, HC.out.1⟩
            case rest =>
              obtain ⟨g7, u7, t7, rfl, hg7, BX, sX, dX, HBX⟩ := hcut
              obtain ⟨w7, hw7⟩ : ∃ w7, w7 = wc := ⟨_, rfl⟩
              subst hw7
              obtain ⟨A7, c7, rfl, _⟩ := id sX
              obtain ⟨D7, e7, rfl, _⟩ := id dX
              have BP7 := BP6.below HBX.out
              have su7 := su6.below HBX.out
              have st7 := st6.below HBX.out
              have BR7 := BR6.below HBX.out
              have HB7 : Hid (Below w.heap.size w w7) := HBw.out.trans (HBX.out.mono HBw.out.size)
              have hg7w : w2.heap.size < g7 := by omega
              clear BP6 su6 st6 BR6 k0 k1 k2 sq dq kq ec0 hsm CD CM
              go_upto_if 63 with (fail)
              obtain ⟨B63, hB⟩ : ∃ B, B = (((j : Int) % 2) == 1) := ⟨_, rfl⟩
              rw [<- hB]
              have HB63 := Lib.hid hB
              clear hB
              go_cut [] from 64 to 65 (fun wx => ∃ (Y : Rat) (u t : Value), Blk wx g7 55 #[.bool (ngB Y.num), u, t] /\ IsS wx .i64 u (digs 10000 Y.num.natAbs) /\ IsS wx .i64 t (digs 10000 Y.den) /\ Hid (Y = sgN j * X) /\ Blk wx w2.heap.size 55 #[.bool (ngB s.num), .slice Au (digs 10000 s.num.natAbs).length cu, .slice At (digs 10000 s.den).length ct] /\ IsS wx .i64 (.slice Au (digs 10000 s.num.natAbs).length cu) (digs 10000 s.num.natAbs) /\ IsS wx .i64 (.slice At (digs 10000 s.den).length ct) (digs 10000 s.den) /\ Blk wx w.heap.size 55 #[.bool false, .slice none 0 0, .slice none 0 0] /\ Hid (Below w.heap.size w wx))
              case first =>
                by_cases hp : (j : Int) % 2 = 1
                · obtain rfl : B63 = true := by rw [HB63.out, beq_iff_eq]; exact hp
                  obtain ⟨V0, V1, V2, F0, F1, F2⟩ := three BX
                  obtain ⟨Y, hY⟩ : ∃ Y, Y = -X := ⟨_, rfl⟩
                  have CG : ∀ w a, IsP w a X -> Calls Tryz.prog 46 #[a] w (zQ2 Y w) := fun w a h => by rw [hY]; exact yO2 a X w h
                  have HY : Hid (Y = sgN j * X) := by
                    show _ = _
                    rw [hY]
                    unfold sgN
                    rw [if_neg (by omega)]
                    grind
                  clear hY hp
                  go_wp2_with fail
                  refine (CG _ _ ⟨_, _, rfl, sX, dX⟩).mono ?_
                  rintro e w8 ⟨v8, rfl, k8, b8⟩
                  obtain ⟨u8, t8, rfl, s8, d8⟩ := k8
                  obtain ⟨A8, c8, rfl, _⟩ := id s8
                  obtain ⟨D8, e8, rfl, _⟩ := id d8
                  have BX8 := BX.below b8
                  obtain ⟨X0, X1, X2, F3, F4, F5⟩ := three BX8
                  have G9 := zR0 w8 g7 (.bool (ngB Y.num)) (.slice A8 (digs 10000 Y.num.natAbs).length c8) (.slice D8 (digs 10000 Y.den).length e8)
                  have B9 := zQ9 BX8 (.bool (ngB Y.num)) (.slice A8 (digs 10000 Y.num.natAbs).length c8) (.slice D8 (digs 10000 Y.den).length e8)
                  have s9 := Go.Proofs.YtmpalajamfiiiaaGreat.flow.off s8 BX8 (no3 _) G9
                  have d9 := Go.Proofs.YtmpalajamfiiiaaGreat.flow.off d8 BX8 (no3 _) G9
                  have BP9 := Blk.grown (BP7.below b8) G9 (by omega)
                  have su9 := Go.Proofs.YtmpalajamfiiiaaGreat.flow.off (su7.below b8) BX8 (no3 _) G9
                  have st9 := Go.Proofs.YtmpalajamfiiiaaGreat.flow.off (st7.below b8) BX8 (no3 _) G9
                  have BR9 := Blk.grown (BR7.below b8) G9 (by omega)
                  have b08 := HB7.out.trans (b8.mono HB7.out.size)
                  have HB9 : Hid (Below w.heap.size w _) := b08.grown G9 b08.size (fun k e => by injection e with e; omega)
                  clear BX sX dX BP7 su7 st7 BR7 HB7 b8 s8 d8 BX8 b08 V0 V1 V2 F0 F1 F2
                  go_wp2
                  go_meet
                  exact ⟨Y, _, _, B9, s9, d9, HY, BP9, su9, st9, BR9, HB9.out⟩
                · obtain rfl : B63 = false := by rw [HB63.out, beq_eq_false_iff_ne]; exact hp
                  have HY : Hid (X = sgN j * X) := by
                    show _ = _
                    unfold sgN
                    rw [if_pos (by omega), Rat.one_mul]
                  go_wp2
                  go_meet
                  exact ⟨X, _, _, BX, sX, dX, HY, BP7, su7, st7, BR7, HB7.out⟩
              case rest =>
                obtain ⟨Y, u8, t8, BY, sY, dY, HY, BP8, su8, st8, BR8, HB8⟩ := hcut
                obtain ⟨w8, hw8⟩ : ∃ w8, w8 = wc := ⟨_, rfl⟩
                subst hw8
                clear BX sX dX BP7 su7 st7 BR7 HB7
                obtain ⟨A8, c8, rfl, _⟩ := id sY
                obtain ⟨D8, e8, rfl, _⟩ := id dY
                obtain ⟨V0, V1, V2, F0, F1, F2⟩ := three BY
                obtain ⟨U0, U1, U2, G0, G1, G2⟩ := three BP8
                have hYF : Y = F j := by
                  rw [HY.out, HXE.out.1, HF.out, HXE.out.2, HQE.out]
                  exact (Rat.mul_assoc _ _ _).symm
                have hlY : zC3 Y 47 := by rw [hYF]; exact HFL.out j hlt
                have hls : zC3 s 200 := by
                  rw [HSU.out]
                  exact (qQ5 (L := 46) j (fun c hc => HFL.out c (by omega))).mono (by omega)
                obtain ⟨Z2, hZ2⟩ : ∃ Z2, Z2 = s + Y := ⟨_, rfl⟩
                have CA : ∀ w a b, IsP w a s -> IsP w b Y -> Calls Tryz.prog 47 #[a, b] w (zM2 Z2 w) := fun w a b h1 h2 => by rw [hZ2]; exact yO5 a s b Y w h1 h2 (hls.mono (by omega)) (hlY.mono (by omega))
                have HS2 : Hid (Z2 = zC7 (j + 1) F) := by
                  show _ = zC7 j F + F j
                  rw [hZ2, hYF, <- HSU.out]
                clear hYF hlY hls hZ2
                go_wp2_with fail
                refine (CA _ _ _ ⟨_, _, rfl, su8, st8⟩ ⟨_, _, rfl, sY, dY⟩).mono ?_
                rintro e w9 ⟨v9, rfl, k9, -, b9⟩
                obtain ⟨u9, t9, rfl, s9, d9⟩ := k9
                obtain ⟨A9, c9, rfl, _⟩ := id s9
                obtain ⟨D9, e9, rfl, _⟩ := id d9
                have BP9 := BP8.below b9
                obtain ⟨X0, X1, X2, F3, F4, F5⟩ := three BP9
                have G10 := zR0 w9 w2.heap.size (.bool (ngB Z2.num)) (.slice A9 (digs 10000 Z2.num.natAbs).length c9) (.slice D9 (digs 10000 Z2.den).length e9)
                have B10 := zQ9 BP9 (.bool (ngB Z2.num)) (.slice A9 (digs 10000 Z2.num.natAbs).length c9) (.slice D9 (digs 10000 Z2.den).length e9)
                have s10 := Go.Proofs.YtmpalajamfiiiaaGreat.flow.off s9 BP9 (no3 _) G10
                have d10 := Go.Proofs.YtmpalajamfiiiaaGreat.flow.off d9 BP9 (no3 _) G10
                have BR10 := Blk.grown (BR8.below b9) G10 (by omega)
                have b09 := HB8.out.trans (b9.mono HB8.out.size)
                have HB10 : Hid (Below w.heap.size w _) := b09.grown G10 b09.size (fun k e => by injection e with e; omega)
                clear BY sY dY BP8 su8 st8 BR8 HB8 b9 s9 d9 BP9 b09 V0 V1 V2 F0 F1 F2 U0 U1 U2 G0 G1 G2 CA
                go_wp2
                go_roundw
                case rel => exact ⟨j + 1, Z2, _, _, by omega, HS2, B10, s10, d10, BR10, HB10, by go_num⟩
                case measure => simp [intOf]; omega
    · have e : j = N := by omega
      have HV : Hid (s = zE3 (n + 1) (zC T)) := by
        show _ = _
        rw [HSU.out, e, HN.out.2, HF.out]
        rfl
      obtain ⟨V0, V1, V2, _, _, _⟩ := three BP
      obtain ⟨X0, X1, X2, F0, F1, F2⟩ := three BR
      have G7 := zR0 wo w.heap.size (.bool (ngB s.num)) (.slice Au (digs 10000 s.num.natAbs).length cu) (.slice At (digs 10000 s.den).length ct)
      have B7 := zQ9 BR (.bool (ngB s.num)) (.slice Au (digs 10000 s.num.natAbs).length cu) (.slice At (digs 10000 s.den).length ct)
      have s7 := Go.Proofs.YtmpalajamfiiiaaGreat.flow.off su BR (no3 _) G7
      have d7 := Go.Proofs.YtmpalajamfiiiaaGreat.flow.off st BR (no3 _) G7
      have b27 := HB.out.grown G7 HB.out.size (fun k e => by cases e; exact zB3 _)
      obtain ⟨C0, C1, C2, _, _, _⟩ := three B7
      clear su st BP BR e
      go_wp2
      refine bodyPost_ret (v := .agg #[.bool (ngB s.num), .slice Au (digs 10000 s.num.natAbs).length cu, .slice At (digs 10000 s.den).length ct]) (by simp [results, Tryz.results18, go_sem, C0, C1, C2]) rfl ?_
      rw [<- HV.out]
      exact ⟨_, rfl, ⟨_, _, rfl, s7, d7⟩, b27⟩
theorem jB (a0 : Value) (T : List (List Rat)) (w : World) (h0 : SlT .i64 10000 w a0 T) (hn : T.length <= 4) (hs : ∀ r ∈ T, r.length = T.length) (hl : zE9 T 1) : Calls Tryz.prog 18 #[a0] w (zQ2 (zE3 T.length (zC T)) w) := by
 have key : ∀ n, n <= 4 -> DetC n := by
  intro n
  induction n with
  | zero => exact fun _ => jA8
  | succ n ih => exact fun h => jA9 n (by omega) (ih (by omega))
 exact key T.length hn a0 T w h0 ⟨rfl, hs⟩ hl
/-- The limbs of the first elements in this block lie in new memory. -/
def FrN (w : World) (g B0 k : Nat) : Prop := ∀ i, i < k -> ∃ u t, w.cell? ⟨g, i * 3 + 1, none⟩ = some u /\ w.cell? ⟨g, i * 3 + 2, none⟩ = some t /\ zD5 B0 u /\ zD5 B0 t
theorem FrN.below {w w' : World} {g B0 k : Nat} (h : FrN w g B0 k) (hb : Below w.heap.size w w') : FrN w' g B0 k := fun i hi => by
 obtain ⟨u, t, h1, h2, h3⟩ := h i hi
 exact ⟨u, t, (hb.cell (World.block_lt_of_cell? _ _ h1)).trans h1, (hb.cell (World.block_lt_of_cell? _ _ h2)).trans h2, h3⟩
theorem FrN.grown {w w' : World} {g g2 B0 k : Nat} (h : FrN w g B0 k) (hg : w.grownBy w' (some g2)) (hne : g ≠ g2) : FrN w' g B0 k := fun i hi => by
 obtain ⟨u, t, h1, h2, h3⟩ := h i hi
 have e : some g ≠ some g2 := fun e => hne (by injection e)
 exact ⟨u, t, hg.cell h1 e, hg.cell h2 e, h3⟩
theorem FrN.mono {w : World} {g B0 B1 k : Nat} (h : FrN w g B0 k) (hB : B1 <= B0) : FrN w g B1 k := fun i hi => by
 obtain ⟨u, t, h1, h2, h3, h4⟩ := h i hi
 exact ⟨u, t, h1, h2, h3.mono hB, h4.mono hB⟩
theorem yF6 {w : World} {g B0 n m i : Nat} {qs : List Rat} {x u t : Value} (hR : zE w g n qs) (hi : i < n) (h : ∀ j, j < m -> j ≠ i -> ∃ u t, w.cell? ⟨g, j * 3 + 1, none⟩ = some u /\ w.cell? ⟨g, j * 3 + 2, none⟩ = some t /\ zD5 B0 u /\ zD5 B0 t) (hu : zD5 B0 u) (ht : zD5 B0 t) : FrN (((w.setCell ⟨g, i * 3, none⟩ x).setCell ⟨g, i * 3 + 1, none⟩ u).setCell ⟨g, i * 3 + 2, none⟩ t) g B0 m := by
 obtain ⟨ps, h1, _, h3, _⟩ := hR
 have hsz : (zE8 ps).toArray.size = n * 3 := by rw [List.size_toArray, qI5, h1]
 intro j hj
 by_cases e : j = i
 ·subst e
  have hb := zS8 (zS8 (zS8 h3 (i := j * 3) x) (i := j * 3 + 1) u) (i := j * 3 + 2) t
  refine ⟨u, t, ?_, ?_, hu, ht⟩
  ·rw [hb.cell, Array.getElem?_setIfInBounds_ne (by omega), Array.getElem?_setIfInBounds_self_of_lt (by simp only [Array.size_setIfInBounds]; omega)]
  ·rw [hb.cell, Array.getElem?_setIfInBounds_self_of_lt (by simp only [Array.size_setIfInBounds]; omega)]
 ·obtain ⟨u', t', h5, h6, h7⟩ := h j hj e
  have ne : ∀ a b : Nat, a ≠ b -> (⟨g, a, none⟩ : Addr) ≠ ⟨g, b, none⟩ := fun a b hab e => by injection e with _ e; exact hab e
  refine ⟨u', t', ?_, ?_, h7⟩
  ·rw [World.cell?_setCell_other _ _ _ _ (ne _ _ (by omega)), World.cell?_setCell_other _ _ _ _ (ne _ _ (by omega)), World.cell?_setCell_other _ _ _ _ (ne _ _ (by omega))]; exact h5
  ·rw [World.cell?_setCell_other _ _ _ _ (ne _ _ (by omega)), World.cell?_setCell_other _ _ _ _ (ne _ _ (by omega)), World.cell?_setCell_other _ _ _ _ (ne _ _ (by omega))]; exact h6
def RetRf (d : Nat) (qs : List Rat) (w : World) (e : Ending) (w' : World) : Prop := ∃ g, e = .returned (.slice (some ⟨g, 0, none⟩) d d) /\ zE w' g d qs /\ FrN w' g w.heap.size d /\ w.heap.size <= g /\ Below w.heap.size w w'
def yF7 (d : Nat) (qs : List Rat) (w : World) (e : Ending) (w' : World) : Prop := ∃ g, e = .returned (.tuple #[.slice (some ⟨g, 0, none⟩) d d, .int .i64 0]) /\ zE w' g d qs /\ FrN w' g w.heap.size d /\ w.heap.size <= g /\ Below w.heap.size w w'
theorem jB0 {d k : Nat} (h : k < d) : (zG d).take (k + 1) = (zG d).take k ++ [0] := yF2 (by unfold zG; rw [List.getElem?_replicate, if_pos h])
theorem jB1 (d : Nat) (w : World) (hd : d <= 200) : Calls Tryz.prog 117 #[.int .i64 (d : Int)] w (RetRf d (zG d) w) := by
 obtain ⟨w1, hmk, r1, b1⟩ := qP3 (P := Tryz.prog) (w := w) Tryz.underlying64 zQ4 d (by omega)
 obtain ⟨gs, hgs⟩ : ∃ gs, gs = w.heap.size := ⟨_, rfl⟩
 rw [<- hgs] at hmk r1
 have HG := Lib.hid hgs
 obtain ⟨Z, hZ⟩ : ∃ Z : Rat, Z = ((0 : Int) : Rat) := ⟨_, rfl⟩
 have CO : ∀ w, Calls Tryz.prog 30 #[.int .i64 0] w (RetQ Z w) := fun w => by rw [hZ]; exact zQ8 0 w (by omega) (by omega)
 have HZ : Hid (Z = 0) := hZ
 have r1' : zE w1 gs d ((zG d).take 0) := by rw [List.take_zero]; exact r1
 clear hgs hZ r1
 go_enter Tryz.func117, Tryz.ntmps117
 go_wp2
 go_loopw [9] (fun v9 wr => ∃ k : Nat, k <= d /\ zE wr gs d ((zG d).take k) /\ Hid (FrN wr gs w.heap.size k) /\ Hid (Below w.heap.size w wr) /\ v9 = .int .i64 (k : Int)) (fun v9 _ => d - (intOf v9).toNat)
 case atStart => exact ⟨0, by omega, r1', (by show FrN _ _ _ _; intro i hi; omega), b1, rfl⟩
 case round =>
  clear r1' hmk b1
  obtain ⟨k, hk, RN, HF, HB, rfl⟩ := hrel
  by_cases hlt : k < d
  ·have hiv := fun w => yD3 (P := Tryz.prog) Tryz.underlying64 (by kernel_rfl) (g := gs) (c := d) hlt w
   go_wp2_with fail
   refine (CO _).mono ?_
   rintro e w3 ⟨v3, rfl, k3, f3, b3⟩
   obtain ⟨u3, t3, rfl, s3, d3⟩ := k3
   obtain ⟨A3, c3, rfl, _⟩ := id s3
   obtain ⟨D3, e3, rfl, _⟩ := id d3
   have RN3 := RN.below b3
   obtain ⟨p5, q5, t5, P0, P1, P2, F0, F1, F2⟩ := RN3.place hlt
   obtain ⟨G8, R8, -⟩ := yD2 RN3 hlt s3 d3
   have hkl : k = ((zG d).take k).length := by rw [List.length_take, zS5]; omega
   have HR8 := Lib.hid (R8 hkl)
   have HF3 := HF.out.below b3
   have HF8 : Hid (FrN _ gs w.heap.size (k + 1)) := yF6 (x := .bool (ngB Z.num)) RN3 hlt (fun j hj hne => HF3 j (by omega)) ((f3 _ _ _ rfl).1.mono HB.out.size) ((f3 _ _ _ rfl).2.mono HB.out.size)
   have b03 := HB.out.trans (b3.mono HB.out.size)
   have HB8 : Hid (Below w.heap.size w _) := b03.grown G8 b03.size (fun q e => by injection e with e; have := HG.out; omega)
   have HTK : Hid ((zG d).take (k + 1) = (zG d).take k ++ [Z]) := by show _ = _; rw [HZ.out]; exact jB0 hlt
   clear R8 G8 RN RN3 HF HF3 HB b03 b3 s3 d3 f3 hkl
   go_wp2
   go_roundw
   case rel => exact ⟨k + 1, by omega, by rw [HTK.out]; exact HR8.out, HF8, HB8, by go_num⟩
   case measure => simp [intOf]; omega
  ·obtain rfl : k = d := by omega
   rw [zA7 (by rw [zS5]; exact zB3 _)] at RN
   have HR := Lib.hid RN
   clear RN
   go_wp2
   go_ret
   exact ⟨gs, rfl, HR.out, HF.out, by rw [HG.out]; exact zB3 _, HB.out⟩
theorem jB2 (d : Nat) (w : World) (hd : d <= 200) : Calls Tryz.prog 87 #[.int .i64 (d : Int)] w (yF7 d (zG d) w) := by
 have h1 : ¬ (d : Int) < 0 := by omega
 have h2 : ¬ (200 : Int) < (d : Int) := by omega
 go_enter Tryz.func87, Tryz.ntmps87
 go_wp2_with fail
 refine (jB1 d _ hd).mono ?_
 rintro e w2 ⟨g, rfl, RN, FN, hg, b2⟩
 have HR := Lib.hid (zA RN (zA FN hg))
 clear RN FN hg
 go_wp2
 go_ret2
 exact ⟨g, rfl, HR.out.1, HR.out.2.1, HR.out.2.2, b2⟩
theorem jB3 (d k : Nat) (w : World) (hd : d <= 200) (hk : k < d) : Calls Tryz.prog 53 #[.int .i64 (d : Int), .int .i64 (k : Int)] w (yF7 d (zJ6 d k) w) := by
 have h1 : ¬ (k : Int) < 0 := by omega
 have h2 : ¬ (d : Int) <= (k : Int) := by omega
 obtain ⟨Z, hZ⟩ : ∃ Z : Rat, Z = ((1 : Int) : Rat) := ⟨_, rfl⟩
 have CO : ∀ w, Calls Tryz.prog 30 #[.int .i64 1] w (RetQ Z w) := fun w => by rw [hZ]; exact zQ8 1 w (by omega) (by omega)
 have HZ : Hid ((zG d).set k Z = zJ6 d k) := by show _ = _; rw [hZ]; rfl
 clear hZ
 go_enter Tryz.func53, Tryz.ntmps53
 go_wp2_with fail
 refine (jB2 d _ hd).mono ?_
 rintro e w2 ⟨g, rfl, RN, FN, hg, b2⟩
 have hiv := fun w => yD3 (P := Tryz.prog) Tryz.underlying64 (by kernel_rfl) (g := g) (c := d) hk w
 have HGE := Lib.hid hg
 clear hg
 go_wp2_with fail
 refine (CO _).mono ?_
 rintro e w3 ⟨v3, rfl, k3, f3, b3⟩
 obtain ⟨u3, t3, rfl, s3, d3⟩ := k3
 obtain ⟨A3, c3, rfl, _⟩ := id s3
 obtain ⟨D3, e3, rfl, _⟩ := id d3
 have RN3 := RN.below b3
 obtain ⟨p5, q5, t5, P0, P1, P2, F0, F1, F2⟩ := RN3.place hk
 obtain ⟨G8, -, R8⟩ := yD2 RN3 hk s3 d3
 have HR8 := Lib.hid (R8 (by rw [zS5]; exact hk))
 have FN3 := FN.below b3
 have HF8 : Hid (FrN _ g w.heap.size d) := yF6 (x := .bool (ngB Z.num)) RN3 hk (fun j hj hne => FN3 j hj) ((f3 _ _ _ rfl).1.mono b2.size) ((f3 _ _ _ rfl).2.mono b2.size)
 have b03 := b2.trans (b3.mono b2.size)
 have HB8 : Hid (Below w.heap.size w _) := b03.grown G8 b03.size (fun q e => by injection e with e; have := HGE.out; omega)
 clear R8 G8 RN RN3 FN FN3 b03 b3 b2 s3 d3 f3
 go_wp2
 go_ret2
 exact ⟨g, rfl, by rw [<- HZ.out]; exact HR8.out, HF8.out, HGE.out, HB8.out⟩
/-- The table that changes nothing, all of whose limbs lie in new memory. -/
def RetIdF (d : Nat) (w : World) (e : Ending) (w' : World) : Prop := ∃ (g : Nat) (us : List Value), e = .returned (.tuple #[.slice (some ⟨g, 0, none⟩) d d, .int .i64 0]) /\ zD9 .u64 4294967296 w' g 64 us (zF d) /\ (∀ i, i < d -> ∃ gr, us[i]? = some (.slice (some ⟨gr, 0, none⟩) d d) /\ w.heap.size <= gr /\ FrN w' gr w.heap.size d) /\ w.heap.size <= g /\ Below w.heap.size w w'
theorem jB4 (d : Nat) (w : World) (hd : d <= 200) : Calls Tryz.prog 22 #[.int .i64 (d : Int)] w (RetIdF d w) := by
 have h1 : ¬ (d : Int) < 0 := by omega
 have h2 : ¬ (200 : Int) < (d : Int) := by omega
 have HTT : Hid ((zF d).length = d) := zW0 d
 go_enter Tryz.func22, Tryz.ntmps22
 go_wp2_with fail
 refine (zY7 _ d _ rfl (by omega)).mono ?_
 rintro e w3 ⟨g, rfl, TB, hg, b3⟩
 have TS0 : zD9 .u64 4294967296 w3 g 64 (zB1 d (.slice none 0 0)) (zM5 (zF d) 0 d) := by rw [qP5]; exact TB.bare
 clear TB
 go_wp2
 go_loopw [16] (fun v16 wr => ∃ (k : Nat) (us : List Value), k <= d /\ zD9 .u64 4294967296 wr g 64 us (zM5 (zF d) k d) /\ Hid (∀ i, i < k -> ∃ gr, us[i]? = some (.slice (some ⟨gr, 0, none⟩) d d) /\ g ≠ gr /\ w.heap.size <= gr /\ FrN wr gr w.heap.size d) /\ Hid (Below w.heap.size w wr) /\ v16 = .int .i64 (k : Int)) (fun v16 _ => d - (intOf v16).toNat)
 case atStart => exact ⟨0, _, by omega, TS0, (by show ∀ i, _; intro i hi; omega), b3, rfl⟩
 case round =>
  obtain ⟨k, us, hk, TS, HFR, HB, rfl⟩ := hrel
  clear TS0 b3
  by_cases hlt : k < d
  ·have HAT : Hid ((zF d)[k]? = some (zJ6 d k)) := qB8 hlt
   go_wp2_with fail
   refine (jB3 d k _ hd hlt).mono ?_
   rintro e w4 ⟨gr, rfl, RN, FN, hgr, b4⟩
   have sR := RN.sl (qB7 d k) (by omega)
   have TS4 := TS.below b4
   have hgg : g ≠ gr := by have := TS.lt; omega
   obtain ⟨u0, c4⟩ := TS4.cellAt (i := k) (by rw [qJ0 HTT.out hk]; exact hlt)
   have f4 := TS4.frozenAt k
   have hus : us.length = d := by rw [TS.2.1, qJ0 HTT.out hk]
   have TS5 := TS4.stored k sR
   rw [qP7 HTT.out HAT.out] at TS5
   have HB5 : Hid (Below w.heap.size w _) := (HB.out.trans (b4.mono HB.out.size)).setCell (p := ⟨g, k, none⟩) hg (.slice (some ⟨gr, 0, none⟩) d d)
   have HF5 : Hid (∀ i, i < k + 1 -> ∃ gr', (us.set k (.slice (some ⟨gr, 0, none⟩) d d))[i]? = some (.slice (some ⟨gr', 0, none⟩) d d) /\ g ≠ gr' /\ w.heap.size <= gr' /\ FrN (w4.setCell ⟨g, k, none⟩ (.slice (some ⟨gr, 0, none⟩) d d)) gr' w.heap.size d) := by
    show ∀ i, _
    intro i hi
    have hgs := zJ0 w4 g k (.slice (some ⟨gr, 0, none⟩) d d)
    by_cases e : i = k
    ·subst e
     exact ⟨gr, List.getElem?_set_self (by omega), hgg, zB4 HB.out.size hgr, (FN.mono HB.out.size).grown hgs (fun e => hgg e.symm)⟩
    ·obtain ⟨g', h5, h6, h6b, h7⟩ := HFR.out i (by omega)
     exact ⟨g', by rw [List.getElem?_set_ne (fun e2 => e e2.symm)]; exact h5, h6, h6b, (h7.below b4).grown hgs (fun e => h6 e.symm)⟩
   have hsk : d - (k + 1) < d - k := by omega
   clear TS TS4 sR HFR HB RN FN hus
   go_wp2
   go_roundw
   case rel => exact ⟨k + 1, _, by omega, TS5, HF5, HB5, by go_num⟩
   case measure => simp [intOf]; omega
  ·obtain rfl : k = d := by omega
   rw [qP6 HTT.out] at TS
   have HTS := Lib.hid TS
   clear TS
   go_wp2
   go_ret2
   exact ⟨g, us, rfl, HTS.out, fun i hi => by
    obtain ⟨g', h5, _, h6, h7⟩ := HFR.out i hi
    exact ⟨g', h5, h6, h7⟩, hg, HB.out⟩
/-! A table beside that which changes nothing. -/
theorem yF8 {d k j : Nat} (hk : k < d) (hj : j < d) : (zJ6 d k).getD j 0 = idF k j := by
 unfold idF
 by_cases e : k = j
 ·subst e
  rw [zA6, yQ4 hk, if_pos rfl]
  rfl
 ·unfold zJ6 zG
  rw [zA6, List.getElem?_set_ne e, List.getElem?_replicate, if_pos hj, if_neg e]
  rfl
theorem entF_id {n i j : Nat} (hi : i < n) (hj : j < n) : zC (zF n) i j = idF i j := by
 rw [zN3 (qB8 hi), yF8 hi hj]
theorem yF9 {p : List (List Rat)} {n : Nat} (hp : shp p n n) : shp (zI p (zF n)) n (n + n) := by
 refine ⟨?_, fun r hr => ?_⟩
 ·unfold zI; rw [List.length_zipWith, hp.1, zW0, Nat.min_self]
 ·unfold zI at hr
  obtain ⟨i, hi⟩ := List.mem_iff_getElem?.1 hr
  rw [List.getElem?_zipWith_eq_some] at hi
  obtain ⟨x, y, hx, hy, rfl⟩ := hi
  rw [zB0, hp.2 x (zA5 hx), qZ y (zA5 hy)]
theorem yG {p : List (List Rat)} {n i : Nat} {r : List Rat} (hr : p[i]? = some r) (hi : i < n) : (zI p (zF n))[i]? = some (r ++ zJ6 n i) := by
 unfold zI
 rw [List.getElem?_zipWith, hr, qB8 hi]
theorem yG0 {p : List (List Rat)} {n i j : Nat} (hp : shp p n n) (hi : i < n) (hj : j < n + n) : zC (zI p (zF n)) i j = zP7 n (zC p) idF i j := by
 obtain ⟨r, hr, hl⟩ := zI0 hp hi
 rw [zN3 (yG hr hi)]
 unfold zP7
 rw [zA6]
 by_cases h : j < n
 ·rw [if_pos h, zB2 (by omega), zN3 hr, zA6]
 ·rw [if_neg h, List.getElem?_append_right (by omega), hl, <- zA6, yF8 hi (by omega)]
theorem jB5 {p : List (List Rat)} {n S : Nat} (hp : shp p n n) (h : zF6 p S) : zF6 (zI p (zF n)) S := by
 intro x hx
 obtain ⟨i, hi⟩ := List.mem_iff_getElem?.1 hx
 have hin : i < n := by rw [<- (yF9 hp).1]; exact (zA4.1 hi).1
 obtain ⟨r, hr, _⟩ := zI0 hp hin
 rw [yG hr hin] at hi
 injection hi with hi
 subst hi
 obtain ⟨d, h0, h1, h2⟩ := h r (zA5 hr)
 refine ⟨d, h0, h1, fun y hy => ?_⟩
 rcases List.mem_append.1 hy with hy | hy
 ·exact h2 y hy
 ·rcases yQ6 hy with rfl | rfl
  ·exact ⟨0, (Rat.zero_mkRat d).symm, zB4 (Nat.le_of_eq (by unfold zD0; simp [zH0])) (Nat.zero_le _)⟩
  ·refine ⟨(d : Int), ?_, by rw [zK3]; exact h1⟩
   rw [zP5 _ (by omega)]
   have h3 : ((d : Int) : Rat) = ((d : Nat) : Rat) := by first | exact Rat.intCast_natCast d | rfl | norm_cast
   have h4 : ((d : Nat) : Rat) ≠ 0 := by
    rw [<- h3]
    intro e
    have := Rat.intCast_eq_zero_iff.1 e
    omega
   rw [h3, Rat.div_def, Rat.mul_inv_cancel _ h4]
/-- What Inverse hands back: the table, from either side. -/
structure InvE (p : List (List Rat)) (n : Nat) (X : List (List Rat)) : Prop where
 sh : shp X n n
 lens : zE9 X 383
 right : ∀ i c, i < n -> c < n -> zQ7 n (zC p) (zC X) i c = idF i c
 left : ∀ i c, i < n -> c < n -> zQ7 n (zC X) (zC p) i c = idF i c
theorem inv_of {p T6 : List (List Rat)} {n S : Nat} {ps : List Nat} (hp : shp p n n) (hs : shp T6 n (n + n)) (he : Ech n n (zC T6) ps.length (pv ps)) (hr : Red n (zC T6) ps.length (pv ps) 0) (hk : zH3 n (n + n) (zC (zI p (zF n))) (zC T6)) (hl : zE9 T6 383) (hn : ps.length = n) : InvE p n (T6.map fun r => r.drop n) := by
 have hent : ∀ i c, i < n -> c < n -> zC (T6.map fun r => r.drop n) i c = zC T6 i (n + c) := fun i c hi hc => by
  obtain ⟨r, hr, hrl⟩ := zI0 hs hi
  have h1 : (T6.map fun r => r.drop n)[i]? = some (r.drop n) := by rw [List.getElem?_map, hr]; rfl
  rw [zN3 h1, zN3 hr, zA6, List.getElem?_drop, zA6]
 have hleft : ∀ i j, i < n -> j < n -> zC T6 i j = idF i j := fun i j hi hj => by
  have hpj : pv ps j = j := he.full hn hj
  unfold idF
  by_cases e : i = j
  ·subst e
   rw [if_pos rfl]
   have := he.one i (by omega)
   rwa [hpj] at this
  ·rw [if_neg e]
   have := hr j (Nat.zero_le _) (by omega) i hi e
   rwa [hpj] at this
 have hk2 : zH3 n (n + n) (zP7 n (zC p) idF) (zP7 n idF (fun i c => zC T6 i (n + c))) := by
  refine ((qH5 fun i j hi hj => (yG0 hp hi hj).symm).trans hk).trans (qH5 fun i j hi hj => ?_)
  unfold zP7
  by_cases h : j < n
  ·rw [if_pos h]; exact hleft i j hi h
  ·rw [if_neg h]
   show zC T6 i j = zC T6 i (n + (j - n))
   rw [show n + (j - n) = j by omega]
 obtain ⟨h1, h2⟩ := yZ7 hk2
 refine ⟨⟨by rw [List.length_map]; exact hs.1, fun r hr => ?_⟩, fun r hr x hx => ?_, fun i c hi hc => ?_, fun i c hi hc => ?_⟩
 ·obtain ⟨y, hy, rfl⟩ := List.mem_map.1 hr
  rw [List.length_drop, hs.2 y hy]
  omega
 ·obtain ⟨y, hy, rfl⟩ := List.mem_map.1 hr
  exact hl y hy x (List.mem_of_mem_drop hx)
 ·rw [<- h1 i c hi hc]
  exact zJ7 fun l hl => by rw [hent l c hl hc]
 ·rw [<- h2 i c hi hc]
  exact zJ7 fun l hl => by rw [hent i l hi hl]
/-- Where there are not as many pivots as rows, and just there, the determinant is 0. -/
theorem inv_det {p T : List (List Rat)} {n S : Nat} {ps : List Nat} {d : Rat} (hp : shp p n n) (h : Dwn (zI p (zF n)) T n (n + n) n ps d S) : zE3 n (zC p) = if ps.length = n then d else 0 := by
 have e : zE3 n (zC p) = zE3 n (zC (zI p (zF n))) := zU2 n fun i j hi hj => by
  rw [yG0 hp hi (by omega)]
  unfold zP7
  rw [if_pos hj]
 rw [e, h.fn n (zE3 n) (by omega) (qH6 n), RowFn.steps (qH6 n) h.ech, qO7]
 split
 ·exact Rat.mul_one d
 ·exact Rat.mul_zero d
/-- Where the rows of the call's own lie: ahead of this world, or behind that one. -/
def qD0 (us : List Value) (a b : Nat) : Prop := ∀ u ∈ us, ∀ g, u.ownBlock = some g -> g < a \/ b <= g
/-- Blocks from one on to another stand as they were. -/
def zP8 (w w' : World) (a b : Nat) : Prop := ∀ x, a <= x -> x < b -> w'.heap[x]? = w.heap[x]?
theorem qD1 {w w' : World} {a : Addr} (h : w'.heap[a.block]? = w.heap[a.block]?) : w'.cell? a = w.cell? a := by
 unfold World.cell?
 rw [h]
theorem zP8.isS {w w' : World} {a : Nat} {k : IntKind} {u : Value} {l : List Nat} (h : zP8 w w' a w.heap.size) (hs : IsS w k u l) (hF : zD5 a u) : IsS w' k u l := by
 obtain ⟨A, c, rfl, h1, h2, h3⟩ := hs
 refine ⟨A, c, rfl, h1, h2, fun i d hd => ?_⟩
 obtain ⟨ad, rfl, hc⟩ := h3 i d hd
 have hb : (ad.add i).block = ad.block := Go.ChangeShapes.block_add ad i
 have hlt := World.block_lt_of_cell? w _ hc
 exact ⟨ad, rfl, (qD1 (h _ (by rw [hb]; exact hF ad _ _ rfl) hlt)).trans hc⟩
theorem zP8.far {w : World} {a : Nat} {k : IntKind} {u v : Value} {l : List Nat} (hs : IsS w k u l) (hF : zD5 a u) (hv : ∀ g, v.ownBlock = some g -> g < a \/ w.heap.size <= g) : Far v u := by
 intro ad n c e hn e2
 obtain ⟨A, c', e', h1, h2, h3⟩ := hs
 rw [e] at e'
 injection e' with e3 e4 e5
 subst e3
 have hl : 0 < l.length := by omega
 obtain ⟨ad', e6, hc⟩ := h3 0 _ (zA3 hl)
 injection e6 with e6
 subst e6
 have hlt := World.block_lt_of_cell? w _ hc
 rw [Go.ChangeShapes.block_add] at hlt
 have := hF ad n c e
 have := hv _ e2.symm
 omega
def InvOk (T : List (List Rat)) (S : Nat) : Prop := T.length <= 4 /\ zC4 T <= 200 /\ zF6 T S /\ S <= 100000 /\ (S + 1) * 2 ^ (T.length - 1) <= 400 /\ (S + 1) * 2 ^ (T.length - 1) * 2 ^ (T.length - 1) <= 384
def zN6 (T : List (List Rat)) (n k : Nat) : List (List Rat) := (T.take k).map (fun r => r.drop n) ++ T.drop k
theorem cutT_at {T : List (List Rat)} {n k : Nat} (hk : k <= T.length) : (zN6 T n k)[k]? = T[k]? := by
 unfold zN6
 have hl : ((T.take k).map fun r => r.drop n).length = k := by rw [List.length_map, List.length_take]; omega
 rw [List.getElem?_append_right (by omega), hl, Nat.sub_self, List.getElem?_drop, Nat.add_zero]
theorem jB6 {T : List (List Rat)} {n k : Nat} {r : List Rat} (hr : T[k]? = some r) : (zN6 T n k).set k (r.drop n) = zN6 T n (k + 1) := by
 have hk : k < T.length := (zA4.1 hr).1
 unfold zN6
 have hl : ((T.take k).map fun r => r.drop n).length = k := by rw [List.length_map, List.length_take]; omega
 have hd : T.drop k = r :: T.drop (k + 1) := by
  rw [List.drop_eq_getElem_cons hk]
  rw [zA3 hk] at hr
  injection hr with hr
  rw [hr]
 rw [List.set_append_right _ _ (by omega), hl, Nat.sub_self, hd, zA2, List.take_add_one, hr]
 simp
theorem jB7 {T : List (List Rat)} {n k : Nat} (h : T.length <= k) : zN6 T n k = T.map fun r => r.drop n := by
 unfold zN6
 rw [zA7 h, List.drop_eq_nil_of_le h, List.append_nil]
theorem jB8 (T : List (List Rat)) (n : Nat) {k : Nat} (hk : k <= T.length) : (zN6 T n k).length = T.length := by
 unfold zN6
 rw [zB0, List.length_map, List.length_take, List.length_drop]
 omega
theorem zL1.heap {w w' : World} {g o n c : Nat} {ps : List Elt} (h : zL1 w (.slice (some ⟨g, o, none⟩) n c) ps) (hb : w'.heap[g]? = w.heap[g]?) : zL1 w' (.slice (some ⟨g, o, none⟩) n c) ps := by
 obtain ⟨A, c', e, h1, h2, h3⟩ := h
 refine ⟨A, c', e, h1, h2, fun i p hp => ?_⟩
 obtain ⟨g', o', e2, c0, c1, c2⟩ := h3 i p hp
 have hg : g = g' := by
  injection e with e3
  rw [<- e3] at e2
  injection e2 with e2
  injection e2
 subst hg
 exact ⟨g, o', e2, (qD1 hb).trans c0, (qD1 hb).trans c1, (qD1 hb).trans c2⟩
theorem yG1 (a0 : Value) (T : List (List Rat)) (S : Nat) (w : World) (h0 : SlT .u64 4294967296 w a0 T) (hc : Hid (InvOk T S)) :
    Calls Tryz.prog 16 #[a0] w (fun e w' => ((zG8 T /\ T.length = zC4 T) /\ zE3 T.length (zC T) ≠ 0 /\ ∃ V X, e = .returned (.tuple #[V, .int .i64 0]) /\ SlT .u64 4294967296 w' V X /\ InvE T T.length X /\ Below w.heap.size w w') \/ ((zG8 T /\ T.length = zC4 T) /\ zE3 T.length (zC T) = 0 /\ e = .returned (.tuple #[.slice none 0 0, .int .i64 7]) /\ Below w.heap.size w w') \/ (¬ (zG8 T /\ T.length = zC4 T) /\ e = .returned (.tuple #[.slice none 0 0, .int .i64 8]) /\ Below w.heap.size w w')) := by
  have st0 := h0
  obtain ⟨A0, c0, rfl, hc0, hm0⟩ := h0.shape
  obtain ⟨n, hn⟩ : ∃ n, n = T.length := ⟨_, rfl⟩
  have hn4 : n <= 4 := by rw [hn]; exact hc.out.1
  have HN := Lib.hid hn
  have HST := Lib.hid st0
  clear h0 st0 hc0 hm0
  go_enter Tryz.func16, Tryz.ntmps16
  go_wp2_with fail
  refine (yE6 _ T _ HST.out ⟨hc.out.2.1, by have := hc.out.1; omega, hc.out.2.2.1.len.mono hc.out.2.2.2.1⟩).mono ?_
  rintro e w2 (⟨hm, g, us, pss, rfl, hT, hV, hU, hg, b2⟩ | ⟨hm, V, rfl, hS, b2⟩)
  · rw [<- hn] at hT hU |-
    have HM := Lib.hid hm
    have HSH : Hid (shp T n n) := by have h := qQ3 hm.1; rw [<- hm.2, <- hn] at h; exact h
    have HVE := Lib.hid (zA hV hg)
    clear hm hn hV hg
    go_wp2_with fail
    refine (jB4 n _ (by omega)).mono ?_
    rintro e w3 ⟨gI, usI, rfl, TSI, hFR, hgI2, b3⟩
    have hT3 := hT.below b3
    have HO3 : Hid (qD0 us w2.heap.size w3.heap.size) := by
      show qD0 _ _ _
      intro u hu x hx
      obtain ⟨i, hi⟩ := List.mem_iff_getElem?.1 hu
      obtain ⟨ps, hp⟩ : ∃ ps, pss[i]? = some ps := ⟨_, zA3 (by rw [<- hT.len]; exact (zA4.1 hi).1)⟩
      exact .inl ((hT.own i u ps hi hp).under x hx)
    have hgw2 : g < w2.heap.size := hT.row.under g rfl
    have b03 : Hid (Below w.heap.size w w3) := b2.trans (b3.mono b2.size)
    have HFR := Lib.hid hFR
    have HTI := Lib.hid TSI
    have hs23 := b3.size
    have HJ0 : Hid (zE2 pss = jst T (zF n) 0) := by show _ = _; rw [qZ1, HVE.out.1]
    have HBD0 : Hid (zP8 w3 w3 w2.heap.size w3.heap.size) := fun x _ _ => rfl
    clear hT TSI hFR b2 b3
    go_wp2
    go_loopw [29] (fun v29 wr => ∃ (k : Nat) (us' : List Value) (pss' : List (List Elt)), k <= n /\ zP6 wr w.heap.size (.slice (some ⟨g, 0, none⟩) n n) us' pss' /\ Hid (zE2 pss' = jst T (zF n) k) /\ us'.length = n /\ Hid (qD0 us' w2.heap.size w3.heap.size) /\ Hid (zP8 w3 wr w2.heap.size w3.heap.size) /\ Hid (w3.heap.size <= wr.heap.size) /\ Hid (Below w.heap.size w wr) /\ v29 = .int .i64 (k : Int)) (fun v29 _ => n - (intOf v29).toNat)
    case atStart => exact ⟨0, us, pss, by omega, hT3, HJ0, hU, HO3, HBD0, zB3 _, b03, rfl⟩
    case round =>
      clear hT3 hU HO3 HBD0 b03 HJ0
      obtain ⟨k, us', pss', hk, hT, HJ, hul, HO, HBD, HSZ, HB, rfl⟩ := hrel
      obtain ⟨wr', hwr⟩ : ∃ wr', wr' = wr := ⟨_, rfl⟩
      subst hwr
      have HUL := Lib.hid hul
      clear hul
      by_cases hlt : k < n
      · have HLT : Hid (T.length = (zF n).length) := by show _ = _; rw [zW0]; exact HN.out.symm
        obtain ⟨p, hp, hpl⟩ := zI0 HSH.out hlt
        have hIk : (zF n)[k]? = some (zJ6 n k) := qB8 hlt
        obtain ⟨u, hu'⟩ : ∃ u, us'[k]? = some u := ⟨_, zA3 (by have := HUL.out; omega)⟩
        obtain ⟨ps, hps⟩ : ∃ ps, pss'[k]? = some ps := ⟨_, zA3 (by rw [<- hT.len]; have := HUL.out; omega)⟩
        have HP : Hid (ps.map (·.1) = p) := by
          have h2 := qP9 hps
          rw [HJ.out, qZ3 HLT.out hp] at h2
          exact (Option.some.inj h2).symm
        have HJ2 : Hid ((jst T (zF n) k).set k (p ++ zJ6 n k) = jst T (zF n) (k + 1)) := qZ4 HLT.out hp hIk
        have hpsl : ps.length = n := by rw [<- hpl, <- HP.out, List.length_map]
        obtain ⟨gr, hgr, hgrb, hFk⟩ := HFR.out k hlt
        obtain ⟨psx, hpx, hVx, hEx⟩ := HTI.out.2.2 k _ _ hgr hIk
        have hxl : psx.length = n := by rw [<- qB7 n k, <- hpx, List.length_map]
        have hcI : w3.cell? ⟨gI, k, none⟩ = some (.slice (some ⟨gr, 0, none⟩) n n) := by
          have h := HTI.out.1.cell hgr
          rwa [zU5] at h
        have hfresh : ∀ q ∈ psx, zD5 w2.heap.size q.2.1 /\ zD5 w2.heap.size q.2.2 := fun q hq => by
          obtain ⟨i, hi⟩ := List.mem_iff_getElem?.1 hq
          obtain ⟨A, c, e, _, _, h4⟩ := hVx
          obtain ⟨g', o', e2, _, c1, c2⟩ := h4 i q hi
          injection e with e3 _ _
          rw [<- e3] at e2
          injection e2 with e2
          injection e2 with e5 e6 _
          subst e5; subst e6
          obtain ⟨u1, t1, k1, k2, k3, k4⟩ := hFk i (by have := (zA4.1 hi).1; omega)
          rw [Nat.zero_add] at c1 c2
          rw [c1] at k1
          rw [c2] at k2
          injection k1 with k1
          injection k2 with k2
          exact ⟨by rw [k1]; exact k3, by rw [k2]; exact k4⟩
        have hgI3 : gI < w3.heap.size := World.block_lt_of_cell? w3 _ hcI
        have hgr3 : gr < w3.heap.size := by
          obtain ⟨u1, t1, k1, _⟩ := hFk k hlt
          exact World.block_lt_of_cell? w3 _ k1
        have hcIr : wr'.drew.cell? ⟨gI, k, none⟩ = some (.slice (some ⟨gr, 0, none⟩) n n) := (qD1 (HBD.out gI hgI2 hgI3)).trans hcI
        have hVd : zL1 wr'.drew (.slice (some ⟨gr, 0, none⟩) n n) psx := hVx.heap (HBD.out gr hgrb hgr3)
        have bd := (Below.refl wr'.heap.size wr').drew
        have hown := hT.own k u ps hu' hps
        obtain ⟨Au, cu, eu, hcu⟩ := hown.isVF
        subst eu
        have hcell : wr'.drew.cell? ⟨g, k, none⟩ = some (.slice Au ps.length cu) := hT.cell hu'
        have HO0 := Lib.hid (HO.out _ (zA5 hu'))
        have hownd : zE0 44 wr'.drew w.heap.size (.slice Au ps.length cu) ps := hown.below bd
        have hone : ∀ q ∈ psx, q.2.1.oneCell' = true /\ q.2.2.oneCell' = true := fun q hq => by
          obtain ⟨⟨A, c, e, _⟩, B, d, e', _⟩ := hEx q hq
          rw [e, e']
          exact ⟨rfl, rfl⟩
        have hlen1 : ps.length <= 1000000000 := by omega
        have hlen2 : psx.length <= 1000000000 := by omega
        have HBd : Hid (Below w.heap.size w wr'.drew) := HB.out.drew
        have HIE : Hid (∀ q ∈ psx, IsE .u64 4294967296 wr'.drew q) := fun q hq => ⟨(HBD.out.isS (hEx q hq).1 (hfresh q hq).1).below bd, (HBD.out.isS (hEx q hq).2 (hfresh q hq).2).below bd⟩
        have HFA : Hid (∀ v ∈ us', ∀ q ∈ psx, Far v q.2.1 /\ Far v q.2.2) := fun v hv q hq => ⟨zP8.far (hEx q hq).1 (hfresh q hq).1 (HO.out v hv), zP8.far (hEx q hq).2 (hfresh q hq).2 (HO.out v hv)⟩
        have HFV : Hid (∀ q ∈ psx, Far (.slice (some ⟨g, 0, none⟩) n n) q.2.1 /\ Far (.slice (some ⟨g, 0, none⟩) n n) q.2.2) := fun q hq => ⟨zP8.far (hEx q hq).1 (hfresh q hq).1 (fun x hx => by
          obtain rfl : g = x := by simpa [Value.ownBlock] using hx
          exact .inl hgw2), zP8.far (hEx q hq).2 (hfresh q hq).2 (fun x hx => by
          obtain rfl : g = x := by simpa [Value.ownBlock] using hx
          exact .inl hgw2)⟩
        have HU := Lib.hid hu'
        have HPS := Lib.hid hps
        have HPX := Lib.hid (zA hpx (zA hpsl hxl))
        have HTD := Lib.hid hT.drew
        have hbd3 : w.heap.size <= wr'.drew.heap.size := HBd.out.size
        clear hT hown hu' hps hpx hpsl hxl hVx hEx hfresh hFk hcI hgr hp hIk hpl
        go_upto_region 9 with (fail)
        go_region_law (refine qQ1 rfl (.tmp 37) (.tmp 41) rfl Tryz.underlying64 zQ4 rfl hownd rfl hVd hone hlen1 hlen2 hbd3 ?_; intro v42 w42 RF42 b42 HK42; obtain ⟨A42, c42, e42, -⟩ := RF42.isVF; obtain ⟨m42, hm42⟩ : ∃ m42, m42 = (ps ++ psx).length := ⟨_, rfl⟩; rw [<- hm42] at e42; clear hm42; subst e42; have hVr := HTD.out.mid (by decide) HU.out HPS.out HK42.out; have hc42 := hVr.cellAt HU.out; have hf42 := hVr.frozenAt k)
        all_goals
          have hnew : zG5 .u64 4294967296 w42 (.slice A42 m42 c42) psx := fun q hq => by
            have k1 := HK42.out.1 _ _ _ (HIE.out q hq).1 (HFA.out _ (zA5 HU.out) q hq).1
            have k2 := HK42.out.1 _ _ _ (HIE.out q hq).2 (HFA.out _ (zA5 HU.out) q hq).2
            exact ⟨⟨k1.1, k2.1⟩, k1.2, k2.2⟩
          have hT2 := HTD.out.put (by decide) HU.out HPS.out RF42 HK42.out hnew HFA.out HFV.out
          have HJ3 : Hid (zE2 (pss'.set k (ps ++ psx)) = jst T (zF n) (k + 1)) := by
            show _ = _
            rw [qP8, HJ.out, List.map_append, HP.out, HPX.out.1, HJ2.out]
          have hul2 : (us'.set k (.slice A42 m42 c42)).length = n := by rw [List.length_set]; exact HUL.out
          have hsz42 : wr'.heap.size <= w42.heap.size := b42.size
          have HO2 : Hid (qD0 (us'.set k (.slice A42 m42 c42)) w2.heap.size w3.heap.size) := by
            show qD0 _ _ _
            intro v hv x hx
            rcases List.mem_or_eq_of_mem_set hv with hv | rfl
            · exact HO.out v hv x hx
            · by_cases hlx : x < wr'.heap.size
              · by_cases hux : (Value.slice Au ps.length cu).ownBlock = some x
                · exact HO0.out x hux
                · exact absurd hx (HK42.out.2.2 x hlx hux)
              · exact .inr (zB4 HSZ.out (by omega))
          have HBD2 : Hid (zP8 w3 (w42.setCell ⟨g, k, none⟩ (.slice A42 m42 c42)) w2.heap.size w3.heap.size) := by
            show zP8 _ _ _ _
            intro x h1 h2
            have h3 := HSZ.out
            have e1 := (zJ0 w42 g k (.slice A42 m42 c42)).block x (by omega) (fun e => by injection e with e; omega)
            have e2 := HK42.out.2.1.block x (show x < wr'.drew.heap.size from Nat.lt_of_lt_of_le h2 h3) (fun e => by
              rcases HO0.out x e.symm with h | h <;> omega)
            exact e1.trans (e2.trans (HBD.out x h1 h2))
          have hb3 := (HBd.out.trans b42).setCell (p := ⟨g, k, none⟩) HVE.out.2 (.slice A42 m42 c42)
          have HB2 : Hid (Below w.heap.size w (w42.setCell ⟨g, k, none⟩ (.slice A42 m42 c42))) := hb3
          have HSZ2 : Hid (w3.heap.size <= (w42.setCell ⟨g, k, none⟩ (.slice A42 m42 c42)).heap.size) := by
            show _ <= _
            have h1 := (zJ0 w42 g k (.slice A42 m42 c42)).size
            have h2 := HSZ.out
            omega
          clear RF42 HK42 hnew hVr hb3 hownd hVd hcell hcIr b42
          go_wp2
          go_roundw
          case rel => exact ⟨k + 1, _, _, by omega, hT2, HJ3, hul2, HO2, HBD2, HSZ2, HB2, by go_num⟩
          case measure => simp [intOf]; omega
      · have hke : k = n := by omega
        have HJE : Hid (zE2 pss' = zI T (zF n)) := by
          show _ = _
          rw [HJ.out, qZ2 (by rw [zW0]; exact HN.out.symm) (by rw [zW0]; omega)]
        have TS := TabO.tabS hT HUL.out
        rw [HJE.out] at TS
        have HRT : Hid (zF6 (zI T (zF n)) S /\ (S + 1) * 2 ^ (n - 1) <= 400 /\ (S + 1) * 2 ^ (n - 1) * 2 ^ (n - 1) <= 384) := by
          have h := hc.out
          refine ⟨jB5 HSH.out h.2.2.1, ?_, ?_⟩
          · rw [HN.out]; exact h.2.2.2.2.1
          · rw [HN.out]; exact h.2.2.2.2.2
        clear hT hke
        go_wp2_with fail
        refine (qQ2 g n (n + n) n S us' (zI T (zF n)) _ TS ⟨yF9 HSH.out, by omega, by omega, by omega, HRT.out.1, HRT.out.2.1⟩).mono ?_
        rintro e w4 ⟨v, v5, T4, us4, ps, d, rfl, hD⟩
        obtain ⟨dwn, tab, piv, num, len, own⟩ := hD
        obtain ⟨u, t, rfl, su, st⟩ := num
        obtain ⟨Au, cu, rfl, _⟩ := id su
        obtain ⟨At, ct, rfl, _⟩ := id st
        obtain ⟨A6, c6, e6⟩ := zD6.slice piv.1
        rw [zT] at e6
        subst e6
        have hpn : ps.length <= n := dwn.ech.le
        have b24 := HB.out.grown own HB.out.size (fun k e => by cases e; exact HVE.out.2)
        have HDT : Hid (zE3 T.length (zC T) = if ps.length = n then d else 0) := by
          show _ = _
          rw [<- HN.out]
          exact inv_det HSH.out dwn
        have HDNE : Hid (d ≠ 0) := dwn.ne
        obtain ⟨S1, r1, hS1⟩ := dwn.len
        have hp1 := qD (S := S) (show min ps.length (n - 1) <= n - 1 by omega)
        have hp2 := qD (S := S1) (show ps.length - 1 <= n - 1 by omega)
        have hm2 : (S1 + 1) * 2 ^ (n - 1) <= (S + 1) * 2 ^ (n - 1) * 2 ^ (n - 1) := Nat.mul_le_mul_right _ (zB4 hS1 hp1)
        have HBB := Lib.hid (zA hp1 (zA hp2 (zA hm2 hS1)))
        clear hp1 hp2 hm2 hS1
        have ba := zC8 (w := w4) (zB3 _) (.cells #[.bool (ngB d.num), .slice Au (digs 4294967296 d.num.natAbs).length cu, .slice At (digs 4294967296 d.den).length ct] 44)
        have tab4 := tab.below ba
        have piv4 := (piv.below ba).weak HB.out.size
        have HB5 : Hid (Below w.heap.size w _) := b24.trans (ba.mono b24.size)
        have HDW := Lib.hid dwn
        have HR1 := Lib.hid r1
        clear tab piv ba dwn r1 su st own TS b24 len
        by_cases hk2 : ps.length < n
        · have HZ : Hid (zE3 T.length (zC T) = 0) := by show _ = _; rw [HDT.out, if_neg (by omega)]
          go_wp2
          go_ret2
          exact .inr (.inl ⟨HM.out, HZ.out, rfl, HB5.out⟩)
        · have hpe : ps.length = n := by omega
          have HNZ : Hid (zE3 T.length (zC T) ≠ 0) := by show _ ≠ _; rw [HDT.out, if_pos hpe]; exact HDNE.out
          have HPE := Lib.hid hpe
          have cu := yE5 g n (n + n) n S1 c6 A6 us4 ps (zI T (zF n)) T4 _ tab4 (piv4.pvs tab4.1 (by decide)) ⟨HDW.out.sh, by omega, by omega, by omega, HR1.out, by have := HBB.out; have := HRT.out; omega, HDW.out.ech, HDW.out.ker⟩
          clear hpe
          go_wp2_with fail
          refine cu.mono ?_
          rintro e w6 ⟨rfl, us6, T6, hU6, tab6, own6⟩
          have HB6 : Hid (Below w.heap.size w w6) := HB5.out.grown own6 HB5.out.size (fun k e => by cases e; exact HVE.out.2)
          have HINV : Hid (InvE T n (T6.map fun r => r.drop n)) := by
            obtain ⟨S2, r2, hS2⟩ := hU6.len
            refine inv_of (S := S) HSH.out hU6.sh hU6.ech hU6.red hU6.ker (r2.len.mono ?_) HPE.out
            have h1 := qD (S := S1) (show ps.length - max 0 1 <= n - 1 by omega)
            have := HBB.out
            have := HRT.out
            omega
          have HS6 := Lib.hid hU6.sh
          have HT6 : Hid (T6.length = n) := hU6.sh.1
          clear cu piv4 tab4 hU6 own6 HB5
          go_wp2
          go_loopw [59] (fun v59 wr => ∃ (k : Nat) (us7 : List Value), k <= n /\ zD9 .u64 4294967296 wr g 64 us7 (zN6 T6 n k) /\ Hid (Below w.heap.size w wr) /\ v59 = .int .i64 (k : Int)) (fun v59 _ => n - (intOf v59).toNat)
          case atStart => exact ⟨0, us6, by omega, tab6, HB6, rfl⟩
          case round =>
            clear tab6 HB6
            obtain ⟨k, us7, hk, TS, HB7, rfl⟩ := hrel
            by_cases hlt : k < n
            · obtain ⟨r, hr, hrl⟩ := zI0 HS6.out hlt
              have hr2 : (zN6 T6 n k)[k]? = some r := by rw [cutT_at (by have := HT6.out; omega)]; exact hr
              have HNX : Hid ((zN6 T6 n k).set k (r.drop n) = zN6 T6 n (k + 1)) := jB6 hr
              obtain ⟨Ar, cr, hur, ecr, sr⟩ := TS.at_ hr2
              have frr := TS.frozenAt k
              obtain ⟨gr, or, cc, esl, -, hrc, hcm⟩ := sr.place (fun e => by rw [e] at hrl; simp at hrl; omega)
              injection esl with esl1 _ esl3
              subst esl1; subst esl3
              obtain ⟨psi, hpm, hVF, hIE⟩ := sr
              have hpl : psi.length = r.length := by rw [<- hpm, List.length_map]
              obtain ⟨A2, hA2⟩ : ∃ A2 : Option Addr, A2 = if cr = n then some ⟨gr, or, none⟩ else some ⟨gr, or + n * 3, none⟩ := ⟨_, rfl⟩
              have VFrom := hVF.cutFrom (k := n) (A := A2) (by omega) (fun h => by rw [hA2, if_neg (by omega)])
              have sR : SlF .u64 4294967296 wr (.slice A2 (r.length - n) (cr - n)) (r.drop n) := ⟨psi.drop n, by rw [List.map_drop, hpm], VFrom, fun p hp => hIE p (List.mem_of_mem_drop hp)⟩
              have hjc2 : ¬ cr < n := by omega
              have hjc3 : ¬ r.length < n := by omega
              have hA3 := hA2.symm
              have TS2 := TS.stored k sR
              rw [HNX.out] at TS2
              have HB8 : Hid (Below w.heap.size w _) := HB7.out.setCell (p := ⟨g, k, none⟩) HVE.out.2 (.slice A2 (r.length - n) (cr - n))
              clear hr hr2 hrl hpm hVF hIE hpl VFrom sR hA2 hur TS HB7
              go_wp2
              go_roundw
              case rel => exact ⟨k + 1, _, by omega, TS2, HB8, by go_num⟩
              case measure => simp [intOf]; omega
            · have hke : k = n := by omega
              have hS : SlT .u64 4294967296 wr (.slice (some ⟨g, 0, none⟩) n n) (T6.map fun r => r.drop n) := by
                have h := TS.slT (show (zN6 T6 n k).length = n by rw [jB8 T6 n (by have := HT6.out; omega)]; exact HT6.out) (by omega)
                rwa [jB7 (by have := HT6.out; omega)] at h
              have HV := Lib.hid hS
              clear hS TS hke
              go_wp2
              go_ret2
              exact .inl ⟨HM.out, HNZ.out, _, _, rfl, HV.out, by rw [<- HN.out]; exact HINV.out, HB7.out⟩
  · rw [if_neg (by decide)] at hS
    obtain ⟨AV, cV, rfl, -, -⟩ := hS.shape
    have HX := Lib.hid hm
    clear hm
    go_wp2
    go_ret2
    exact .inr (.inr ⟨HX.out, rfl, b2⟩)
theorem jB9 {p : List (List Rat)} (h1 : p.length <= 4) (h2 : ∀ r ∈ p, r.length <= 4) (h3 : zE9 p 1) : qJ2 p 5 /\ InvOk p 5 := by
 have hw : zC4 p <= 4 := wide_le h2
 have hx : 2 ^ (p.length - 1) <= 2 ^ 3 := Nat.pow_le_pow_right (by omega) (by omega)
 have h4 : (5 + 1) * 2 ^ (p.length - 1) <= 6 * 2 ^ 3 := Nat.mul_le_mul (by omega) hx
 have h5 : (5 + 1) * 2 ^ (p.length - 1) * 2 ^ (p.length - 1) <= 6 * 2 ^ 3 * 2 ^ 3 := Nat.mul_le_mul h4 hx
 exact ⟨⟨by omega, by omega, yF1 h2 h3, by omega, by omega, by omega⟩, h1, by omega, yF1 h2 h3, by omega, by omega, by omega⟩
theorem jC {a b : List (List Rat)} {n : Nat} (ha : shp a n n) (hb : shp b n n) (h : ∀ i c, i < n -> c < n -> zQ7 n (zC a) (zC b) i c = idF i c) : zI6 a b = zF n := by
 have hw : zC4 b = n := qQ4 hb (fun e => e)
 refine yA4 (n := n) (C := n) ⟨by rw [qN9]; exact ha.1, fun r hr => by rw [qY9 r hr, hw]⟩ ⟨zW0 n, qZ⟩ fun i j hi hj => ?_
 rw [yZ6 ha hb.1 hw hi hj, h i j hi hj, entF_id hi hj]
theorem yG2 {a : List (List Rat)} {n : Nat} (h : shp a n n) (hn : n <= 200) : zG8 a := by
 have hw : zC4 a = n := qQ4 h (fun e => e)
 exact ⟨by rw [h.1]; exact hn, by rw [hw]; exact hn, fun r hr => by rw [hw]; exact h.2 r hr⟩
theorem jC0 {a b : List (List Rat)} {n : Nat} (ha : shp a n n) (hb : shp b n n) (hn : n <= 200) : zY1 [a, b] := by
 refine ⟨by simp, fun i t ht => ?_⟩
 rcases i with _ | _ | i
 ·obtain rfl : a = t := by simpa using ht
  exact ⟨yG2 ha hn, fun s h0 => by omega⟩
 ·obtain rfl : b = t := by simpa using ht
  refine ⟨yG2 hb hn, fun s _ hs => ?_⟩
  obtain rfl : a = s := by simpa using hs
  rw [qQ4 ha (fun e => e), hb.1]
 ·simp at ht
theorem yG3 {v : Value} {a b : List (List Rat)} {n : Nat} {w : World} (hL : zK w v [a, b]) (ha : shp a n n) (hb : shp b n n) (hn : n <= 4) (la : zE9 a 383) (lb : zE9 b 383) (h : ∀ i c, i < n -> c < n -> zQ7 n (zC a) (zC b) i c = idF i c) : Calls Tryz.prog 23 #[v] w (zU3 (zF n) 0 w) := by
 refine (yZ8 v [a, b] 383 w ⟨by omega, by omega⟩ hL ⟨by simp, fun t ht => ?_⟩).mono fun e w' k => ?_
 ·rcases List.mem_cons.1 ht with rfl | ht
  ·exact ⟨by rw [ha.1]; exact hn, fun r hr => by rw [ha.2 r hr]; exact hn, la⟩
  ·obtain rfl := List.mem_singleton.1 ht
   exact ⟨by rw [hb.1]; exact hn, fun r hr => by rw [hb.2 r hr]; exact hn, lb⟩
 ·rcases k with ⟨_, k⟩ | ⟨k, _⟩
  ·rw [<- jC ha hb h]
   exact k
  ·exact absurd (jC0 ha hb (by omega)) k
end Go.Proofs.YtmpalajamfiiiaaGreat.rat
