/- Package gauss: clearPlace. Condition: as each says.
Rows of one-cell elements that a call makes by append, all of whose cells, also those behind the last element, are of one sort; what of fractions stays when such a row is written. Condition: as each says.
Package gauss: down. Condition: as each says.
Package gauss: up: a range over slices.Backward. Condition: as each says.
Package gauss: Reduce, Rank. Condition: as each says.
Package gauss: square, Det; ints compared. Condition: as each says.
The chapter's example of layer 12; the statements' Among. Condition: as each says.
The chapter's example of layer 14. Condition: as each says.
Products put together: what fits, what it comes to, how great it is. Condition: as each says.
Determinants of products; how small the tables of a statement are. Condition: as each says.
A region that draws its order, cut in two: what stands ahead, in whatever order; then what waits for all of it. No program stands here.
Even: a table of the call's own out of an argument, all of whose rows have one length. Condition: as it says. -/
import Derived.Test.YtfnohdgnhdfpaaaGreatKP5
import Derived.RangeFuncFrom
import Derived.RangeFuncCalls
import Derived.RangeFuncLeaves
import Derived.Shelf.Abstract
import Derived.Shelf.RegionOpen
import Derived.WalkKit
import Derived.OwnWalkIn
import Derived.TacticsInMore
import Derived.LoopNIn
import Derived.LoopIn
import Derived.OwnWalk
import Derived.Deep.RegionHeld3
import Derived.BigQuiet
import Derived.BigRegion
namespace Go.Proofs.YtfnohdgnhdfpaaaGreat.rat
open Go.RowKit Go.Proofs.YtfnohdgnhdfpaaaGreat.num Go.Proofs.YtfnohdgnhdfpaaaGreat.mem Go.Proofs.YtfnohdgnhdfpaaaGreat.nat Go.Proofs.YtfnohdgnhdfpaaaGreat.txt Go.Proofs.YtfnohdgnhdfpaaaGreat.str Go.Proofs.YtfnohdgnhdfpaaaGreat.flow Go.Proofs.YtfnohdgnhdfpaaaGreat.whl
set_option linter.unusedVariables false
set_option linter.unusedSimpArgs false
/-- No row lies in such a block. -/
def OffU (us : List Value) (G : Nat → Prop) : Prop := ∀ u ∈ us, ∀ g, u.ownBlock = some g → ¬ G g
/-- What rows are new lie in new memory. -/
def Stays (w : World) (us us' : List Value) : Prop := ∀ G : Nat → Prop, (∀ x, G x → x < w.heap.size) → OffU us G → OffU us' G
theorem Stays.refl (w : World) (us : List Value) : Stays w us us := fun _ _ h => h
theorem Stays.set {w w1 : World} {us us' : List Value} (h : Stays w us us') (hw : w.heap.size ≤ w1.heap.size) {g n c : Nat} (hg : w1.heap.size ≤ g) (i : Nat) : Stays w us (us'.set i (.slice (some ⟨g, 0, none⟩) n c)) := fun G hG ho u hu x hx => by
  rcases List.mem_or_eq_of_mem_set hu with hu | rfl
  · exact h G hG ho u hu x hx
  · intro hGx
    have h1 := hG x hGx
    have h2 : g = x := by simpa [Value.ownBlock] using hx
    omega
/-- The table is changed in its place, and nothing else. -/
def RetClr (g : Nat) (us : List Value) (T' : List (List Rat)) (w : World) (e : Ending) (w' : World) : Prop := e = .returned (.tuple #[]) ∧ ∃ us', TabS .u64 4294967296 w' g 64 us' T' ∧ w.grownBy w' (some g) ∧ Stays w us us'
theorem grown_refl (w : World) (row : Option Nat) : w.grownBy w row := below_none (Below.refl _ w) row
theorem grown_set1 {w w1 : World} {g i : Nat} {u : Value} (h : w.grownBy w1 (some g)) : w.grownBy (w1.setCell ⟨g, i, none⟩ u) (some g) := h.trans (grown_set w1 g i u)
set_option maxHeartbeats 6400000 in
set_option maxRecDepth 100000 in
theorem gclear_any (g o m c a n C S : Nat) (us : List Value) (a1 : Value) (p : List Rat) (T : List (List Rat)) (P : Nat → Bool) (w : World) (h : TabS .u64 4294967296 w g 64 us T) (hp : SlF .u64 4294967296 w a1 p) (hc : Hid (shp T n C ∧ p.length = C ∧ a < C ∧ o + m ≤ n ∧ m ≤ c ∧ n ≤ 1000000 ∧ C ≤ 1000 ∧ (∀ i, i < o → P i = false) ∧ (∀ i, o ≤ i → i < o + m → P i = true) ∧ (∀ r ∈ T, rowL r S) ∧ rowL p S ∧ (0 < m → S + S ≤ 4900))) :
    Calls Tryz.prog 103 #[.slice (some ⟨g, o, none⟩) m c, a1, .int .i64 (a : Int)] w (RetClr g us (clrM T P p a (o + m)) w) := by
  obtain ⟨A1, c1, rfl, _, _⟩ := hp.shape
  have ha := hc.out.2.2.1
  have hom := hc.out.2.2.2.1
  have hmc := hc.out.2.2.2.2.1
  have hn := hc.out.2.2.2.2.2.1
  go_enter Tryz.func103, Tryz.ntmps103
  go_wp2
  go_loopw [10] (fun v10 wr => ∃ (k : Nat) (us' : List Value), k ≤ m ∧ TabS .u64 4294967296 wr g 64 us' (clrM T P p a (o + k)) ∧ Hid (w.grownBy wr (some g)) ∧ Hid (Stays w us us') ∧ v10 = .int .i64 (k : Int)) (fun v10 _ => m - (intOf v10).toNat)
  case atStart => exact ⟨0, us, by omega, by rw [Nat.add_zero, clrM_none o hc.out.2.2.2.2.2.2.2.1]; exact h, grown_refl _ _, Stays.refl _ _, rfl⟩
  case round =>
    obtain ⟨k, us', hk, TS, HG, HST, rfl⟩ := hrel
    by_cases hlt : k < m
    · have hs := hc.out.1
      obtain ⟨r, hr, hrl⟩ := row_ex hs (show o + k < n by omega)
      have hr2 : (clrM T P p a (o + k))[o + k]? = some r := by rw [clrM_ge T P p a (o + k) (o + k) (Nat.le_refl _)]; exact hr
      obtain ⟨q, hq⟩ : ∃ q, r[a]? = some q := ⟨_, List.getElem?_eq_getElem (by omega)⟩
      have he : Hid (entF T (o + k) a = q) := entF_of hr hq
      have hP := hc.out.2.2.2.2.2.2.2.2.1 (o + k) (by omega) (by omega)
      obtain ⟨Ar, cr, hur, ecr, sr⟩ := TS.at_ hr2
      obtain ⟨gr, or, u, t, rfl, hia, k0, k1, k2, su, st⟩ := sr.at_ hq
      obtain ⟨Au, cu, rfl, _⟩ := id su
      obtain ⟨At, ct, rfl, _⟩ := id st
      have hix := fun w => index3 (P := Tryz.prog) Tryz.underlying64 (by kernel_rfl) (g := gr) (o := or) (c := cr) hia w
      have ba := below_alloc (w := wr) (Nat.le_refl _) (.cells #[.bool (ngB q.num), .slice Au (digs 4294967296 q.num.natAbs).length cu, .slice At (digs 4294967296 q.den).length ct] 44)
      have BT := Blk.new wr 44 #[.bool (ngB q.num), .slice Au (digs 4294967296 q.num.natAbs).length cu, .slice At (digs 4294967296 q.den).length ct]
      have kq : IsQ (wr.alloc (.cells #[.bool (ngB q.num), .slice Au (digs 4294967296 q.num.natAbs).length cu, .slice At (digs 4294967296 q.den).length ct] 44)) (.agg #[.bool (ngB q.num), .slice Au (digs 4294967296 q.num.natAbs).length cu, .slice At (digs 4294967296 q.den).length ct]) q := ⟨_, _, rfl, su.below ba, st.below ba⟩
      obtain ⟨t, ht⟩ : ∃ t, t = ordz q.num 0 := ⟨_, rfl⟩
      have hz : (t == 0) = decide (q = 0) := by rw [ht, num_ordz0]
      have HT := Lib.hid ht
      have sp := (h.1.keepF HG.out hp).below ba
      have TSa := TS.below ba
      have sra := sr.below ba
      have HR := Lib.hid (And.intro hr (And.intro hrl (And.intro hq (And.intro hP hr2))))
      clear hr hrl hq ht su st sr hr2 hP hs TS hur
      go_wp2_with fail
      refine (fsign0_any _ q t _ kq HT.out).mono ?_
      rintro e w4 ⟨rfl, b4⟩
      have bb4 := ba.trans (b4.mono ba.size)
      have TS4 := TSa.below b4
      have BT4 := BT.below b4
      have kq4 := kq.below b4
      have sp4 := sp.below b4
      have sr4 := sra.below b4
      have HG4 : Hid (w.grownBy w4 (some g)) := below_grown HG.out bb4
      clear TSa BT kq sp sra b4 ba bb4 HG k0 k1 k2 ecr hix
      by_cases hq0 : q = 0
      · obtain rfl : t = 0 := by
          rw [hq0] at hz
          simpa using hz
        have TS5 : TabS .u64 4294967296 w4 g 64 us' (clrM T P p a (o + (k + 1))) := by
          rw [← Nat.add_assoc, clrM_keep HR.out.2.2.2.1 HR.out.1 (by rw [he.out]; exact hq0) (by rw [HR.out.2.1]; exact hc.out.2.1.symm)]
          exact TS4
        clear hz hq0 kq4 TS4 BT4 sp4 sr4
        go_wp2
        go_roundw
        case rel => exact ⟨k + 1, us', by omega, TS5, HG4, HST, by go_num⟩
        case measure => simp [intOf]; omega
      · have hz1 : ¬ t = 0 := by
          intro e
          rw [e, decide_eq_false hq0] at hz
          exact absurd hz (by decide)
        clear hz
        have bd := (Below.refl w4.heap.size w4).drew
        have TSd := TS4.below bd
        have BTd : Blk w4.drew _ _ _ := BT4.drew
        obtain ⟨V0, V1, V2, _, _, _⟩ := three BTd
        have kqd := kq4.below bd
        have spd := sp4.below bd
        have srd := sr4.below bd
        obtain ⟨Ar2, cr2, hur2, ecr2, srd2⟩ := TSd.at_ HR.out.2.2.2.2
        have HLS : Hid (r.length = p.length ∧ r.length ≤ 1000 ∧ (∀ x ∈ r, lenQ x S) ∧ lenQ q S ∧ (∀ x ∈ p, lenQ x S) ∧ S ≤ 4900 ∧ S + S ≤ 4900) := by
          have h1 := hc.out.2.2.2.2.2.2.2.2.2.1 r (List.mem_of_getElem? HR.out.1)
          have h2 := hc.out.2.2.2.2.2.2.2.2.2.2.1
          have h3 := hc.out.2.2.2.2.2.2.2.2.2.2.2 (by omega)
          exact ⟨by rw [HR.out.2.1]; exact hc.out.2.1.symm, by rw [HR.out.2.1]; exact hc.out.2.2.2.2.2.2.1, h1.len, h1.len q (List.mem_of_getElem? HR.out.2.2.1), h2.len, by omega, h3⟩
        have HNL : Hid ((lessq r q p).length ≤ 1000000000) := by
          show _ ≤ _
          rw [lessq_len HLS.out.1]; have := HLS.out.2.1; omega
        have HNX : Hid ((clrM T P p a (o + k)).set (o + k) (lessq r q p) = clrM T P p a (o + (k + 1))) := by
          show _ = _
          rw [← Nat.add_assoc, clrM_next HR.out.2.2.2.1 HR.out.1, he.out]
        have hokl : o + k < (clrM T P p a (o + k)).length := (List.getElem?_eq_some_iff.1 HR.out.2.2.2.2).1
        have HG5 : Hid (w.grownBy w4.drew (some g)) := below_grown HG4.out bd
        clear TS4 BT4 kq4 sp4 sr4 HG4 hq0
        go_upto_region 5 with (fail)
        go_region_law (go_simp; go_at_call 139; refine (fless_own _ _ _ r q p S S S _ (by exact srd2) (by exact kqd) (by exact spd) HLS.out.1 HLS.out.2).mono ?_; rintro e w6 ⟨gn, rfl, RNn, hgn, b6⟩; have sR := RNn.sl rfl HNL.out; have TS6 := TSd.below b6; obtain ⟨u0, c6⟩ := TS6.cellAt (i := o + k) hokl; have f6 := TS6.frozenAt (o + k))
        all_goals
          have TS7 := TS6.stored (o + k) sR
          rw [HNX.out] at TS7
          have HG7 : Hid (w.grownBy (w6.setCell ⟨g, o + k, none⟩ (.slice (some ⟨gn, 0, none⟩) (lessq r q p).length (lessq r q p).length)) (some g)) := grown_set1 (below_grown HG5.out b6)
          have HST7 : Hid (Stays w us (us'.set (o + k) (.slice (some ⟨gn, 0, none⟩) (lessq r q p).length (lessq r q p).length))) := Stays.set HST.out HG5.out.size hgn (o + k)
          clear TS6 TSd
          go_wp2
          go_roundw
          case rel => exact ⟨k + 1, _, by omega, TS7, HG7, HST7, by go_num⟩
          case measure => simp [intOf]; omega
    · obtain rfl : k = m := by omega
      go_wp2
      go_end0
      exact ⟨rfl, us', TS, HG.out, HST.out⟩
/-- A row of the call's own, whose block holds but cells of a sort. -/
def RowX (S : Value → Prop) (w : World) (base : Nat) (e : TypeId) (v : Value) (vs : List Value) : Prop := RowV w base e v vs ∧ ∀ g, v.ownBlock = some g → ∃ cs, w.heap[g]? = some (.cells cs e (0, 0)) ∧ ∀ c ∈ cs, S c
theorem RowX.grown {S : Value → Prop} {w w' : World} {base : Nat} {e : TypeId} {v : Value} {vs : List Value} {row : Option Nat} (h : RowX S w base e v vs) (hg : w.grownBy w' row) (hne : ∀ g, v.ownBlock = some g → row ≠ some g) : RowX S w' base e v vs := by
  refine ⟨RowV.kept h.1 hg hne, fun g e1 => ?_⟩
  obtain ⟨cs, h1, h2⟩ := h.2 g e1
  exact ⟨cs, (hg.block g (h.1.under g e1) (fun e2 => hne g e1 e2.symm)).trans h1, h2⟩
theorem RowX.below {S : Value → Prop} {w w' : World} {base : Nat} {e : TypeId} {v : Value} {vs : List Value} (h : RowX S w base e v vs) (hb : Below w.heap.size w w') : RowX S w' base e v vs := by
  refine ⟨h.1.below hb, fun g e1 => ?_⟩
  obtain ⟨cs, h1, h2⟩ := h.2 g e1
  exact ⟨cs, (hb.block g (h.1.under g e1)).trans h1, h2⟩
theorem rowX_nil (S : Value → Prop) (w : World) (base : Nat) (e : TypeId) : RowX S w base e (.slice none 0 0) [] := ⟨⟨rfl, .inl ⟨rfl, rfl⟩⟩, fun g h => by cases h⟩
/-- What holds no truth and no limb, written: a row of fractions stays. -/
theorem SlF.keepX {k : IntKind} {B : Nat} {w w' : World} {v : Value} {r : List Rat} {g : Nat} {e : TypeId} {cs : Array Value} (h : SlF k B w v r) (hB : w.heap[g]? = some (.cells cs e (0, 0))) (hb : ∀ c ∈ cs, ∀ b, c ≠ .bool b) (hi : ∀ c ∈ cs, ∀ n, c ≠ .int k n) (hg : w.grownBy w' (some g)) : SlF k B w' v r := by
  obtain ⟨ps, h1, ⟨A, c, e1, h2, h3, h4⟩, h5⟩ := h
  refine ⟨ps, h1, ⟨A, c, e1, h2, h3, fun i p hp => ?_⟩, fun p hp => ⟨Go.Proofs.YtfnohdgnhdfpaaaGreat.flow.off (h5 p hp).1 hB hi hg, Go.Proofs.YtfnohdgnhdfpaaaGreat.flow.off (h5 p hp).2 hB hi hg⟩⟩
  obtain ⟨g', o, e2, c0, c1, c2⟩ := h4 i p hp
  have hne : some g' ≠ some g := by
    intro e3
    injection e3 with e3
    subst e3
    rw [cell_of_row w g' _ cs e (0, 0) hB] at c0
    exact hb _ (Array.mem_of_getElem? c0) _ rfl
  exact ⟨g', o, e2, hg.cell c0 hne, hg.cell c1 hne, hg.cell c2 hne⟩
def isI (v : Value) : Prop := ∃ n, v = .int .i64 n
section
variable {P : Program}
/-- Append of ints to such a row. -/
theorem run_append_X {w : World} {base : Nat} {t ty e : TypeId} (hT : P.underlying t = some (.slice e)) (hI : ∃ i, P.info? e = some i ∧ i.zero = some (.int .i64 0) ∧ i.size = 1 ∧ i.bytes = 8) {v : Value} {vs news : List Value} (hown : RowX isI w base e v vs) {ad : Addr} {m c : Nat} (hm : m = news.length) (hm0 : 0 < m)
    (hr : ∀ (i : Nat) (u : Value), news[i]? = some u → w.cell? (ad.add i) = some u) (h1 : ∀ u ∈ news, isI u) (hlen : vs.length + m ≤ 1000000000) (hbase : base ≤ w.heap.size) :
    ∃ v' w', (Builtin.append_ #[t, t] ty #[v, .slice (some ad) m c]).run P w = .ok v' w' ∧ RowX isI w' base e v' (vs ++ news) ∧ w.grownBy w' v.ownBlock ∧ (v'.ownBlock = v.ownBlock ∨ v'.ownBlock = some w.heap.size) := by
  obtain ⟨i, hi, hz, hs, hby⟩ := hI
  subst hm
  have one : ∀ u ∈ news, u.oneCell' = true := fun u hu => by obtain ⟨n, rfl⟩ := h1 u hu; rfl
  have hl : news.length = news.length * i.size := by rw [hs, Nat.mul_one]
  have zs : ∀ n, ∀ c ∈ Builtin.zeroCells (Value.int .i64 0).cells n, isI c := by
    intro n c hc
    have : c = .int .i64 0 := by
      have h0 : ∀ n, ∀ c ∈ (Builtin.zeroCells (Value.int .i64 0).cells n), c = .int .i64 0 := by
        intro n c hc
        unfold Builtin.zeroCells at hc
        simp [Value.cells, Nat.mod_one] at hc
        obtain ⟨_, h3⟩ := hc
        first | exact h3.symm | exact h3.2.symm
      exact h0 n c hc
    exact ⟨0, this⟩
  obtain ⟨v', w', g1, g2, g3, _, g5⟩ := run_append_own_at (P := P) w base t ty e i (.int .i64 0) 1 8 hT hi hz hs hby rfl (by decide) v vs.length vs hown.1 ad news.length c news (by simp) (fun j u hu => hr j u hu) one (by unfold maxLen; omega) (by omega) hbase
  refine ⟨v', w', g1, ⟨by unfold RowV; rw [List.length_append]; exact g2, fun g hg => ?_⟩, g3, g5⟩
  rcases hown.1.2 with ⟨rfl, h0⟩ | ⟨g', cap, cur, rfl, hbg, hgg, hnc, hcm, hcs, htake⟩
  · have hx : vs = [] := List.eq_nil_of_length_eq_zero h0
    subst hx
    have hr2 := run_append_nil (P := P) w t ty e i (.int .i64 0) hT hi hz ad news.length c news hl hr hm0 (by omega) (by rw [hby]; simp at hlen; omega)
    rw [hr2] at g1
    injection g1 with g1 g1'
    subst g1; subst g1'
    obtain rfl : w.heap.size = g := by simpa [Value.ownBlock] using hg
    refine ⟨_, heap_alloc_new w.drew _, fun c hc => ?_⟩
    rcases Array.mem_append.1 hc with hc | hc
    · exact h1 c (by simpa using hc)
    · exact zs _ c hc
  · obtain ⟨cs, hcs1, hcs2⟩ := hown.2 g' rfl
    rw [hgg] at hcs1
    injection hcs1 with hcs1
    injection hcs1 with hcs1 _ _
    subst hcs1
    by_cases hroom : vs.length + news.length ≤ cap
    · have hfit : vs.length * i.size + news.length ≤ cur.size := by rw [hcs, hs]; omega
      have hr2 := run_append_room (P := P) w t ty e i hT hi g' vs.length cap cur hgg ad news.length c news hl hr one hroom hfit
      rw [hr2] at g1
      injection g1 with g1 g1'
      subst g1; subst g1'
      obtain rfl : g' = g := by simpa [Value.ownBlock] using hg
      refine ⟨_, setRow_heap w g' cur _ e _ hgg, fun c hc => ?_⟩
      have hc2 : c ∈ cur.toList.take (vs.length * i.size) ++ news ++ cur.toList.drop (vs.length * i.size + news.length) := by simpa using hc
      rcases List.mem_append.1 hc2 with hc2 | hc2
      · rcases List.mem_append.1 hc2 with hc2 | hc2
        · exact hcs2 c (by simpa using List.mem_of_mem_take hc2)
        · exact h1 c hc2
      · exact hcs2 c (by simpa using List.mem_of_mem_drop hc2)
    · have holds : ∀ j u, vs[j]? = some u → w.cell? ((⟨g', 0, none⟩ : Addr).add j) = some u := World.ownsRow.cells hown.1 (g := g') rfl
      have hr2 := run_append_grow (P := P) w t ty e i (.int .i64 0) hT hi hz ⟨g', 0, none⟩ vs.length cap vs (by rw [hs]; omega) holds ad news.length c news hl hr (by omega) (by omega) (growslice_fits (by omega) (by rw [hby]; omega))
      rw [hr2] at g1
      injection g1 with g1 g1'
      subst g1; subst g1'
      obtain rfl : w.heap.size = g := by simpa [Value.ownBlock] using hg
      refine ⟨_, heap_alloc_new w.drew _, fun c hc => ?_⟩
      rcases Array.mem_append.1 hc with hc | hc
      · rcases Array.mem_append.1 hc with hc | hc
        · have hcv : c ∈ vs := by simpa using hc
          rw [← htake] at hcv
          exact hcs2 c (by simpa using List.mem_of_mem_take hcv)
        · exact h1 c (by simpa using hc)
      · exact zs _ c hc
theorem wp_append_X {w : World} {o : Oper} {a : Act} {K : Act → World → Prop} {Q : Exit → Act → World → Prop} (s x : Operand) {t : TypeId}
    (ho : o.op = .call { callee := .builtin .append, args := #[s, x], argTypes := #[t, t] })
    {base : Nat} {e : TypeId} (hT : P.underlying t = some (.slice e)) (hI : ∃ i, P.info? e = some i ∧ i.zero = some (.int .i64 0) ∧ i.size = 1 ∧ i.bytes = 8) {v : Value} {vs news : List Value} (hs : a.eval s = v) (hown : RowX isI w base e v vs) {ad : Addr} {m c : Nat} (hx : a.eval x = .slice (some ad) m c) (hm : m = news.length) (hm0 : 0 < m)
    (hr : ∀ (i : Nat) (u : Value), news[i]? = some u → w.cell? (ad.add i) = some u) (h1 : ∀ u ∈ news, isI u) (hlen : vs.length + m ≤ 1000000000) (hbase : base ≤ w.heap.size)
    (h : ∀ v' w', RowX isI w' base e v' (vs ++ news) → Hid (w.grownBy w' v.ownBlock) → Hid (v'.ownBlock = v.ownBlock ∨ v'.ownBlock = some w.heap.size) → K (a.put o.dst v') w') : o.wp P a w K Q := by
  obtain ⟨v', w', hrun, h2, h3, h4⟩ := run_append_X (P := P) (ty := o.type) hT hI hown (c := c) hm hm0 hr h1 hlen hbase
  unfold Oper.wp execOp
  simp only [ho, resolve, invoke, builtin, Sem.run_bind, Sem.run_pure, Result.andThen_ok, List.map_toArray, List.map_cons, List.map_nil, hs, hx, hrun]
  exact h v' w' h2 h3 h4
theorem wpList_append_X {w : World} {ops : Array Oper} {rest : List Oper} {o : Oper} {a : Act} {Q : Exit → Act → World → Prop} (hgd : o.guard = none) (s x : Operand) {t : TypeId}
    (ho : o.op = .call { callee := .builtin .append, args := #[s, x], argTypes := #[t, t] })
    {base : Nat} {e : TypeId} (hT : P.underlying t = some (.slice e)) (hI : ∃ i, P.info? e = some i ∧ i.zero = some (.int .i64 0) ∧ i.size = 1 ∧ i.bytes = 8) {v : Value} {vs news : List Value} (hs : a.eval s = v) (hown : RowX isI w base e v vs) {ad : Addr} {m c : Nat} (hx : a.eval x = .slice (some ad) m c) (hm : m = news.length) (hm0 : 0 < m)
    (hr : ∀ (i : Nat) (u : Value), news[i]? = some u → w.cell? (ad.add i) = some u) (h1 : ∀ u ∈ news, isI u) (hlen : vs.length + m ≤ 1000000000) (hbase : base ≤ w.heap.size)
    (h : ∀ v' w', RowX isI w' base e v' (vs ++ news) → Hid (w.grownBy w' v.ownBlock) → Hid (v'.ownBlock = v.ownBlock ∨ v'.ownBlock = some w.heap.size) → wpList P ops Q rest (a.put o.dst v') w') : wpList P ops Q (o :: rest) a w :=
  wpList_plain hgd fun _ hK => wp_append_X s x ho hT hI hs hown hx hm hm0 hr h1 hlen hbase fun v' w' h2 h3 h4 => hK _ _ (h v' w' h2 h3 h4)
end
/-- A row of ints, written: fractions of the program's stay; a table too. -/
theorem RowX.keepF {w w' : World} {base : Nat} {e : TypeId} {V : Value} {vs : List Value} {v : Value} {r : List Rat} (h : RowX isI w base e V vs) (hg : w.grownBy w' V.ownBlock) (hs : SlF .u64 4294967296 w v r) : SlF .u64 4294967296 w' v r := by
  cases ho : V.ownBlock with
  | none => rw [ho] at hg; exact hs.below ⟨hg.os, hg.tape, hg.output, hg.size, fun k hk => hg.block k hk (by simp)⟩
  | some g =>
    rw [ho] at hg
    obtain ⟨cs, h1, h2⟩ := h.2 g ho
    exact hs.keepX h1 (fun c hc b => by obtain ⟨n, rfl⟩ := h2 c hc; simp) (fun c hc n => by obtain ⟨n', rfl⟩ := h2 c hc; simp) hg
theorem TabS.keepX {w w' : World} {base g : Nat} {e TS : TypeId} {V : Value} {vs us : List Value} {T : List (List Rat)} (h : TabS .u64 4294967296 w g TS us T) (hX : RowX isI w base e V vs) (hne : V.ownBlock ≠ some g) (hg : w.grownBy w' V.ownBlock) : TabS .u64 4294967296 w' g TS us T :=
  ⟨h.1.grown hg hne, h.2.1, fun i u r hu hr => hX.keepF hg (h.2.2 i u r hu hr)⟩
theorem RowX.notTab {w : World} {base g : Nat} {e TS : TypeId} {V : Value} {vs us : List Value} (h : RowX isI w base e V vs) (hT : TabB w g TS us) (hne : e ≠ TS) : V.ownBlock ≠ some g := fun e1 => by
  obtain ⟨cs, h1, _⟩ := h.2 g e1
  have h2 := hT.1
  unfold Blk at h2
  rw [h1] at h2
  injection h2 with h2
  injection h2 with _ h2
  exact hne h2
/-- What was laid since is written: what was there stays. -/
theorem grown_new {w w1 w2 : World} {row : Option Nat} {g : Nat} (h : w.grownBy w1 row) (h2 : w1.grownBy w2 (some g)) (hg : w.heap.size ≤ g) : w.grownBy w2 row := by
  refine ⟨h2.os.trans h.os, h2.tape.trans h.tape, h2.output.trans h.output, Nat.le_trans h.size h2.size, fun k hk hne => ?_⟩
  rw [h2.block k (Nat.lt_of_lt_of_le hk h.size) (fun e => by injection e with e; omega)]
  exact h.block k hk hne
theorem grown_own {w w1 w2 : World} {row : Option Nat} {v : Value} (h : w.grownBy w1 row) (h2 : w1.grownBy w2 v.ownBlock) (hg : ∀ g, v.ownBlock = some g → w.heap.size ≤ g) : w.grownBy w2 row := by
  cases e : v.ownBlock with
  | none => rw [e] at h2; exact below_grown h ⟨h2.os, h2.tape, h2.output, h2.size, fun k hk => h2.block k hk (by simp)⟩
  | some g => rw [e] at h2; exact grown_new h h2 (hg g e)
theorem Dwn.small {T0 T : List (List Rat)} {n C a S : Nat} {ps : List Nat} {d : Rat} (h : Dwn T0 T n C a ps d S) (hS : (S + 1) * 2 ^ (n - 1) ≤ 400) : rowsL T 399 := by
  obtain ⟨S', h1, h2⟩ := h.len
  refine h1.mono ?_
  have h3 : (S + 1) * 2 ^ (min ps.length (n - 1)) ≤ (S + 1) * 2 ^ (n - 1) := Nat.mul_le_mul_left _ (Nat.pow_le_pow_right (by omega) (Nat.min_le_right _ _))
  omega
theorem TabS.offQ {w w' : World} {g gx n C : Nat} {TS t : TypeId} {us : List Value} {T : List (List Rat)} {a b c : Value} (h : TabS .u64 4294967296 w g TS us T) (hs : shp T n C) (hB : Blk w gx t #[a, b, c]) (hno : ∀ x ∈ (#[a, b, c] : Array Value), ∀ n, x ≠ .int .u64 n) (hne : TS ≠ t) (hg : w.grownBy w' (some gx)) (hoff : 0 < C → ∀ u ∈ us, u.ownBlock ≠ some gx) : TabS .u64 4294967296 w' g TS us T := by
  have hgx : g ≠ gx := fun e => by
    have h1 := h.1.1
    unfold Blk at h1 hB
    rw [e, hB] at h1
    injection h1 with h1
    injection h1 with _ h1
    exact hne h1.symm
  refine ⟨h.1.grown hg (fun e => hgx (by injection e with e; exact e.symm)), h.2.1, fun i u r hu hr => ?_⟩
  have hsl := h.2.2 i u r hu hr
  by_cases h0 : r = []
  · subst h0; exact hsl.any
  · have hC : 0 < C := by rw [← hs.2 r (List.mem_of_getElem? hr)]; exact List.length_pos_iff.2 h0
    exact hsl.off hB hno hg (hoff hC u (List.mem_of_getElem? hu))
theorem RowX.keepS {w w' : World} {base : Nat} {e : TypeId} {V : Value} {vs : List Value} {v : Value} {l : List Nat} (h : RowX isI w base e V vs) (hg : w.grownBy w' V.ownBlock) (hs : IsS w .u64 v l) : IsS w' .u64 v l := by
  cases ho : V.ownBlock with
  | none => rw [ho] at hg; exact hs.below ⟨hg.os, hg.tape, hg.output, hg.size, fun k hk => hg.block k hk (by simp)⟩
  | some g =>
    rw [ho] at hg
    obtain ⟨cs, h1, h2⟩ := h.2 g ho
    exact Go.Proofs.YtfnohdgnhdfpaaaGreat.flow.off hs h1 (fun c hc n => by obtain ⟨n', rfl⟩ := h2 c hc; simp) hg
theorem RowX.notBlk {w : World} {base g : Nat} {e t : TypeId} {V : Value} {vs : List Value} {cs : Array Value} (h : RowX isI w base e V vs) (hT : Blk w g t cs) (hne : e ≠ t) : ∀ x, V.ownBlock = some x → some g ≠ some x := fun x e1 e2 => by
  obtain ⟨cs, h1, _⟩ := h.2 x e1
  injection e2 with e2
  subst e2
  unfold Blk at hT
  rw [h1] at hT
  injection hT with hT
  injection hT with _ hT
  exact hne hT
theorem RowX.keepBlk {w w' : World} {base g : Nat} {e t : TypeId} {V : Value} {vs : List Value} {cs : Array Value} (h : RowX isI w base e V vs) (hT : Blk w g t cs) (hne : e ≠ t) (hg : w.grownBy w' V.ownBlock) : Blk w' g t cs := by
  cases ho : V.ownBlock with
  | none => rw [ho] at hg; exact hT.below ⟨hg.os, hg.tape, hg.output, hg.size, fun k hk => hg.block k hk (by simp)⟩
  | some x =>
    rw [ho] at hg
    exact Blk.grown hT hg (fun e => h.notBlk hT hne x ho (by rw [e]))
theorem grown_set3 (w : World) (g : Nat) (x y z : Value) : w.grownBy (((w.setCell ⟨g, 0, none⟩ x).setCell ⟨g, 1, none⟩ y).setCell ⟨g, 2, none⟩ z) (some g) := ((grown_set w g 0 x).trans (grown_set _ g 1 y)).trans (grown_set _ g 2 z)
theorem no3 {k : IntKind} {A D : Option Addr} {n m c e : Nat} (b : Bool) : ∀ x ∈ (#[.bool b, .slice A n c, .slice D m e] : Array Value), ∀ z, x ≠ .int k z := by
  intro x hx z
  have : x = .bool b ∨ x = .slice A n c ∨ x = .slice D m e := by simpa using hx
  rcases this with rfl | rfl | rfl <;> simp
theorem OffU.set {us : List Value} {G : Nat → Prop} (h : OffU us G) {u : Value} (hu : ∀ g, u.ownBlock = some g → ¬ G g) (i : Nat) : OffU (us.set i u) G := fun x hx g hg => by
  rcases List.mem_or_eq_of_mem_set hx with hx | rfl
  · exact h x hx g hg
  · exact hu g hg
/-- The pivots as a row of ints. -/
def pI (ps : List Nat) : List Value := vi (ps.map fun (i : Nat) => (i : Int))
theorem pI_len (ps : List Nat) : (pI ps).length = ps.length := by unfold pI; rw [vi_len, List.length_map]
theorem pI_snoc (ps : List Nat) (a : Nat) : pI ps ++ [.int .i64 (a : Int)] = pI (ps ++ [a]) := by unfold pI vi; simp
/-- What down hands back: the pivots, a number; and the table is changed in its place. -/
structure DownEnd (T0 : List (List Rat)) (g n C pl S : Nat) (w : World) (v v5 : Value) (w' : World) (T : List (List Rat)) (us : List Value) (ps : List Nat) (d : Rat) : Prop where
  dwn : Dwn T0 T n C pl ps d S
  tab : TabS .u64 4294967296 w' g 64 us T
  piv : RowX isI w' w.heap.size 3 v (pI ps)
  num : IsQ w' v5 d
  len : lenQ d (1 + 400 * ps.length)
  own : w.grownBy w' (some g)
def RetDown (T0 : List (List Rat)) (g n C pl S : Nat) (w : World) (e : Ending) (w' : World) : Prop := ∃ v v5 T us ps d, e = .returned (.tuple #[v, v5]) ∧ DownEnd T0 g n C pl S w v v5 w' T us ps d
set_option maxHeartbeats 6400000 in
set_option maxRecDepth 100000 in
theorem gdown_any (g n C pl S : Nat) (us : List Value) (T0 : List (List Rat)) (w : World) (h : TabS .u64 4294967296 w g 64 us T0) (hc : Hid (shp T0 n C ∧ pl ≤ C ∧ n ≤ 5 ∧ C ≤ 1000 ∧ rowsL T0 S ∧ (S + 1) * 2 ^ (n - 1) ≤ 400)) :
    Calls Tryz.prog 49 #[.slice (some ⟨g, 0, none⟩) n n, .int .i64 (pl : Int)] w (RetDown T0 g n C pl S w) := by
  have hn5 := hc.out.2.2.1
  have hC := hc.out.2.2.2.1
  have hpl := hc.out.2.1
  obtain ⟨O, hO⟩ : ∃ O : Rat, O = 1 := ⟨_, rfl⟩
  have CO : ∀ w, Calls Tryz.prog 32 #[.int .i64 1] w (RetQ O w) := fun w => by
    have h := of8_any 1 w (by omega) (by omega)
    rwa [show ((1 : Int) : Rat) = O by rw [hO]; rfl] at h
  have HO := Lib.hid hO
  clear hO
  go_enter Tryz.func49, Tryz.ntmps49
  go_wp2_with fail
  refine (CO _).mono ?_
  rintro e w2 ⟨v2, rfl, k2, -, b2⟩
  obtain ⟨u2, t2, rfl, s2, d2⟩ := k2
  obtain ⟨A2, c2, rfl, _⟩ := id s2
  obtain ⟨D2, e2, rfl, _⟩ := id d2
  have ba := below_alloc (w := w) (Nat.le_refl _) (.cells #[.bool false, .slice none 0 0, .slice none 0 0] 44)
  have hs1 : (w.alloc (.cells #[.bool false, .slice none 0 0, .slice none 0 0] 44)).heap.size = w.heap.size + 1 := by first | rfl | exact Array.size_push _
  have BR0 := (Blk.new w 44 #[.bool false, .slice none 0 0, .slice none 0 0]).below b2
  have ba2 := below_alloc (w := w2) (Nat.le_refl _) (.cells #[.bool (ngB O.num), .slice A2 (digs 4294967296 O.num.natAbs).length c2, .slice D2 (digs 4294967296 O.den).length e2] 44)
  have BP0 := Blk.new w2 44 #[.bool (ngB O.num), .slice A2 (digs 4294967296 O.num.natAbs).length c2, .slice D2 (digs 4294967296 O.den).length e2]
  have hgP : w.heap.size < w2.heap.size := by have := b2.size; omega
  have hglt : g < w.heap.size := h.lt
  have bb2 := ba.trans (b2.mono ba.size)
  have TS0 := (h.below bb2).below ba2
  have HG0 : Hid (w.grownBy _ (some g)) := below_none (bb2.trans (ba2.mono bb2.size)) (some g)
  have s20 := s2.below ba2
  have d20 := d2.below ba2
  have BR1 := BR0.below ba2
  have HD0 : Hid (Dwn T0 T0 n C 0 [] O S) := by
    show Dwn T0 T0 n C 0 [] O S
    rw [HO.out]
    exact Dwn.start hc.out.1 hc.out.2.2.2.2.1
  have HL0 : Hid (lenQ O (1 + 400 * ([] : List Nat).length)) := by
    show lenQ O _
    rw [HO.out]
    exact lenQ_01 (.inr rfl)
  have HO0 : Hid (0 < C → OffU us (fun x => x = w.heap.size ∨ x = w2.heap.size)) := by
    show _ → _
    intro hC0 u hu x hx hG
    obtain ⟨i, hi⟩ := List.mem_iff_getElem?.1 hu
    obtain ⟨r, hr⟩ : ∃ r, T0[i]? = some r := ⟨_, List.getElem?_eq_getElem (by rw [← h.2.1]; exact (List.getElem?_eq_some_iff.1 hi).1)⟩
    have hsl := h.2.2 i u r hi hr
    have hr0 : r ≠ [] := List.length_pos_iff.1 (by rw [hc.out.1.2 r (List.mem_of_getElem? hr)]; exact hC0)
    obtain ⟨g', o', c', rfl, hlt, _⟩ := hsl.place hr0
    have e1 : g' = x := by simpa [Value.ownBlock] using hx
    rcases hG with e2 | e2 <;> omega
  clear ba b2 ba2 bb2 s2 d2 BR0 hs1
  go_wp2
  go_loopw [6, 15] (fun v6 v15 wr => ∃ (j : Nat) (T : List (List Rat)) (us' : List Value) (ps : List Nat) (d : Rat) (u t : Value), j ≤ pl ∧ Hid (Dwn T0 T n C j ps d S) ∧ TabS .u64 4294967296 wr g 64 us' T ∧ RowX isI wr w.heap.size 3 v6 (pI ps) ∧ Blk wr w2.heap.size 44 #[.bool (ngB d.num), u, t] ∧ IsS wr .u64 u (digs 4294967296 d.num.natAbs) ∧ IsS wr .u64 t (digs 4294967296 d.den) ∧ Blk wr w.heap.size 44 #[.bool false, .slice none 0 0, .slice none 0 0] ∧ Hid (lenQ d (1 + 400 * ps.length)) ∧ Hid (w.grownBy wr (some g)) ∧ Hid (0 < C → OffU us' (fun x => x = w.heap.size ∨ x = w2.heap.size)) ∧ v15 = .int .i64 (j : Int)) (fun _ v15 _ => pl - (intOf v15).toNat)
  case atStart => exact ⟨0, T0, us, [], O, _, _, by omega, HD0, TS0, rowX_nil _ _ _ _, BP0, s20, d20, BR1, HL0, HG0, HO0, rfl⟩
  case round =>
    clear TS0 BP0 s20 d20 BR1 HL0 HG0 HD0 HO0 CO HO
    obtain ⟨j, T, us', ps, d, u, t, hj, HD, TS, RP, BP, su, st, BR, HLD, HG, HOF, rfl⟩ := hrel
    obtain ⟨Au, cu, rfl, _⟩ := id su
    obtain ⟨At, ct, rfl, _⟩ := id st
    by_cases hlt : j < pl
    · obtain ⟨A6, c6, e6⟩ := RowV.slice RP.1
      rw [pI_len] at e6
      subst e6
      have hkn : ps.length ≤ n := HD.out.ech.le
      by_cases hk : ps.length < n
      · have hnk : ¬ n = ps.length := by omega
        have hTl : T.length = n := HD.out.sh.1
        have SL := TS.sub (o := ps.length) (m := n - ps.length) (c := n - ps.length) (by omega) (Nat.le_refl _) (by unfold maxLen; omega)
        have hj : j < C := by omega
        have HSH := Lib.hid HD.out.sh
        go_wp2_with fail
        refine (gfirst_any _ _ j _ SL (fun r hr => by rw [HSH.out.2 r (List.mem_of_mem_drop (List.mem_of_mem_take hr))]; omega)).mono ?_
        rintro e w4 ⟨f, rfl, hf, hz, hnz, b4⟩
        have hLl : ((T.drop ps.length).take (n - ps.length)).length = n - ps.length := by rw [List.length_take, List.length_drop]; omega
        have hent : ∀ i, i < n - ps.length → entF ((T.drop ps.length).take (n - ps.length)) i j = entF T (ps.length + i) j := fun i hi => by
          have e : ((T.drop ps.length).take (n - ps.length)).getD i [] = T.getD (ps.length + i) [] := by rw [List.getD_eq_getElem?_getD, List.getElem?_take_of_lt hi, List.getElem?_drop, List.getD_eq_getElem?_getD]
          unfold entF
          rw [e]
        rw [hLl] at hf hnz
        have TS4 := TS.below b4
        have RP4 := RP.below b4
        have BP4 := BP.below b4
        have su4 := su.below b4
        have st4 := st.below b4
        have BR4 := BR.below b4
        have HG4 : Hid (w.grownBy w4 (some g)) := below_grown HG.out b4
        clear TS RP BP su st BR HG SL
        by_cases hfl : f < n - ps.length
        · have hne : entF T (ps.length + f) j ≠ 0 := by rw [← hent f hfl]; exact hnz hfl
          have HNE := Lib.hid hne
          clear hz hnz hent hne hLl
          go_upto_if 30 with (fail)
          have hb28 : ((f : Int) == ((n - ps.length : Nat) : Int)) = false := by rw [beq_eq_false_iff_ne]; omega
          obtain ⟨B30, hB⟩ : ∃ B, B = decide (0 < f) := ⟨_, rfl⟩
          rw [hb28, ← hB]
          have HB := Lib.hid hB
          clear hb28 hB
          go_cut [] from 31 to 44 (fun wx => ∃ (us2 : List Value) (d2 : Rat) (u2 t2 : Value), TabS .u64 4294967296 wx g 64 us2 (swapT T ps.length (ps.length + f)) ∧ Hid (OffU us2 (fun x => x = w.heap.size ∨ x = w2.heap.size)) ∧ RowX isI wx w.heap.size 3 (.slice A6 ps.length c6) (pI ps) ∧ Blk wx w2.heap.size 44 #[.bool (ngB d2.num), u2, t2] ∧ IsS wx .u64 u2 (digs 4294967296 d2.num.natAbs) ∧ IsS wx .u64 t2 (digs 4294967296 d2.den) ∧ Blk wx w.heap.size 44 #[.bool false, .slice none 0 0, .slice none 0 0] ∧ Hid (d2 = if ps.length + f = ps.length then d else -d) ∧ Hid (w.grownBy wx (some g)))
          case first =>
            by_cases hf0 : f = 0
            · subst hf0
              have hb : B30 = false := HB.out
              subst hb
              have e1 : swapT T ps.length (ps.length + 0) = T := swapT_self (by omega)
              have e2 : d = if ps.length + 0 = ps.length then d else -d := (if_pos rfl).symm
              go_wp2_with fail
              go_meet
              exact ⟨us', d, _, _, by rw [e1]; exact TS4, HOF.out (by omega), RP4, BP4, su4, st4, BR4, e2, HG4.out⟩
            · have hb : B30 = true := by rw [HB.out]; exact decide_eq_true (by omega)
              subst hb
              obtain ⟨rk, hrk, hrkl⟩ := row_ex HSH.out (show ps.length < n by omega)
              obtain ⟨rf, hrf, hrfl⟩ := row_ex HSH.out (show ps.length + f < n by omega)
              obtain ⟨Ak, ck, huk, eck, srk⟩ := TS4.at_ hrk
              obtain ⟨Af, cf, huf, ecf, srf⟩ := TS4.at_ hrf
              have fk := TS4.frozenAt ps.length
              have ff := TS4.frozenAt (ps.length + f)
              have hpos : 0 < n - ps.length := by omega
              go_upto_region 10 with (fail)
              go_region
              all_goals
                have TS5 := TS4.stored ps.length srf
                have srk5 := TS4.1.keepF (grown_set w4 g ps.length (.slice Af rf.length cf)) srk
                have TS6 := TS5.stored (ps.length + f) srk5
                rw [show (T.set ps.length rf).set (ps.length + f) rk = swapT T ps.length (ps.length + f) by unfold swapT; rw [getT hrk, getT hrf]] at TS6
                have G8 := below_grown ((grown_set w4 g ps.length (.slice Af rf.length cf)).trans (grown_set _ g (ps.length + f) (.slice Ak rk.length ck))) (Below.refl _ ((w4.setCell ⟨g, ps.length, none⟩ (.slice Af rf.length cf)).setCell ⟨g, ps.length + f, none⟩ (.slice Ak rk.length ck))).drew
                have TS8 := TS6.below (Below.refl _ _).drew
                have HO8 : Hid (OffU ((us'.set ps.length (.slice Af rf.length cf)).set (ps.length + f) (.slice Ak rk.length ck)) (fun x => x = w.heap.size ∨ x = w2.heap.size)) := ((HOF.out (by omega)).set (fun x hx => HOF.out (by omega) _ (List.mem_of_getElem? huf) x hx) ps.length).set (fun x hx => HOF.out (by omega) _ (List.mem_of_getElem? huk) x hx) (ps.length + f)
                have RP8 := RP4.grown G8 (fun x e1 e2 => RP4.notTab TS4.1 (by decide) (by rw [e1, e2]))
                have BP8 := Blk.grown BP4 G8 (by omega)
                have BR8 := Blk.grown BR4 G8 (by omega)
                have su8 := TS4.1.keep G8 su4
                have st8 := TS4.1.keep G8 st4
                have HG8 : Hid (w.grownBy _ (some g)) := HG4.out.trans G8
                have kd : IsQ _ (.agg #[.bool (ngB d.num), .slice Au (digs 4294967296 d.num.natAbs).length cu, .slice At (digs 4294967296 d.den).length ct]) d := ⟨_, _, rfl, su8, st8⟩
                obtain ⟨V0, V1, V2, _, _, _⟩ := three BP8
                have HLd : Hid (lenQ d 100000) := HLD.out.mono (by have := HD.out.ech.le; omega)
                clear TS5 TS6 srk5 G8 TS4 RP4 BP4 BR4 su4 st4 HG4 srk srf eck ecf fk ff su8 st8
                rw [hrfl, hrkl] at *
                obtain ⟨M, hM⟩ : ∃ M, M = -d := ⟨_, rfl⟩
                have CN : ∀ w a, IsQ w a d → Calls Tryz.prog 75 #[a] w (RetQ M w) := fun w a h => by rw [hM]; exact neg8_any a d w h HLd.out
                have HM := Lib.hid hM
                clear hM
                go_wp2_with fail
                refine (CN _ _ kd).mono ?_
                rintro e w9 ⟨v9, rfl, k9, -, b9⟩
                obtain ⟨u9, t9, rfl, s9, d9⟩ := k9
                obtain ⟨A9, c9, rfl, _⟩ := id s9
                obtain ⟨D9, e9, rfl, _⟩ := id d9
                have BP9 := BP8.below b9
                obtain ⟨X0, X1, X2, F0, F1, F2⟩ := three BP9
                have G10 := grown_set3 w9 w2.heap.size (.bool (ngB M.num)) (.slice A9 (digs 4294967296 M.num.natAbs).length c9) (.slice D9 (digs 4294967296 M.den).length e9)
                have B10 := blk_set3 BP9 (.bool (ngB M.num)) (.slice A9 (digs 4294967296 M.num.natAbs).length c9) (.slice D9 (digs 4294967296 M.den).length e9)
                have TS10 := (TS8.below b9).offQ (swapT_shp HSH.out (by omega) (by omega)) BP9 (no3 _) (by decide) G10 (fun hC0 u hu e => HO8.out u hu _ e (.inr rfl))
                have RP10 := (RP8.below b9).grown G10 (fun x e1 e2 => (RP8.below b9).notBlk BP9 (by decide) x e1 e2)
                have BR10 := Blk.grown (BR8.below b9) G10 (by omega)
                have s10 := Go.Proofs.YtfnohdgnhdfpaaaGreat.flow.off s9 BP9 (no3 _) G10
                have d10 := Go.Proofs.YtfnohdgnhdfpaaaGreat.flow.off d9 BP9 (no3 _) G10
                have HG10 : Hid (w.grownBy _ (some g)) := grown_new (below_grown HG8.out b9) G10 (by omega)
                have E2 : Hid (M = if ps.length + f = ps.length then d else -d) := HM.out.trans (if_neg (by omega)).symm
                clear TS8 RP8 BP8 BR8 BP9 s9 d9 kd
                go_wp2
                go_meet
                exact ⟨_, M, _, _, TS10, HO8, RP10, B10, s10, d10, BR10, E2, HG10.out⟩
          case rest =>
            obtain ⟨us2, d2, u2, t2, TS5, HO5, RP5, BP5, su5, st5, BR5, HD2, HG5⟩ := hcut
            obtain ⟨w5, hw5⟩ : ∃ w5, w5 = wc := ⟨_, rfl⟩
            subst hw5
            clear TS4 RP4 BP4 su4 st4 BR4 HG4 HOF HB
            obtain ⟨T1, hT1⟩ : ∃ T1, T1 = swapT T ps.length (ps.length + f) := ⟨_, rfl⟩
            rw [← hT1] at TS5
            have hs1 : shp T1 n C := by rw [hT1]; exact swapT_shp HSH.out (by omega) (by omega)
            obtain ⟨r1, hr1, hrl1, hq1⟩ := entF_at hs1 hk hj
            obtain ⟨q1, hqe⟩ : ∃ q1, q1 = entF T1 ps.length j := ⟨_, rfl⟩
            rw [← hqe] at hq1
            have hqf : q1 = entF T (ps.length + f) j := by
              rw [hqe, hT1, swapT_ent HSH.out (by omega) (by omega)]
              exact congrFun (if_pos rfl) j
            have hq0 : q1 ≠ 0 := by rw [hqf]; exact HNE.out
            have hR1 : rowsL T1 399 := by rw [hT1]; exact swapT_rows HSH.out (by omega) (by omega) (HD.out.small hc.out.2.2.2.2.2)
            have hLr : rowL r1 399 := hR1 r1 (List.mem_of_getElem? hr1)
            obtain ⟨Dn, hDn⟩ : ∃ Dn, Dn = d2 * q1 := ⟨_, rfl⟩
            obtain ⟨X, hX⟩ : ∃ X, X = q1⁻¹ := ⟨_, rfl⟩
            have hLX : lenQ X 399 := by rw [hX]; exact lenQ_inv hq0 (hLr.len q1 (List.mem_of_getElem? hq1))
            have hL2 : lenQ d2 (1 + 400 * ps.length) := by
              rw [HD2.out]
              by_cases e : ps.length + f = ps.length
              · rw [if_pos e]; exact HLD.out
              · rw [if_neg e]; exact lenQ_neg HLD.out
            have hLn : lenQ Dn (1 + 400 * (ps.length + 1)) := by rw [hDn]; exact (lenQ_mul hL2 (hLr.len q1 (List.mem_of_getElem? hq1))).mono (by omega)
            obtain ⟨Au2, cu2, rfl, _⟩ := id su5
            obtain ⟨At2, ct2, rfl, _⟩ := id st5
            have CM : ∀ w a b, IsQ w a d2 → IsQ w b q1 → Calls Tryz.prog 35 #[a, b] w (RetQ Dn w) := fun w a b h1 h2 => by rw [hDn]; exact mul8_any a d2 b q1 w h1 h2 (hL2.mono (by omega)) ((hLr.len q1 (List.mem_of_getElem? hq1)).mono (by omega))
            have CV : ∀ w a, IsQ w a q1 → Calls Tryz.prog 101 #[a] w (RetQF X 0 w) := fun w a h1 => by rw [hX]; exact inv8_ok a q1 w h1 ((hLr.len q1 (List.mem_of_getElem? hq1)).mono (by omega)) hq0
            have HE := Lib.hid (And.intro hT1 (And.intro hs1 (And.intro hr1 (And.intro hrl1 (And.intro hq1 (And.intro hqe (And.intro hqf (And.intro hq0 (And.intro hR1 (And.intro hDn (And.intro hX (And.intro hLX hLn))))))))))))
            have HLR := Lib.hid hLr
            clear hT1 hs1 hqe hqf hq0 hR1 hDn hX hLX hLn hL2 hLr hrl1
            have bd := (Below.refl w5.heap.size w5).drew
            have TSd := TS5.below bd
            have RPd := RP5.below bd
            have BPd := BP5.below bd
            have sud := su5.below bd
            have std := st5.below bd
            have BRd := BR5.below bd
            have HGd : Hid (w.grownBy w5.drew (some g)) := below_grown HG5.out bd
            obtain ⟨Ar, cr, hur, ecr, sr⟩ := TSd.at_ hr1
            obtain ⟨gr, or, uq, tq, rfl, hia, k0, k1, k2, sq, dq⟩ := sr.at_ hq1
            obtain ⟨Aq, cq, rfl, _⟩ := id sq
            obtain ⟨Dq, eq, rfl, _⟩ := id dq
            have hix := fun w => index3 (P := Tryz.prog) Tryz.underlying64 (by kernel_rfl) (g := gr) (o := or) (c := cr) hia w
            have kq : IsQ w5.drew (.agg #[.bool (ngB q1.num), .slice Aq (digs 4294967296 q1.num.natAbs).length cq, .slice Dq (digs 4294967296 q1.den).length eq]) q1 := ⟨_, _, rfl, sq, dq⟩
            have kd : IsQ w5.drew (.agg #[.bool (ngB d2.num), .slice Au2 (digs 4294967296 d2.num.natAbs).length cu2, .slice At2 (digs 4294967296 d2.den).length ct2]) d2 := ⟨_, _, rfl, sud, std⟩
            obtain ⟨V0, V1, V2, _, _, _⟩ := three BPd
            have hpos : 0 < n - ps.length := by omega
            clear TS5 RP5 BP5 su5 st5 BR5 HG5 bd sr hr1 hq1
            go_upto_region 12 with (fail)
            go_cut [] from 45 to 52 (fun wx => ∃ u3 t3 : Value, TabS .u64 4294967296 wx g 64 us2 T1 ∧ RowX isI wx w.heap.size 3 (.slice A6 ps.length c6) (pI ps) ∧ Blk wx w2.heap.size 44 #[.bool (ngB Dn.num), u3, t3] ∧ IsS wx .u64 u3 (digs 4294967296 Dn.num.natAbs) ∧ IsS wx .u64 t3 (digs 4294967296 Dn.den) ∧ Blk wx w.heap.size 44 #[.bool false, .slice none 0 0, .slice none 0 0] ∧ Hid (w.grownBy wx (some g)))
            case first =>
             go_region_law (go_simp; go_at_call 35; refine (CM _ _ _ (by exact kd) (by exact kq)).mono ?_; rintro e w6 ⟨v6, rfl, k6, -, b6⟩; obtain ⟨u6, t6, rfl, s6, d6⟩ := k6; obtain ⟨A7, c7, rfl, _⟩ := id s6; obtain ⟨D7, e7, rfl, _⟩ := id d6; have BP6 := BPd.below b6; obtain ⟨X0, X1, X2, F0, F1, F2⟩ := three BP6)
             all_goals
              have G7 := grown_set3 w6 w2.heap.size (.bool (ngB Dn.num)) (.slice A7 (digs 4294967296 Dn.num.natAbs).length c7) (.slice D7 (digs 4294967296 Dn.den).length e7)
              have B7 := blk_set3 BP6 (.bool (ngB Dn.num)) (.slice A7 (digs 4294967296 Dn.num.natAbs).length c7) (.slice D7 (digs 4294967296 Dn.den).length e7)
              have TS7 := (TSd.below b6).offQ HE.out.2.1 BP6 (no3 _) (by decide) G7 (fun hC0 u hu e => HO5.out u hu _ e (.inr rfl))
              have RP7 := (RPd.below b6).grown G7 (fun x e1 e2 => (RPd.below b6).notBlk BP6 (by decide) x e1 e2)
              have BR7 := Blk.grown (BRd.below b6) G7 (by omega)
              have s7 := Go.Proofs.YtfnohdgnhdfpaaaGreat.flow.off s6 BP6 (no3 _) G7
              have d7 := Go.Proofs.YtfnohdgnhdfpaaaGreat.flow.off d6 BP6 (no3 _) G7
              have HG7 : Hid (w.grownBy _ (some g)) := grown_new (below_grown HGd.out b6) G7 (by omega)
              clear TSd RPd BPd BRd HGd BP6 s6 d6 kq kd sud std sq dq k0 k1 k2 ecr hix hur V0 V1 V2
              go_wp2
              go_meet
              exact ⟨_, _, TS7, RP7, B7, s7, d7, BR7, HG7⟩
            case rest =>
              obtain ⟨u3, t3, TS7, RP7, BP7, su7, st7, BR7, HG7⟩ := hcut
              obtain ⟨w7, hw7⟩ : ∃ w7, w7 = wc := ⟨_, rfl⟩
              subst hw7
              clear TSd RPd BPd BRd HGd kq kd sud std sq dq k0 k1 k2 ecr hix hur V0 V1 V2 CM
              obtain ⟨Ar, cr, hur, ecr, sr⟩ := TS7.at_ HE.out.2.2.1
              obtain ⟨gr, or, uq, tq, rfl, hia, k0, k1, k2, sq, dq⟩ := sr.at_ HE.out.2.2.2.2.1
              obtain ⟨Aq, cq, rfl, _⟩ := id sq
              obtain ⟨Dq, eq, rfl, _⟩ := id dq
              have hix := fun w => index3 (P := Tryz.prog) Tryz.underlying64 (by kernel_rfl) (g := gr) (o := or) (c := cr) hia w
              have kq : IsQ w7 (.agg #[.bool (ngB q1.num), .slice Aq (digs 4294967296 q1.num.natAbs).length cq, .slice Dq (digs 4294967296 q1.den).length eq]) q1 := ⟨_, _, rfl, sq, dq⟩
              clear sr
              go_wp2_with fail
              refine (CV _ _ kq).mono ?_
              rintro e w8 ⟨v8, rfl, k8, -, b8⟩
              obtain ⟨u8, t8, rfl, s8, d8⟩ := k8
              obtain ⟨A8, c8, rfl, _⟩ := id s8
              obtain ⟨D8, e8, rfl, _⟩ := id d8
              have ba := below_alloc (w := w8) (Nat.le_refl _) (.cells #[.bool (ngB X.num), .slice A8 (digs 4294967296 X.num.natAbs).length c8, .slice D8 (digs 4294967296 X.den).length e8] 44)
              have BU := Blk.new w8 44 #[.bool (ngB X.num), .slice A8 (digs 4294967296 X.num.natAbs).length c8, .slice D8 (digs 4294967296 X.den).length e8]
              have bb := b8.trans (ba.mono b8.size)
              have bd := (Below.refl (w8.alloc (.cells #[.bool (ngB X.num), .slice A8 (digs 4294967296 X.num.natAbs).length c8, .slice D8 (digs 4294967296 X.den).length e8] 44)).heap.size (w8.alloc (.cells #[.bool (ngB X.num), .slice A8 (digs 4294967296 X.num.natAbs).length c8, .slice D8 (digs 4294967296 X.den).length e8] 44))).drew
              have bb9 := bb.trans (bd.mono bb.size)
              have TS9 := TS7.below bb9
              have RP9 := RP7.below bb9
              have BP9 := BP7.below bb9
              have su9 := su7.below bb9
              have st9 := st7.below bb9
              have BR9 := BR7.below bb9
              have HG9 : Hid (w.grownBy _ (some g)) := below_grown HG7.out bb9
              have BU9 := BU.below bd
              obtain ⟨V0, V1, V2, _, _, _⟩ := three BU9
              have kX : IsQ _ (.agg #[.bool (ngB X.num), .slice A8 (digs 4294967296 X.num.natAbs).length c8, .slice D8 (digs 4294967296 X.den).length e8]) X := ⟨_, _, rfl, s8.below (ba.trans (bd.mono ba.size)), d8.below (ba.trans (bd.mono ba.size))⟩
              obtain ⟨Ar2, cr2, hur2, ecr2, sr2⟩ := TS9.at_ HE.out.2.2.1
              have HLS : Hid (r1.length ≤ 1000 ∧ (∀ x ∈ r1, lenQ x 399) ∧ lenQ X 399 ∧ 399 ≤ 4900 ∧ 399 ≤ 4900) := ⟨by rw [HE.out.2.2.2.1]; exact hC, HLR.out.len, HE.out.2.2.2.2.2.2.2.2.2.2.2.1, by omega, by omega⟩
              have HNL : Hid ((scaleq r1 X).length ≤ 1000000000) := by
                show _ ≤ _
                rw [scaleq_len]; have := HLS.out.1; omega
              have hkl : ps.length < T1.length := by rw [HE.out.2.1.1]; exact hk
              clear TS7 RP7 BP7 su7 st7 BR7 HG7 ba BU bb bd bb9 s8 d8 kq sq dq k0 k1 k2 ecr hix hur CV
              go_upto_region 14 with (fail)
              go_cut [] from 63 to 69 (fun wx => ∃ us3 : List Value, TabS .u64 4294967296 wx g 64 us3 (T1.set ps.length (scaleq r1 X)) ∧ Hid (OffU us3 (fun x => x = w.heap.size ∨ x = w2.heap.size)) ∧ RowX isI wx w.heap.size 3 (.slice A6 ps.length c6) (pI ps) ∧ Blk wx w2.heap.size 44 #[.bool (ngB Dn.num), u3, t3] ∧ IsS wx .u64 u3 (digs 4294967296 Dn.num.natAbs) ∧ IsS wx .u64 t3 (digs 4294967296 Dn.den) ∧ Blk wx w.heap.size 44 #[.bool false, .slice none 0 0, .slice none 0 0] ∧ Hid (w.grownBy wx (some g)))
              case first =>
                go_region_law (go_simp; go_at_call 102; refine (fscale_own _ _ r1 X 399 399 _ (by exact sr2) (by exact kX) HLS.out).mono ?_; rintro e w10 ⟨gn, rfl, RNn, hgn, b10⟩; have sR := RNn.sl rfl HNL.out; have TS10 := TS9.below b10; obtain ⟨u0, c10⟩ := TS10.cellAt (i := ps.length) hkl; have f10 := TS10.frozenAt ps.length)
                all_goals
                  have TS11 := TS10.stored ps.length sR
                  have G11 := grown_set w10 g ps.length (.slice (some ⟨gn, 0, none⟩) (scaleq r1 X).length (scaleq r1 X).length)
                  have hb10 := b10.size
                  have HO11 : Hid (OffU (us2.set ps.length (.slice (some ⟨gn, 0, none⟩) (scaleq r1 X).length (scaleq r1 X).length)) (fun x => x = w.heap.size ∨ x = w2.heap.size)) := HO5.out.set (fun x hx hG => by
                    have h1 : gn = x := by simpa [Value.ownBlock] using hx
                    have h2 := BP9.lt
                    have h3 := BR9.lt
                    rcases hG with e | e <;> omega) ps.length
                  have RP11 := (RP9.below b10).grown G11 (fun x e1 e2 => (RP9.below b10).notTab TS10.1 (by decide) (by rw [e1, e2]))
                  have BP11 := Blk.grown (BP9.below b10) G11 (by omega)
                  have BR11 := Blk.grown (BR9.below b10) G11 (by omega)
                  have su11 := TS10.1.keep G11 (su9.below b10)
                  have st11 := TS10.1.keep G11 (st9.below b10)
                  have HG11 : Hid (w.grownBy _ (some g)) := (below_grown HG9.out b10).trans G11
                  clear TS9 RP9 BP9 su9 st9 BR9 HG9 TS10 sR kX sr2
                  go_wp2
                  go_meet
                  exact ⟨_, TS11, HO11, RP11, BP11, su11, st11, BR11, HG11⟩
              case rest =>
                obtain ⟨us3, TS9', HO9, RP9', BP9', su9', st9', BR9', HG9'⟩ := hcut
                obtain ⟨w9, hw9⟩ : ∃ w9, w9 = wc := ⟨_, rfl⟩
                subst hw9
                clear TS9 RP9 BP9 su9 st9 BR9 HG9 BU9 V0 V1 V2 kX hur2 ecr2 sr2 HNL HLS HO5
                obtain ⟨T2, hT2⟩ : ∃ T2, T2 = T1.set ps.length (scaleq r1 X) := ⟨_, rfl⟩
                rw [← hT2] at TS9'
                have eT2 : T2 = scaleT (swapT T ps.length (ps.length + f)) ps.length (entF (swapT T ps.length (ps.length + f)) ps.length j)⁻¹ := by
                  rw [hT2, scaleT, ← HE.out.1, getT HE.out.2.2.1, HE.out.2.2.2.2.2.2.2.2.2.2.1, HE.out.2.2.2.2.2.1]
                have hs2 : shp T2 n C := by rw [hT2]; exact shp_set HE.out.2.1 (by rw [scaleq_len]; exact HE.out.2.2.2.1)
                have hp2 : T2[ps.length]? = some (scaleq r1 X) := by rw [hT2]; exact List.getElem?_set_self hkl
                have hR2 : rowsL T2 399 := by
                  rw [hT2]
                  intro x hx
                  rcases List.mem_or_eq_of_mem_set hx with hx | rfl
                  · exact HE.out.2.2.2.2.2.2.2.2.1 x hx
                  · rw [HE.out.2.2.2.2.2.2.2.2.2.2.1]
                    exact HLR.out.scale (List.mem_of_getElem? HE.out.2.2.2.2.1) HE.out.2.2.2.2.2.2.2.1
                have HPV : Hid (clrM T2 (fun i => decide (ps.length < i)) (scaleq r1 X) j n = pivT T (fun i => decide (ps.length < i)) ps.length (ps.length + f) j n) := by
                  show _ = _
                  unfold pivT
                  rw [← eT2, getT hp2]
                have HDN : Hid (Dwn T0 (pivT T (fun i => decide (ps.length < i)) ps.length (ps.length + f) j n) n C (j + 1) (ps ++ [j]) Dn S) := by
                  have h1 := HD.out.pivot hj (show ps.length ≤ ps.length + f by omega) (show ps.length + f < n by omega) HNE.out
                  have h2 : Dn = (if ps.length + f = ps.length then d else -d) * entF T (ps.length + f) j := by rw [HE.out.2.2.2.2.2.2.2.2.2.1, HD2.out, HE.out.2.2.2.2.2.2.1]
                  show Dwn _ _ _ _ _ _ _ _
                  rw [h2]; exact h1
                have HLL : Hid (lenQ Dn (1 + 400 * (ps ++ [j]).length)) := by
                  show lenQ _ _
                  rw [List.length_append]; exact HE.out.2.2.2.2.2.2.2.2.2.2.2.2
                have HPS : Hid (pI ps ++ [.int .i64 (j : Int)] = pI (ps ++ [j])) := pI_snoc ps j
                have HRP2 : Hid (rowL (scaleq r1 X) 399) := hR2 _ (List.mem_of_getElem? hp2)
                have hpl2 : Hid ((scaleq r1 X).length = C) := hs2.2 _ (List.mem_of_getElem? hp2)
                have H2 := Lib.hid (And.intro hs2 (And.intro hp2 hR2))
                have bd := (Below.refl w9.heap.size w9).drew
                have TSd := TS9'.below bd
                obtain ⟨Ap, cp, hup, ecp, sp⟩ := TSd.at_ hp2
                have CC : ∀ o m : Nat, o + m = n ∨ m = 0 → ps.length ≤ o → o ≤ n → (m = 0 → n = ps.length + 1) → (m ≠ 0 → o = ps.length + 1) → Calls Tryz.prog 103 #[.slice (some ⟨g, o, none⟩) m m, .slice Ap (scaleq r1 X).length cp, .int .i64 (j : Int)] w9.drew (RetClr g us3 (pivT T (fun i => decide (ps.length < i)) ps.length (ps.length + f) j n) w9.drew) := fun o m h1 h2 h3 h4 h5 => by
                  have hc1 := gclear_any g o m m j n C 399 us3 _ (scaleq r1 X) T2 (fun i => decide (ps.length < i)) w9.drew TSd sp ⟨H2.out.1, hpl2.out, hj, by omega, Nat.le_refl _, by omega, hC, fun i hi => by simp; omega, fun i h6 h7 => by simp; omega, H2.out.2.2, HRP2.out, fun _ => by omega⟩
                  have e : clrM T2 (fun i => decide (ps.length < i)) (scaleq r1 X) j (o + m) = pivT T (fun i => decide (ps.length < i)) ps.length (ps.length + f) j n := by
                    rw [← HPV.out]
                    rcases h1 with h1 | h1
                    · rw [h1]
                    · subst h1
                      have h6 := h4 rfl
                      rw [clrM_none (o + 0) (fun i hi => by simp; omega), clrM_none n (fun i hi => by simp; omega)]
                  rwa [e] at hc1
                have RPd := RP9'.below bd
                have BPd := BP9'.below bd
                have sud := su9'.below bd
                have std := st9'.below bd
                have BRd := BR9'.below bd
                have HGd : Hid (w.grownBy w9.drew (some g)) := below_grown HG9'.out bd
                have h1m : (1 : Int) ≤ ((n - ps.length : Nat) : Int) := by omega
                clear TS9' RP9' BP9' su9' st9' BR9' HG9' hT2 eT2 hs2 hp2 hR2 hup
                by_cases hm2 : n - ps.length = 1
                · have HM2 := Lib.hid hm2
                  have hcc := CC ps.length 0 (.inr rfl) (Nat.le_refl _) (by omega) (fun _ => by omega) (fun e => absurd rfl e)
                  go_upto_region 15 with (fail)
                  go_region_law (go_simp; go_at_call 103; refine hcc.mono ?_; rintro e w10 ⟨rfl, us4, TS10, G10, ST10⟩)
                  all_goals
                    have RP10 := RPd.grown G10 (fun x e1 e2 => RPd.notTab TSd.1 (by decide) (by rw [e1, e2]))
                    have BP10 := Blk.grown BPd G10 (by omega)
                    have BR10 := Blk.grown BRd G10 (by omega)
                    have su10 := TSd.1.keep G10 sud
                    have st10 := TSd.1.keep G10 std
                    have HG10 : Hid (w.grownBy w10 (some g)) := HGd.out.trans G10
                    have HO10 : Hid (OffU us4 (fun x => x = w.heap.size ∨ x = w2.heap.size)) := ST10 _ (fun x hx => by
                      have h2 := BPd.lt
                      have h3 := BRd.lt
                      rcases hx with rfl | rfl
                      · exact h3
                      · exact h2) HO9.out
                    have ba := below_alloc (w := w10) (Nat.le_refl _) (.cells #[.int .i64 (j : Int)] 3)
                    have RP11 := RP10.below ba
                    have TS11 := TS10.below ba
                    have BP11 := BP10.below ba
                    have BR11 := BR10.below ba
                    have su11 := su10.below ba
                    have st11 := st10.below ba
                    have HG11 : Hid (w.grownBy _ (some g)) := below_grown HG10.out ba
                    have hbase : w.heap.size ≤ (w10.alloc (.cells #[.int .i64 (j : Int)] 3)).heap.size := Nat.le_trans HG10.out.size ba.size
                    have hone := cell_one_new w10 (.int .i64 (j : Int)) 3
                    have hlp : (pI ps).length + 1 ≤ 1000000000 := by rw [pI_len]; omega
                    clear TSd RPd BPd BRd sud std HGd G10 TS10 RP10 BP10 BR10 su10 st10 HG10 ba ST10 ecp sp CC
                    go_wp2_with (at_builtin; refine wpList_append_X rfl (.tmp 77) (.tmp 79) rfl Tryz.underlying26 info_int rfl RP11 rfl rfl (by decide) hone (fun u hu => by (obtain rfl := List.mem_singleton.1 hu; exact ⟨_, rfl⟩)) hlp hbase ?_; intro v12 w12 RP12 HG12 HX12)
                    have TS13 := TS11.keepX RP11 (RP11.notTab TS11.1 (by decide)) HG12.out
                    have BP13 := RP11.keepBlk BP11 (by decide) HG12.out
                    have BR13 := RP11.keepBlk BR11 (by decide) HG12.out
                    have su13 := RP11.keepS HG12.out su11
                    have st13 := RP11.keepS HG12.out st11
                    have HG13 : Hid (w.grownBy w12 (some g)) := grown_own HG11.out HG12.out (fun x e => RP11.1.base_le x e)
                    rw [HPS.out] at RP12
                    clear TS11 RP11 BP11 BR11 su11 st11 HG11 hone
                    go_wp2
                    go_roundw
                    case rel => exact ⟨j + 1, _, us4, ps ++ [j], Dn, _, _, by omega, HDN, TS13, RP12, BP13, su13, st13, BR13, HLL, HG13, fun _ => HO10.out, by go_num⟩
                    case measure => simp [intOf]; omega
                · have hcc := CC (ps.length + 1) (n - ps.length - 1) (.inl (by omega)) (by omega) (by omega) (fun e => by omega) (fun _ => rfl)
                  go_upto_region 15 with (fail)
                  go_region_law (go_simp; go_at_call 103; refine hcc.mono ?_; rintro e w10 ⟨rfl, us4, TS10, G10, ST10⟩)
                  all_goals
                    have RP10 := RPd.grown G10 (fun x e1 e2 => RPd.notTab TSd.1 (by decide) (by rw [e1, e2]))
                    have BP10 := Blk.grown BPd G10 (by omega)
                    have BR10 := Blk.grown BRd G10 (by omega)
                    have su10 := TSd.1.keep G10 sud
                    have st10 := TSd.1.keep G10 std
                    have HG10 : Hid (w.grownBy w10 (some g)) := HGd.out.trans G10
                    have HO10 : Hid (OffU us4 (fun x => x = w.heap.size ∨ x = w2.heap.size)) := ST10 _ (fun x hx => by
                      have h2 := BPd.lt
                      have h3 := BRd.lt
                      rcases hx with rfl | rfl
                      · exact h3
                      · exact h2) HO9.out
                    have ba := below_alloc (w := w10) (Nat.le_refl _) (.cells #[.int .i64 (j : Int)] 3)
                    have RP11 := RP10.below ba
                    have TS11 := TS10.below ba
                    have BP11 := BP10.below ba
                    have BR11 := BR10.below ba
                    have su11 := su10.below ba
                    have st11 := st10.below ba
                    have HG11 : Hid (w.grownBy _ (some g)) := below_grown HG10.out ba
                    have hbase : w.heap.size ≤ (w10.alloc (.cells #[.int .i64 (j : Int)] 3)).heap.size := Nat.le_trans HG10.out.size ba.size
                    have hone := cell_one_new w10 (.int .i64 (j : Int)) 3
                    have hlp : (pI ps).length + 1 ≤ 1000000000 := by rw [pI_len]; omega
                    clear TSd RPd BPd BRd sud std HGd G10 TS10 RP10 BP10 BR10 su10 st10 HG10 ba ST10 ecp sp CC
                    go_wp2_with (at_builtin; refine wpList_append_X rfl (.tmp 77) (.tmp 79) rfl Tryz.underlying26 info_int rfl RP11 rfl rfl (by decide) hone (fun u hu => by (obtain rfl := List.mem_singleton.1 hu; exact ⟨_, rfl⟩)) hlp hbase ?_; intro v12 w12 RP12 HG12 HX12)
                    have TS13 := TS11.keepX RP11 (RP11.notTab TS11.1 (by decide)) HG12.out
                    have BP13 := RP11.keepBlk BP11 (by decide) HG12.out
                    have BR13 := RP11.keepBlk BR11 (by decide) HG12.out
                    have su13 := RP11.keepS HG12.out su11
                    have st13 := RP11.keepS HG12.out st11
                    have HG13 : Hid (w.grownBy w12 (some g)) := grown_own HG11.out HG12.out (fun x e => RP11.1.base_le x e)
                    rw [HPS.out] at RP12
                    clear TS11 RP11 BP11 BR11 su11 st11 HG11 hone
                    go_wp2
                    go_roundw
                    case rel => exact ⟨j + 1, _, us4, ps ++ [j], Dn, _, _, by omega, HDN, TS13, RP12, BP13, su13, st13, BR13, HLL, HG13, fun _ => HO10.out, by go_num⟩
                    case measure => simp [intOf]; omega
        · obtain rfl : f = n - ps.length := by omega
          have HD5 : Hid (Dwn T0 T n C (j + 1) ps d S) := HD.out.skip fun i h1 h2 => by
            have h3 := hz (i - ps.length) (by omega)
            rw [hent _ (by omega), show ps.length + (i - ps.length) = i by omega] at h3
            exact h3
          clear hz hnz hent hLl
          go_wp2
          go_roundw
          case rel => exact ⟨j + 1, T, us', ps, d, _, _, by omega, HD5, TS4, RP4, BP4, su4, st4, BR4, HLD, HG4, HOF, by go_num⟩
          case measure => simp [intOf]; omega
      · have hn0 : n - ps.length = 0 := by omega
        have SL := TS.sub (o := 0) (m := 0) (c := 0) (by omega) (Nat.le_refl _) (by unfold maxLen; omega)
        go_wp2_with fail
        refine (gfirst_any _ _ j _ SL (fun r hr => by simp at hr)).mono ?_
        rintro e w4 ⟨f, rfl, hf, -, -, b4⟩
        obtain rfl : f = 0 := by simpa using hf
        have TS4 := TS.below b4
        have RP4 := RP.below b4
        have BP4 := BP.below b4
        have su4 := su.below b4
        have st4 := st.below b4
        have BR4 := BR.below b4
        have HG4 : Hid (w.grownBy w4 (some g)) := below_grown HG.out b4
        have HD5 : Hid (Dwn T0 T n C (j + 1) ps d S) := HD.out.skip fun i h1 h2 => by omega
        clear TS RP BP su st BR HG SL
        go_wp2
        go_roundw
        case rel => exact ⟨j + 1, T, us', ps, d, _, _, by omega, HD5, TS4, RP4, BP4, su4, st4, BR4, HLD, HG4, HOF, by go_num⟩
        case measure => simp [intOf]; omega
    · obtain rfl : j = pl := by omega
      obtain ⟨V0, V1, V2, _, _, _⟩ := three BP
      obtain ⟨R0, R1, R2, F0, F1, F2⟩ := three BR
      have G9 := grown_set3 wr w.heap.size (.bool (ngB d.num)) (.slice Au (digs 4294967296 d.num.natAbs).length cu) (.slice At (digs 4294967296 d.den).length ct)
      have B9 := blk_set3 BR (.bool (ngB d.num)) (.slice Au (digs 4294967296 d.num.natAbs).length cu) (.slice At (digs 4294967296 d.den).length ct)
      have TS9 := TS.offQ HD.out.sh BR (no3 _) (by decide) G9 (fun hC0 u hu e => HOF.out hC0 u hu _ e (.inl rfl))
      have RP9 := RP.grown G9 (fun x e1 e2 => RP.notBlk BR (by decide) x e1 e2)
      have s9 := Go.Proofs.YtfnohdgnhdfpaaaGreat.flow.off su BR (no3 _) G9
      have d9 := Go.Proofs.YtfnohdgnhdfpaaaGreat.flow.off st BR (no3 _) G9
      have HG9 : Hid (w.grownBy _ (some g)) := grown_new HG.out G9 (Nat.le_refl _)
      obtain ⟨w9, hw9⟩ : ∃ w9, w9 = (((wr.setCell ⟨w.heap.size, 0, none⟩ (.bool (ngB d.num))).setCell ⟨w.heap.size, 1, none⟩ (.slice Au (digs 4294967296 d.num.natAbs).length cu)).setCell ⟨w.heap.size, 2, none⟩ (.slice At (digs 4294967296 d.den).length ct)) := ⟨_, rfl⟩
      rw [← hw9] at B9 TS9 RP9 s9 d9 HG9
      have bd := (Below.refl w9.heap.size w9).drew
      have B10 := B9.below bd
      have HEND : Hid (RetDown T0 g n C j S w (.returned (.tuple #[u6, .agg #[.bool (ngB d.num), .slice Au (digs 4294967296 d.num.natAbs).length cu, .slice At (digs 4294967296 d.den).length ct]])) w9.drew) := ⟨_, _, T, us', ps, d, rfl, HD.out, TS9.below bd, RP9.below bd, ⟨_, _, rfl, s9.below bd, d9.below bd⟩, HLD.out, below_grown HG9.out bd⟩
      obtain ⟨C0, C1, C2, _, _, _⟩ := three B10
      clear TS9 RP9 s9 d9 HG9 B9 bd B10
      rw [hw9] at C0 C1 C2
      have HW := Lib.hid hw9
      clear hw9
      go_upto_region 18 with (fail)
      go_region
      all_goals
        go_wp2
        exact bodyPost_ret (v := .tuple #[u6, .agg #[.bool (ngB d.num), .slice Au (digs 4294967296 d.num.natAbs).length cu, .slice At (digs 4294967296 d.den).length ct]]) (by simp [results, Tryz.results49, go_sem, C0, C1, C2]) rfl (by have h := HEND.out; rw [HW.out] at h; exact h)
end Go.Proofs.YtfnohdgnhdfpaaaGreat.rat
namespace Go.Proofs.YtfnohdgnhdfpaaaGreat.rat
open Go.RowKit Go.Shelf Go.Proofs.YtfnohdgnhdfpaaaGreat.num Go.Proofs.YtfnohdgnhdfpaaaGreat.mem Go.Proofs.YtfnohdgnhdfpaaaGreat.nat Go.Proofs.YtfnohdgnhdfpaaaGreat.txt Go.Proofs.YtfnohdgnhdfpaaaGreat.str Go.Proofs.YtfnohdgnhdfpaaaGreat.flow Go.Proofs.YtfnohdgnhdfpaaaGreat.whl
set_option linter.unusedVariables false
set_option linter.unusedSimpArgs false
attribute [local go_sem] Oper.semAt_some
theorem wpOpIn_round {F : Fence} {n : Nat} {P : Program} {ops : Array Oper} {Q : Exit → Act → World → Prop} {i : Nat} {K : Act → World → Prop} {a : Act} {w : World} (l : Nat) (hro : F.round = none) (hd : ∀ (j : Nat) (o : Oper), ops[j]? = some o → ∀ c, o.op ≠ .defer c) (h : wpOpIn F n P ops Q i K a w) : wpOpIn (F.inRound l) n P ops Q i K a w := by
  unfold wpOpIn at *
  split
  · rename_i e
    rw [e] at h
    exact h
  · rename_i o e
    simp only [e] at h
    split
    · rename_i hw
      simp only [hw, if_true] at h
      unfold Oper.wpIn at *
      refine ⟨h.1, ?_⟩
      have h := h.2
      rw [hro, Oper.semAt_none] at h
      rw [Fence.inRound_round, Oper.semAt_some l _ o (hd i o e)]
      generalize (execOp a.eval o).run P w = r at *
      cases r with
      | ok x w' => cases x <;> exact h
      | halt x w' => cases x <;> exact h
    · rename_i hw
      simp only [hw] at h
      exact h
theorem wpAnyIn_round {F : Fence} {n : Nat} {P : Program} {md : Region.Mode} {ops : Array Oper} {Q : Exit → Act → World → Prop} (l : Nat) (hro : F.round = none) (hd : ∀ (j : Nat) (o : Oper), ops[j]? = some o → ∀ c, o.op ≠ .defer c) : ∀ (fuel : Nat) (listed : Array Bool) (a : Act) (w : World), wpAnyIn F n P md ops Q fuel listed a w → wpAnyIn (F.inRound l) n P md ops Q fuel listed a w
  | 0, _, _, _, h => h
  | fuel + 1, listed, a, w, h => ⟨h.1, fun i hi => wpOpIn_round l hro hd (wpOpIn_mono (fun a w h => wpAnyIn_round l hro hd fuel _ a w h) (h.2 i hi))⟩
theorem wpIn_region_round {n : Nat} {P : Program} {l : List Oper} {Q : Exit → Act → World → Prop} {id : Nat} {a : Act} {w : World} (r : Nat) (hm : P.follows .mixedOrders = true) (hd : l.all (fun o => match o.op with | .defer _ => false | _ => true) = true)
    (h : wpAnyIn Fence.wide n P .any l.toArray Q l.length (Array.replicate l.length false) a w.drew) : (Code.region id l.toArray true).wpIn (Fence.wide.inRound r) n P Q a w := by
  refine wpIn_region_any hm ?_
  refine wpAnyIn_round r rfl (fun j o hj c hc => ?_) _ _ _ _ h
  have h1 := List.all_eq_true.1 hd o (by simpa using List.mem_of_getElem? (by simpa using hj))
  rw [hc] at h1
  cases h1
theorem IsS.own {w w' : World} {row : Option Nat} {k : IntKind} {v : Value} {l : List Nat} (h : IsS w k v l) (hg : w.grownBy w' row) (hr : ∀ x, row = some x → ∃ o : Obj, w.heap[x]? = some o ∧ o.isCells = false) : IsS w' k v l := by
  obtain ⟨A, c, e, h1, h2, h3⟩ := h
  refine ⟨A, c, e, h1, h2, fun i d hd => ?_⟩
  obtain ⟨ad, h4, h5⟩ := h3 i d hd
  exact ⟨ad, h4, cell_kept h5 hg hr⟩
theorem SlF.own {w w' : World} {row : Option Nat} {k : IntKind} {B : Nat} {v : Value} {r : List Rat} (h : SlF k B w v r) (hg : w.grownBy w' row) (hr : ∀ x, row = some x → ∃ o : Obj, w.heap[x]? = some o ∧ o.isCells = false) : SlF k B w' v r := by
  obtain ⟨ps, h1, ⟨A, c, e1, h2, h3, h4⟩, h5⟩ := h
  refine ⟨ps, h1, ⟨A, c, e1, h2, h3, fun i p hp => ?_⟩, fun p hp => ⟨IsS.own (h5 p hp).1 hg hr, IsS.own (h5 p hp).2 hg hr⟩⟩
  obtain ⟨g', o, e2, c0, c1, c2⟩ := h4 i p hp
  exact ⟨g', o, e2, cell_kept c0 hg hr, cell_kept c1 hg hr, cell_kept c2 hg hr⟩
theorem TabS.ownK {w w' : World} {row : Option Nat} {k : IntKind} {B g : Nat} {TS : TypeId} {us : List Value} {T : List (List Rat)} (h : TabS k B w g TS us T) (hg : w.grownBy w' row) (hr : ∀ x, row = some x → ∃ o : Obj, w.heap[x]? = some o ∧ o.isCells = false) : TabS k B w' g TS us T := by
  refine ⟨h.1.grown hg fun e => ?_, h.2.1, fun i u r hu h2 => SlF.own (h.2.2 i u r hu h2) hg hr⟩
  obtain ⟨o, h1, h2⟩ := hr g e
  have h3 := h.1.1
  unfold Blk at h3
  rw [h1] at h3
  injection h3 with h3
  subst h3
  cases h2
/-- What a round keeps: all that lies below n0 but the table. -/
def KpG (g n0 : Nat) (W W' : World) : Prop := W.heap.size ≤ W'.heap.size ∧ ∀ k, k < n0 → k < W.heap.size → k ≠ g → W'.heap[k]? = W.heap[k]?
theorem KpG.refl (g n0 : Nat) (W : World) : KpG g n0 W W := ⟨Nat.le_refl _, fun _ _ _ _ => rfl⟩
theorem KpG.trans {g n0 : Nat} {A B C : World} (h : KpG g n0 A B) (k : KpG g n0 B C) : KpG g n0 A C :=
  ⟨Nat.le_trans h.1 k.1, fun i hi hl hg => (k.2 i hi (Nat.lt_of_lt_of_le hl h.1) hg).trans (h.2 i hi hl hg)⟩
theorem KpG.cell {g n0 : Nat} {W W' : World} {p : Addr} {v : Value} (h : KpG g n0 W W') (hp : W.cell? p = some v) (hn : p.block < n0) (hg : p.block ≠ g) : W'.cell? p = some v := by
  have h1 := h.2 p.block hn (World.block_lt_of_cell? _ _ hp) hg
  exact (World.cell?_of_block h1).trans hp
/-- What Backward hands a round: a place, and the pivot there. -/
abbrev BkT (ps : List Nat) := { x : Nat × Nat // x.1 < ps.length ∧ x.2 = pv ps x.1 }
def bkE {ps : List Nat} (x : BkT ps) : Array Value := #[.int .i64 (x.1.1 : Int), .int .i64 (x.1.2 : Int)]
/-- From the last one on. -/
def Back {ps : List Nat} (xs : List (BkT ps)) : Prop := ∀ (t : Nat) (x : BkT ps), xs[t]? = some x → x.1.1 + t + 1 = ps.length
theorem Back.snoc {ps : List Nat} {xs : List (BkT ps)} {x : BkT ps} (h : Back xs) (hx : x.1.1 + xs.length + 1 = ps.length) : Back (xs ++ [x]) := fun t y hy => by
  by_cases ht : t < xs.length
  · rw [List.getElem?_append_left ht] at hy; exact h t y hy
  · rw [List.getElem?_append_right (by omega)] at hy
    have e : t - xs.length = 0 := by
      have := (List.getElem?_eq_some_iff.1 hy).1
      simp at this; omega
    rw [e] at hy
    obtain rfl : x = y := by simpa using hy
    omega
theorem Back.init {ps : List Nat} {xs : List (BkT ps)} {x : BkT ps} (h : Back (xs ++ [x])) : Back xs ∧ x.1.1 + xs.length + 1 = ps.length :=
  ⟨fun t y hy => h t y (by rw [List.getElem?_append_left (List.getElem?_eq_some_iff.1 hy).1]; exact hy), h xs.length x (by rw [List.getElem?_append_right (Nat.le_refl _)]; simp)⟩
set_option maxRecDepth 100000 in
set_option maxHeartbeats 2000000 in
theorem back1_in (F : Fence) (n : Nat) (hf : F.fn 140) (hro : F.round = none) (hn : 1 ≤ n) (l Bs g n0 c : Nat) (A : Option Addr) (ps : List Nat) (hps : ps.length ≤ 1000) (J Jx : List (BkT ps) → World → Prop)
    (hY : ∀ pre x W, J pre W → pre.length < ps.length → YieldAt F (n - 1) Tryz.prog l (bkE x) W fun e W' =>
      (e = .returned (.bool true) ∧ J (pre ++ [x]) W' ∧ KpG g n0 W W') ∨ (e = .returned (.bool false) ∧ Jx (pre ++ [x]) W'))
    (W : World) (hBs : W.cell? ⟨Bs, 0, none⟩ = some (.slice A ps.length c)) (hBn : Bs < n0) (hBg : Bs ≠ g) (hc : ∀ i, i < ps.length → ∃ ad, A = some ad ∧ ad.block < n0 ∧ ad.block ≠ g ∧ W.cell? (ad.add i) = some (.int .i64 (pv ps i : Int))) (h0 : J [] W) :
    CallsIn F n Tryz.prog 140 #[.func (.yield l) #[] #[], .pointer (some ⟨Bs, 0, none⟩)] W fun e W' => (∃ v, e = .returned v) ∧
      ((∃ xs : List (BkT ps), (xs.length = ps.length ∧ Back xs) ∧ J xs W') ∨ (∃ pre, True ∧ Jx pre W')) := by
  refine callsIn_of_wp Tryz.func140 rfl hf ?_ hro
  simp only [Tryz.ntmps140, List.size_toArray, List.length_cons, List.length_nil, Nat.reduceAdd, Nat.reduceSub, Array.replicate_succ, Array.replicate_zero, List.push_toArray, List.append_toArray, List.nil_append, List.cons_append]
  gi_wp2
  gi_loopw [3] (fun v3 wr => ∃ (z : Int) (xs : List (BkT ps)), z = (ps.length : Int) - 1 - (xs.length : Int) ∧ xs.length ≤ ps.length ∧ Hid (Back xs) ∧ v3 = .int .i64 z ∧ Hid (J xs wr) ∧ Hid (KpG g n0 W wr)) (fun v3 _ => (intOf v3 + 1).toNat)
  case atStart => exact ⟨_, [], by simp, Nat.zero_le _, (fun t x h => by simp at h), rfl, h0, KpG.refl _ _ _⟩
  case round =>
    obtain ⟨z, xs, hz, hxl, HB, rfl, HJ, HK⟩ := hrel
    have hBr := HK.out.cell hBs hBn hBg
    by_cases hlt : xs.length < ps.length
    · obtain ⟨i, rfl⟩ : ∃ i : Nat, z = i := ⟨ps.length - 1 - xs.length, by omega⟩
      have hip : i < ps.length := by omega
      obtain ⟨ad, rfl, ha1, ha2, ha3⟩ := hc i hip
      have hcx := HK.out.cell ha3 (by unfold Addr.add; split <;> exact ha1) (by unfold Addr.add; split <;> exact ha2)
      obtain ⟨x, hx⟩ : ∃ x : BkT ps, x = ⟨(i, pv ps i), hip, rfl⟩ := ⟨_, rfl⟩
      have hxe : bkE x = #[.int .i64 (i : Int), .int .i64 (pv ps i : Int)] := by rw [hx]; rfl
      have hxi : x.1.1 = i := by rw [hx]
      obtain ⟨fn, tmps, assign, body, hy, hR⟩ := hY xs x wr HJ.out hlt
      rw [hxe] at hy
      have HX := Lib.hid hxi
      have HZ := Lib.hid hz
      clear hx hxe hxi hz ha3 hc
      have h0i : (0 : Int) ≤ (i : Int) := by omega
      gi_wp2
      refine hR.mono ?_
      rintro e W3 (⟨rfl, hJ3, hk3⟩ | ⟨rfl, hJx3⟩)
      · have HB3 : Hid (Back (xs ++ [x])) := HB.out.snoc (by rw [HX.out]; have := HZ.out; omega)
        have HK3 : Hid (KpG g n0 W W3) := HK.out.trans hk3
        have HJ3 := Lib.hid hJ3
        clear hJ3 hk3
        gi_wp2
        go_roundw
        case rel => exact ⟨(i : Int) - 1, xs ++ [x], by (have := HZ.out; first | (simp; omega) | (simp; done) | omega), by simp; omega, HB3, by go_num, HJ3, HK3⟩
        case measure => first | (simp [intOf]; omega) | (simp [intOf]; done)
      · gi_wp2
        refine bodyPost_ret (results_none rfl _ _ _) rfl ?_
        exact ⟨⟨_, rfl⟩, .inr ⟨_, trivial, hJx3⟩⟩
    · have hz0 : ¬ (0 : Int) ≤ z := by omega
      have hxe : xs.length = ps.length := by omega
      have HXE := Lib.hid hxe
      clear hxe
      gi_wp2
      go_end0
      exact ⟨⟨_, rfl⟩, .inl ⟨xs, ⟨HXE.out, HB.out⟩, HJ.out⟩⟩
set_option maxHeartbeats 1000000 in
theorem back_in (F : Fence) (n : Nat) (hf : F.fn 104) (hro : F.round = none) (a : Option Addr) (len cap : Nat) (w : World) :
    CallsIn F n Tryz.prog 104 #[.slice a len cap] w fun e w' => e = .returned (.func (.func 140) #[] #[.pointer (some ⟨w.heap.size, 0, none⟩)]) ∧ w' = w.alloc (.cells #[.slice a len cap] 26) := by
  refine callsIn_of_wp Tryz.func104 rfl hf ?_ hro
  simp only [Tryz.ntmps104, List.size_toArray, List.length_cons, List.length_nil, Nat.reduceAdd, Nat.reduceSub, Array.replicate_succ, Array.replicate_zero, List.push_toArray, List.append_toArray, List.nil_append, List.cons_append]
  gi_wp2
  go_ret
  exact ⟨rfl, rfl⟩
theorem back_stops (F : Fence) (n : Nat) (hf : F.fn 140) (hro : F.round = none) (hn : 1 ≤ n) (Bs g c : Nat) (A : Option Addr) (ps : List Nat) (hps : ps.length ≤ 1000) (w : World)
    (hBs : w.cell? ⟨Bs, 0, none⟩ = some (.slice A ps.length c)) (hBg : Bs ≠ g) (hc : ∀ i, i < ps.length → ∃ ad, A = some ad ∧ ad.block ≠ g ∧ w.cell? (ad.add i) = some (.int .i64 (pv ps i : Int))) :
    SeqStopsK F n Tryz.prog 140 #[.pointer (some ⟨Bs, 0, none⟩)] (bkE (ps := ps)) (KpG g w.heap.size) (fun xs => xs.length = ps.length ∧ Back xs) (fun _ => True) ps.length w := fun l J Jx W hW _ _ hY h0 => by
  have hB1 := World.block_lt_of_cell? _ _ hBs
  exact back1_in F n hf hro hn l Bs g w.heap.size c A ps hps J Jx hY W ((hW.cell hB1).trans hBs) hB1 hBg (fun i hi => by
    obtain ⟨ad, e, h1, h2⟩ := hc i hi
    have h3 := World.block_lt_of_cell? _ _ h2
    have h4 : (ad.add i).block = ad.block := by unfold Addr.add; split <;> rfl
    exact ⟨ad, e, by rw [← h4]; exact h3, h1, (hW.cell h3).trans h2⟩) h0
/-- What up has, when the rounds xs are over. -/
def UpI (T0 : List (List Rat)) (g n C a S : Nat) (ps : List Nat) (w : World) (xs : List (BkT ps)) (W : World) : Prop := ∃ (us : List Value) (T : List (List Rat)) (S' : Nat), shp T n C ∧ rowsL T S' ∧ S' + 1 ≤ (S + 1) * 2 ^ xs.length ∧ TabS .u64 4294967296 W g 64 us T ∧ (Back xs → Upw T0 T n C a ps (ps.length - xs.length) S) ∧ W.cell? ⟨w.heap.size, 0, none⟩ = some (.slice (some ⟨g, 0, none⟩) n n) ∧ w.grownBy W (some g)
theorem UpI.ownFrom (T0 : List (List Rat)) (g n C a S : Nat) (ps : List Nat) (w : World) {B : Nat} (hB : w.heap.size ≤ B) : OwnFrom B (UpI T0 g n C a S ps w) := fun xs W W' row h hg hr => by
  obtain ⟨us, T, S', h1, h2, h3, h4, h5, h6, h7⟩ := h
  have hr2 : ∀ x, row = some x → ∃ o : Obj, W.heap[x]? = some o ∧ o.isCells = false := fun x e => (hr x e).2
  refine ⟨us, T, S', h1, h2, h3, TabS.ownK h4 hg hr2, h5, cell_kept h6 hg hr2, ?_⟩
  cases e : row with
  | none => rw [e] at hg; exact below_grown h7 ⟨hg.os, hg.tape, hg.output, hg.size, fun k hk => hg.block k hk (by simp)⟩
  | some x => rw [e] at hg; exact grown_new h7 hg (Nat.le_trans hB (hr x e).1)
def RetUp (T0 : List (List Rat)) (g n C a S : Nat) (ps : List Nat) (w : World) (e : Ending) (w' : World) : Prop := e = .returned (.tuple #[]) ∧ ∃ us T, Upw T0 T n C a ps 0 S ∧ TabS .u64 4294967296 w' g 64 us T ∧ w.grownBy w' (some g)
set_option maxRecDepth 100000 in
set_option maxHeartbeats 4000000 in
theorem gup_any (g n C a S c6 : Nat) (A6 : Option Addr) (us : List Value) (ps : List Nat) (T0 T : List (List Rat)) (w : World) (h : TabS .u64 4294967296 w g 64 us T) (hp : ∀ i, i < ps.length → ∃ ad, A6 = some ad ∧ ad.block ≠ g ∧ w.cell? (ad.add i) = some (.int .i64 (pv ps i : Int)))
    (hc : Hid (shp T n C ∧ a ≤ C ∧ n ≤ 5 ∧ C ≤ 1000 ∧ rowsL T S ∧ (S + 1) * 2 ^ (ps.length - 1) ≤ 2450 ∧ Ech n a (entF T) ps.length (pv ps) ∧ KerEq n C (entF T0) (entF T))) :
    Calls Tryz.prog 50 #[.slice (some ⟨g, 0, none⟩) n n, .slice A6 ps.length c6] w (RetUp T0 g n C a S ps w) := by
  have hle := hc.out.2.2.2.2.2.2.1.le
  have hn5 := hc.out.2.2.1
  have hC := hc.out.2.2.2.1
  have hgl := h.lt
  refine (callsIn_wide (n := 3)).1 ?_
  refine callsIn_of_wp_marks Tryz.func50 rfl trivial ?_ rfl
  simp only [Tryz.ntmps50, List.size_toArray, List.length_cons, List.length_nil, Nat.reduceAdd, Nat.reduceSub, Array.replicate_succ, Array.replicate_zero, List.push_toArray, List.append_toArray, List.nil_append, List.cons_append]
  gi_wp2
  refine ⟨trivial, ?_⟩
  gi_at_call 104
  refine (back_in Fence.wide _ trivial rfl _ _ _ _).mono ?_
  rintro e w' ⟨rfl, rfl⟩
  gi_wp2
  have hgr0 : w.grownBy ((w.alloc (.cells #[.slice (some ⟨g, 0, none⟩) n n] 22)).alloc (.cells #[.slice A6 ps.length c6] 26)) none := (World.grownBy_alloc _ _ none).trans (World.grownBy_alloc _ _ none)
  have hs : ((w.alloc (.cells #[.slice (some ⟨g, 0, none⟩) n n] 22)).alloc (.cells #[.slice A6 ps.length c6] 26)).cell? ⟨w.heap.size, 0, none⟩ = some (.slice (some ⟨g, 0, none⟩) n n) :=
    cell_kept (by rw [World.cell?_alloc_new]; rfl) (World.grownBy_alloc _ _ none) (fun r e => by cases e)
  have hb : ((w.alloc (.cells #[.slice (some ⟨g, 0, none⟩) n n] 22)).alloc (.cells #[.slice A6 ps.length c6] 26)).cell? ⟨w.heap.size + 1, 0, none⟩ = some (.slice A6 ps.length c6) := by
    have := World.cell?_alloc_new (w := w.alloc (.cells #[.slice (some ⟨g, 0, none⟩) n n] 22)) #[.slice A6 ps.length c6] 26 0
    rw [World.size_alloc] at this
    exact this
  have hT0 := TabS.ownK h hgr0 (fun x e => by cases e)
  obtain ⟨W0, hW0⟩ : ∃ W0, ((w.alloc (.cells #[.slice (some ⟨g, 0, none⟩) n n] 22)).alloc (.cells #[.slice A6 ps.length c6] 26)) = W0 := ⟨_, rfl⟩
  have hsz : W0.heap.size = w.heap.size + 2 := by rw [← hW0]; simp
  rw [hW0] at hgr0 hs hb hT0 ⊢
  refine wpIn_rangeFunc_ownF rfl (by omega) (gf := 140) (lb := #[.pointer (some ⟨w.heap.size + 1, 0, none⟩)]) rfl trivial (enters_of Tryz.func140 (by kernel_rfl) rfl)
    (back_stops Fence.wide _ trivial rfl (by omega) (w.heap.size + 1) g c6 A6 ps (by omega) W0 hb (by omega) (fun i hi => by
      obtain ⟨ad, e, h1, h2⟩ := hp i hi
      exact ⟨ad, e, h1, cell_kept h2 hgr0 (fun r e => by cases e)⟩))
    KpG.trans (fun W l o o' hl hW ho hwk => ⟨(grownBy_putObj' W l o').size, fun k hk hkw hkg => (grownBy_putObj' W l o').block k hkw (fun e => by injection e with e; omega)⟩) (Below.refl _ _) (fun _ => rfl)
    (UpI T0 g n C a S ps w) (fun _ _ _ => False)
    (UpI.ownFrom T0 g n C a S ps w (by omega))
    (fun _ _ _ _ _ hs _ _ => hs)
    ⟨us, T, S, hc.out.1, hc.out.2.2.2.2.1, by simp, hT0, fun _ => Upw.start hc.out.1 hc.out.2.2.2.2.2.2.1 hc.out.2.2.2.2.2.2.2 hc.out.2.2.2.2.1, hs, ⟨hgr0.os, hgr0.tape, hgr0.output, hgr0.size, fun k hk _ => hgr0.block k hk (by simp)⟩⟩
    (fun x => { tmps := #[.slice (some ⟨g, 0, none⟩) n n, .slice A6 ps.length c6, .pointer (some ⟨w.heap.size, 0, none⟩), undef, .int .i64 (x.1.1 : Int), .int .i64 (x.1.2 : Int), .slice A6 ps.length c6, .func (.func 140) #[] #[.pointer (some ⟨w.heap.size + 1, 0, none⟩)], .int .i64 (x.1.1 : Int), .int .i64 (x.1.2 : Int), undef, undef, undef, undef, undef, undef, undef, undef, undef], defers := [] }) ?assign ?body ?done ?stop
  case assign =>
    intro l x W K hK
    simp only [bkE]
    gi_wp2
    exact hK
  case body =>
    rintro l pre x W ⟨us1, T1, S1, q1, q2, q3, q4, q5, q6, q7⟩ hlen
    obtain ⟨⟨i, p⟩, hip, hpe⟩ := x
    dsimp only at hip hpe
    subst hpe
    obtain ⟨r, hr, hrl⟩ := row_ex q1 (show i < n by omega)
    obtain ⟨Ar, cr, hu, hcl, hsr⟩ := q4.at_ hr
    have HQ := Lib.hid (And.intro q1 (And.intro q2 (And.intro q3 q5)))
    have hS1 : Hid (S1 + S1 ≤ 4900) := by
      have e2 : (S + 1) * 2 ^ pre.length ≤ (S + 1) * 2 ^ (ps.length - 1) := Nat.mul_le_mul_left _ (Nat.pow_le_pow_right (by omega) (by omega))
      have e3 := hc.out.2.2.2.2.2.1
      exact (by omega : S1 + S1 ≤ 4900)
    have hai : pv ps i < C := Nat.lt_of_lt_of_le (hc.out.2.2.2.2.2.2.1.lt i hip) hc.out.2.1
    obtain ⟨b, hbp⟩ : ∃ b, b = pv ps i := ⟨_, rfl⟩
    have HBP := Lib.hid hbp
    have CC : ∀ w', TabS .u64 4294967296 w' g 64 us1 T1 → SlF .u64 4294967296 w' (.slice Ar r.length cr) r → Calls Tryz.prog 103 #[.slice (some ⟨g, 0, none⟩) i n, .slice Ar r.length cr, .int .i64 (pv ps i : Int)] w' (RetClr g us1 (upT T1 i (pv ps i)) w') := fun w' k1 k2 => by
      have := gclear_any g 0 i n (pv ps i) n C S1 us1 (.slice Ar r.length cr) r T1 (fun _ => true) w' k1 k2 ⟨HQ.out.1, hrl, hai, by omega, by omega, by omega, hC, fun i hi => absurd hi (by omega), fun _ _ _ => rfl, HQ.out.2.1, HQ.out.2.1 r (List.mem_of_getElem? hr), fun _ => hS1.out⟩
      rw [Nat.zero_add] at this
      unfold upT
      rw [getT hr]
      exact this
    rw [hrl] at hu hcl hsr CC
    have HRL := Lib.hid (And.intro hr hrl)
    have hin : i ≤ n := by omega
    have hin2 : i < n := by omega
    have hmix : Tryz.prog.follows .mixedOrders = true := by kernel_rfl
    have fin : ∀ (a' : Act) (W' : World) (us2 : List Value), TabS .u64 4294967296 W' g 64 us2 (upT T1 i (pv ps i)) → W.drew.grownBy W' (some g) → ownPostK (KpG g W0.heap.size) (UpI T0 g n C a S ps w) (fun _ _ _ => False) (pre ++ [(⟨(i, pv ps i), hip, rfl⟩ : BkT ps)]) W .normal a' W' := fun a' W' us2 k1 k2 => by
      have G : W.grownBy W' (some g) := (below_grown (grown_refl W (some g)) (Below.refl _ W).drew).trans k2
      have hgW := q4.1.1
      have hgl2 := q4.lt
      unfold Blk at hgW
      obtain ⟨e1, e2, e3, e4⟩ := HQ.out
      refine ⟨KeepsOthers.of_grownBy G (fun j o e hj => by cases e; rw [hgW] at hj; cases hj; rfl), ⟨G.size, fun k hk hl hkg => G.block k hl (fun e => by injection e with e; omega)⟩, ?_⟩
      refine ⟨us2, _, S1 + S1 + 1, ?_, ?_, ?_, k1, fun hB => ?_, (World.cell?_of_block (G.block w.heap.size (World.block_lt_of_cell? _ _ q6) (fun e => by injection e with e; omega))).trans q6, q7.trans G⟩
      · unfold upT
        rw [getT hr]
        exact clrM_shp e1 hrl i (by omega)
      · unfold upT
        rw [getT hr]
        exact clrM_rows e1 hai e2 (e2 r (List.mem_of_getElem? hr)) i (by omega)
      · rw [List.length_append]
        exact two_pow_step e3
      · obtain ⟨b1, b2⟩ := Back.init hB
        have b3 : i + pre.length + 1 = ps.length := b2
        have u1 := e4 b1
        rw [show ps.length - pre.length = i + 1 by omega] at u1
        have u2 := u1.step hc.out.2.1 hip
        rw [show ps.length - (pre ++ [(⟨(i, pv ps i), hip, rfl⟩ : BkT ps)]).length = i by rw [List.length_append]; simp only [List.length_cons, List.length_nil]; omega]
        exact u2
    have hcall : Calls Tryz.prog 103 #[.slice (some ⟨g, 0, none⟩) i n, .slice Ar C cr, .int .i64 (pv ps i : Int)] W.drew (RetClr g us1 (upT T1 i (pv ps i)) W.drew) := CC W.drew q4.drew hsr.drew
    clear CC HQ q4 hsr q1 q2 q3 q5 hS1 hai hp hT0 hb hs hgr0 hc
    obtain ⟨QQ, hQQ⟩ : ∃ QQ, QQ = ownPostK (KpG g W0.heap.size) (UpI T0 g n C a S ps w) (fun _ _ _ => False) (pre ++ [(⟨(i, pv ps i), hip, rfl⟩ : BkT ps)]) W := ⟨_, rfl⟩
    rw [← hQQ] at fin
    have HPAN : ∀ c a a' w, QQ (.panic c) a w → QQ (.panic c) a' w := by rw [hQQ]; exact fun _ _ _ _ h => h
    show Code.wpIn _ _ _ _ (ownPostK (KpG g W0.heap.size) (UpI T0 g n C a S ps w) (fun _ _ _ => False) (pre ++ [(⟨(i, pv ps i), hip, rfl⟩ : BkT ps)]) W) _ _
    rw [← hQQ]
    clear hQQ
    gi_wp2
    have HPN : ∀ (o : Option Nat) (v : Value) c a w, Exit.inBlock 1 QQ (.panic c) (a.put o v) w → Exit.inBlock 1 QQ (.panic c) a w := fun o v c a w h => HPAN c _ a w h
    refine wpIn_region_round l hmix (by kernel_rfl) ?_
    change wpAnyIn Fence.wide 1 Tryz.prog .any _ _ 9 #[false, false, false, false, false, false, false, false, false] _ _
    refine wpAnyIn_take (i := 1) (v := ?_) rfl rfl (by kernel_rfl) (by kernel_rfl) (by kernel_rfl) (HPN _ _) ⟨Or.inl ⟨by rfl, ?_⟩, fun _ => rfl⟩ ?_
    rotate_left
    · intro w
      go_simp
      try with_reducible rfl
    refine wpAnyIn_take (i := 4) (v := ?_) rfl rfl (by kernel_rfl) (by kernel_rfl) (by kernel_rfl) (HPN _ _) ⟨Or.inl ⟨by rfl, ?_⟩, fun _ => rfl⟩ ?_
    rotate_left
    · intro w
      go_simp
      try with_reducible rfl
    refine wpAnyIn_take (i := 7) (v := ?_) rfl rfl (by kernel_rfl) (by kernel_rfl) (by kernel_rfl) (HPN _ _) ⟨Or.inl ⟨by rfl, ?_⟩, fun _ => rfl⟩ ?_
    rotate_left
    · intro w
      go_simp
      try with_reducible rfl
    refine wpAnyIn_ready (rs := [0, 3]) (by kernel_rfl) (by simp) ?_
    refine AllReadyIn.cons rfl (fun K hK => ?_) ?_
    · go_simp
      refine hK _ _ ?_
      clear hK K
      refine wpAnyIn_take (i := 2) (v := ?_) rfl rfl (by kernel_rfl) (by kernel_rfl) (by kernel_rfl) (HPN _ _) ⟨Or.inl ⟨by rfl, ?_⟩, fun _ => rfl⟩ ?_
      rotate_left
      · intro w
        go_simp
        try with_reducible rfl
      refine wpAnyIn_ready (rs := [3]) (by kernel_rfl) (by simp) ?_
      refine AllReadyIn.cons rfl (fun K hK => ?_) ?_
      · go_simp
        refine hK _ _ ?_
        clear hK K
        refine wpAnyIn_take (i := 5) (v := ?_) rfl rfl (by kernel_rfl) (by kernel_rfl) (by kernel_rfl) (HPN _ _) ⟨Or.inl ⟨by rfl, ?_⟩, fun _ => rfl⟩ ?_
        rotate_left
        · intro w
          go_simp
          try with_reducible rfl
        refine wpAnyIn_ready (rs := [6]) (by kernel_rfl) (by simp) ?_
        refine AllReadyIn.cons rfl (fun K hK => ?_) ?_
        · go_simp
          refine hK _ _ ?_
          clear hK K
          refine wpAnyIn_ready (rs := [8]) (by kernel_rfl) (by simp) ?_
          refine AllReadyIn.cons rfl (fun K hK => ?_) AllReadyIn.nil
          go_simp
          refine ⟨trivial, ?_⟩
          refine (callsIn_wide.2 hcall).mono ?_
          rintro e w' ⟨rfl, us2, k1, k2, -⟩
          refine hK _ _ ?_
          refine wpAnyIn_done (by kernel_rfl) ?_ _
          exact fin _ _ us2 k1 k2
        exact AllReadyIn.nil
      exact AllReadyIn.nil
    refine AllReadyIn.cons rfl (fun K hK => ?_) ?_
    · go_simp
      refine hK _ _ ?_
      clear hK K
      refine wpAnyIn_take (i := 5) (v := ?_) rfl rfl (by kernel_rfl) (by kernel_rfl) (by kernel_rfl) (HPN _ _) ⟨Or.inl ⟨by rfl, ?_⟩, fun _ => rfl⟩ ?_
      rotate_left
      · intro w
        go_simp
        try with_reducible rfl
      refine wpAnyIn_ready (rs := [0, 6]) (by kernel_rfl) (by simp) ?_
      refine AllReadyIn.cons rfl (fun K hK => ?_) ?_
      · go_simp
        refine hK _ _ ?_
        clear hK K
        refine wpAnyIn_take (i := 2) (v := ?_) rfl rfl (by kernel_rfl) (by kernel_rfl) (by kernel_rfl) (HPN _ _) ⟨Or.inl ⟨by rfl, ?_⟩, fun _ => rfl⟩ ?_
        rotate_left
        · intro w
          go_simp
          try with_reducible rfl
        refine wpAnyIn_ready (rs := [6]) (by kernel_rfl) (by simp) ?_
        refine AllReadyIn.cons rfl (fun K hK => ?_) ?_
        · go_simp
          refine hK _ _ ?_
          clear hK K
          refine wpAnyIn_ready (rs := [8]) (by kernel_rfl) (by simp) ?_
          refine AllReadyIn.cons rfl (fun K hK => ?_) AllReadyIn.nil
          go_simp
          refine ⟨trivial, ?_⟩
          refine (callsIn_wide.2 hcall).mono ?_
          rintro e w' ⟨rfl, us2, k1, k2, -⟩
          refine hK _ _ ?_
          refine wpAnyIn_done (by kernel_rfl) ?_ _
          exact fin _ _ us2 k1 k2
        exact AllReadyIn.nil
      refine AllReadyIn.cons rfl (fun K hK => ?_) ?_
      · go_simp
        refine hK _ _ ?_
        clear hK K
        refine wpAnyIn_ready (rs := [0]) (by kernel_rfl) (by simp) ?_
        refine AllReadyIn.cons rfl (fun K hK => ?_) ?_
        · go_simp
          refine hK _ _ ?_
          clear hK K
          refine wpAnyIn_take (i := 2) (v := ?_) rfl rfl (by kernel_rfl) (by kernel_rfl) (by kernel_rfl) (HPN _ _) ⟨Or.inl ⟨by rfl, ?_⟩, fun _ => rfl⟩ ?_
          rotate_left
          · intro w
            go_simp
            try with_reducible rfl
          refine wpAnyIn_ready (rs := [8]) (by kernel_rfl) (by simp) ?_
          refine AllReadyIn.cons rfl (fun K hK => ?_) AllReadyIn.nil
          go_simp
          refine ⟨trivial, ?_⟩
          refine (callsIn_wide.2 hcall).mono ?_
          rintro e w' ⟨rfl, us2, k1, k2, -⟩
          refine hK _ _ ?_
          refine wpAnyIn_done (by kernel_rfl) ?_ _
          exact fin _ _ us2 k1 k2
        exact AllReadyIn.nil
      exact AllReadyIn.nil
    exact AllReadyIn.nil
  case done =>
    rintro D xs W hD ⟨hxl, hB⟩ ⟨us1, T1, S1, q1, q2, q3, q4, q5, q6, q7⟩ hK
    have hup := q5 hB
    rw [show ps.length - xs.length = 0 by omega] at hup
    have hDl : ∃ o : Obj, W.heap[D]? = some o ∧ o.isCells = false := ⟨_, hK, rfl⟩
    refine ⟨by simp, .inl ⟨_, _, rfl, run_takeDeferred hK, ?_⟩⟩
    refine ⟨_, results_none rfl _ _ _, rfl, us1, T1, hup, TabS.ownK q4 (grownBy_putObj' W D (.deferred none)) (fun x e => by cases e; exact hDl), ?_⟩
    exact grown_new q7 (grownBy_putObj' W D (.deferred none)) (by omega)
  case stop =>
    rintro D c pre W _ _ h _
    exact h.elim
theorem shp_of {T : List (List Rat)} (h : mayq T) : shp T T.length (wideq T) := ⟨rfl, h.2.2⟩
theorem pI_at {ps : List Nat} {i : Nat} (h : i < ps.length) : (pI ps)[i]? = some (.int .i64 (pv ps i : Int)) := by
  unfold pI vi pv
  rw [List.map_map, List.getElem?_map, List.getElem?_eq_getElem h]
  simp [List.getD_eq_getElem?_getD, h]
theorem RowX.pvs {w : World} {base g m c : Nat} {TS : TypeId} {us : List Value} {A : Option Addr} {ps : List Nat} (h : RowX isI w base 3 (.slice A m c) (pI ps)) (hT : TabB w g TS us) (hne : 3 ≠ TS) : ∀ i, i < ps.length → ∃ ad, A = some ad ∧ ad.block ≠ g ∧ w.cell? (ad.add i) = some (.int .i64 (pv ps i : Int)) := fun i hi => by
  have hn := h.notTab hT hne
  rcases h.1.2 with ⟨e, h0⟩ | ⟨g', cap, cur, e, _⟩
  · rw [pI_len] at h0; omega
  · have e2 := e
    injection e2 with e1 e2 e3
    subst e1
    have hc := h.1
    rw [e] at hc
    refine ⟨_, rfl, fun e4 => hn (by rw [← e4]; rfl), ?_⟩
    rw [addr_zero]
    exact hc.cellAt (pI_at hi)
theorem RowX.weak {S : Value → Prop} {w : World} {base base' : Nat} {e : TypeId} {v : Value} {vs : List Value} (h : RowX S w base e v vs) (hb : base' ≤ base) : RowX S w base' e v vs := ⟨RowV.weak h.1 hb, h.2⟩
theorem pow_cut {S n m : Nat} (h : m ≤ n) : (S + 1) * 2 ^ m ≤ (S + 1) * 2 ^ n := Nat.mul_le_mul_left _ (Nat.pow_le_pow_right (by omega) h)
/-- What Reduce hands back. -/
structure RedE (T0 : List (List Rat)) (n C S : Nat) (w : World) (g : Nat) (v : Value) (w' : World) (T : List (List Rat)) (us : List Value) (ps : List Nat) : Prop where
  sh : shp T n C
  ech : Ech n C (entF T) ps.length (pv ps)
  red : Red n (entF T) ps.length (pv ps) 0
  ker : KerEq n C (entF T0) (entF T)
  len : ∃ S', rowsL T S' ∧ S' + 1 ≤ (S + 1) * 2 ^ (n - 1) * 2 ^ (n - 1)
  tab : TabS .u64 4294967296 w' g 64 us T
  piv : RowX isI w' w.heap.size 3 v (pI ps)
  bel : Below w.heap.size w w'
  lo : w.heap.size ≤ g
def GssOk (T : List (List Rat)) (S : Nat) : Prop := T.length ≤ 5 ∧ wideq T ≤ 200 ∧ rowsL T S ∧ S ≤ 100000 ∧ (S + 1) * 2 ^ (T.length - 1) ≤ 400 ∧ (S + 1) * 2 ^ (T.length - 1) * 2 ^ (T.length - 1) ≤ 2450
set_option maxHeartbeats 3200000 in
set_option maxRecDepth 100000 in
theorem greduce_any (a0 : Value) (T : List (List Rat)) (S : Nat) (w : World) (h0 : SlT .u64 4294967296 w a0 T) (hc : Hid (GssOk T S)) :
    Calls Tryz.prog 9 #[a0] w (fun e w' => (mayq T ∧ ∃ g v T' us ps, e = .returned (.tuple #[.slice (some ⟨g, 0, none⟩) T.length T.length, v, .int .i64 0]) ∧ RedE T T.length (wideq T) S w g v w' T' us ps) ∨ (¬ mayq T ∧ e = .returned (.tuple #[.slice none 0 0, .slice none 0 0, .int .i64 8]) ∧ Below w.heap.size w w')) := by
  have st0 := h0
  obtain ⟨A0, c0, rfl, hc0, hm0⟩ := h0.shape
  obtain ⟨n, hn⟩ : ∃ n, n = T.length := ⟨_, rfl⟩
  obtain ⟨C, hC⟩ : ∃ C, C = wideq T := ⟨_, rfl⟩
  have HST := Lib.hid st0
  clear h0 st0 hc0 hm0
  go_enter Tryz.func9, Tryz.ntmps9
  go_wp2_with fail
  refine (tbown_any _ T _ HST.out ⟨hc.out.2.1, by have := hc.out.1; omega, hc.out.2.2.1.len.mono hc.out.2.2.2.1⟩).mono ?_
  rintro e w2 (⟨hm, g, us, pss, rfl, hT, hV, hU, hg, b2⟩ | ⟨hm, V, rfl, hS, b2⟩)
  · have TS := TabO.tabS hT hU
    rw [hV] at TS
    rw [← hn]
    rw [← hn] at hU
    have HM := Lib.hid hm
    have HH := Lib.hid (And.intro hn hC)
    have sl := TS.slT hn.symm (by have := hc.out.1; omega)
    clear hT hV hn hC hm
    go_wp2_with fail
    refine (msize_any _ T _ sl).mono ?_
    rintro e w3 ⟨rfl, b3⟩
    rw [← HH.out.1, ← HH.out.2]
    have TS3 := TS.below b3
    have b23 := b2.trans (b3.mono b2.size)
    clear sl TS b3 b2
    go_wp2_with fail
    refine (gdown_any g n C C S us T _ TS3 ⟨by rw [HH.out.1, HH.out.2]; exact shp_of HM.out, Nat.le_refl _, by rw [HH.out.1]; exact hc.out.1, by rw [HH.out.2]; have := hc.out.2.1; omega, hc.out.2.2.1, by rw [HH.out.1]; exact hc.out.2.2.2.2.1⟩).mono ?_
    rintro e w4 ⟨v, v5, T4, us4, ps, d, rfl, hD⟩
    obtain ⟨dwn, tab, piv, num, len, own⟩ := hD
    obtain ⟨u, t, rfl, su, st⟩ := num
    obtain ⟨Au, cu, rfl, _⟩ := id su
    obtain ⟨At, ct, rfl, _⟩ := id st
    obtain ⟨A6, c6, e6⟩ := RowV.slice piv.1
    rw [pI_len] at e6
    subst e6
    have hpn : ps.length ≤ n := dwn.ech.le
    have b24 := b23.grown own b23.size (fun k e => by cases e; exact hg)
    obtain ⟨S1, r1, hS1⟩ := dwn.len
    have hp1 := pow_cut (S := S) (show min ps.length (n - 1) ≤ n - 1 by omega)
    have hp2 := pow_cut (S := S1) (show ps.length - 1 ≤ n - 1 by omega)
    have hm2 : (S1 + 1) * 2 ^ (n - 1) ≤ (S + 1) * 2 ^ (n - 1) * 2 ^ (n - 1) := Nat.mul_le_mul_right _ (Nat.le_trans hS1 hp1)
    have hq1 := hc.out.2.2.2.2.2
    rw [← HH.out.1] at hq1
    have HB := Lib.hid (And.intro hp1 (And.intro hp2 (And.intro hm2 (And.intro hq1 hS1))))
    clear hp1 hp2 hm2 hq1 hS1
    have ba := below_alloc (w := w4) (Nat.le_refl _) (.cells #[.bool (ngB d.num), .slice Au (digs 4294967296 d.num.natAbs).length cu, .slice At (digs 4294967296 d.den).length ct] 44)
    have tab4 := tab.below ba
    have piv4 := (piv.below ba).weak b23.size
    have b25 := b24.trans (ba.mono b24.size)
    have HDW := Lib.hid dwn
    have HR1 := Lib.hid r1
    clear tab piv ba dwn r1 su st own TS3 b23 b24
    go_wp2_with fail
    have cu := gup_any g n C C S1 c6 A6 us4 ps T T4 _ tab4 (piv4.pvs tab4.1 (by decide)) ⟨HDW.out.sh, Nat.le_refl _, by rw [HH.out.1]; exact hc.out.1, by rw [HH.out.2]; have := hc.out.2.1; omega, HR1.out, by have := HB.out; omega, HDW.out.ech, HDW.out.ker⟩
    refine cu.mono ?_
    rintro e w6 ⟨rfl, us6, T6, hU6, tab6, own6⟩
    have piv6 := piv4.grown own6 (fun x e1 e2 => piv4.notTab tab4.1 (by decide) (by rw [e1, e2]))
    have b26 := b25.grown own6 b25.size (fun k e => by cases e; exact hg)
    clear cu piv4 tab4
    go_wp2
    go_ret3
    refine .inl ⟨HM.out, g, .slice A6 ps.length c6, T6, us6, ps, ?_, ?_⟩
    · rw [← HH.out.1]
      rfl
    · rw [← HH.out.1, ← HH.out.2]
      obtain ⟨S2, r2, hS2⟩ := hU6.len
      refine ⟨hU6.sh, hU6.ech, hU6.red, hU6.ker, ⟨S2, r2, Nat.le_trans hS2 ?_⟩, tab6, piv6, b26, hg⟩
      have := pow_cut (S := S1) (show ps.length - max 0 1 ≤ n - 1 by omega)
      have := HB.out
      omega
  · rw [if_neg (by decide)] at hS
    obtain ⟨AV, cV, rfl, -, -⟩ := hS.shape
    have HN := Lib.hid hm
    clear hm
    go_wp2
    go_ret3
    exact .inr ⟨HN.out, rfl, b2⟩
/-- Places, read. -/
def PvI (w : World) (v : Value) (ps : List Nat) : Prop := ∃ A c, v = .slice A ps.length c ∧ ∀ i, i < ps.length → ∃ ad, A = some ad ∧ w.cell? (ad.add i) = some (.int .i64 (pv ps i : Int))
theorem PvI.below {w w' : World} {v : Value} {ps : List Nat} (h : PvI w v ps) (hb : Below w.heap.size w w') : PvI w' v ps := by
  obtain ⟨A, c, e, h1⟩ := h
  refine ⟨A, c, e, fun i hi => ?_⟩
  obtain ⟨ad, e2, h2⟩ := h1 i hi
  exact ⟨ad, e2, (hb.cell (World.block_lt_of_cell? _ _ h2)).trans h2⟩
theorem RowX.pvI {w : World} {base : Nat} {v : Value} {ps : List Nat} (h : RowX isI w base 3 v (pI ps)) : PvI w v ps := by
  obtain ⟨A, c, e⟩ := RowV.slice h.1
  rw [pI_len] at e
  subst e
  refine ⟨A, c, rfl, fun i hi => ?_⟩
  rcases h.1.2 with ⟨e, h0⟩ | ⟨g', cap, cur, e, _⟩
  · rw [pI_len] at h0; omega
  · have e2 := e
    injection e2 with e1 e2 e3
    subst e1
    have hc := h.1
    rw [e] at hc
    refine ⟨_, rfl, ?_⟩
    rw [addr_zero]
    exact hc.cellAt (pI_at hi)
set_option maxHeartbeats 1600000 in
set_option maxRecDepth 100000 in
theorem sameints_any (a0 a1 : Value) (ps qs : List Nat) (w : World) (h0 : PvI w a0 ps) (h1 : PvI w a1 qs) (hm : ps.length ≤ 1000) :
    Calls Tryz.prog 16 #[a0, a1] w (RetV (.bool (decide (ps = qs))) w) := by
  have st0 := h0
  have st1 := h1
  obtain ⟨A0, c0, rfl, _⟩ := h0
  obtain ⟨A1, c1, rfl, _⟩ := h1
  go_enter Tryz.func16, Tryz.ntmps16
  by_cases hl : ps.length = qs.length
  · rw [← hl] at st1 ⊢
    have HLQ := Lib.hid hl
    clear hl
    go_wp2
    go_loopw [5] (fun v5 wr => ∃ k : Nat, k ≤ ps.length ∧ Hid (∀ i, i < k → pv ps i = pv qs i) ∧ Below w.heap.size w wr ∧ v5 = .int .i64 (k : Int)) (fun v5 _ => ps.length - (intOf v5).toNat)
    case atStart => exact ⟨0, by omega, (by show ∀ i, _; intro i hi; omega), Below.refl _ _, rfl⟩
    case round =>
      obtain ⟨k, hk, HZ, bb, rfl⟩ := hrel
      by_cases hlt : k < ps.length
      · obtain ⟨A, c, e, hA⟩ := st0.below bb
        injection e with e1 _ e3
        subst e1; subst e3
        obtain ⟨A', c', e, hA'⟩ := st1.below bb
        injection e with e1 _ e3
        subst e1; subst e3
        obtain ⟨ad, rfl, k0⟩ := hA k hlt
        obtain ⟨ad', rfl, k1⟩ := hA' k (by have := HLQ.out; omega)
        have bd := bb.drew
        obtain ⟨x, hx⟩ : ∃ x, x = pv ps k := ⟨_, rfl⟩
        obtain ⟨y, hy⟩ : ∃ y, y = pv qs k := ⟨_, rfl⟩
        rw [← hx] at k0
        rw [← hy] at k1
        have HX := Lib.hid (And.intro hx hy)
        clear hx hy hA hA' st0 st1
        by_cases hxy : x = y
        · subst hxy
          go_upto_region 6 with (fail)
          go_region
          all_goals
            have HZ2 : Hid (∀ i, i < k + 1 → pv ps i = pv qs i) := by
              show ∀ i, _
              intro i hi
              by_cases e : i = k
              · subst e; rw [← HX.out.1, ← HX.out.2]
              · exact HZ.out i (by omega)
            go_wp2
            go_roundw
            case rel => exact ⟨k + 1, by omega, HZ2, bd, by go_num⟩
            case measure => simp [intOf]; omega
        · go_upto_region 6 with (fail)
          go_region
          all_goals
            have HT : Hid (decide (ps = qs) = false) := decide_eq_false (fun e => by have h := HX.out; rw [← e] at h; exact hxy (h.1.trans h.2.symm))
            go_wp2
            go_ret
            exact ⟨by rw [HT.out]; rfl, bd⟩
      · obtain rfl : k = ps.length := by omega
        have HT : Hid (decide (ps = qs) = true) := decide_eq_true (pv_list HLQ.out fun i hi => HZ.out i hi)
        go_wp2
        go_ret
        exact ⟨by rw [HT.out]; rfl, bb⟩
  · have hl2 := hl
    have HT : Hid (decide (ps = qs) = false) := decide_eq_false (fun e => hl (by rw [e]))
    go_wp2
    go_ret
    exact ⟨by rw [HT.out]; rfl, Below.refl _ _⟩
set_option maxHeartbeats 1600000 in
set_option maxRecDepth 100000 in
theorem gsquare_any (a0 : Value) (T : List (List Rat)) (w : World) (h0 : SlT .u64 4294967296 w a0 T) (hl : wideq T ≤ 200 ∧ T.length ≤ 200 ∧ lenT T 100000) : Calls Tryz.prog 58 #[a0] w (fun e w' => ((mayq T ∧ T.length = wideq T) ∧ RetTO T.length T w e w') ∨ (¬ (mayq T ∧ T.length = wideq T) ∧ RetTE [] 8 w e w')) := by
  have st0 := h0
  obtain ⟨A0, c0, rfl, hc0, hm0⟩ := h0.shape
  have HL := Lib.hid hl
  obtain ⟨C, hC⟩ : ∃ C, C = wideq T := ⟨_, rfl⟩
  have HC := Lib.hid hC
  clear hl hC
  go_enter Tryz.func58, Tryz.ntmps58
  go_wp2_with fail
  refine (msize_any _ T _ st0).mono ?_
  rintro e w2 ⟨rfl, b2⟩
  rw [← HC.out]
  by_cases hn : T.length = C
  · have hni : ((T.length : Nat) : Int) = ((C : Nat) : Int) := by omega
    have st2 := st0.below b2
    have HN := Lib.hid hn
    clear hn
    go_wp2_with fail
    refine (tbown_any _ T _ st2 HL.out).mono ?_
    rintro e w3 (⟨hm, g, us, pss, rfl, hT, hV, hU, hg, b3⟩ | ⟨hm, V, rfl, hS, b3⟩)
    · have HE := Lib.hid (And.intro hm (And.intro hV (And.intro hU (Nat.le_trans b2.size hg))))
      have HT := Lib.hid hT
      have bb := b2.trans (b3.mono b2.size)
      clear hm hT hV hU hg
      go_wp2
      go_ret2
      exact .inl ⟨⟨HE.out.1, HN.out.trans HC.out⟩, g, us, pss, rfl, TabO.weak HT.out b2.size, HE.out.2.1, HE.out.2.2.1, HE.out.2.2.2, bb⟩
    · rw [if_neg (by decide)] at hS
      obtain ⟨AV, cV, rfl, -, -⟩ := hS.shape
      have bb := b2.trans (b3.mono b2.size)
      have HM := Lib.hid hm
      clear hm
      go_wp2
      go_ret2
      exact .inr ⟨fun h => HM.out h.1, _, rfl, by rw [if_neg (by decide)]; exact hS, bb⟩
  · have hni : ¬ ((T.length : Nat) : Int) = ((C : Nat) : Int) := by omega
    have HN := Lib.hid hn
    clear hn
    go_wp2
    go_ret2
    exact .inr ⟨fun h => HN.out (h.2.trans HC.out.symm), .slice none 0 0, rfl, by rw [if_neg (by decide)]; exact slT_nil _ _ _, b2⟩
set_option maxHeartbeats 3200000 in
set_option maxRecDepth 100000 in
theorem gdet_any (a0 : Value) (T : List (List Rat)) (S : Nat) (w : World) (h0 : SlT .u64 4294967296 w a0 T) (hc : Hid (GssOk T S)) :
    Calls Tryz.prog 17 #[a0] w (fun e w' => ((mayq T ∧ T.length = wideq T) ∧ RetQE (detF T.length (entF T)) 0 w e w' ∧ lenQ (detF T.length (entF T)) 2001 ∧ ∀ F, RowFn T.length T.length F → F (entF T) = detF T.length (entF T) * F idF) ∨ (¬ (mayq T ∧ T.length = wideq T) ∧ RetQN 8 w e w')) := by
  have st0 := h0
  obtain ⟨A0, c0, rfl, hc0, hm0⟩ := h0.shape
  obtain ⟨n, hn⟩ : ∃ n, n = T.length := ⟨_, rfl⟩
  obtain ⟨Z, hZ⟩ : ∃ Z : Rat, Z = 0 := ⟨_, rfl⟩
  have CO : ∀ w, Calls Tryz.prog 32 #[.int .i64 0] w (RetQ Z w) := fun w => by
    have h := of8_any 0 w (by omega) (by omega)
    rwa [show ((0 : Int) : Rat) = Z by rw [hZ]; rfl] at h
  have HZ := Lib.hid hZ
  clear hZ
  have ba0 := below_alloc (w := w) (Nat.le_refl _) (.cells #[.bool false, .slice none 0 0, .slice none 0 0] 44)
  have st1 := st0.below ba0
  have BR0 := Blk.new w 44 #[.bool false, .slice none 0 0, .slice none 0 0]
  have hs1 : (w.alloc (.cells #[.bool false, .slice none 0 0, .slice none 0 0] 44)).heap.size = w.heap.size + 1 := by first | rfl | exact Array.size_push _
  have HST := Lib.hid st1
  clear h0 st0 st1 hc0 hm0
  go_enter Tryz.func17, Tryz.ntmps17
  go_wp2_with fail
  refine (gsquare_any _ T _ HST.out ⟨hc.out.2.1, by have := hc.out.1; omega, hc.out.2.2.1.len.mono hc.out.2.2.2.1⟩).mono ?_
  rintro e w2 (⟨hm, g, us, pss, rfl, hT, hV, hU, hg, b2⟩ | ⟨hm, V, rfl, hS, b2⟩)
  · have TS := TabO.tabS hT hU
    rw [hV] at TS
    have HW := Lib.hid hm.2
    have HM := Lib.hid hm.1
    rw [← hn]
    rw [← hn] at hU
    have HH := Lib.hid hn
    have BR2 := BR0.below b2
    have b02 := ba0.trans (b2.mono ba0.size)
    have hgb : w.heap.size < g := by omega
    clear hT hV hn hm BR0 ba0
    go_wp2_with fail
    refine (gdown_any g n n n S us T _ TS ⟨by have := shp_of HM.out; rwa [← HW.out, ← HH.out] at this, Nat.le_refl _, by rw [HH.out]; exact hc.out.1, by rw [HH.out]; have := hc.out.1; omega, hc.out.2.2.1, by rw [HH.out]; exact hc.out.2.2.2.2.1⟩).mono ?_
    rintro e w4 ⟨v, v5, T4, us4, ps, d, rfl, hD⟩
    obtain ⟨dwn, tab, piv, num, len, own⟩ := hD
    obtain ⟨u, t, rfl, su, st⟩ := num
    obtain ⟨Au, cu, rfl, _⟩ := id su
    obtain ⟨At, ct, rfl, _⟩ := id st
    obtain ⟨A6, c6, e6⟩ := RowV.slice piv.1
    rw [pI_len] at e6
    subst e6
    have b24 := b02.grown own b02.size (fun k e => by cases e; omega)
    have BR4 := Blk.grown BR2 own (by omega)
    have hdet : Hid (detF T.length (entF T) = if ps.length = n then d else 0) := by
      show detF _ _ = _
      rw [← HH.out, dwn.fn n (detF n) (Nat.le_refl _) (detF_row n), RowFn.steps (detF_row n) dwn.ech, detF_id]
      split
      · exact Rat.mul_one d
      · exact Rat.mul_zero d
    have hle := dwn.ech.le
    have hfn : Hid (∀ F, RowFn T.length T.length F → F (entF T) = detF T.length (entF T) * F idF) := by
      show ∀ F, _
      intro F hF
      rw [hdet.out]
      rw [← HH.out] at hF
      rw [dwn.fn n F (Nat.le_refl _) hF, RowFn.steps hF dwn.ech]
      split
      · rfl
      · rw [Rat.mul_zero, Rat.zero_mul]
    have hln : Hid (lenQ (detF T.length (entF T)) 2001) := by
      show lenQ _ _
      rw [hdet.out]
      split
      · exact len.mono (by have := hc.out.1; have := HH.out; omega)
      · exact (lenQ_zero 0).mono (by omega)
    have hs4 : w.heap.size < w4.heap.size := BR4.lt
    have ba := below_alloc (w := w4) (Nat.le_refl _) (.cells #[.bool (ngB d.num), .slice Au (digs 4294967296 d.num.natAbs).length cu, .slice At (digs 4294967296 d.den).length ct] 44)
    have BP5 := Blk.new w4 44 #[.bool (ngB d.num), .slice Au (digs 4294967296 d.num.natAbs).length cu, .slice At (digs 4294967296 d.den).length ct]
    have BR5 := BR4.below ba
    have b25 := b24.trans (ba.mono b24.size)
    have su5 := su.below ba
    have st5 := st.below ba
    have HSQ := Lib.hid (And.intro HM.out HW.out)
    clear dwn tab piv ba su st own TS b24 BR4 b02 BR2 len
    by_cases hk : ps.length < n
    · have hkn : ¬ ps.length = n := by omega
      have HV : Hid (detF T.length (entF T) = Z) := by
        show _ = _
        rw [hdet.out, if_neg hkn, HZ.out]
      clear hdet hkn
      go_wp2_with fail
      refine (CO _).mono ?_
      rintro e w6 ⟨v6, rfl, k6, -, b6⟩
      obtain ⟨u6, t6, rfl, s6, d6⟩ := k6
      obtain ⟨A7, c7, rfl, _⟩ := id s6
      obtain ⟨D7, e7, rfl, _⟩ := id d6
      have BR6 := BR5.below b6
      have b26 := b25.trans (b6.mono b25.size)
      obtain ⟨X0, X1, X2, F0, F1, F2⟩ := three BR6
      have G7 := grown_set3 w6 w.heap.size (.bool (ngB Z.num)) (.slice A7 (digs 4294967296 Z.num.natAbs).length c7) (.slice D7 (digs 4294967296 Z.den).length e7)
      have B7 := blk_set3 BR6 (.bool (ngB Z.num)) (.slice A7 (digs 4294967296 Z.num.natAbs).length c7) (.slice D7 (digs 4294967296 Z.den).length e7)
      have s7 := Go.Proofs.YtfnohdgnhdfpaaaGreat.flow.off s6 BR6 (no3 _) G7
      have d7 := Go.Proofs.YtfnohdgnhdfpaaaGreat.flow.off d6 BR6 (no3 _) G7
      have b27 := b26.grown G7 b26.size (fun k e => by cases e; exact Nat.le_refl _)
      obtain ⟨C0, C1, C2, _, _, _⟩ := three B7
      clear s6 d6 BR6 BR5 BP5 su5 st5
      go_wp2
      refine bodyPost_ret (v := .tuple #[.agg #[.bool (ngB Z.num), .slice A7 (digs 4294967296 Z.num.natAbs).length c7, .slice D7 (digs 4294967296 Z.den).length e7], .int .i64 0]) (by simp [results, Tryz.results17, go_sem, C0, C1, C2]) rfl ?_
      exact .inl ⟨HSQ.out, by rw [HV.out]; exact ⟨_, rfl, ⟨_, _, rfl, s7, d7⟩, b27⟩, hln.out, hfn.out⟩
    · have hkn : ps.length = n := by omega
      have HV : Hid (detF T.length (entF T) = d) := by
        show _ = _
        rw [hdet.out, if_pos hkn]
      clear hdet hkn
      go_upto_region 7 with (fail)
      obtain ⟨w5, hw5⟩ : ∃ w5, w4.alloc (.cells #[.bool (ngB d.num), .slice Au (digs 4294967296 d.num.natAbs).length cu, .slice At (digs 4294967296 d.den).length ct] 44) = w5 := ⟨_, rfl⟩
      rw [hw5] at BP5 BR5 su5 st5 b25 ⊢
      clear hw5
      obtain ⟨V0, V1, V2, _, _, _⟩ := three BP5
      obtain ⟨X0, X1, X2, F0, F1, F2⟩ := three BR5
      have G7 := grown_set3 w5 w.heap.size (.bool (ngB d.num)) (.slice Au (digs 4294967296 d.num.natAbs).length cu) (.slice At (digs 4294967296 d.den).length ct)
      have B7 := blk_set3 BR5 (.bool (ngB d.num)) (.slice Au (digs 4294967296 d.num.natAbs).length cu) (.slice At (digs 4294967296 d.den).length ct)
      have s7 := Go.Proofs.YtfnohdgnhdfpaaaGreat.flow.off su5 BR5 (no3 _) G7
      have d7 := Go.Proofs.YtfnohdgnhdfpaaaGreat.flow.off st5 BR5 (no3 _) G7
      have b27 := b25.grown G7 b25.size (fun k e => by cases e; exact Nat.le_refl _)
      obtain ⟨C0, C1, C2, _, _, _⟩ := three B7
      clear BR5 BP5 su5 st5
      go_wp2
      refine bodyPost_ret (v := .tuple #[.agg #[.bool (ngB d.num), .slice Au (digs 4294967296 d.num.natAbs).length cu, .slice At (digs 4294967296 d.den).length ct], .int .i64 0]) (by simp [results, Tryz.results17, go_sem, C0, C1, C2]) rfl ?_
      exact .inl ⟨HSQ.out, by rw [HV.out]; exact ⟨_, rfl, ⟨_, _, rfl, s7, d7⟩, b27⟩, hln.out, hfn.out⟩
  · rw [if_neg (by decide)] at hS
    obtain ⟨AV, cV, rfl, -, -⟩ := hS.shape
    have HN := Lib.hid hm
    have BR2 := BR0.below b2
    have b02 := ba0.trans (b2.mono ba0.size)
    obtain ⟨X0, X1, X2, F0, F1, F2⟩ := three BR2
    have G7 := grown_set3 w2 w.heap.size (.bool false) (.slice none 0 0) (.slice none 0 0)
    have B7 := blk_set3 BR2 (.bool false) (.slice none 0 0) (.slice none 0 0)
    have b27 := b02.grown G7 b02.size (fun k e => by cases e; exact Nat.le_refl _)
    obtain ⟨C0, C1, C2, _, _, _⟩ := three B7
    clear hm BR0 BR2
    go_wp2
    refine bodyPost_ret (v := .tuple #[.agg #[.bool false, .slice none 0 0, .slice none 0 0], .int .i64 8]) (by simp [results, Tryz.results17, go_sem, C0, C1, C2]) rfl ?_
    exact .inr ⟨HN.out, rfl, b27⟩
end Go.Proofs.YtfnohdgnhdfpaaaGreat.rat
namespace Go.Proofs.YtfnohdgnhdfpaaaGreat.rat
open Go.RowKit Go.Proofs.YtfnohdgnhdfpaaaGreat.num Go.Proofs.YtfnohdgnhdfpaaaGreat.mem Go.Proofs.YtfnohdgnhdfpaaaGreat.nat Go.Proofs.YtfnohdgnhdfpaaaGreat.txt Go.Proofs.YtfnohdgnhdfpaaaGreat.str Go.Proofs.YtfnohdgnhdfpaaaGreat.flow Go.Proofs.YtfnohdgnhdfpaaaGreat.whl
set_option linter.unusedVariables false
set_option linter.unusedSimpArgs false
theorem slT_two {k : IntKind} {B : Nat} {w : World} {v u0 u1 : Value} {r0 r1 : List Rat} (h : IsV w v [u0, u1]) (h0 : SlF k B w u0 r0) (h1 : SlF k B w u1 r1) (hc : ∀ A n c, v = .slice A n c → c ≤ maxLen) : SlT k B w v [r0, r1] := by
  obtain ⟨A, c, e, h2, h3⟩ := h
  refine ⟨[u0, u1], rfl, ⟨A, c, e, h2, hc _ _ _ e, h3⟩, fun i x y hx hy => ?_⟩
  rcases i with _ | _ | i
  · obtain rfl : u0 = x := by simpa using hx
    obtain rfl : r0 = y := by simpa using hy
    exact h0
  · obtain rfl : u1 = x := by simpa using hx
    obtain rfl : r1 = y := by simpa using hy
    exact h1
  · simp at hx
end Go.Proofs.YtfnohdgnhdfpaaaGreat.rat
namespace Go.Proofs.YtfnohdgnhdfpaaaGreat.rat
open Go.RowKit Go.Shelf Go.Proofs.YtfnohdgnhdfpaaaGreat.num Go.Proofs.YtfnohdgnhdfpaaaGreat.mem Go.Proofs.YtfnohdgnhdfpaaaGreat.nat Go.Proofs.YtfnohdgnhdfpaaaGreat.txt Go.Proofs.YtfnohdgnhdfpaaaGreat.str Go.Proofs.YtfnohdgnhdfpaaaGreat.flow Go.Proofs.YtfnohdgnhdfpaaaGreat.whl
set_option linter.unusedVariables false
set_option linter.unusedSimpArgs false
theorem pv_zero : ∀ i, i < 1 → pv [0] i = 0 := fun i hi => by
  obtain rfl : i = 0 := by omega
  rfl
theorem ex14_ech : Ech 2 2 (entF [[1, 2], [0, 0]]) 1 (pv [0]) := by
  refine ⟨by omega, fun i j h1 h2 => by omega, fun i hi => by rw [pv_zero i hi]; omega, fun i hi => ?_, fun i hi j hj => by rw [pv_zero i hi] at hj; omega, fun i h1 h2 j hj => ?_⟩
  · rw [pv_zero i hi]
    obtain rfl : i = 0 := by omega
    decide +kernel
  · obtain rfl : i = 1 := by omega
    rcases (show j = 0 ∨ j = 1 by omega) with rfl | rfl <;> decide +kernel
theorem ex14_red : Red 2 (entF [[1, 2], [0, 0]]) 1 (pv [0]) 0 := fun m _ hm i hi hne => by
  rw [pv_zero m hm]
  obtain rfl : i = 1 := by omega
  decide +kernel
theorem ex14_ker : KerEq 2 2 (entF [[2, 4], [1, 2]]) (entF [[1, 2], [0, 0]]) := fun x => by
  have a : ∀ (M : Nat → Nat → Rat) i, sumN 2 (fun j => M i j * x j) = M i 0 * x 0 + M i 1 * x 1 := fun M i => by
    show 0 + _ + _ = _
    rw [Rat.zero_add]
  have e00 : entF [[2, 4], [1, 2]] 0 0 = 2 := by decide +kernel
  have e01 : entF [[2, 4], [1, 2]] 0 1 = 4 := by decide +kernel
  have e10 : entF [[2, 4], [1, 2]] 1 0 = 1 := by decide +kernel
  have e11 : entF [[2, 4], [1, 2]] 1 1 = 2 := by decide +kernel
  have f00 : entF [[1, 2], [0, 0]] 0 0 = 1 := by decide +kernel
  have f01 : entF [[1, 2], [0, 0]] 0 1 = 2 := by decide +kernel
  have f10 : entF [[1, 2], [0, 0]] 1 0 = 0 := by decide +kernel
  have f11 : entF [[1, 2], [0, 0]] 1 1 = 0 := by decide +kernel
  constructor
  · intro h i hi
    have h1 := h 1 (by omega)
    rw [a, e10, e11] at h1
    rw [a]
    rcases (show i = 0 ∨ i = 1 by omega) with rfl | rfl
    · rw [f00, f01]; exact h1
    · rw [f10, f11]; grind
  · intro h i hi
    have h1 := h 0 (by omega)
    rw [a, f00, f01] at h1
    rw [a]
    rcases (show i = 0 ∨ i = 1 by omega) with rfl | rfl
    · rw [e00, e01]; grind
    · rw [e10, e11]; exact h1
theorem ex14_ok : GssOk [[2, 4], [1, 2]] 3 := by
  have hs : shp [[2, 4], [1, 2]] 2 2 := ⟨rfl, fun r hr => by simp at hr; rcases hr with rfl | rfl <;> rfl⟩
  have hl : lenT [[2, 4], [1, 2]] 1 := fun r hr x hx => by
    simp at hr
    rcases hr with rfl | rfl <;> simp at hx <;> rcases hx with rfl | rfl <;> exact ⟨digs_len_le (k := 1) (by omega) (by decide +kernel), digs_len_le (k := 1) (by omega) (by decide +kernel)⟩
  exact ⟨by simp, by show 2 ≤ 200; omega, rowsL_of hs hl, by omega, by simp, by simp⟩
theorem ex14_may : mayq [[2, 4], [1, 2]] := ⟨by simp, by show 2 ≤ 200; omega, fun r hr => by simp at hr; rcases hr with rfl | rfl <;> rfl⟩
theorem PvI.lit {w : World} (T : TypeId) : PvI (w.alloc (.cells #[.int .i64 0] T)) (.slice (some ⟨w.heap.size, 0, none⟩) 1 1) [0] := by
  refine ⟨some ⟨w.heap.size, 0, none⟩, 1, rfl, fun i hi => ⟨_, rfl, ?_⟩⟩
  obtain rfl : i = 0 := by simpa using hi
  rw [addr_zero]
  rw [World.cell?_alloc_new]
  rfl
set_option maxHeartbeats 6400000 in
set_option maxRecDepth 100000 in
theorem works14_any (w : World) : Calls Tryz.prog 13 #[] w (RetV (.bool true) w) := by
  obtain ⟨Z, hZ⟩ : ∃ Z : Rat, Z = ((0 : Int) : Rat) := ⟨_, rfl⟩
  obtain ⟨O, hO⟩ : ∃ O : Rat, O = ((1 : Int) : Rat) := ⟨_, rfl⟩
  obtain ⟨P, hP⟩ : ∃ P : Rat, P = ((2 : Int) : Rat) := ⟨_, rfl⟩
  obtain ⟨Q, hQ⟩ : ∃ Q : Rat, Q = ((4 : Int) : Rat) := ⟨_, rfl⟩
  have CZ : ∀ w, Calls Tryz.prog 32 #[.int .i64 0] w (RetQ Z w) := fun w => by rw [hZ]; exact of8_any 0 _ (by omega) (by omega)
  have CO : ∀ w, Calls Tryz.prog 32 #[.int .i64 1] w (RetQ O w) := fun w => by rw [hO]; exact of8_any 1 _ (by omega) (by omega)
  have CP : ∀ w, Calls Tryz.prog 32 #[.int .i64 2] w (RetQ P w) := fun w => by rw [hP]; exact of8_any 2 _ (by omega) (by omega)
  have CQ : ∀ w, Calls Tryz.prog 32 #[.int .i64 4] w (RetQ Q w) := fun w => by rw [hQ]; exact of8_any 4 _ (by omega) (by omega)
  obtain ⟨T, hT⟩ : ∃ T, T = [[P, Q], [O, P]] := ⟨_, rfl⟩
  obtain ⟨U, hU⟩ : ∃ U, U = [[O, P], [Z, Z]] := ⟨_, rfl⟩
  have eT : T = [[2, 4], [1, 2]] := by rw [hT, hP, hQ, hO]; rfl
  have eU : U = [[1, 2], [0, 0]] := by rw [hU, hP, hO, hZ]; rfl
  have HE := Lib.hid (And.intro hT (And.intro hU (And.intro eT eU)))
  clear hZ hO hP hQ hT hU eT eU
  go_enter Tryz.func13, Tryz.ntmps13
  go_wp2_with fail
  refine (CP _).mono ?_
  rintro e w1 ⟨v0, rfl, k0, -, b1⟩
  obtain ⟨u0, t0, rfl, q0, d0⟩ := k0
  obtain ⟨A0, c0, rfl, _⟩ := id q0
  obtain ⟨D0, e0, rfl, _⟩ := id d0
  go_wp2_with fail
  refine (CQ _).mono ?_
  rintro e w2 ⟨v1, rfl, k1, -, b2⟩
  obtain ⟨u1, t1, rfl, q1, d1⟩ := k1
  obtain ⟨A1, c1, rfl, _⟩ := id q1
  obtain ⟨D1, e1, rfl, _⟩ := id d1
  have s0 := slF_lit2 w2 44 (q0.below b2) (d0.below b2) q1 d1
  have ba := below_alloc (w := w2) (Nat.le_refl _) (.cells #[.bool (ngB P.num), .slice A0 (digs 4294967296 P.num.natAbs).length c0, .slice D0 (digs 4294967296 P.den).length e0, .bool (ngB Q.num), .slice A1 (digs 4294967296 Q.num.natAbs).length c1, .slice D1 (digs 4294967296 Q.den).length e1] 44)
  have b12 := b1.trans (b2.mono b1.size)
  have b13 := b12.trans (ba.mono b12.size)
  clear q0 d0 q1 d1 b1 b2 ba b12
  go_wp2_with fail
  refine (CO _).mono ?_
  rintro e w3 ⟨v2, rfl, k2, -, b3⟩
  obtain ⟨u2, t2, rfl, q2, d2⟩ := k2
  obtain ⟨A2, c2, rfl, _⟩ := id q2
  obtain ⟨D2, e2, rfl, _⟩ := id d2
  have s03 := s0.below b3
  have b14 := b13.trans (b3.mono b13.size)
  clear s0 b13 b3
  go_wp2_with fail
  refine (CP _).mono ?_
  rintro e w4 ⟨v3, rfl, k3, -, b4⟩
  obtain ⟨u3, t3, rfl, q3, d3⟩ := k3
  obtain ⟨A3, c3, rfl, _⟩ := id q3
  obtain ⟨D3, e3, rfl, _⟩ := id d3
  have s1 := slF_lit2 w4 44 (q2.below b4) (d2.below b4) q3 d3
  have ba := below_alloc (w := w4) (Nat.le_refl _) (.cells #[.bool (ngB O.num), .slice A2 (digs 4294967296 O.num.natAbs).length c2, .slice D2 (digs 4294967296 O.den).length e2, .bool (ngB P.num), .slice A3 (digs 4294967296 P.num.natAbs).length c3, .slice D3 (digs 4294967296 P.den).length e3] 44)
  have hs1 : (w4.alloc (.cells #[.bool (ngB O.num), .slice A2 (digs 4294967296 O.num.natAbs).length c2, .slice D2 (digs 4294967296 O.den).length e2, .bool (ngB P.num), .slice A3 (digs 4294967296 P.num.natAbs).length c3, .slice D3 (digs 4294967296 P.den).length e3] 44)).heap.size = w4.heap.size + 1 := by simp
  have s04 := (s03.below b4).below ba
  have b15 := b14.trans (b4.mono b14.size)
  have b16 := b15.trans (ba.mono b15.size)
  clear s03 b14 b4 q2 d2 q3 d3 ba b15
  have bt := below_alloc (w := w4.alloc (.cells #[.bool (ngB O.num), .slice A2 (digs 4294967296 O.num.natAbs).length c2, .slice D2 (digs 4294967296 O.den).length e2, .bool (ngB P.num), .slice A3 (digs 4294967296 P.num.natAbs).length c3, .slice D3 (digs 4294967296 P.den).length e3] 44)) (Nat.le_refl _) (.cells #[.slice (some ⟨w2.heap.size, 0, none⟩) 2 2, .slice (some ⟨w4.heap.size, 0, none⟩) 2 2] 64)
  have hv := isV_lit (w4.alloc (.cells #[.bool (ngB O.num), .slice A2 (digs 4294967296 O.num.natAbs).length c2, .slice D2 (digs 4294967296 O.den).length e2, .bool (ngB P.num), .slice A3 (digs 4294967296 P.num.natAbs).length c3, .slice D3 (digs 4294967296 P.den).length e3] 44)) 64 [.slice (some ⟨w2.heap.size, 0, none⟩) 2 2, .slice (some ⟨w4.heap.size, 0, none⟩) 2 2]
  have ST := slT_two hv (s04.below bt) (s1.below bt) (fun A n c e => by injection e with _ _ e3; subst e3; unfold maxLen; simp)
  have b17 := b16.trans (bt.mono b16.size)
  rw [hs1] at ST
  rw [← HE.out.1] at ST
  clear hv bt s04 s1 b16
  have HST := Lib.hid ST
  have HB := Lib.hid b17
  clear ST b17
  go_wp2_with fail
  refine (greduce_any _ T 3 _ HST.out (by have := ex14_ok; rw [← HE.out.2.2.1] at this; exact this)).mono ?_
  rintro e w5 (⟨hm, g, v, T', us, ps, rfl, hR⟩ | ⟨hm, rfl, b5⟩)
  · have e2 : T.length = 2 := by rw [HE.out.2.2.1]; rfl
    have e3 : wideq T = 2 := by rw [HE.out.2.2.1]; rfl
    rw [e2, e3] at hR
    rw [e2]
    obtain ⟨rfl, rfl⟩ : T' = U ∧ ps = [0] := by
      refine steps_same (T0 := T) hR.sh hR.ech hR.red hR.ker ?_ ?_ ?_ ?_
      · rw [HE.out.2.2.2]; exact ⟨rfl, fun r hr => by simp at hr; rcases hr with rfl | rfl <;> rfl⟩
      · rw [HE.out.2.2.2]; exact ex14_ech
      · rw [HE.out.2.2.2]; exact ex14_red
      · rw [HE.out.2.2.2, HE.out.2.2.1]; exact ex14_ker
    obtain ⟨Av, cv, ev⟩ := RowV.slice hR.piv.1
    rw [show (pI [0]).length = 1 from rfl] at ev
    subst ev
    have pv0 := hR.piv.pvI
    have sT := hR.tab.slT hR.sh.1 (by omega)
    have b5 := HB.out.trans (hR.bel.mono HB.out.size)
    clear hR HST HB
    have ba := below_alloc (w := w5) (Nat.le_refl _) (.cells #[.int .i64 0] 3)
    have pv1 := pv0.below ba
    have sT1 := sT.below ba
    have b6 := b5.trans (ba.mono b5.size)
    have HP := Lib.hid (And.intro pv1 (And.intro sT1 b6))
    clear pv0 sT b5 ba pv1 sT1 b6
    go_wp2_with fail
    refine (sameints_any _ _ [0] [0] _ HP.out.1 (PvI.lit _) (by simp)).mono ?_
    rintro e w7 ⟨rfl, b7⟩
    rw [show decide (([0] : List Nat) = [0]) = true from rfl]
    have sT7 := HP.out.2.1.below b7
    have b17 := HP.out.2.2.trans (b7.mono HP.out.2.2.size)
    clear HP b7
    go_wp2_with fail
    refine (CO _).mono ?_
    rintro e w8 ⟨v4, rfl, k4, -, b8⟩
    obtain ⟨u4, t4, rfl, q4, d4⟩ := k4
    obtain ⟨A4, c4, rfl, _⟩ := id q4
    obtain ⟨D4, e4, rfl, _⟩ := id d4
    go_wp2_with fail
    refine (CP _).mono ?_
    rintro e w9 ⟨v5, rfl, k5, -, b9⟩
    obtain ⟨u5, t5, rfl, q5, d5⟩ := k5
    obtain ⟨A5, c5, rfl, _⟩ := id q5
    obtain ⟨D5, e5, rfl, _⟩ := id d5
    have s0 := slF_lit2 w9 44 (q4.below b9) (d4.below b9) q5 d5
    have ba := below_alloc (w := w9) (Nat.le_refl _) (.cells #[.bool (ngB O.num), .slice A4 (digs 4294967296 O.num.natAbs).length c4, .slice D4 (digs 4294967296 O.den).length e4, .bool (ngB P.num), .slice A5 (digs 4294967296 P.num.natAbs).length c5, .slice D5 (digs 4294967296 P.den).length e5] 44)
    have sT9 := ((sT7.below b8).below b9).below ba
    have b12 := b17.trans (b8.mono b17.size)
    have b13 := b12.trans (b9.mono b12.size)
    have b14 := b13.trans (ba.mono b13.size)
    clear q4 d4 q5 d5 sT7 b17 b8 b9 ba b12 b13
    go_wp2_with fail
    refine (CZ _).mono ?_
    rintro e w10 ⟨v6, rfl, k6, -, b10⟩
    obtain ⟨u6, t6, rfl, q6, d6⟩ := k6
    obtain ⟨A6, c6, rfl, _⟩ := id q6
    obtain ⟨D6, e6, rfl, _⟩ := id d6
    have s03 := s0.below b10
    have sT10 := sT9.below b10
    have b15 := b14.trans (b10.mono b14.size)
    clear s0 b10 sT9 b14
    go_wp2_with fail
    refine (CZ _).mono ?_
    rintro e w11 ⟨v7, rfl, k7, -, b11⟩
    obtain ⟨u7, t7, rfl, q7, d7⟩ := k7
    obtain ⟨A7, c7, rfl, _⟩ := id q7
    obtain ⟨D7, e7, rfl, _⟩ := id d7
    have s1 := slF_lit2 w11 44 (q6.below b11) (d6.below b11) q7 d7
    have ba := below_alloc (w := w11) (Nat.le_refl _) (.cells #[.bool (ngB Z.num), .slice A6 (digs 4294967296 Z.num.natAbs).length c6, .slice D6 (digs 4294967296 Z.den).length e6, .bool (ngB Z.num), .slice A7 (digs 4294967296 Z.num.natAbs).length c7, .slice D7 (digs 4294967296 Z.den).length e7] 44)
    have hs1 : (w11.alloc (.cells #[.bool (ngB Z.num), .slice A6 (digs 4294967296 Z.num.natAbs).length c6, .slice D6 (digs 4294967296 Z.den).length e6, .bool (ngB Z.num), .slice A7 (digs 4294967296 Z.num.natAbs).length c7, .slice D7 (digs 4294967296 Z.den).length e7] 44)).heap.size = w11.heap.size + 1 := by simp
    have s04 := (s03.below b11).below ba
    have sT11 := (sT10.below b11).below ba
    have b16 := b15.trans (b11.mono b15.size)
    have b17 := b16.trans (ba.mono b16.size)
    clear s03 b15 b11 q6 d6 q7 d7 ba b16 sT10
    have bt := below_alloc (w := w11.alloc (.cells #[.bool (ngB Z.num), .slice A6 (digs 4294967296 Z.num.natAbs).length c6, .slice D6 (digs 4294967296 Z.den).length e6, .bool (ngB Z.num), .slice A7 (digs 4294967296 Z.num.natAbs).length c7, .slice D7 (digs 4294967296 Z.den).length e7] 44)) (Nat.le_refl _) (.cells #[.slice (some ⟨w9.heap.size, 0, none⟩) 2 2, .slice (some ⟨w11.heap.size, 0, none⟩) 2 2] 64)
    have hv := isV_lit (w11.alloc (.cells #[.bool (ngB Z.num), .slice A6 (digs 4294967296 Z.num.natAbs).length c6, .slice D6 (digs 4294967296 Z.den).length e6, .bool (ngB Z.num), .slice A7 (digs 4294967296 Z.num.natAbs).length c7, .slice D7 (digs 4294967296 Z.den).length e7] 44)) 64 [.slice (some ⟨w9.heap.size, 0, none⟩) 2 2, .slice (some ⟨w11.heap.size, 0, none⟩) 2 2]
    have ST := slT_two hv (s04.below bt) (s1.below bt) (fun A n c e => by injection e with _ _ e3; subst e3; unfold maxLen; simp)
    have sT12 := sT11.below bt
    have b18 := b17.trans (bt.mono b17.size)
    rw [hs1] at ST
    rw [← HE.out.2.1] at ST
    clear hv bt s04 s1 b17 sT11
    have HST := Lib.hid (And.intro ST (And.intro sT12 b18))
    clear ST b18 sT12
    go_wp2_with fail
    refine (msame_any _ _ T' T' true _ HST.out.2.1 HST.out.1 (decide_eq_true rfl).symm).mono ?_
    rintro e w13 ⟨rfl, b13⟩
    go_wp2
    go_ret
    exact ⟨rfl, HST.out.2.2.trans (b13.mono HST.out.2.2.size)⟩
  · exact absurd (by rw [HE.out.2.2.1]; exact ex14_may) hm
end Go.Proofs.YtfnohdgnhdfpaaaGreat.rat
namespace Go.Proofs.YtfnohdgnhdfpaaaGreat.rat
open Go.RowKit Go.Proofs.YtfnohdgnhdfpaaaGreat.num Go.Proofs.YtfnohdgnhdfpaaaGreat.mem Go.Proofs.YtfnohdgnhdfpaaaGreat.nat Go.Proofs.YtfnohdgnhdfpaaaGreat.txt Go.Proofs.YtfnohdgnhdfpaaaGreat.str Go.Proofs.YtfnohdgnhdfpaaaGreat.flow Go.Proofs.YtfnohdgnhdfpaaaGreat.whl
set_option linter.unusedVariables false
set_option linter.unusedSimpArgs false
theorem fits2 {a b : List (List Rat)} : fitsq [a, b] ↔ mayq a ∧ mayq b ∧ wideq a = b.length := by
  refine ⟨fun h => ⟨(h.2 0 a rfl).1, (h.2 1 b rfl).1, (h.2 1 b rfl).2 a (by omega) rfl⟩, fun h => ⟨by simp, fun i t ht => ?_⟩⟩
  rcases i with _ | _ | i
  · obtain rfl : a = t := by simpa using ht
    exact ⟨h.1, fun s h0 => by omega⟩
  · obtain rfl : b = t := by simpa using ht
    exact ⟨h.2.1, fun s _ hs => by obtain rfl : a = s := by simpa using hs; ; exact h.2.2⟩
  · simp at ht
/-- Small enough to be multiplied. -/
def sml (t : List (List Rat)) : Prop := t.length ≤ 4 ∧ (∀ r ∈ t, r.length ≤ 4) ∧ lenT t 10
/-- A table such as the law makes. -/
def few3 (t : List (List Rat)) : Prop := evenq t ∧ t.length ≤ 3 ∧ wideq t ≤ 3 ∧ lenT t 1
theorem few3.may {t : List (List Rat)} (h : few3 t) : mayq t := ⟨Nat.le_trans h.2.1 (by decide), Nat.le_trans h.2.2.1 (by decide), h.1⟩
theorem few3.small {t : List (List Rat)} (h : few3 t) : sml t := ⟨Nat.le_trans h.2.1 (by decide), fun r hr => by rw [h.1 r hr]; exact Nat.le_trans h.2.2.1 (by decide), h.2.2.2.mono (by decide)⟩
theorem wide_mul {a b : List (List Rat)} (h : wideq a = b.length) : wideq (mulq a b) = wideq b := by
  by_cases hn : a = []
  · subst hn
    have : b = [] := List.length_eq_zero_iff.1 h.symm
    rw [this]; rfl
  · exact mulq_wide hn
theorem few3.mul {a b : List (List Rat)} (ha : few3 a) (hb : few3 b) (h : wideq a = b.length) : sml (mulq a b) ∧ mayq (mulq a b) ∧ wideq (mulq a b) = wideq b := by
  refine ⟨⟨by rw [mulq_len]; exact Nat.le_trans ha.2.1 (by decide), fun r hr => by rw [mulq_rows r hr]; exact Nat.le_trans hb.2.2.1 (by decide), ?_⟩, ⟨by rw [mulq_len]; exact Nat.le_trans ha.2.1 (by decide), by rw [wide_mul h]; exact Nat.le_trans hb.2.2.1 (by decide), mulq_even _ _⟩, wide_mul h⟩
  exact (lenT_mul ha.2.2.2 hb.2.2.2 (Nat.le_refl _) (fun r hr => by rw [ha.1 r hr, h]) hb.2.1).mono (by decide)
/-- A table and a way, read only. -/
def RetTW (t : List (List Rat)) (n : Int) (w : World) (e : Ending) (w' : World) : Prop := ∃ A c, e = .returned (.tuple #[.slice A t.length c, .int .i64 n]) ∧ SlT .u64 4294967296 w' (.slice A t.length c) t ∧ Below w.heap.size w w'
theorem RetTE.ok {t : List (List Rat)} {w w' : World} {e : Ending} (h : RetTE t 0 w e w') : RetTW t 0 w e w' := by
  obtain ⟨V, he, hs, hb⟩ := h
  rw [if_pos rfl] at hs
  obtain ⟨A, c, rfl, _, _⟩ := hs.shape
  exact ⟨A, c, he, hs, hb⟩
theorem RetTE.no {t : List (List Rat)} {w w' : World} {e : Ending} (h : RetTE t 8 w e w') : RetTW [] 8 w e w' := by
  obtain ⟨V, he, hs, hb⟩ := h
  rw [if_neg (by decide)] at hs
  obtain ⟨A, c, rfl, _, _⟩ := hs.shape
  exact ⟨A, c, he, hs, hb⟩
theorem sml2 {a b : List (List Rat)} (ha : sml a) (hb : sml b) : ([a, b] : List (List (List Rat))).length ≤ 3 ∧ ∀ t ∈ [a, b], t.length ≤ 4 ∧ (∀ r ∈ t, r.length ≤ 4) ∧ lenT t 10 := ⟨by simp, fun t ht => by
  simp at ht
  rcases ht with rfl | rfl
  · exact ha
  · exact hb⟩
theorem mul2_ok (v : Value) (a b : List (List Rat)) (w : World) (h : ListT w v [a, b]) (ha : sml a) (hb : sml b) (hf : fitsq [a, b]) : Calls Tryz.prog 25 #[v] w (RetTW (mulq a b) 0 w) :=
  (mmul_any v [a, b] w h (sml2 ha hb)).mono fun e w' h => by
    rcases h with ⟨_, h⟩ | ⟨h, _⟩
    · exact h.ok
    · exact absurd hf h
theorem mul2_no (v : Value) (a b : List (List Rat)) (w : World) (h : ListT w v [a, b]) (ha : sml a) (hb : sml b) (hf : ¬ fitsq [a, b]) : Calls Tryz.prog 25 #[v] w (RetTW [] 8 w) :=
  (mmul_any v [a, b] w h (sml2 ha hb)).mono fun e w' h => by
    rcases h with ⟨h, _⟩ | ⟨_, h⟩
    · exact absurd h hf
    · exact h.no
theorem mul2_any (v : Value) (a b : List (List Rat)) (w : World) (h : ListT w v [a, b]) (ha : few3 a) (hb : few3 b) : Calls Tryz.prog 25 #[v] w (fun e w' => ∃ (MM : List (List Rat)) (E : Int), ((wideq a = b.length ∧ MM = mulq a b ∧ E = 0) ∨ (¬ wideq a = b.length ∧ MM = [] ∧ E = 8)) ∧ RetTW MM E w e w') := by
  by_cases hc : wideq a = b.length
  · exact (mul2_ok v a b w h ha.small hb.small (fits2.2 ⟨ha.may, hb.may, hc⟩)).mono fun e w' k => ⟨_, _, .inl ⟨hc, rfl, rfl⟩, k⟩
  · exact (mul2_no v a b w h ha.small hb.small (fun k => hc (fits2.1 k).2.2)).mono fun e w' k => ⟨_, _, .inr ⟨hc, rfl, rfl⟩, k⟩
/-- A table of the call's own, even, and the document's beside it. -/
def RetEven (M : Nat) (w : World) (e : Ending) (w' : World) : Prop := ∃ V U p, e = .returned (.tuple #[V, U]) ∧ SlT .u64 4294967296 w' V p ∧ evenq p ∧ p.length ≤ M ∧ wideq p ≤ M ∧ lenT p 1 ∧ Below w.heap.size w w'
end Go.Proofs.YtfnohdgnhdfpaaaGreat.rat
namespace Go.Proofs.YtfnohdgnhdfpaaaGreat.rat
open Go.RowKit Go.Shelf Go.Proofs.YtfnohdgnhdfpaaaGreat.num Go.Proofs.YtfnohdgnhdfpaaaGreat.mem Go.Proofs.YtfnohdgnhdfpaaaGreat.nat Go.Proofs.YtfnohdgnhdfpaaaGreat.txt Go.Proofs.YtfnohdgnhdfpaaaGreat.str Go.Proofs.YtfnohdgnhdfpaaaGreat.flow Go.Proofs.YtfnohdgnhdfpaaaGreat.whl
set_option linter.unusedVariables false
set_option linter.unusedSimpArgs false
theorem dotq_sumN {r v : List Rat} (hl : r.length = v.length) : ∀ k, k ≤ r.length → dotq (r.take k) (v.take k) = sumN k (fun l => r.getD l 0 * v.getD l 0)
  | 0, _ => by rw [List.take_zero]; exact dotq_nil _
  | k + 1, hk => by
    obtain ⟨x, hx⟩ : ∃ x, r[k]? = some x := ⟨_, List.getElem?_eq_getElem (by omega)⟩
    obtain ⟨y, hy⟩ : ∃ y, v[k]? = some y := ⟨_, List.getElem?_eq_getElem (by omega)⟩
    rw [dotq_take hx hy, dotq_sumN hl k (by omega)]
    show _ = sumN k _ + r.getD k 0 * v.getD k 0
    rw [List.getD_eq_getElem?_getD, List.getD_eq_getElem?_getD, hx, hy]
    rfl
theorem colq_ent {q : List (List Rat)} {l j : Nat} : (colq q j).getD l 0 = entF q l j := by
  unfold colq entF
  rw [List.getD_eq_getElem?_getD, List.getElem?_map, List.getD_eq_getElem?_getD (l := q)]
  cases q[l]? with
  | none => simp
  | some r => rfl
theorem entF_mul {p q : List (List Rat)} {n m C : Nat} (hp : shp p n m) (hq : q.length = m) (hw : wideq q = C) {i j : Nat} (hi : i < n) (hj : j < C) : entF (mulq p q) i j = mulF m (entF p) (entF q) i j := by
  obtain ⟨r, hr, hrl⟩ := row_ex hp hi
  have h1 : (mulq p q)[i]? = some (rowq r q (wideq q)) := by unfold mulq; rw [List.getElem?_map, hr]; rfl
  rw [entF_row h1, hw, rowq_getD hj]
  have hl : r.length = (colq q j).length := by rw [colq_len, hrl, hq]
  have h2 := dotq_sumN hl r.length (Nat.le_refl _)
  rw [List.take_length, hl, List.take_length, ← hl, hrl] at h2
  rw [h2]
  unfold mulF
  exact sumN_congr fun l hl => by rw [colq_ent, entF_row hr]
theorem det_mul {p q : List (List Rat)} {n : Nat} (hp : shp p n n) (hq : q.length = n) (hw : wideq q = n) (hf : ∀ F, RowFn n n F → F (entF p) = detF n (entF p) * F idF) : detF n (entF (mulq p q)) = detF n (entF p) * detF n (entF q) := by
  rw [detF_congr n (fun i j hi hj => entF_mul hp hq hw hi hj), hf _ (detF_mul_row n (entF q))]
  congr 1
  exact detF_congr n fun i j hi _ => mulF_id n (entF q) hi
theorem gssOk_of {T : List (List Rat)} {S : Nat} (h : T.length ≤ 3) (hw : wideq T ≤ 200) (hr : rowsL T S) (hS : S ≤ 99) : GssOk T S := by
  have hx : 2 ^ (T.length - 1) ≤ 2 ^ 2 := Nat.pow_le_pow_right (by omega) (by omega)
  have h1 : (S + 1) * 2 ^ (T.length - 1) ≤ 100 * 2 ^ 2 := Nat.mul_le_mul (by omega) hx
  have h2 : (S + 1) * 2 ^ (T.length - 1) * 2 ^ (T.length - 1) ≤ 100 * 2 ^ 2 * 2 ^ 2 := Nat.mul_le_mul h1 hx
  exact ⟨by omega, hw, hr, by omega, h1, by omega⟩
theorem few3.gss {t : List (List Rat)} (h : few3 t) : GssOk t 4 :=
  gssOk_of h.2.1 (by have := h.2.2.1; omega) ((rowsL_of (shp_of h.may) h.2.2.2).mono (by have := h.2.2.1; omega)) (by omega)
theorem shp_wide {T : List (List Rat)} {n C : Nat} (h : shp T n C) (h0 : n = 0 → C = 0) : wideq T = C := by
  cases T with
  | nil => exact (h0 h.1.symm).symm
  | cons r T => exact h.2 r List.mem_cons_self
theorem RedE.gss {T0 T : List (List Rat)} {w w' : World} {g : Nat} {v : Value} {us : List Value} {ps : List Nat} (h : RedE T0 T0.length (wideq T0) 4 w g v w' T us ps) (hp : few3 T0) : wideq T = wideq T0 ∧ mayq T ∧ GssOk T 79 := by
  have hw := shp_wide h.sh (fun e => by rw [List.length_eq_zero_iff.1 e]; rfl)
  obtain ⟨S', r, hS⟩ := h.len
  have hx : 2 ^ (T0.length - 1) ≤ 2 ^ 2 := Nat.pow_le_pow_right (by omega) (by have := hp.2.1; omega)
  have h2 : (4 + 1) * 2 ^ (T0.length - 1) * 2 ^ (T0.length - 1) ≤ (4 + 1) * 2 ^ 2 * 2 ^ 2 := Nat.mul_le_mul (Nat.mul_le_mul_left _ hx) hx
  refine ⟨hw, ⟨by rw [h.sh.1]; have := hp.2.1; omega, by rw [hw]; have := hp.2.2.1; omega, fun r hr => by rw [hw]; exact h.sh.2 r hr⟩, gssOk_of (by rw [h.sh.1]; exact hp.2.1) (by rw [hw]; have := hp.2.2.1; omega) (r.mono (by omega)) (by omega)⟩
theorem sameints_self (a0 a1 : Value) (ps : List Nat) (w : World) (h0 : PvI w a0 ps) (h1 : PvI w a1 ps) (hm : ps.length ≤ 1000) : Calls Tryz.prog 16 #[a0, a1] w (RetV (.bool true) w) := by
  have := sameints_any a0 a1 ps ps w h0 h1 hm
  rwa [decide_eq_true (rfl : ps = ps)] at this
/-- Steps of steps are the same. -/
theorem RedE.again {T0 T U : List (List Rat)} {w w' w2 w3 : World} {g g2 : Nat} {v v2 : Value} {us us2 : List Value} {ps qs : List Nat} {S S2 : Nat} (h : RedE T0 T0.length (wideq T0) S w g v w' T us ps) (hw : wideq T = wideq T0) (k : RedE T T.length (wideq T) S2 w2 g2 v2 w3 U us2 qs) : U = T ∧ qs = ps := by
  have e : T.length = T0.length := h.sh.1
  rw [hw, e] at k
  exact steps_same k.sh k.ech k.red k.ker h.sh h.ech h.red (KerEq.refl _ _ _)
theorem few3.mulGss {p q : List (List Rat)} (hp : few3 p) (hq : few3 q) (h : wideq p = q.length) : GssOk (mulq p q) 31 := by
  obtain ⟨h1, h2, h3⟩ := hp.mul hq h
  exact gssOk_of (by rw [mulq_len]; exact hp.2.1) (by rw [h3]; have := hq.2.2.1; omega) ((rowsL_of (shp_of h2) h1.2.2).mono (by rw [h3]; have := hq.2.2.1; omega)) (by omega)
end Go.Proofs.YtfnohdgnhdfpaaaGreat.rat
namespace Go.Proofs.YtfnohdgnhdfpaaaGreat.flow
open Go
set_option linter.unusedVariables false
set_option linter.unusedSimpArgs false
/-- Q, but at the end N. -/
def Behind (N : Act → World → Prop) (Q : Exit → Act → World → Prop) : Exit → Act → World → Prop
  | .normal, a, w => N a w
  | e, a, w => Q e a w
theorem wp_behind {P : Program} {Q : Exit → Act → World → Prop} {N K K' : Act → World → Prop} {o : Oper} {a : Act} {w : World} (h : ∀ a w, K a w → K' a w) (hh : o.wp P a w K (Behind N Q)) : o.wp P a w K' Q := by
  unfold Oper.wp at *
  generalize (execOp a.eval o).run P w = r at *
  cases r with
  | ok n w' =>
    cases n <;> simp only [Oper.upon] at hh ⊢ <;>
      first
        | exact h _ _ hh
        | exact Calls.mono hh (fun e w'' he => by cases e <;> first | exact h _ _ he | exact he)
        | exact Rows.mono hh (fun _ _ he => h _ _ he)
  | halt x w' => cases x <;> simp only [Oper.upon] at hh ⊢ <;> exact hh
theorem mem_ready {md : Region.Mode} {ops : Array Oper} {listed : Array Bool} {i : Nat} : i ∈ Region.ready md ops listed ↔ i < ops.size ∧ listed.getD i true = false ∧ ∃ o, ops[i]? = some o ∧ ∀ e ∈ o.after, Region.binds md e = true → listed.getD e.on false = true := by
  unfold Region.ready
  rw [List.mem_filter, List.mem_range]
  cases h : ops[i]? with
  | none => simp
  | some o =>
    simp only [Bool.and_eq_true, Bool.not_eq_true', Option.map_some, Option.getD_some, Array.all_eq_true_iff_forall_mem, Bool.or_eq_true]
    constructor
    · rintro ⟨h1, h2, h3⟩
      refine ⟨h1, h2, o, rfl, fun e he hb => ?_⟩
      rcases h3 e he with h4 | h4
      · rw [hb] at h4; cases h4
      · exact h4
    · rintro ⟨h1, h2, o', h3, h4⟩
      injection h3 with h3
      subst h3
      refine ⟨h1, h2, fun e he => ?_⟩
      cases hb : Region.binds md e with
      | false => exact .inl rfl
      | true => exact .inr (h4 e he hb)
theorem gd (l : List Bool) (i : Nat) (d : Bool) : l.toArray.getD i d = (l[i]?).getD d := by simp [Array.getD_eq_getD_getElem?]
theorem least_false : ∀ (l : List Bool), 0 < l.countP (!·) → ∃ j : Nat, l[j]? = some false ∧ ∀ i : Nat, i < j → l[i]? = some true
  | [], h => by simp at h
  | false :: l, _ => ⟨0, rfl, fun i hi => absurd hi (Nat.not_lt_zero _)⟩
  | true :: l, h => by
    obtain ⟨j, h1, h2⟩ := least_false l (by simpa using h)
    refine ⟨j + 1, by simpa using h1, fun i hi => ?_⟩
    cases i with
    | zero => rfl
    | succ i => simpa using h2 i (by omega)
theorem all_true : ∀ (l : List Bool), l.countP (!·) = 0 → l = List.replicate l.length true
  | [], _ => rfl
  | false :: l, h => by simp at h
  | true :: l, h => by
    have ih := all_true l (by simpa using h)
    rw [List.length_cons, List.replicate_succ, ← ih]
theorem count_set : ∀ (l : List Bool) (i k : Nat), l[i]? = some false → l.countP (!·) = k + 1 → (l.set i true).countP (!·) = k
  | [], i, k, h, _ => by simp at h
  | b :: l, 0, k, h, hc => by
    obtain rfl : b = false := by simpa using h
    simp at hc ⊢
    omega
  | b :: l, i + 1, k, h, hc => by
    have h' : l[i]? = some false := by simpa using h
    rw [List.set_cons_succ, List.countP_cons]
    rw [List.countP_cons] at hc
    cases b with
    | true => simp at hc ⊢; exact count_set l i k h' hc
    | false =>
      simp at hc ⊢
      have h0 : 0 < l.countP (!·) := List.countP_pos_iff.2 ⟨false, List.mem_of_getElem? h', rfl⟩
      obtain ⟨k', rfl⟩ : ∃ k', k = k' + 1 := ⟨k - 1, by omega⟩
      rw [count_set l i k' h' hc]
/-- Whatever is listed, what it waits for is listed. -/
def Closed (A : List Oper) (l : List Bool) : Prop := ∀ (i : Nat) (o : Oper), A[i]? = some o → l[i]? = some true → ∀ e ∈ o.after, Region.binds .any e = true → l[e.on]? = some true
/-- An operation, and what it waits for, so many steps down. -/
def anc (A : List Oper) : Nat → Nat → List Nat
  | 0, k => [k]
  | f + 1, k => k :: (match A[k]? with
    | some o => o.after.toList.flatMap fun e => if Region.binds .any e = true then anc A f e.on else []
    | none => [])
theorem anc_true {A : List Oper} {l : List Bool} (hc : Closed A l) : ∀ (f k : Nat), l[k]? = some true → ∀ x ∈ anc A f k, l[x]? = some true
  | 0, k, hk, x, hx => by
    obtain rfl := List.mem_singleton.1 hx
    exact hk
  | f + 1, k, hk, x, hx => by
    rcases List.mem_cons.1 hx with rfl | hx
    · exact hk
    · cases ho : A[k]? with
      | none => rw [ho] at hx; cases hx
      | some o =>
        rw [ho] at hx
        obtain ⟨e, he, hx⟩ := List.mem_flatMap.1 hx
        by_cases hb : Region.binds .any e = true
        · rw [if_pos hb] at hx
          exact anc_true hc f e.on (hc k o ho hk e (Array.mem_toList_iff.1 he) hb) x hx
        · rw [if_neg hb] at hx; cases hx
theorem split_main {P : Program} {Q : Exit → Act → World → Prop} {A B : List Oper} {l0 lB : List Bool} {m : Nat} (hlB : lB.length = B.length) (hG : ∀ o ∈ A, o.guard = none) (hback : ∀ (i : Nat) (o : Oper), A[i]? = some o → ∀ e ∈ o.after, Region.binds .any e = true → e.on < i) (hcov : ∀ (i : Nat) (o : Oper), B[i]? = some o → lB[i]? = some false → ∀ k : Nat, l0[k]? = some false → ∃ e ∈ o.after, Region.binds .any e = true ∧ e.on < A.length ∧ k ∈ anc A 20 e.on) :
    ∀ (k : Nat) (l : List Bool) (a : Act) (w : World), Closed A l → (∀ j : Nat, l[j]? = some false → l0[j]? = some false) → l.length = A.length → l.countP (!·) = k →
      wpAny P .any A.toArray (Behind (fun a w => wpAny P .any (A ++ B).toArray Q m (List.replicate A.length true ++ lB).toArray a w) Q) k l.toArray a w →
      wpAny P .any (A ++ B).toArray Q (k + m) (l ++ lB).toArray a w
  | 0, l, a, w, hcl, hmo, hl, hc, h => by
    have e := all_true l hc
    rw [hl] at e
    rw [Nat.zero_add, e]
    exact h.2
  | k + 1, l, a, w, hcl, hmo, hl, hc, h => by
    rw [Nat.add_right_comm]
    obtain ⟨j, hj, hlow⟩ := least_false l (by omega)
    have hjl := (List.getElem?_eq_some_iff.1 hj).1
    have hA : ∀ i, i < A.length → (A ++ B)[i]? = A[i]? := fun i hi => List.getElem?_append_left hi
    have hL : ∀ i, i < A.length → (l ++ lB)[i]? = l[i]? := fun i hi => List.getElem?_append_left (by omega)
    refine ⟨fun hr => ?_, fun i hi => ?_⟩
    · exfalso
      have hjA : j < A.length := by omega
      have hm : j ∈ Region.ready .any (A ++ B).toArray (l ++ lB).toArray := by
        refine mem_ready.2 ⟨by simp; omega, by rw [gd, hL j hjA, hj]; rfl, A[j], by rw [List.getElem?_toArray, hA j hjA]; exact List.getElem?_eq_getElem hjA, fun e he hb => ?_⟩
        have h1 := hback j _ (List.getElem?_eq_getElem hjA) e he hb
        rw [gd, hL e.on (by omega), hlow e.on h1]; rfl
      rw [hr] at hm
      cases hm
    · obtain ⟨h1, h2, o, h3, h4⟩ := mem_ready.1 hi
      rw [List.getElem?_toArray] at h3
      have hiA : i < A.length := by
        rcases Nat.lt_or_ge i A.length with h5 | h5
        · exact h5
        · exfalso
          rw [List.getElem?_append_right h5] at h3
          have h8 : lB[i - A.length]? = some false := by
            rw [gd, List.getElem?_append_right (by omega), hl] at h2
            cases hh : lB[i - A.length]? with
            | none => rw [hh] at h2; cases h2
            | some b => rw [hh] at h2; simp at h2; rw [h2]
          obtain ⟨e, he, hb, hon, hanc⟩ := hcov _ o h3 h8 j (hmo j hj)
          have h6 := h4 e he hb
          rw [gd, hL e.on hon] at h6
          have h9 : l[e.on]? = some true := by
            cases hh : l[e.on]? with
            | none => rw [hh] at h6; cases h6
            | some b => rw [hh] at h6; simp at h6; rw [h6]
          have h10 := anc_true hcl 20 e.on h9 j hanc
          rw [hj] at h10
          cases h10
      rw [hA i hiA] at h3
      have hli : l[i]? = some false := by
        rw [gd, hL i hiA] at h2
        cases hh : l[i]? with
        | none => rw [hh] at h2; cases h2
        | some b => rw [hh] at h2; simp at h2; rw [h2]
      have hiR : i ∈ Region.ready .any A.toArray l.toArray := by
        refine mem_ready.2 ⟨by simpa using hiA, by rw [gd, hli]; rfl, o, by rw [List.getElem?_toArray]; exact h3, fun e he hb => ?_⟩
        have h5 := h4 e he hb
        have h6 := hback i o h3 e he hb
        rw [gd, hL e.on (by omega)] at h5
        rw [gd]; exact h5
      have h7 := h.2 i hiR
      have hg := hG o (List.mem_of_getElem? h3)
      have hw : ∀ (ops : Array Oper), Region.wanted o (yielded ops a.tmps) = true := fun ops => by simp [Region.wanted, hg]
      have hA3 : A.toArray[i]? = some o := by rw [List.getElem?_toArray]; exact h3
      have hB3 : (A ++ B).toArray[i]? = some o := by rw [List.getElem?_toArray, hA i hiA]; exact h3
      unfold wpOp at h7 ⊢
      simp only [hA3, hB3, hw, if_true] at h7 ⊢
      refine h7.imp (wp_behind fun a' w' hk => ?_) id
      have hset : (l ++ lB).toArray.setIfInBounds i true = (l.set i true ++ lB).toArray := by
        rw [List.setIfInBounds_toArray, List.set_append_left _ _ (by omega)]
      rw [hset]
      have hcl' : Closed A (l.set i true) := fun x ox hx hlx e he hb => by
        rw [List.getElem?_set]
        by_cases e1 : i = e.on
        · rw [if_pos e1, if_pos (by omega)]
        · rw [if_neg e1]
          rw [List.getElem?_set] at hlx
          by_cases e2 : i = x
          · subst e2
            rw [h3] at hx
            injection hx with hx
            subst hx
            have h5 := h4 e he hb
            have h6 := hback i o h3 e he hb
            rw [gd, hL e.on (by omega)] at h5
            cases hh : l[e.on]? with
            | none => rw [hh] at h5; cases h5
            | some b => rw [hh] at h5; simp at h5; rw [h5]
          · rw [if_neg e2] at hlx
            exact hcl x ox hx hlx e he hb
      refine split_main hlB hG hback hcov k (l.set i true) a' w' hcl' (fun j' hj' => by
        rw [List.getElem?_set] at hj'
        by_cases e : i = j'
        · rw [if_pos e] at hj'
          split at hj' <;> cases hj'
        · rw [if_neg e] at hj'
          exact hmo j' hj') (by rw [List.length_set]; exact hl) (count_set l i k hli hc) ?_
      rw [← List.setIfInBounds_toArray]
      exact hk
/-- May the region be cut there? -/
def cutB (A B : List Oper) (l lB : List Bool) : Bool :=
  (A.all fun o => o.guard.isNone) && ((List.range A.length).all fun i => ((A[i]?).map fun o => o.after.all fun e => !Region.binds .any e || decide (e.on < i)).getD true) && ((List.range B.length).all fun i => lB[i]? == some true || ((B[i]?).map fun o => (List.range l.length).all fun k => l[k]? == some true || o.after.any fun e => Region.binds .any e && (decide (e.on < A.length) && (anc A 20 e.on).contains k)).getD true) && (decide (l.length = A.length) && decide (lB.length = B.length)) && ((List.range A.length).all fun i => !(l[i]? == some true) || ((A[i]?).map fun o => o.after.all fun e => !Region.binds .any e || l[e.on]? == some true).getD true)
theorem any_cut {P : Program} {Q : Exit → Act → World → Prop} {ops : Array Oper} (n : Nat) (l lB : List Bool) (m : Nat) {a : Act} {w : World} (hB : cutB (ops.toList.take n) (ops.toList.drop n) l lB = true)
    (h : wpAny P .any (ops.toList.take n).toArray (Behind (fun a w => wpAny P .any ops Q m (List.replicate (ops.toList.take n).length true ++ lB).toArray a w) Q) (l.countP (!·)) l.toArray a w) : wpAny P .any ops Q (l.countP (!·) + m) (l ++ lB).toArray a w := by
  have hop : (ops.toList.take n ++ ops.toList.drop n).toArray = ops := by rw [List.take_append_drop]
  generalize ops.toList.take n = A at *
  generalize ops.toList.drop n = B at *
  subst hop
  unfold cutB at hB
  simp only [Bool.and_eq_true, List.all_eq_true, Option.isNone_iff_eq_none, List.mem_range, decide_eq_true_eq] at hB
  obtain ⟨⟨⟨⟨h1, h2⟩, h3⟩, h4, h5⟩, h0⟩ := hB
  refine split_main (P := P) (Q := Q) (A := A) (B := B) (l0 := l) (m := m) h5 h1 (fun i o hi e he hb => by
    have h4 := h2 i (List.getElem?_eq_some_iff.1 hi).1
    rw [hi] at h4
    simp only [Option.map_some, Option.getD_some, Array.all_eq_true_iff_forall_mem, Bool.or_eq_true, Bool.not_eq_true', decide_eq_true_eq] at h4
    rcases h4 e he with h5 | h5
    · rw [hb] at h5; cases h5
    · exact h5) (fun i o ho hb0 k hk => by
    have h6 := h3 i (List.getElem?_eq_some_iff.1 ho).1
    rw [ho, hb0] at h6
    simp only [Option.map_some, Option.getD_some, Bool.or_eq_true, List.all_eq_true, List.mem_range, Array.any_eq_true', Bool.and_eq_true, beq_iff_eq, decide_eq_true_eq, List.contains_iff_mem] at h6
    rcases h6 with h6 | h6
    · cases h6
    · rcases h6 k (List.getElem?_eq_some_iff.1 hk).1 with h7 | ⟨e, he, hb, hon⟩
      · rw [hk] at h7; cases h7
      · exact ⟨e, he, hb, hon⟩) _ l a w (fun i o hi hli e he hb => by
    have h7 := h0 i (List.getElem?_eq_some_iff.1 hi).1
    rw [hi, hli] at h7
    simp only [Option.map_some, Option.getD_some, Bool.or_eq_true, Bool.not_eq_true', Array.all_eq_true_iff_forall_mem, beq_self_eq_true, Bool.true_eq_false, false_or, beq_iff_eq, reduceCtorEq] at h7
    rcases h7 e he with h8 | h8
    · rw [hb] at h8; cases h8
    · exact h8) (fun j hj => hj) h4 rfl h
theorem any_cut_at {P : Program} {Q : Exit → Act → World → Prop} {ops : Array Oper} {fuel : Nat} {listed : Array Bool} (n : Nat) (l lB : List Bool) (k m : Nat) {a : Act} {w : World} (hB : cutB (ops.toList.take n) (ops.toList.drop n) l lB = true) (hk : l.countP (!·) = k) (hf : fuel = k + m) (hl : listed = (l ++ lB).toArray)
    (h : wpAny P .any (ops.toList.take n).toArray (Behind (fun a w => wpAny P .any ops Q m (List.replicate l.length true ++ lB).toArray a w) Q) k l.toArray a w) : wpAny P .any ops Q fuel listed a w := by
  subst hf; subst hl; subst hk
  have e : l.length = (ops.toList.take n).length := by
    unfold cutB at hB
    simp only [Bool.and_eq_true, decide_eq_true_eq] at hB
    exact hB.1.2.1
  rw [e] at h
  exact any_cut n l lB m hB h
end Go.Proofs.YtfnohdgnhdfpaaaGreat.flow
namespace Go.Proofs.YtfnohdgnhdfpaaaGreat.rat
open Go.RowKit Go.Proofs.YtfnohdgnhdfpaaaGreat.num Go.Proofs.YtfnohdgnhdfpaaaGreat.mem Go.Proofs.YtfnohdgnhdfpaaaGreat.nat Go.Proofs.YtfnohdgnhdfpaaaGreat.txt Go.Proofs.YtfnohdgnhdfpaaaGreat.str Go.Proofs.YtfnohdgnhdfpaaaGreat.flow Go.Proofs.YtfnohdgnhdfpaaaGreat.whl
set_option linter.unusedVariables false
set_option linter.unusedSimpArgs false
/-- So far as row i, all rows are as long as the first one. -/
structure EvF (M n i : Nat) (pss qss : List (List Elt)) : Prop where
  len : pss.length = n
  same : qss.map List.length = pss.map List.length
  low : ∀ (j : Nat) (ps p0 : List Elt), j < i → pss[j]? = some ps → pss[0]? = some p0 → ps.length = p0.length
  most : ∀ ps ∈ pss, ps.length ≤ M
  small : ∀ e ∈ pss.flatten, lenQ e.1 1
theorem EvF.pair {M n i : Nat} {pss qss : List (List Elt)} (h : EvF M n i pss qss) {j : Nat} {ps qs : List Elt} (hp : pss[j]? = some ps) (hq : qss[j]? = some qs) : qs.length = ps.length := by
  have h1 := congrArg (fun l => l[j]?) h.same
  simp only [List.getElem?_map, hp, hq, Option.map_some] at h1
  exact Option.some.inj h1
theorem same_set {pss qss : List (List Elt)} (h : qss.map List.length = pss.map List.length) (i : Nat) {a b : List Elt} (he : b.length = a.length) : (qss.set i b).map List.length = (pss.set i a).map List.length := by
  rw [List.map_set, List.map_set, h, he]
theorem EvF.grow {M n i : Nat} {pss qss : List (List Elt)} (h : EvF M n i pss qss) {ps qs p0 : List Elt} {a b : Elt} (hp : pss[i]? = some ps) (hq : qss[i]? = some qs) (h0 : pss[0]? = some p0) (hlt : ps.length < p0.length) (hs : lenQ a.1 1) : EvF M n i (pss.set i (ps ++ [a])) (qss.set i (qs ++ [b])) := by
  have hi : i ≠ 0 := fun e => by
    subst e
    rw [hp] at h0
    injection h0 with h0
    subst h0
    omega
  have hm0 := h.most p0 (List.mem_of_getElem? h0)
  refine ⟨by rw [List.length_set]; exact h.len, same_set h.same i (by rw [List.length_append, List.length_append, h.pair hp hq]; rfl), fun j x y hj hx hy => ?_, fun x hx => ?_, fun e he => ?_⟩
  · rw [List.getElem?_set_ne (by omega)] at hx
    rw [List.getElem?_set_ne hi] at hy
    exact h.low j x y hj hx hy
  · rcases List.mem_or_eq_of_mem_set hx with hx | rfl
    · exact h.most x hx
    · rw [List.length_append, List.length_singleton]; omega
  · rcases flatten_set he with he | he
    · exact h.small e he
    · rcases List.mem_append.1 he with he | he
      · exact h.small e (mem_flat hp he)
      · rw [List.mem_singleton.1 he]; exact hs
theorem EvF.cut {M n i : Nat} {pss qss : List (List Elt)} (h : EvF M n i pss qss) {ps qs p0 : List Elt} (hp : pss[i]? = some ps) (hq : qss[i]? = some qs) (h0 : pss[0]? = some p0) (hle : p0.length ≤ ps.length) : EvF M n (i + 1) (pss.set i (ps.take p0.length)) (qss.set i (qs.take p0.length)) := by
  have hlen : (ps.take p0.length).length = p0.length := by rw [List.length_take]; omega
  have hlen2 : (qs.take p0.length).length = p0.length := by rw [List.length_take, h.pair hp hq]; omega
  have hm0 := h.most p0 (List.mem_of_getElem? h0)
  have hz : ∀ y, (pss.set i (ps.take p0.length))[0]? = some y → y.length = p0.length := fun y hy => by
    rcases mem_set_at hy with ⟨_, rfl⟩ | ⟨_, hy⟩
    · exact hlen
    · rw [h0] at hy
      injection hy with hy
      rw [hy]
  refine ⟨by rw [List.length_set]; exact h.len, same_set h.same i (by rw [hlen, hlen2]), fun j x y hj hx hy => ?_, fun x hx => ?_, fun e he => ?_⟩
  · rw [hz y hy]
    rcases mem_set_at hx with ⟨_, rfl⟩ | ⟨hji, hx⟩
    · exact hlen
    · exact h.low j x p0 (by omega) hx h0
  · rcases List.mem_or_eq_of_mem_set hx with hx | rfl
    · exact h.most x hx
    · rw [hlen]; exact hm0
  · rcases flatten_set he with he | he
    · exact h.small e he
    · exact h.small e (mem_flat hp (List.mem_of_mem_take he))
theorem EvF.start {M : Nat} {pss qss : List (List Elt)} (h : valq qss = valq pss) (hl : ∀ r ∈ valq pss, r.length ≤ M ∧ ∀ x ∈ r, lenQ x 1) : EvF M pss.length 0 pss qss := by
  refine ⟨rfl, ?_, fun j _ _ hj => absurd hj (Nat.not_lt_zero _), fun ps hp => ?_, fun e he => ?_⟩
  · have h1 := congrArg (List.map List.length) h
    simp only [valq, List.map_map] at h1
    simpa [Function.comp_def] using h1
  · have h1 := (hl (ps.map (·.1)) (List.mem_map.2 ⟨ps, hp, rfl⟩)).1
    rwa [List.length_map] at h1
  · obtain ⟨ps, hp, he⟩ := List.mem_flatten.1 he
    exact (hl (ps.map (·.1)) (List.mem_map.2 ⟨ps, hp, rfl⟩)).2 e.1 (List.mem_map.2 ⟨e, he, rfl⟩)
theorem EvF.done {M n : Nat} {pss qss : List (List Elt)} (h : EvF M n n pss qss) : evenq (valq pss) ∧ wideq (valq pss) ≤ M ∧ lenT (valq pss) 1 := by
  refine ⟨fun r hr => ?_, ?_, fun r hr x hx => ?_⟩
  · obtain ⟨ps, hp, rfl⟩ := List.mem_map.1 hr
    obtain ⟨j, hj⟩ := List.mem_iff_getElem?.1 hp
    have hjn : j < pss.length := (List.getElem?_eq_some_iff.1 hj).1
    obtain ⟨p0, h0⟩ : ∃ p0, pss[0]? = some p0 := ⟨_, List.getElem?_eq_getElem (by omega)⟩
    rw [wideq_at (valq_at h0), List.length_map, List.length_map]
    exact h.low j ps p0 (by rw [← h.len]; exact hjn) hj h0
  · cases hz : pss[0]? with
    | none =>
      have : pss = [] := List.length_eq_zero_iff.1 (by have := List.getElem?_eq_none_iff.1 hz; omega)
      rw [this]; exact Nat.zero_le _
    | some p0 =>
      rw [wideq_at (valq_at hz), List.length_map]
      exact h.most p0 (List.mem_of_getElem? hz)
  · obtain ⟨ps, hp, rfl⟩ := List.mem_map.1 hr
    obtain ⟨e, he, rfl⟩ := List.mem_map.1 hx
    exact h.small e (List.mem_flatten.2 ⟨ps, hp, he⟩)
/-- How long the slice in a cell is. -/
def lenAt (w : World) (g i : Nat) : Nat := match w.cell? ⟨g, i, none⟩ with
  | some (.slice _ n _) => n
  | _ => 0
theorem lenAt_of {w : World} {g i n c : Nat} {A : Option Addr} (h : w.cell? ⟨g, i, none⟩ = some (.slice A n c)) : lenAt w g i = n := by unfold lenAt; rw [h]
theorem RowV.placed {w : World} {base n c : Nat} {TS : TypeId} {A : Option Addr} {us : List Value} (h : RowV w base TS (.slice A n c) us) (hn : 0 < us.length) : ∃ g, A = some ⟨g, 0, none⟩ := by
  rcases h.2 with ⟨_, h0⟩ | ⟨g', cap, cur, e, _⟩
  · omega
  · injection e with e1 e2 e3
    exact ⟨g', e1⟩
theorem RowF.shape {T : TypeId} {w : World} {base : Nat} {v : Value} {ps : List Elt} (h : RowF T w base v ps) : ∃ A c, v = .slice A ps.length c ∧ ps.length ≤ c ∧ c ≤ maxLen := by
  obtain ⟨A, c, e, h1, h2, _⟩ := h.isVF
  exact ⟨A, c, e, h1, h2⟩
set_option maxHeartbeats 6400000 in
set_option maxRecDepth 100000 in
theorem even_any (a0 : Value) (M : Nat) (w : World) (h0 : ArgT w a0) (hM : M ≤ 8) :
    Calls Tryz.prog 34 #[a0, .int .i64 (M : Int)] w (RetEven M w) := by
  obtain ⟨A0, n0, c0, rfl, hc0, hm0⟩ := h0.shape
  go_enter Tryz.func34, Tryz.ntmps34
  go_wp2_with fail
  refine (fewt_own _ M _ h0 hM).mono ?_
  rintro e w1 ⟨V, U, us0, vs0, pss0, qss0, rfl, hT, hvq, hul, hvl⟩
  obtain ⟨AV, cV, eV⟩ := RowV.slice hT.p.row
  obtain ⟨AU, cU, eU⟩ := RowV.slice hT.q.row
  subst eV
  subst eU
  have HE0 := Lib.hid (EvF.start hvq hvl)
  have hpq : vs0.length = us0.length := by
    have h1 := congrArg List.length hvq
    rw [valq_len, valq_len] at h1
    rw [hT.p.len, hT.q.len, h1]
  have hpn := hT.p.len
  have TE0 := Lib.hid hT.e
  rw [hpq] at TE0
  rw [hpq]
  rw [← hpn] at HE0
  obtain ⟨n, hn⟩ : ∃ n, us0.length = n := ⟨_, rfl⟩
  rw [hn] at TE0 HE0 hul
  rw [hn]
  clear hT hvq hvl hpq hpn hn
  go_wp2
  go_loopw [8] (fun v8 wr => ∃ (i : Nat) (us vs : List Value) (pss qss : List (List Elt)), i ≤ n ∧ Hid (TwoE w wr (.slice AV n cV) (.slice AU n cU) us us vs vs pss qss) ∧ Hid (EvF M n i pss qss) ∧ v8 = .int .i64 (i : Int)) (fun v8 _ => n - (intOf v8).toNat)
  case atStart => exact ⟨0, _, _, _, _, by omega, TE0, HE0, rfl⟩
  case round =>
    obtain ⟨i, us, vs, pss, qss, hi, TE, EF, rfl⟩ := hrel
    clear TE0 HE0
    by_cases hlt : i < n
    · obtain ⟨g, hg⟩ := RowV.placed TE.out.p.row (by rw [TE.out.p.len, EF.out.len]; omega)
      obtain ⟨f, hf⟩ := RowV.placed TE.out.q.row (by
        have h1 := congrArg List.length EF.out.same
        rw [List.length_map, List.length_map, EF.out.len] at h1
        rw [TE.out.q.len, h1]; omega)
      subst hg
      subst hf
      go_wp2
      go_loopw [] (fun wr => ∃ (us vs : List Value) (pss qss : List (List Elt)), Hid (TwoE w wr (.slice (some ⟨g, 0, none⟩) n cV) (.slice (some ⟨f, 0, none⟩) n cU) us us vs vs pss qss) ∧ Hid (EvF M n i pss qss)) (fun wr => lenAt wr g 0 - lenAt wr g i)
      case atStart => exact ⟨us, vs, pss, qss, TE, EF⟩
      case round =>
        clear TE EF
        obtain ⟨us, vs, pss, qss, TE, EF⟩ := hrel
        have hqn : qss.length = n := by
          have h1 := congrArg List.length EF.out.same
          rwa [List.length_map, List.length_map, EF.out.len] at h1
        obtain ⟨u, hu⟩ : ∃ u, us[i]? = some u := ⟨_, List.getElem?_eq_getElem (by rw [TE.out.p.len, EF.out.len]; exact hlt)⟩
        obtain ⟨z, hz⟩ : ∃ z, us[0]? = some z := ⟨_, List.getElem?_eq_getElem (by rw [TE.out.p.len, EF.out.len]; omega)⟩
        obtain ⟨v, hv⟩ : ∃ v, vs[i]? = some v := ⟨_, List.getElem?_eq_getElem (by rw [TE.out.q.len, hqn]; exact hlt)⟩
        obtain ⟨ps, hps, ru⟩ := TE.out.p.at hu
        obtain ⟨p0, hp0, rz⟩ := TE.out.p.at hz
        obtain ⟨qs, hqs, rv⟩ := TE.out.q.at hv
        have hle := EF.out.pair hps hqs
        have hm1 := EF.out.most ps (List.mem_of_getElem? hps)
        have hm0' := EF.out.most p0 (List.mem_of_getElem? hp0)
        obtain ⟨Au, cu, eu, hcu, hxu⟩ := ru.shape
        obtain ⟨Az, cz, ez, hcz, hxz⟩ := rz.shape
        obtain ⟨Av, cv, ev, hcv, hxv⟩ := rv.shape
        rw [hle] at ev hcv
        subst eu
        subst ez
        subst ev
        have HU := Lib.hid hu
        have HV := Lib.hid hv
        have HPS := Lib.hid hps
        have HQS := Lib.hid hqs
        have HP0 := Lib.hid hp0
        have HLE := Lib.hid hle
        have lI := Lib.hid (lenAt_of (TE.out.p.row.cellAt hu))
        have l0 := Lib.hid (lenAt_of (TE.out.p.row.cellAt hz))
        have TD := Lib.hid (TE.out.to (Below.refl _ wr).drew)
        have cI := TD.out.p.row.cellAt hu
        have c0 := TD.out.p.row.cellAt hz
        have h0n : 0 < n := by omega
        have HZ := Lib.hid hz
        clear hu hz hv hps hqs hp0 hle ru rz rv
        unfold maxLen at hxu hxz hxv
        by_cases hlt2 : ps.length < p0.length
        · go_upto_region 5 with (fail)
          go_region
          all_goals
            clear cI c0
            obtain ⟨W0, hW0⟩ : ∃ W0, W0 = wr.drew := ⟨_, rfl⟩
            rw [← hW0] at TD ⊢
            clear hW0
            have T0 := Lib.hid (TD.out.to (Below.refl _ W0).drew)
            have cI := T0.out.p.row.cellAt HU.out
            have cVV := T0.out.q.row.cellAt HV.out
            have HL8 : Hid (ps.length ≤ 1000000000 ∧ qs.length ≤ 1000000000) := ⟨by omega, by have := HLE.out; omega⟩
            obtain ⟨X, hX⟩ : ∃ X : Rat, X = (((ps.length + i : Nat) : Int) : Rat) := ⟨_, rfl⟩
            obtain ⟨Y, hY⟩ : ∃ Y : Rat, Y = mkRat ((ps.length + i : Nat) : Int) 1 := ⟨_, rfl⟩
            have hwI : IntKind.i64.wrap ((ps.length : Int) + (i : Int)) = ((ps.length + i : Nat) : Int) := by simp [IntKind.wrap, IntKind.bits, IntKind.signed]; omega
            have CO : ∀ w, Calls Tryz.prog 32 #[.int .i64 (IntKind.i64.wrap ((ps.length : Int) + (i : Int)))] w (RetQ X w) := fun w => by
              rw [hX, hwI]
              exact of8_any _ w (by omega) (by omega)
            have CN : ∀ w, Calls Tryz.prog 59 #[.int .i64 (IntKind.i64.wrap ((ps.length : Int) + (i : Int))), .int .i64 1] w (RetPF Y w) := fun w => by
              rw [hY, hwI]
              exact qnum_any _ 1 w 1 rfl (by omega) (by omega) (by omega) (by omega)
            have HXL : Hid (lenQ X 1) := by show lenQ _ _; rw [hX]; exact lenQ_small (ps.length + i) (by omega)
            have hi0 : i ≠ 0 := fun e => by
              subst e
              have h1 := HPS.out
              rw [HP0.out] at h1
              injection h1 with h1
              rw [h1] at hlt2
              exact Nat.lt_irrefl _ hlt2
            clear hX hY TD hwI
            go_upto_region 6 with (fail)
            refine wp_region_any (by kernel_rfl) (show wpAny _ _ _ _ _ _ _ W0.drew from ?_)
            refine wpAny_take (i := 2) (v := .slice (some ⟨f, 0, none⟩) n cU) rfl (by kernel_rfl) (by kernel_rfl) (by kernel_rfl) (fun _ _ _ h => h) (Or.inl ⟨by rfl, fun w => by (go_simp; first | done | with_reducible rfl)⟩) ?_
            simp only [Act.put, List.setIfInBounds_toArray, List.set_cons_zero, List.set_cons_succ]
            refine wpAny_take (i := 3) (v := .int .i64 (i : Int)) rfl (by kernel_rfl) (by kernel_rfl) (by kernel_rfl) (fun _ _ _ h => h) (Or.inl ⟨by rfl, fun w => by (go_simp; first | done | with_reducible rfl)⟩) ?_
            simp only [Act.put, List.setIfInBounds_toArray, List.set_cons_zero, List.set_cons_succ]
            refine any_cut_at 32 [false, false, true, true, false, false, false, false, false, false, false, false, false, false, false, false, false, false, false, false, false, false, false, false, false, false, false, false, false, false, false, false] [false, false, false, false] 30 4 (by kernel_rfl) (by kernel_rfl) (by kernel_rfl) (by kernel_rfl) ?_
            simp only [List.take_succ_cons, List.take_zero]
            have hHeld : (fun w2 : World => w2.cell? ⟨g, i, none⟩ = some (.slice Au ps.length cu) ∧ w2.cell? ⟨f, i, none⟩ = some (.slice Av ps.length cv)) W0.drew := ⟨cI, cVV⟩
            refine wpAny_of_held (S := fun w2 : World => w2.cell? ⟨g, i, none⟩ = some (.slice Au ps.length cu) ∧ w2.cell? ⟨f, i, none⟩ = some (.slice Av ps.length cv)) _ _ _ _ ?_
            refine wpAnyH_take (i := 0) (v := .slice (some ⟨g, 0, none⟩) n cV) rfl (by kernel_rfl) (by kernel_rfl) (by kernel_rfl) (fun _ _ _ h => h) (Or.inl ⟨by rfl, fun w hSw => by (obtain ⟨hS1, hS2⟩ := hSw; go_simp; first | done | with_reducible rfl)⟩) hHeld ?_
            simp only [Act.put, List.setIfInBounds_toArray, List.set_cons_zero, List.set_cons_succ]
            refine wpAnyH_take (i := 1) (v := .int .i64 (i : Int)) rfl (by kernel_rfl) (by kernel_rfl) (by kernel_rfl) (fun _ _ _ h => h) (Or.inl ⟨by rfl, fun w hSw => by (obtain ⟨hS1, hS2⟩ := hSw; go_simp; first | done | with_reducible rfl)⟩) hHeld ?_
            simp only [Act.put, List.setIfInBounds_toArray, List.set_cons_zero, List.set_cons_succ]
            refine wpAnyH_take (i := 4) (v := .slice (some ⟨g, 0, none⟩) n cV) rfl (by kernel_rfl) (by kernel_rfl) (by kernel_rfl) (fun _ _ _ h => h) (Or.inl ⟨by rfl, fun w hSw => by (obtain ⟨hS1, hS2⟩ := hSw; go_simp; first | done | with_reducible rfl)⟩) hHeld ?_
            simp only [Act.put, List.setIfInBounds_toArray, List.set_cons_zero, List.set_cons_succ]
            refine wpAnyH_take (i := 5) (v := .int .i64 (i : Int)) rfl (by kernel_rfl) (by kernel_rfl) (by kernel_rfl) (fun _ _ _ h => h) (Or.inl ⟨by rfl, fun w hSw => by (obtain ⟨hS1, hS2⟩ := hSw; go_simp; first | done | with_reducible rfl)⟩) hHeld ?_
            simp only [Act.put, List.setIfInBounds_toArray, List.set_cons_zero, List.set_cons_succ]
            refine wpAnyH_take (i := 6) (v := .pointer (some ⟨g, i, none⟩)) rfl (by kernel_rfl) (by kernel_rfl) (by kernel_rfl) (fun _ _ _ h => h) (Or.inl ⟨by rfl, fun w hSw => by (obtain ⟨hS1, hS2⟩ := hSw; go_simp; first | done | with_reducible rfl)⟩) hHeld ?_
            simp only [Act.put, List.setIfInBounds_toArray, List.set_cons_zero, List.set_cons_succ]
            refine wpAnyH_take (i := 7) (v := .slice Au ps.length cu) rfl (by kernel_rfl) (by kernel_rfl) (by kernel_rfl) (fun _ _ _ h => h) (Or.inl ⟨by rfl, fun w hSw => by (obtain ⟨hS1, hS2⟩ := hSw; go_simp; first | done | with_reducible rfl)⟩) hHeld ?_
            simp only [Act.put, List.setIfInBounds_toArray, List.set_cons_zero, List.set_cons_succ]
            refine wpAnyH_take (i := 8) (v := .slice (some ⟨g, 0, none⟩) n cV) rfl (by kernel_rfl) (by kernel_rfl) (by kernel_rfl) (fun _ _ _ h => h) (Or.inl ⟨by rfl, fun w hSw => by (obtain ⟨hS1, hS2⟩ := hSw; go_simp; first | done | with_reducible rfl)⟩) hHeld ?_
            simp only [Act.put, List.setIfInBounds_toArray, List.set_cons_zero, List.set_cons_succ]
            refine wpAnyH_take (i := 9) (v := .int .i64 (i : Int)) rfl (by kernel_rfl) (by kernel_rfl) (by kernel_rfl) (fun _ _ _ h => h) (Or.inl ⟨by rfl, fun w hSw => by (obtain ⟨hS1, hS2⟩ := hSw; go_simp; first | done | with_reducible rfl)⟩) hHeld ?_
            simp only [Act.put, List.setIfInBounds_toArray, List.set_cons_zero, List.set_cons_succ]
            refine wpAnyH_take (i := 10) (v := .pointer (some ⟨g, i, none⟩)) rfl (by kernel_rfl) (by kernel_rfl) (by kernel_rfl) (fun _ _ _ h => h) (Or.inl ⟨by rfl, fun w hSw => by (obtain ⟨hS1, hS2⟩ := hSw; go_simp; first | done | with_reducible rfl)⟩) hHeld ?_
            simp only [Act.put, List.setIfInBounds_toArray, List.set_cons_zero, List.set_cons_succ]
            refine wpAnyH_take (i := 11) (v := .slice Au ps.length cu) rfl (by kernel_rfl) (by kernel_rfl) (by kernel_rfl) (fun _ _ _ h => h) (Or.inl ⟨by rfl, fun w hSw => by (obtain ⟨hS1, hS2⟩ := hSw; go_simp; first | done | with_reducible rfl)⟩) hHeld ?_
            simp only [Act.put, List.setIfInBounds_toArray, List.set_cons_zero, List.set_cons_succ]
            refine wpAnyH_take (i := 12) (v := .int .i64 ((ps.length : Nat) : Int)) rfl (by kernel_rfl) (by kernel_rfl) (by kernel_rfl) (fun _ _ _ h => h) (Or.inl ⟨by rfl, fun w hSw => by (obtain ⟨hS1, hS2⟩ := hSw; go_simp; first | done | with_reducible rfl)⟩) hHeld ?_
            simp only [Act.put, List.setIfInBounds_toArray, List.set_cons_zero, List.set_cons_succ]
            refine wpAnyH_take (i := 13) (v := .int .i64 (i : Int)) rfl (by kernel_rfl) (by kernel_rfl) (by kernel_rfl) (fun _ _ _ h => h) (Or.inl ⟨by rfl, fun w hSw => by (obtain ⟨hS1, hS2⟩ := hSw; go_simp; first | done | with_reducible rfl)⟩) hHeld ?_
            simp only [Act.put, List.setIfInBounds_toArray, List.set_cons_zero, List.set_cons_succ]
            refine wpAnyH_take (i := 14) (v := .int .i64 (IntKind.i64.wrap ((ps.length : Int) + (i : Int)))) rfl (by kernel_rfl) (by kernel_rfl) (by kernel_rfl) (fun _ _ _ h => h) (Or.inl ⟨by rfl, fun w hSw => by (obtain ⟨hS1, hS2⟩ := hSw; go_simp; first | done | with_reducible rfl)⟩) hHeld ?_
            simp only [Act.put, List.setIfInBounds_toArray, List.set_cons_zero, List.set_cons_succ]
            refine wpAnyH_take (i := 18) (v := .slice (some ⟨f, 0, none⟩) n cU) rfl (by kernel_rfl) (by kernel_rfl) (by kernel_rfl) (fun _ _ _ h => h) (Or.inl ⟨by rfl, fun w hSw => by (obtain ⟨hS1, hS2⟩ := hSw; go_simp; first | done | with_reducible rfl)⟩) hHeld ?_
            simp only [Act.put, List.setIfInBounds_toArray, List.set_cons_zero, List.set_cons_succ]
            refine wpAnyH_take (i := 19) (v := .int .i64 (i : Int)) rfl (by kernel_rfl) (by kernel_rfl) (by kernel_rfl) (fun _ _ _ h => h) (Or.inl ⟨by rfl, fun w hSw => by (obtain ⟨hS1, hS2⟩ := hSw; go_simp; first | done | with_reducible rfl)⟩) hHeld ?_
            simp only [Act.put, List.setIfInBounds_toArray, List.set_cons_zero, List.set_cons_succ]
            refine wpAnyH_take (i := 20) (v := .pointer (some ⟨f, i, none⟩)) rfl (by kernel_rfl) (by kernel_rfl) (by kernel_rfl) (fun _ _ _ h => h) (Or.inl ⟨by rfl, fun w hSw => by (obtain ⟨hS1, hS2⟩ := hSw; go_simp; first | done | with_reducible rfl)⟩) hHeld ?_
            simp only [Act.put, List.setIfInBounds_toArray, List.set_cons_zero, List.set_cons_succ]
            refine wpAnyH_take (i := 21) (v := .slice Av ps.length cv) rfl (by kernel_rfl) (by kernel_rfl) (by kernel_rfl) (fun _ _ _ h => h) (Or.inl ⟨by rfl, fun w hSw => by (obtain ⟨hS1, hS2⟩ := hSw; go_simp; first | done | with_reducible rfl)⟩) hHeld ?_
            simp only [Act.put, List.setIfInBounds_toArray, List.set_cons_zero, List.set_cons_succ]
            refine wpAnyH_take (i := 22) (v := .slice (some ⟨f, 0, none⟩) n cU) rfl (by kernel_rfl) (by kernel_rfl) (by kernel_rfl) (fun _ _ _ h => h) (Or.inl ⟨by rfl, fun w hSw => by (obtain ⟨hS1, hS2⟩ := hSw; go_simp; first | done | with_reducible rfl)⟩) hHeld ?_
            simp only [Act.put, List.setIfInBounds_toArray, List.set_cons_zero, List.set_cons_succ]
            refine wpAnyH_take (i := 23) (v := .int .i64 (i : Int)) rfl (by kernel_rfl) (by kernel_rfl) (by kernel_rfl) (fun _ _ _ h => h) (Or.inl ⟨by rfl, fun w hSw => by (obtain ⟨hS1, hS2⟩ := hSw; go_simp; first | done | with_reducible rfl)⟩) hHeld ?_
            simp only [Act.put, List.setIfInBounds_toArray, List.set_cons_zero, List.set_cons_succ]
            refine wpAnyH_take (i := 24) (v := .pointer (some ⟨f, i, none⟩)) rfl (by kernel_rfl) (by kernel_rfl) (by kernel_rfl) (fun _ _ _ h => h) (Or.inl ⟨by rfl, fun w hSw => by (obtain ⟨hS1, hS2⟩ := hSw; go_simp; first | done | with_reducible rfl)⟩) hHeld ?_
            simp only [Act.put, List.setIfInBounds_toArray, List.set_cons_zero, List.set_cons_succ]
            refine wpAnyH_take (i := 25) (v := .slice Av ps.length cv) rfl (by kernel_rfl) (by kernel_rfl) (by kernel_rfl) (fun _ _ _ h => h) (Or.inl ⟨by rfl, fun w hSw => by (obtain ⟨hS1, hS2⟩ := hSw; go_simp; first | done | with_reducible rfl)⟩) hHeld ?_
            simp only [Act.put, List.setIfInBounds_toArray, List.set_cons_zero, List.set_cons_succ]
            refine wpAnyH_take (i := 26) (v := .int .i64 ((ps.length : Nat) : Int)) rfl (by kernel_rfl) (by kernel_rfl) (by kernel_rfl) (fun _ _ _ h => h) (Or.inl ⟨by rfl, fun w hSw => by (obtain ⟨hS1, hS2⟩ := hSw; go_simp; first | done | with_reducible rfl)⟩) hHeld ?_
            simp only [Act.put, List.setIfInBounds_toArray, List.set_cons_zero, List.set_cons_succ]
            refine wpAnyH_take (i := 27) (v := .int .i64 (i : Int)) rfl (by kernel_rfl) (by kernel_rfl) (by kernel_rfl) (fun _ _ _ h => h) (Or.inl ⟨by rfl, fun w hSw => by (obtain ⟨hS1, hS2⟩ := hSw; go_simp; first | done | with_reducible rfl)⟩) hHeld ?_
            simp only [Act.put, List.setIfInBounds_toArray, List.set_cons_zero, List.set_cons_succ]
            refine wpAnyH_take (i := 28) (v := .int .i64 (IntKind.i64.wrap ((ps.length : Int) + (i : Int)))) rfl (by kernel_rfl) (by kernel_rfl) (by kernel_rfl) (fun _ _ _ h => h) (Or.inl ⟨by rfl, fun w hSw => by (obtain ⟨hS1, hS2⟩ := hSw; go_simp; first | done | with_reducible rfl)⟩) hHeld ?_
            simp only [Act.put, List.setIfInBounds_toArray, List.set_cons_zero, List.set_cons_succ]
            refine wpAnyH_ready (rs := [15]) (by kernel_rfl) (by simp) ?_
            refine AllReadyH.cons rfl (fun K hK => ?_) AllReadyH.nil
            go_simp
            go_at_call 32
            refine (CO _).mono ?_
            rintro e w6 ⟨v6, rfl, k6, f6, b6⟩
            have T6 := Lib.hid (T0.out.to b6)
            have c6I := T6.out.p.row.cellAt HU.out
            have c6V := T6.out.q.row.cellAt HV.out
            obtain ⟨u6, t6, rfl, q6, d6⟩ := k6
            obtain ⟨A6, c6, rfl, _⟩ := id q6
            obtain ⟨D6, e6, rfl, _⟩ := id d6
            obtain ⟨cC0, cC1, cC2⟩ := new_cells w6 44 (.bool (ngB X.num)) (.slice A6 (digs 4294967296 X.num.natAbs).length c6) (.slice D6 (digs 4294967296 X.den).length e6)
            have ba6 := below_alloc (w := w6) (Nat.le_refl _) (.cells #[.bool (ngB X.num), .slice A6 (digs 4294967296 X.num.natAbs).length c6, .slice D6 (digs 4294967296 X.den).length e6] 44)
            have TC := Lib.hid (T6.out.to ba6)
            have rC := TC.out.p.own i _ ps HU.out HPS.out
            have hszC := TC.out.below.size
            have cCI := TC.out.p.row.cellAt HU.out
            have cCV := TC.out.q.row.cellAt HV.out
            have NE : Hid (Els _ _ [((X, .slice A6 (digs 4294967296 X.num.natAbs).length c6, .slice D6 (digs 4294967296 X.den).length e6) : Elt)]) := T0.out.new (e := (X, .slice A6 (digs 4294967296 X.num.natAbs).length c6, .slice D6 (digs 4294967296 X.den).length e6)) (b6.trans (ba6.mono b6.size)) ⟨q6.below ba6, d6.below ba6⟩ (f6 _ _ _ rfl).1 (f6 _ _ _ rfl).2
            refine hK.out _ _ ⟨c6I, c6V⟩ (fun hHeld => ?_)
            clear hK K
            simp only [Act.put, List.setIfInBounds_toArray, List.set_cons_zero, List.set_cons_succ]
            refine wpAnyH_ready (rs := [16]) (by kernel_rfl) (by simp) ?_
            refine AllReadyH.cons rfl (fun K hK => ?_) AllReadyH.nil
            go_simp
            refine hK.out _ _ ⟨cCI, cCV⟩ (fun hHeld => ?_)
            clear hK K
            simp only [Act.put, List.setIfInBounds_toArray, List.set_cons_zero, List.set_cons_succ]
            refine wpAnyH_ready (rs := [17]) (by kernel_rfl) (by simp) ?_
            refine AllReadyH.cons rfl (fun K hK => ?_) AllReadyH.nil
            refine step_append_q rfl (.tmp 38) (.tmp 47) rfl Tryz.underlying64 info_rat (v := .slice Au ps.length cu) (p := (X, .slice A6 (digs 4294967296 X.num.natAbs).length c6, .slice D6 (digs 4294967296 X.den).length e6)) (ps := ps) (by rfl) (by exact rC) (ad := ⟨w6.heap.size, 0, none⟩) (c := 1) (by rfl) (by exact cC0) (by exact cC1) (by exact cC2) rfl rfl HL8.out.1 (by exact hszC) ?_
            intro v5 w5 row5 bb5 HK5
            have T5 := Lib.hid (TC.out.growP HU.out HPS.out row5 HK5.out NE.out bb5)
            obtain ⟨A5, c5, e5, _, _⟩ := row5.shape
            rw [List.length_append, List.length_singleton] at e5
            subst e5
            have c5V := T5.out.q.row.cellAt HV.out
            have c5I := T5.out.p.row.cellAt HU.out
            refine hK.out _ _ ⟨c5I, c5V⟩ (fun hHeld => ?_)
            clear hK K
            simp only [Act.put, List.setIfInBounds_toArray, List.set_cons_zero, List.set_cons_succ]
            refine wpAnyH_ready (rs := [29]) (by kernel_rfl) (by simp) ?_
            refine AllReadyH.cons rfl (fun K hK => ?_) AllReadyH.nil
            go_simp
            go_at_call 59
            refine (CN _).mono ?_
            rintro e w8 ⟨v8, rfl, k8, f8, b8⟩
            have T8 := Lib.hid (T5.out.to b8)
            have c8V := T8.out.q.row.cellAt HV.out
            obtain ⟨u8, t8, rfl, q8, d8⟩ := k8
            obtain ⟨A8, c8, rfl, _⟩ := id q8
            obtain ⟨D8, e8, rfl, _⟩ := id d8
            obtain ⟨cN0, cN1, cN2⟩ := new_cells w8 55 (.bool (ngB Y.num)) (.slice A8 (digs 10000 Y.num.natAbs).length c8) (.slice D8 (digs 10000 Y.den).length e8)
            have ba8 := below_alloc (w := w8) (Nat.le_refl _) (.cells #[.bool (ngB Y.num), .slice A8 (digs 10000 Y.num.natAbs).length c8, .slice D8 (digs 10000 Y.den).length e8] 55)
            have TN := Lib.hid (T8.out.to ba8)
            have rN := TN.out.q.own i _ qs HV.out HQS.out
            have hszN := TN.out.below.size
            have cNV := TN.out.q.row.cellAt HV.out
            refine hK.out _ _ ⟨T8.out.p.row.cellAt HU.out, c8V⟩ (fun hHeld => ?_)
            clear hK K
            simp only [Act.put, List.setIfInBounds_toArray, List.set_cons_zero, List.set_cons_succ]
            refine wpAnyH_ready (rs := [30]) (by kernel_rfl) (by simp) ?_
            refine AllReadyH.cons rfl (fun K hK => ?_) AllReadyH.nil
            go_simp
            refine hK.out _ _ ⟨TN.out.p.row.cellAt HU.out, cNV⟩ (fun hHeld => ?_)
            clear hK K
            simp only [Act.put, List.setIfInBounds_toArray, List.set_cons_zero, List.set_cons_succ]
            refine wpAnyH_ready (rs := [31]) (by kernel_rfl) (by simp) ?_
            refine AllReadyH.cons rfl (fun K hK => ?_) AllReadyH.nil
            refine step_append_q rfl (.tmp 52) (.tmp 61) rfl Tryz.underlying87 info_q (v := .slice Av ps.length cv) (p := (Y, .slice A8 (digs 10000 Y.num.natAbs).length c8, .slice D8 (digs 10000 Y.den).length e8)) (ps := qs) (by rfl) (by exact rN) (ad := ⟨w8.heap.size, 0, none⟩) (c := 1) (by rfl) (by exact cN0) (by exact cN1) (by exact cN2) rfl rfl HL8.out.2 (by exact hszN) ?_
            intro v7 w7 row7 bb7 HK7
            have T7 := Lib.hid (TN.out.growQ HV.out row7 HK7.out bb7)
            obtain ⟨A7, c7, e7, _, _⟩ := row7.shape
            rw [List.length_append, List.length_singleton, HLE.out] at e7
            subst e7
            have c7I := T7.out.p.row.cellAt HU.out
            have f7I := T7.out.p.row.frozenAt i
            have c7V := T7.out.q.row.cellAt HV.out
            have f7V := T7.out.q.row.frozenAt i
            have T7p := Lib.hid (T7.out.storeP (i := i) (.slice A5 (ps.length + 1) c5))
            have c9V := T7p.out.q.row.cellAt HV.out
            have f9V := T7p.out.q.row.frozenAt i
            refine hK.out _ _ ⟨c7I, c7V⟩ (fun hHeld => ?_)
            clear hK K
            simp only [Act.put, List.setIfInBounds_toArray, List.set_cons_zero, List.set_cons_succ]
            refine wpAnyH_done (by kernel_rfl) ?_ _
            dsimp only [Behind]
            refine wpAny_take (i := 32) (v := .pointer (some ⟨g, i, none⟩)) rfl (by kernel_rfl) (by kernel_rfl) (by kernel_rfl) (fun _ _ _ h => h) (Or.inl ⟨by rfl, fun w => by (go_simp; first | done | with_reducible rfl)⟩) ?_
            simp only [Act.put, List.setIfInBounds_toArray, List.set_cons_zero, List.set_cons_succ]
            refine wpAny_ready (rs := [33]) (by kernel_rfl) (by simp) ?_
            refine AllReady.cons rfl (fun K hK => ?_) AllReady.nil
            go_simp
            refine hK _ _ ?_
            clear hK K
            simp only [Act.put, List.setIfInBounds_toArray, List.set_cons_zero, List.set_cons_succ]
            refine wpAny_take (i := 34) (v := .pointer (some ⟨f, i, none⟩)) rfl (by kernel_rfl) (by kernel_rfl) (by kernel_rfl) (fun _ _ _ h => h) (Or.inl ⟨by rfl, fun w => by (go_simp; first | done | with_reducible rfl)⟩) ?_
            simp only [Act.put, List.setIfInBounds_toArray, List.set_cons_zero, List.set_cons_succ]
            refine wpAny_ready (rs := [35]) (by kernel_rfl) (by simp) ?_
            refine AllReady.cons rfl (fun K hK => ?_) AllReady.nil
            go_simp
            refine hK _ _ ?_
            clear hK K
            simp only [Act.put, List.setIfInBounds_toArray, List.set_cons_zero, List.set_cons_succ]
            refine wpAny_done (by kernel_rfl) ?_ _
            have TE9 := Lib.hid (T7p.out.storeQ (i := i) (.slice A7 (ps.length + 1) c7))
            have EF9 := Lib.hid (EF.out.grow (a := (X, .slice A6 (digs 4294967296 X.num.natAbs).length c6, .slice D6 (digs 4294967296 X.den).length e6)) (b := (Y, .slice A8 (digs 10000 Y.num.natAbs).length c8, .slice D8 (digs 10000 Y.den).length e8)) HPS.out HQS.out HP0.out hlt2 HXL.out)
            have l9 := Lib.hid (lenAt_of (TE9.out.p.row.cellAt (i := i) (List.getElem?_set_self (List.getElem?_eq_some_iff.1 HU.out).1)))
            have l90 := Lib.hid (lenAt_of (TE9.out.p.row.cellAt (i := 0) ((List.getElem?_set_ne hi0).trans HZ.out)))
            clear CO CN c7I f7I c7V f7V c9V f9V cI cVV row5 row7 HK5 HK7 rC rN
            go_wp2
            go_roundw
            case rel => exact ⟨_, _, _, _, TE9, EF9⟩
            case measure => rw [l9.out, l90.out, lI.out, l0.out]; omega
        · go_upto_region 5 with (fail)
          go_region
          all_goals
            clear cI c0
            obtain ⟨W0, hW0⟩ : ∃ W0, W0 = wr.drew := ⟨_, rfl⟩
            rw [← hW0] at TD ⊢
            clear hW0
            have T0 := Lib.hid (TD.out.to (Below.refl _ W0).drew)
            have cI := T0.out.p.row.cellAt HU.out
            have fI := T0.out.p.row.frozenAt i
            have c0 := T0.out.p.row.cellAt HZ.out
            have cV := T0.out.q.row.cellAt HV.out
            have fV := T0.out.q.row.frozenAt i
            have hk1 : p0.length ≤ cu := by omega
            have hk2 : p0.length ≤ cv := by omega
            have T1 := Lib.hid (TD.out.cutP HU.out HPS.out ((TD.out.p.own i _ ps HU.out HPS.out).take (m := p0.length) (by omega)) (by cases Au <;> rfl) (fun e he => List.mem_of_mem_take he))
            have T2 := Lib.hid (T1.out.cutQ HV.out ((TD.out.q.own i _ qs HV.out HQS.out).take (m := p0.length) (by have := HLE.out; omega)) (by cases Av <;> rfl))
            have T3 := Lib.hid (T2.out.storeP (i := i) (.slice Au p0.length cu))
            have T3d := Lib.hid (T3.out.to (Below.refl _ _).drew)
            have c3V := T3d.out.q.row.cellAt HV.out
            have f3V := T3d.out.q.row.frozenAt i
            have T4 := Lib.hid ((T3.out.storeQ (i := i) (.slice Av p0.length cv)).to (Below.refl _ _).drew)
            have EF4 := Lib.hid (EF.out.cut HPS.out HQS.out HP0.out (by omega))
            have HI := Lib.hid hi
            clear TD
            go_upto_region 7 with (fail)
            go_region
            all_goals
              clear cI fI c0 cV fV c3V f3V
              go_wp2
              refine ⟨⟨i + 1, _, _, _, _, by omega, T4, EF4, by go_num⟩, ?_⟩
              simp [intOf]; omega
    · obtain rfl : i = n := by omega
      have hS := TE.out.slT
      have hF := EF.out.done
      have hb := TE.out.below
      have hL := EF.out.len
      have HEND := Lib.hid (⟨_, _, _, rfl, hS, hF.1, by rw [valq_len, hL]; omega, hF.2.1, hF.2.2, hb⟩ : RetEven M w (.returned (.tuple #[.slice AV i cV, .slice AU i cU])) wr)
      clear hS hF hb hL TE EF
      go_wp2
      go_ret2
      exact HEND.out
end Go.Proofs.YtfnohdgnhdfpaaaGreat.rat
