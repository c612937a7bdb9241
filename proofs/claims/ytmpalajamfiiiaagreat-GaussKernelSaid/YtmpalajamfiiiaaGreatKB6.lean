/- Package gauss: up: a range over slices.Backward. Condition: as each says.
Package gauss: Reduce, Rank. Condition: as each says.
Package gauss: square, Det; ints compared. Condition: as each says.
The chapter's example of layer 12; the statements' Among. Condition: as each says.
The chapter's example of layer 14. Condition: as each says.
Determinants of products; how small the tables of a statement are. Condition: as each says.
A place among places. Condition: as each says.
Mathematics of the inverse: beside the table that changes nothing. Condition: as each says.
The document's rows times a fraction, and less another: in NEW memory, limbs and all. Condition: as each says.
Package gauss: Kernel. Condition: as each says.
The document's Reduce. Condition: as each says.
How small the tables of the statements are; the rank is one; what is its own steps. Condition: as each says.
What the statement of the kernel asks: how many rows, and that each makes noughts. Condition: as each says. -/
import Derived.Test.YtmpalajamfiiiaaGreatKB5
import Derived.RangeFuncFrom
import Derived.RangeFuncCalls
import Derived.RangeFuncLeaves
import Derived.Shelf.Abstract
import Derived.Shelf.RegionOpen
import Derived.WalkKit
import Derived.OwnWalkIn
import Derived.TacticsInMore
import Derived.LoopNIn
import Derived.LoopIn
import Derived.OwnWalk
namespace Go.Proofs.YtmpalajamfiiiaaGreat.rat
open Go.RowKit Go.Shelf Go.Proofs.YtmpalajamfiiiaaGreat.num Go.Proofs.YtmpalajamfiiiaaGreat.mem Go.Proofs.YtmpalajamfiiiaaGreat.nat Go.Proofs.YtmpalajamfiiiaaGreat.txt Go.Proofs.YtmpalajamfiiiaaGreat.str Go.Proofs.YtmpalajamfiiiaaGreat.flow Go.Proofs.YtmpalajamfiiiaaGreat.whl
set_option linter.unusedVariables false
set_option linter.unusedSimpArgs false
attribute [local go_sem] Oper.semAt_some
theorem wpOpIn_round {F : Fence} {n : Nat} {P : Program} {ops : Array Oper} {Q : Exit → Act → World → Prop} {i : Nat} {K : Act → World → Prop} {a : Act} {w : World} (l : Nat) (hro : F.round = none) (hd : ∀ (j : Nat) (o : Oper), ops[j]? = some o → ∀ c, o.op ≠ .defer c) (h : wpOpIn F n P ops Q i K a w) : wpOpIn (F.inRound l) n P ops Q i K a w := by
 unfold wpOpIn at *
 split
 ·rename_i e
  rw [e] at h
  exact h
 ·rename_i o e
  simp only [e] at h
  split
  ·rename_i hw
   simp only [hw, if_true] at h
   unfold Oper.wpIn at *
   refine ⟨h.1, ?_⟩
   have h := h.2
   rw [hro, Oper.semAt_none] at h
   rw [Fence.inRound_round, Oper.semAt_some l _ o (hd i o e)]
   generalize (execOp a.eval o).run P w = r at *
   cases r with
   | ok x w' => cases x <;> exact h
   | halt x w' => cases x <;> exact h
  ·rename_i hw
   simp only [hw] at h
   exact h
theorem wpAnyIn_round {F : Fence} {n : Nat} {P : Program} {md : Region.Mode} {ops : Array Oper} {Q : Exit → Act → World → Prop} (l : Nat) (hro : F.round = none) (hd : ∀ (j : Nat) (o : Oper), ops[j]? = some o → ∀ c, o.op ≠ .defer c) : ∀ (fuel : Nat) (listed : Array Bool) (a : Act) (w : World), wpAnyIn F n P md ops Q fuel listed a w → wpAnyIn (F.inRound l) n P md ops Q fuel listed a w
 | 0, _, _, _, h => h
 | fuel + 1, listed, a, w, h => ⟨h.1, fun i hi => wpOpIn_round l hro hd (wpOpIn_mono (fun a w h => wpAnyIn_round l hro hd fuel _ a w h) (h.2 i hi))⟩
theorem wpIn_region_round {n : Nat} {P : Program} {l : List Oper} {Q : Exit → Act → World → Prop} {id : Nat} {a : Act} {w : World} (r : Nat) (hm : P.follows .mixedOrders = true) (hd : l.all (fun o => match o.op with | .defer _ => false | _ => true) = true)
  (h : wpAnyIn Fence.wide n P .any l.toArray Q l.length (Array.replicate l.length false) a w.drew) : (Code.region id l.toArray true).wpIn (Fence.wide.inRound r) n P Q a w := by
 refine wpIn_region_any hm ?_
 refine wpAnyIn_round r rfl (fun j o hj c hc => ?_) _ _ _ _ h
 have h1 := List.all_eq_true.1 hd o (by simpa using List.mem_of_getElem? (by simpa using hj))
 rw [hc] at h1
 cases h1
theorem IsS.own {w w' : World} {row : Option Nat} {k : IntKind} {v : Value} {l : List Nat} (h : IsS w k v l) (hg : w.grownBy w' row) (hr : ∀ x, row = some x → ∃ o : Obj, w.heap[x]? = some o ∧ o.isCells = false) : IsS w' k v l := by
 obtain ⟨A, c, e, h1, h2, h3⟩ := h
 refine ⟨A, c, e, h1, h2, fun i d hd => ?_⟩
 obtain ⟨ad, h4, h5⟩ := h3 i d hd
 exact ⟨ad, h4, cell_kept h5 hg hr⟩
theorem SlF.own {w w' : World} {row : Option Nat} {k : IntKind} {B : Nat} {v : Value} {r : List Rat} (h : SlF k B w v r) (hg : w.grownBy w' row) (hr : ∀ x, row = some x → ∃ o : Obj, w.heap[x]? = some o ∧ o.isCells = false) : SlF k B w' v r := by
 obtain ⟨ps, h1, ⟨A, c, e1, h2, h3, h4⟩, h5⟩ := h
 refine ⟨ps, h1, ⟨A, c, e1, h2, h3, fun i p hp => ?_⟩, fun p hp => ⟨IsS.own (h5 p hp).1 hg hr, IsS.own (h5 p hp).2 hg hr⟩⟩
 obtain ⟨g', o, e2, c0, c1, c2⟩ := h4 i p hp
 exact ⟨g', o, e2, cell_kept c0 hg hr, cell_kept c1 hg hr, cell_kept c2 hg hr⟩
theorem TabS.ownK {w w' : World} {row : Option Nat} {k : IntKind} {B g : Nat} {TS : TypeId} {us : List Value} {T : List (List Rat)} (h : TabS k B w g TS us T) (hg : w.grownBy w' row) (hr : ∀ x, row = some x → ∃ o : Obj, w.heap[x]? = some o ∧ o.isCells = false) : TabS k B w' g TS us T := by
 refine ⟨h.1.grown hg fun e => ?_, h.2.1, fun i u r hu h2 => SlF.own (h.2.2 i u r hu h2) hg hr⟩
 obtain ⟨o, h1, h2⟩ := hr g e
 have h3 := h.1.1
 unfold Blk at h3
 rw [h1] at h3
 injection h3 with h3
 subst h3
 cases h2
/-- What a round keeps: all that lies below n0 but the table. -/
def KpG (g n0 : Nat) (W W' : World) : Prop := W.heap.size ≤ W'.heap.size ∧ ∀ k, k < n0 → k < W.heap.size → k ≠ g → W'.heap[k]? = W.heap[k]?
theorem KpG.refl (g n0 : Nat) (W : World) : KpG g n0 W W := ⟨Nat.le_refl _, fun _ _ _ _ => rfl⟩
theorem KpG.trans {g n0 : Nat} {A B C : World} (h : KpG g n0 A B) (k : KpG g n0 B C) : KpG g n0 A C :=
 ⟨Nat.le_trans h.1 k.1, fun i hi hl hg => (k.2 i hi (Nat.lt_of_lt_of_le hl h.1) hg).trans (h.2 i hi hl hg)⟩
theorem KpG.cell {g n0 : Nat} {W W' : World} {p : Addr} {v : Value} (h : KpG g n0 W W') (hp : W.cell? p = some v) (hn : p.block < n0) (hg : p.block ≠ g) : W'.cell? p = some v := by
 have h1 := h.2 p.block hn (World.block_lt_of_cell? _ _ hp) hg
 exact (World.cell?_of_block h1).trans hp
/-- What Backward hands a round: a place, and the pivot there. -/
abbrev BkT (ps : List Nat) := { x : Nat × Nat // x.1 < ps.length ∧ x.2 = pv ps x.1 }
def bkE {ps : List Nat} (x : BkT ps) : Array Value := #[.int .i64 (x.1.1 : Int), .int .i64 (x.1.2 : Int)]
/-- From the last one on. -/
def Back {ps : List Nat} (xs : List (BkT ps)) : Prop := ∀ (t : Nat) (x : BkT ps), xs[t]? = some x → x.1.1 + t + 1 = ps.length
theorem Back.snoc {ps : List Nat} {xs : List (BkT ps)} {x : BkT ps} (h : Back xs) (hx : x.1.1 + xs.length + 1 = ps.length) : Back (xs ++ [x]) := fun t y hy => by
 by_cases ht : t < xs.length
 ·rw [List.getElem?_append_left ht] at hy; exact h t y hy
 ·rw [List.getElem?_append_right (by omega)] at hy
  have e : t - xs.length = 0 := by
   have := (List.getElem?_eq_some_iff.1 hy).1
   simp at this; omega
  rw [e] at hy
  obtain rfl : x = y := by simpa using hy
  omega
theorem Back.init {ps : List Nat} {xs : List (BkT ps)} {x : BkT ps} (h : Back (xs ++ [x])) : Back xs ∧ x.1.1 + xs.length + 1 = ps.length :=
 ⟨fun t y hy => h t y (by rw [List.getElem?_append_left (List.getElem?_eq_some_iff.1 hy).1]; exact hy), h xs.length x (by rw [List.getElem?_append_right (Nat.le_refl _)]; simp)⟩
set_option maxRecDepth 100000 in
set_option maxHeartbeats 2000000 in
theorem back1_in (F : Fence) (n : Nat) (hf : F.fn 107) (hro : F.round = none) (hn : 1 ≤ n) (l Bs g n0 c : Nat) (A : Option Addr) (ps : List Nat) (hps : ps.length ≤ 1000) (J Jx : List (BkT ps) → World → Prop)
  (hY : ∀ pre x W, J pre W → pre.length < ps.length → YieldAt F (n - 1) Tryz.prog l (bkE x) W fun e W' =>
   (e = .returned (.bool true) ∧ J (pre ++ [x]) W' ∧ KpG g n0 W W') ∨ (e = .returned (.bool false) ∧ Jx (pre ++ [x]) W'))
  (W : World) (hBs : W.cell? ⟨Bs, 0, none⟩ = some (.slice A ps.length c)) (hBn : Bs < n0) (hBg : Bs ≠ g) (hc : ∀ i, i < ps.length → ∃ ad, A = some ad ∧ ad.block < n0 ∧ ad.block ≠ g ∧ W.cell? (ad.add i) = some (.int .i64 (pv ps i : Int))) (h0 : J [] W) :
  CallsIn F n Tryz.prog 107 #[.func (.yield l) #[] #[], .pointer (some ⟨Bs, 0, none⟩)] W fun e W' => (∃ v, e = .returned v) ∧
   ((∃ xs : List (BkT ps), (xs.length = ps.length ∧ Back xs) ∧ J xs W') ∨ (∃ pre, True ∧ Jx pre W')) := by
 refine callsIn_of_wp Tryz.func107 rfl hf ?_ hro
 simp only [Tryz.ntmps107, List.size_toArray, List.length_cons, List.length_nil, Nat.reduceAdd, Nat.reduceSub, Array.replicate_succ, Array.replicate_zero, List.push_toArray, List.append_toArray, List.nil_append, List.cons_append]
 gi_wp2
 gi_loopw [3] (fun v3 wr => ∃ (z : Int) (xs : List (BkT ps)), z = (ps.length : Int) - 1 - (xs.length : Int) ∧ xs.length ≤ ps.length ∧ Hid (Back xs) ∧ v3 = .int .i64 z ∧ Hid (J xs wr) ∧ Hid (KpG g n0 W wr)) (fun v3 _ => (intOf v3 + 1).toNat)
 case atStart => exact ⟨_, [], by simp, Nat.zero_le _, (fun t x h => by simp at h), rfl, h0, KpG.refl _ _ _⟩
 case round =>
  obtain ⟨z, xs, hz, hxl, HB, rfl, HJ, HK⟩ := hrel
  have hBr := HK.out.cell hBs hBn hBg
  by_cases hlt : xs.length < ps.length
  ·obtain ⟨i, rfl⟩ : ∃ i : Nat, z = i := ⟨ps.length - 1 - xs.length, by omega⟩
   have hip : i < ps.length := by omega
   obtain ⟨ad, rfl, ha1, ha2, ha3⟩ := hc i hip
   have hcx := HK.out.cell ha3 (by unfold Addr.add; split <;> exact ha1) (by unfold Addr.add; split <;> exact ha2)
   obtain ⟨x, hx⟩ : ∃ x : BkT ps, x = ⟨(i, pv ps i), hip, rfl⟩ := ⟨_, rfl⟩
   have hxe : bkE x = #[.int .i64 (i : Int), .int .i64 (pv ps i : Int)] := by rw [hx]; rfl
   have hxi : x.1.1 = i := by rw [hx]
   obtain ⟨fn, tmps, assign, body, hy, hR⟩ := hY xs x wr HJ.out hlt
   rw [hxe] at hy
   have HX := Lib.hid hxi
   have HZ := Lib.hid hz
   clear hx hxe hxi hz ha3 hc
   have h0i : (0 : Int) ≤ (i : Int) := by omega
   gi_wp2
   refine hR.mono ?_
   rintro e W3 (⟨rfl, hJ3, hk3⟩ | ⟨rfl, hJx3⟩)
   ·have HB3 : Hid (Back (xs ++ [x])) := HB.out.snoc (by rw [HX.out]; have := HZ.out; omega)
    have HK3 : Hid (KpG g n0 W W3) := HK.out.trans hk3
    have HJ3 := Lib.hid hJ3
    clear hJ3 hk3
    gi_wp2
    go_roundw
    case rel => exact ⟨(i : Int) - 1, xs ++ [x], by (have := HZ.out; first | (simp; omega) | (simp; done) | omega), by simp; omega, HB3, by go_num, HJ3, HK3⟩
    case measure => first | (simp [intOf]; omega) | (simp [intOf]; done)
   ·gi_wp2
    refine bodyPost_ret (results_none rfl _ _ _) rfl ?_
    exact ⟨⟨_, rfl⟩, .inr ⟨_, trivial, hJx3⟩⟩
  ·have hz0 : ¬ (0 : Int) ≤ z := by omega
   have hxe : xs.length = ps.length := by omega
   have HXE := Lib.hid hxe
   clear hxe
   gi_wp2
   go_end0
   exact ⟨⟨_, rfl⟩, .inl ⟨xs, ⟨HXE.out, HB.out⟩, HJ.out⟩⟩
set_option maxHeartbeats 1000000 in
theorem back_in (F : Fence) (n : Nat) (hf : F.fn 74) (hro : F.round = none) (a : Option Addr) (len cap : Nat) (w : World) :
  CallsIn F n Tryz.prog 74 #[.slice a len cap] w fun e w' => e = .returned (.func (.func 107) #[] #[.pointer (some ⟨w.heap.size, 0, none⟩)]) ∧ w' = w.alloc (.cells #[.slice a len cap] 26) := by
 refine callsIn_of_wp Tryz.func74 rfl hf ?_ hro
 simp only [Tryz.ntmps74, List.size_toArray, List.length_cons, List.length_nil, Nat.reduceAdd, Nat.reduceSub, Array.replicate_succ, Array.replicate_zero, List.push_toArray, List.append_toArray, List.nil_append, List.cons_append]
 gi_wp2
 go_ret
 exact ⟨rfl, rfl⟩
theorem back_stops (F : Fence) (n : Nat) (hf : F.fn 107) (hro : F.round = none) (hn : 1 ≤ n) (Bs g c : Nat) (A : Option Addr) (ps : List Nat) (hps : ps.length ≤ 1000) (w : World)
  (hBs : w.cell? ⟨Bs, 0, none⟩ = some (.slice A ps.length c)) (hBg : Bs ≠ g) (hc : ∀ i, i < ps.length → ∃ ad, A = some ad ∧ ad.block ≠ g ∧ w.cell? (ad.add i) = some (.int .i64 (pv ps i : Int))) :
  SeqStopsK F n Tryz.prog 107 #[.pointer (some ⟨Bs, 0, none⟩)] (bkE (ps := ps)) (KpG g w.heap.size) (fun xs => xs.length = ps.length ∧ Back xs) (fun _ => True) ps.length w := fun l J Jx W hW _ _ hY h0 => by
 have hB1 := World.block_lt_of_cell? _ _ hBs
 exact back1_in F n hf hro hn l Bs g w.heap.size c A ps hps J Jx hY W ((hW.cell hB1).trans hBs) hB1 hBg (fun i hi => by
  obtain ⟨ad, e, h1, h2⟩ := hc i hi
  have h3 := World.block_lt_of_cell? _ _ h2
  have h4 : (ad.add i).block = ad.block := by unfold Addr.add; split <;> rfl
  exact ⟨ad, e, by rw [← h4]; exact h3, h1, (hW.cell h3).trans h2⟩) h0
/-- What up has, when the rounds xs are over. -/
def UpI (T0 : List (List Rat)) (g n C a S : Nat) (ps : List Nat) (w : World) (xs : List (BkT ps)) (W : World) : Prop := ∃ (us : List Value) (T : List (List Rat)) (S' : Nat), shp T n C ∧ rowsL T S' ∧ S' + 1 ≤ (S + 1) * 2 ^ xs.length ∧ TabS .u64 4294967296 W g 64 us T ∧ (Back xs → Upw T0 T n C a ps (ps.length - xs.length) S) ∧ W.cell? ⟨w.heap.size, 0, none⟩ = some (.slice (some ⟨g, 0, none⟩) n n) ∧ w.grownBy W (some g)
theorem UpI.ownFrom (T0 : List (List Rat)) (g n C a S : Nat) (ps : List Nat) (w : World) {B : Nat} (hB : w.heap.size ≤ B) : OwnFrom B (UpI T0 g n C a S ps w) := fun xs W W' row h hg hr => by
 obtain ⟨us, T, S', h1, h2, h3, h4, h5, h6, h7⟩ := h
 have hr2 : ∀ x, row = some x → ∃ o : Obj, W.heap[x]? = some o ∧ o.isCells = false := fun x e => (hr x e).2
 refine ⟨us, T, S', h1, h2, h3, TabS.ownK h4 hg hr2, h5, cell_kept h6 hg hr2, ?_⟩
 cases e : row with
 | none => rw [e] at hg; exact below_grown h7 ⟨hg.os, hg.tape, hg.output, hg.size, fun k hk => hg.block k hk (by simp)⟩
 | some x => rw [e] at hg; exact grown_new h7 hg (Nat.le_trans hB (hr x e).1)
def RetUp (T0 : List (List Rat)) (g n C a S : Nat) (ps : List Nat) (w : World) (e : Ending) (w' : World) : Prop := e = .returned (.tuple #[]) ∧ ∃ us T, Upw T0 T n C a ps 0 S ∧ TabS .u64 4294967296 w' g 64 us T ∧ w.grownBy w' (some g)
set_option maxRecDepth 100000 in
set_option maxHeartbeats 4000000 in
theorem gup_any (g n C a S c6 : Nat) (A6 : Option Addr) (us : List Value) (ps : List Nat) (T0 T : List (List Rat)) (w : World) (h : TabS .u64 4294967296 w g 64 us T) (hp : ∀ i, i < ps.length → ∃ ad, A6 = some ad ∧ ad.block ≠ g ∧ w.cell? (ad.add i) = some (.int .i64 (pv ps i : Int)))
  (hc : Hid (shp T n C ∧ a ≤ C ∧ n ≤ 5 ∧ C ≤ 1000 ∧ rowsL T S ∧ (S + 1) * 2 ^ (ps.length - 1) ≤ 2450 ∧ Ech n a (entF T) ps.length (pv ps) ∧ KerEq n C (entF T0) (entF T))) :
  Calls Tryz.prog 35 #[.slice (some ⟨g, 0, none⟩) n n, .slice A6 ps.length c6] w (RetUp T0 g n C a S ps w) := by
 have hle := hc.out.2.2.2.2.2.2.1.le
 have hn5 := hc.out.2.2.1
 have hC := hc.out.2.2.2.1
 have hgl := h.lt
 refine (callsIn_wide (n := 3)).1 ?_
 refine callsIn_of_wp_marks Tryz.func35 rfl trivial ?_ rfl
 simp only [Tryz.ntmps35, List.size_toArray, List.length_cons, List.length_nil, Nat.reduceAdd, Nat.reduceSub, Array.replicate_succ, Array.replicate_zero, List.push_toArray, List.append_toArray, List.nil_append, List.cons_append]
 gi_wp2
 refine ⟨trivial, ?_⟩
 gi_at_call 74
 refine (back_in Fence.wide _ trivial rfl _ _ _ _).mono ?_
 rintro e w' ⟨rfl, rfl⟩
 gi_wp2
 have hgr0 : w.grownBy ((w.alloc (.cells #[.slice (some ⟨g, 0, none⟩) n n] 22)).alloc (.cells #[.slice A6 ps.length c6] 26)) none := (World.grownBy_alloc _ _ none).trans (World.grownBy_alloc _ _ none)
 have hs : ((w.alloc (.cells #[.slice (some ⟨g, 0, none⟩) n n] 22)).alloc (.cells #[.slice A6 ps.length c6] 26)).cell? ⟨w.heap.size, 0, none⟩ = some (.slice (some ⟨g, 0, none⟩) n n) :=
  cell_kept (by rw [World.cell?_alloc_new]; rfl) (World.grownBy_alloc _ _ none) (fun r e => by cases e)
 have hb : ((w.alloc (.cells #[.slice (some ⟨g, 0, none⟩) n n] 22)).alloc (.cells #[.slice A6 ps.length c6] 26)).cell? ⟨w.heap.size + 1, 0, none⟩ = some (.slice A6 ps.length c6) := by
  have := World.cell?_alloc_new (w := w.alloc (.cells #[.slice (some ⟨g, 0, none⟩) n n] 22)) #[.slice A6 ps.length c6] 26 0
  rw [World.size_alloc] at this
  exact this
 have hT0 := TabS.ownK h hgr0 (fun x e => by cases e)
 obtain ⟨W0, hW0⟩ : ∃ W0, ((w.alloc (.cells #[.slice (some ⟨g, 0, none⟩) n n] 22)).alloc (.cells #[.slice A6 ps.length c6] 26)) = W0 := ⟨_, rfl⟩
 have hsz : W0.heap.size = w.heap.size + 2 := by rw [← hW0]; simp
 rw [hW0] at hgr0 hs hb hT0 ⊢
 refine wpIn_rangeFunc_ownF rfl (by omega) (gf := 107) (lb := #[.pointer (some ⟨w.heap.size + 1, 0, none⟩)]) rfl trivial (enters_of Tryz.func107 (by kernel_rfl) rfl)
  (back_stops Fence.wide _ trivial rfl (by omega) (w.heap.size + 1) g c6 A6 ps (by omega) W0 hb (by omega) (fun i hi => by
   obtain ⟨ad, e, h1, h2⟩ := hp i hi
   exact ⟨ad, e, h1, cell_kept h2 hgr0 (fun r e => by cases e)⟩))
  KpG.trans (fun W l o o' hl hW ho hwk => ⟨(grownBy_putObj' W l o').size, fun k hk hkw hkg => (grownBy_putObj' W l o').block k hkw (fun e => by injection e with e; omega)⟩) (Below.refl _ _) (fun _ => rfl)
  (UpI T0 g n C a S ps w) (fun _ _ _ => False)
  (UpI.ownFrom T0 g n C a S ps w (by omega))
  (fun _ _ _ _ _ hs _ _ => hs)
  ⟨us, T, S, hc.out.1, hc.out.2.2.2.2.1, by simp, hT0, fun _ => Upw.start hc.out.1 hc.out.2.2.2.2.2.2.1 hc.out.2.2.2.2.2.2.2 hc.out.2.2.2.2.1, hs, ⟨hgr0.os, hgr0.tape, hgr0.output, hgr0.size, fun k hk _ => hgr0.block k hk (by simp)⟩⟩
  (fun x => { tmps := #[.slice (some ⟨g, 0, none⟩) n n, .slice A6 ps.length c6, .pointer (some ⟨w.heap.size, 0, none⟩), undef, .int .i64 (x.1.1 : Int), .int .i64 (x.1.2 : Int), .slice A6 ps.length c6, .func (.func 107) #[] #[.pointer (some ⟨w.heap.size + 1, 0, none⟩)], .int .i64 (x.1.1 : Int), .int .i64 (x.1.2 : Int), undef, undef, undef, undef, undef, undef, undef, undef, undef], defers := [] }) ?assign ?body ?done ?stop
 case assign =>
  intro l x W K hK
  simp only [bkE]
  gi_wp2
  exact hK
 case body =>
  rintro l pre x W ⟨us1, T1, S1, q1, q2, q3, q4, q5, q6, q7⟩ hlen
  obtain ⟨⟨i, p⟩, hip, hpe⟩ := x
  dsimp only at hip hpe
  subst hpe
  obtain ⟨r, hr, hrl⟩ := row_ex q1 (show i < n by omega)
  obtain ⟨Ar, cr, hu, hcl, hsr⟩ := q4.at_ hr
  have HQ := Lib.hid (And.intro q1 (And.intro q2 (And.intro q3 q5)))
  have hS1 : Hid (S1 + S1 ≤ 4900) := by
   have e2 : (S + 1) * 2 ^ pre.length ≤ (S + 1) * 2 ^ (ps.length - 1) := Nat.mul_le_mul_left _ (Nat.pow_le_pow_right (by omega) (by omega))
   have e3 := hc.out.2.2.2.2.2.1
   exact (by omega : S1 + S1 ≤ 4900)
  have hai : pv ps i < C := Nat.lt_of_lt_of_le (hc.out.2.2.2.2.2.2.1.lt i hip) hc.out.2.1
  obtain ⟨b, hbp⟩ : ∃ b, b = pv ps i := ⟨_, rfl⟩
  have HBP := Lib.hid hbp
  have CC : ∀ w', TabS .u64 4294967296 w' g 64 us1 T1 → SlF .u64 4294967296 w' (.slice Ar r.length cr) r → Calls Tryz.prog 73 #[.slice (some ⟨g, 0, none⟩) i n, .slice Ar r.length cr, .int .i64 (pv ps i : Int)] w' (RetClr g us1 (upT T1 i (pv ps i)) w') := fun w' k1 k2 => by
   have := gclear_any g 0 i n (pv ps i) n C S1 us1 (.slice Ar r.length cr) r T1 (fun _ => true) w' k1 k2 ⟨HQ.out.1, hrl, hai, by omega, by omega, by omega, hC, fun i hi => absurd hi (by omega), fun _ _ _ => rfl, HQ.out.2.1, HQ.out.2.1 r (List.mem_of_getElem? hr), fun _ => hS1.out⟩
   rw [Nat.zero_add] at this
   unfold upT
   rw [getT hr]
   exact this
  rw [hrl] at hu hcl hsr CC
  have HRL := Lib.hid (And.intro hr hrl)
  have hin : i ≤ n := by omega
  have hin2 : i < n := by omega
  have hmix : Tryz.prog.follows .mixedOrders = true := by kernel_rfl
  have fin : ∀ (a' : Act) (W' : World) (us2 : List Value), TabS .u64 4294967296 W' g 64 us2 (upT T1 i (pv ps i)) → W.drew.grownBy W' (some g) → ownPostK (KpG g W0.heap.size) (UpI T0 g n C a S ps w) (fun _ _ _ => False) (pre ++ [(⟨(i, pv ps i), hip, rfl⟩ : BkT ps)]) W .normal a' W' := fun a' W' us2 k1 k2 => by
   have G : W.grownBy W' (some g) := (below_grown (grown_refl W (some g)) (Below.refl _ W).drew).trans k2
   have hgW := q4.1.1
   have hgl2 := q4.lt
   unfold Blk at hgW
   obtain ⟨e1, e2, e3, e4⟩ := HQ.out
   refine ⟨KeepsOthers.of_grownBy G (fun j o e hj => by cases e; rw [hgW] at hj; cases hj; rfl), ⟨G.size, fun k hk hl hkg => G.block k hl (fun e => by injection e with e; omega)⟩, ?_⟩
   refine ⟨us2, _, S1 + S1 + 1, ?_, ?_, ?_, k1, fun hB => ?_, (World.cell?_of_block (G.block w.heap.size (World.block_lt_of_cell? _ _ q6) (fun e => by injection e with e; omega))).trans q6, q7.trans G⟩
   ·unfold upT
    rw [getT hr]
    exact clrM_shp e1 hrl i (by omega)
   ·unfold upT
    rw [getT hr]
    exact clrM_rows e1 hai e2 (e2 r (List.mem_of_getElem? hr)) i (by omega)
   ·rw [List.length_append]
    exact two_pow_step e3
   ·obtain ⟨b1, b2⟩ := Back.init hB
    have b3 : i + pre.length + 1 = ps.length := b2
    have u1 := e4 b1
    rw [show ps.length - pre.length = i + 1 by omega] at u1
    have u2 := u1.step hc.out.2.1 hip
    rw [show ps.length - (pre ++ [(⟨(i, pv ps i), hip, rfl⟩ : BkT ps)]).length = i by rw [List.length_append]; simp only [List.length_cons, List.length_nil]; omega]
    exact u2
  have hcall : Calls Tryz.prog 73 #[.slice (some ⟨g, 0, none⟩) i n, .slice Ar C cr, .int .i64 (pv ps i : Int)] W.drew (RetClr g us1 (upT T1 i (pv ps i)) W.drew) := CC W.drew q4.drew hsr.drew
  clear CC HQ q4 hsr q1 q2 q3 q5 hS1 hai hp hT0 hb hs hgr0 hc
  obtain ⟨QQ, hQQ⟩ : ∃ QQ, QQ = ownPostK (KpG g W0.heap.size) (UpI T0 g n C a S ps w) (fun _ _ _ => False) (pre ++ [(⟨(i, pv ps i), hip, rfl⟩ : BkT ps)]) W := ⟨_, rfl⟩
  rw [← hQQ] at fin
  have HPAN : ∀ c a a' w, QQ (.panic c) a w → QQ (.panic c) a' w := by rw [hQQ]; exact fun _ _ _ _ h => h
  show Code.wpIn _ _ _ _ (ownPostK (KpG g W0.heap.size) (UpI T0 g n C a S ps w) (fun _ _ _ => False) (pre ++ [(⟨(i, pv ps i), hip, rfl⟩ : BkT ps)]) W) _ _
  rw [← hQQ]
  clear hQQ
  gi_wp2
  have HPN : ∀ (o : Option Nat) (v : Value) c a w, Exit.inBlock 1 QQ (.panic c) (a.put o v) w → Exit.inBlock 1 QQ (.panic c) a w := fun o v c a w h => HPAN c _ a w h
  refine wpIn_region_round l hmix (by kernel_rfl) ?_
  change wpAnyIn Fence.wide 1 Tryz.prog .any _ _ 9 #[false, false, false, false, false, false, false, false, false] _ _
  refine wpAnyIn_take (i := 1) (v := ?_) rfl rfl (by kernel_rfl) (by kernel_rfl) (by kernel_rfl) (HPN _ _) ⟨Or.inl ⟨by rfl, ?_⟩, fun _ => rfl⟩ ?_
  rotate_left
  ·intro w
   go_simp
   try with_reducible rfl
  refine wpAnyIn_take (i := 4) (v := ?_) rfl rfl (by kernel_rfl) (by kernel_rfl) (by kernel_rfl) (HPN _ _) ⟨Or.inl ⟨by rfl, ?_⟩, fun _ => rfl⟩ ?_
  rotate_left
  ·intro w
   go_simp
   try with_reducible rfl
  refine wpAnyIn_take (i := 7) (v := ?_) rfl rfl (by kernel_rfl) (by kernel_rfl) (by kernel_rfl) (HPN _ _) ⟨Or.inl ⟨by rfl, ?_⟩, fun _ => rfl⟩ ?_
  rotate_left
  ·intro w
   go_simp
   try with_reducible rfl
  refine wpAnyIn_ready (rs := [0, 3]) (by kernel_rfl) (by simp) ?_
  refine AllReadyIn.cons rfl (fun K hK => ?_) ?_
  ·go_simp
   refine hK _ _ ?_
   clear hK K
   refine wpAnyIn_take (i := 2) (v := ?_) rfl rfl (by kernel_rfl) (by kernel_rfl) (by kernel_rfl) (HPN _ _) ⟨Or.inl ⟨by rfl, ?_⟩, fun _ => rfl⟩ ?_
   rotate_left
   ·intro w
    go_simp
    try with_reducible rfl
   refine wpAnyIn_ready (rs := [3]) (by kernel_rfl) (by simp) ?_
   refine AllReadyIn.cons rfl (fun K hK => ?_) ?_
   ·go_simp
    refine hK _ _ ?_
    clear hK K
    refine wpAnyIn_take (i := 5) (v := ?_) rfl rfl (by kernel_rfl) (by kernel_rfl) (by kernel_rfl) (HPN _ _) ⟨Or.inl ⟨by rfl, ?_⟩, fun _ => rfl⟩ ?_
    rotate_left
    ·intro w
     go_simp
     try with_reducible rfl
    refine wpAnyIn_ready (rs := [6]) (by kernel_rfl) (by simp) ?_
    refine AllReadyIn.cons rfl (fun K hK => ?_) ?_
    ·go_simp
     refine hK _ _ ?_
     clear hK K
     refine wpAnyIn_ready (rs := [8]) (by kernel_rfl) (by simp) ?_
     refine AllReadyIn.cons rfl (fun K hK => ?_) AllReadyIn.nil
     go_simp
     refine ⟨trivial, ?_⟩
     refine (callsIn_wide.2 hcall).mono ?_
     rintro e w' ⟨rfl, us2, k1, k2, -⟩
     refine hK _ _ ?_
     refine wpAnyIn_done (by kernel_rfl) ?_ _
     exact fin _ _ us2 k1 k2
    exact AllReadyIn.nil
   exact AllReadyIn.nil
  refine AllReadyIn.cons rfl (fun K hK => ?_) ?_
  ·go_simp
   refine hK _ _ ?_
   clear hK K
   refine wpAnyIn_take (i := 5) (v := ?_) rfl rfl (by kernel_rfl) (by kernel_rfl) (by kernel_rfl) (HPN _ _) ⟨Or.inl ⟨by rfl, ?_⟩, fun _ => rfl⟩ ?_
   rotate_left
   ·intro w
    go_simp
    try with_reducible rfl
   refine wpAnyIn_ready (rs := [0, 6]) (by kernel_rfl) (by simp) ?_
   refine AllReadyIn.cons rfl (fun K hK => ?_) ?_
   ·go_simp
    refine hK _ _ ?_
    clear hK K
    refine wpAnyIn_take (i := 2) (v := ?_) rfl rfl (by kernel_rfl) (by kernel_rfl) (by kernel_rfl) (HPN _ _) ⟨Or.inl ⟨by rfl, ?_⟩, fun _ => rfl⟩ ?_
    rotate_left
    ·intro w
     go_simp
     try with_reducible rfl
    refine wpAnyIn_ready (rs := [6]) (by kernel_rfl) (by simp) ?_
    refine AllReadyIn.cons rfl (fun K hK => ?_) ?_
    ·go_simp
     refine hK _ _ ?_
     clear hK K
     refine wpAnyIn_ready (rs := [8]) (by kernel_rfl) (by simp) ?_
     refine AllReadyIn.cons rfl (fun K hK => ?_) AllReadyIn.nil
     go_simp
     refine ⟨trivial, ?_⟩
     refine (callsIn_wide.2 hcall).mono ?_
     rintro e w' ⟨rfl, us2, k1, k2, -⟩
     refine hK _ _ ?_
     refine wpAnyIn_done (by kernel_rfl) ?_ _
     exact fin _ _ us2 k1 k2
    exact AllReadyIn.nil
   refine AllReadyIn.cons rfl (fun K hK => ?_) ?_
   ·go_simp
    refine hK _ _ ?_
    clear hK K
    refine wpAnyIn_ready (rs := [0]) (by kernel_rfl) (by simp) ?_
    refine AllReadyIn.cons rfl (fun K hK => ?_) ?_
    ·go_simp
     refine hK _ _ ?_
     clear hK K
     refine wpAnyIn_take (i := 2) (v := ?_) rfl rfl (by kernel_rfl) (by kernel_rfl) (by kernel_rfl) (HPN _ _) ⟨Or.inl ⟨by rfl, ?_⟩, fun _ => rfl⟩ ?_
     rotate_left
     ·intro w
      go_simp
      try with_reducible rfl
     refine wpAnyIn_ready (rs := [8]) (by kernel_rfl) (by simp) ?_
     refine AllReadyIn.cons rfl (fun K hK => ?_) AllReadyIn.nil
     go_simp
     refine ⟨trivial, ?_⟩
     refine (callsIn_wide.2 hcall).mono ?_
     rintro e w' ⟨rfl, us2, k1, k2, -⟩
     refine hK _ _ ?_
     refine wpAnyIn_done (by kernel_rfl) ?_ _
     exact fin _ _ us2 k1 k2
    exact AllReadyIn.nil
   exact AllReadyIn.nil
  exact AllReadyIn.nil
 case done =>
  rintro D xs W hD ⟨hxl, hB⟩ ⟨us1, T1, S1, q1, q2, q3, q4, q5, q6, q7⟩ hK
  have hup := q5 hB
  rw [show ps.length - xs.length = 0 by omega] at hup
  have hDl : ∃ o : Obj, W.heap[D]? = some o ∧ o.isCells = false := ⟨_, hK, rfl⟩
  refine ⟨by simp, .inl ⟨_, _, rfl, run_takeDeferred hK, ?_⟩⟩
  refine ⟨_, results_none rfl _ _ _, rfl, us1, T1, hup, TabS.ownK q4 (grownBy_putObj' W D (.deferred none)) (fun x e => by cases e; exact hDl), ?_⟩
  exact grown_new q7 (grownBy_putObj' W D (.deferred none)) (by omega)
 case stop =>
  rintro D c pre W _ _ h _
  exact h.elim
theorem shp_of {T : List (List Rat)} (h : mayq T) : shp T T.length (wideq T) := ⟨rfl, h.2.2⟩
theorem pI_at {ps : List Nat} {i : Nat} (h : i < ps.length) : (pI ps)[i]? = some (.int .i64 (pv ps i : Int)) := by
 unfold pI vi pv
 rw [List.map_map, List.getElem?_map, List.getElem?_eq_getElem h]
 simp [List.getD_eq_getElem?_getD, h]
theorem RowX.pvs {w : World} {base g m c : Nat} {TS : TypeId} {us : List Value} {A : Option Addr} {ps : List Nat} (h : RowX isI w base 3 (.slice A m c) (pI ps)) (hT : TabB w g TS us) (hne : 3 ≠ TS) : ∀ i, i < ps.length → ∃ ad, A = some ad ∧ ad.block ≠ g ∧ w.cell? (ad.add i) = some (.int .i64 (pv ps i : Int)) := fun i hi => by
 have hn := h.notTab hT hne
 rcases h.1.2 with ⟨e, h0⟩ | ⟨g', cap, cur, e, _⟩
 ·rw [pI_len] at h0; omega
 ·have e2 := e
  injection e2 with e1 e2 e3
  subst e1
  have hc := h.1
  rw [e] at hc
  refine ⟨_, rfl, fun e4 => hn (by rw [← e4]; rfl), ?_⟩
  rw [addr_zero]
  exact hc.cellAt (pI_at hi)
theorem RowX.weak {S : Value → Prop} {w : World} {base base' : Nat} {e : TypeId} {v : Value} {vs : List Value} (h : RowX S w base e v vs) (hb : base' ≤ base) : RowX S w base' e v vs := ⟨RowV.weak h.1 hb, h.2⟩
theorem pow_cut {S n m : Nat} (h : m ≤ n) : (S + 1) * 2 ^ m ≤ (S + 1) * 2 ^ n := Nat.mul_le_mul_left _ (Nat.pow_le_pow_right (by omega) h)
/-- What Reduce hands back. -/
structure RedE (T0 : List (List Rat)) (n C S : Nat) (w : World) (g : Nat) (v : Value) (w' : World) (T : List (List Rat)) (us : List Value) (ps : List Nat) : Prop where
 sh : shp T n C
 ech : Ech n C (entF T) ps.length (pv ps)
 red : Red n (entF T) ps.length (pv ps) 0
 ker : KerEq n C (entF T0) (entF T)
 len : ∃ S', rowsL T S' ∧ S' + 1 ≤ (S + 1) * 2 ^ (min ps.length (n - 1)) * 2 ^ (ps.length - 1)
 tab : TabS .u64 4294967296 w' g 64 us T
 piv : RowX isI w' w.heap.size 3 v (pI ps)
 bel : Below w.heap.size w w'
 lo : w.heap.size ≤ g
def GssOk (T : List (List Rat)) (S : Nat) : Prop := T.length ≤ 5 ∧ wideq T ≤ 200 ∧ rowsL T S ∧ S ≤ 100000 ∧ (S + 1) * 2 ^ (T.length - 1) ≤ 400 ∧ (S + 1) * 2 ^ (T.length - 1) * 2 ^ (T.length - 1) ≤ 2450
set_option maxHeartbeats 3200000 in
set_option maxRecDepth 100000 in
theorem greduce_any (a0 : Value) (T : List (List Rat)) (S : Nat) (w : World) (h0 : SlT .u64 4294967296 w a0 T) (hc : Hid (GssOk T S)) :
  Calls Tryz.prog 7 #[a0] w (fun e w' => (mayq T ∧ ∃ g v T' us ps, e = .returned (.tuple #[.slice (some ⟨g, 0, none⟩) T.length T.length, v, .int .i64 0]) ∧ RedE T T.length (wideq T) S w g v w' T' us ps) ∨ (¬ mayq T ∧ e = .returned (.tuple #[.slice none 0 0, .slice none 0 0, .int .i64 8]) ∧ Below w.heap.size w w')) := by
 have st0 := h0
 obtain ⟨A0, c0, rfl, hc0, hm0⟩ := h0.shape
 obtain ⟨n, hn⟩ : ∃ n, n = T.length := ⟨_, rfl⟩
 obtain ⟨C, hC⟩ : ∃ C, C = wideq T := ⟨_, rfl⟩
 have HST := Lib.hid st0
 clear h0 st0 hc0 hm0
 go_enter Tryz.func7, Tryz.ntmps7
 go_wp2_with fail
 refine (tbown_any _ T _ HST.out ⟨hc.out.2.1, by have := hc.out.1; omega, hc.out.2.2.1.len.mono hc.out.2.2.2.1⟩).mono ?_
 rintro e w2 (⟨hm, g, us, pss, rfl, hT, hV, hU, hg, b2⟩ | ⟨hm, V, rfl, hS, b2⟩)
 ·have TS := TabO.tabS hT hU
  rw [hV] at TS
  rw [← hn]
  rw [← hn] at hU
  have HM := Lib.hid hm
  have HH := Lib.hid (And.intro hn hC)
  have sl := TS.slT hn.symm (by have := hc.out.1; omega)
  clear hT hV hn hC hm
  go_wp2_with fail
  refine (msize_any _ T _ sl).mono ?_
  rintro e w3 ⟨rfl, b3⟩
  rw [← HH.out.1, ← HH.out.2]
  have TS3 := TS.below b3
  have b23 := b2.trans (b3.mono b2.size)
  clear sl TS b3 b2
  go_wp2_with fail
  refine (gdown_any g n C C S us T _ TS3 ⟨by rw [HH.out.1, HH.out.2]; exact shp_of HM.out, Nat.le_refl _, by rw [HH.out.1]; exact hc.out.1, by rw [HH.out.2]; have := hc.out.2.1; omega, hc.out.2.2.1, by rw [HH.out.1]; exact hc.out.2.2.2.2.1⟩).mono ?_
  rintro e w4 ⟨v, v5, T4, us4, ps, d, rfl, hD⟩
  obtain ⟨dwn, tab, piv, num, len, own⟩ := hD
  obtain ⟨u, t, rfl, su, st⟩ := num
  obtain ⟨Au, cu, rfl, _⟩ := id su
  obtain ⟨At, ct, rfl, _⟩ := id st
  obtain ⟨A6, c6, e6⟩ := RowV.slice piv.1
  rw [pI_len] at e6
  subst e6
  have hpn : ps.length ≤ n := dwn.ech.le
  have b24 := b23.grown own b23.size (fun k e => by cases e; exact hg)
  obtain ⟨S1, r1, hS1⟩ := dwn.len
  have hp1 := pow_cut (S := S) (show min ps.length (n - 1) ≤ n - 1 by omega)
  have hp2 := pow_cut (S := S1) (show ps.length - 1 ≤ n - 1 by omega)
  have hm2 : (S1 + 1) * 2 ^ (n - 1) ≤ (S + 1) * 2 ^ (n - 1) * 2 ^ (n - 1) := Nat.mul_le_mul_right _ (Nat.le_trans hS1 hp1)
  have hq1 := hc.out.2.2.2.2.2
  rw [← HH.out.1] at hq1
  have HB := Lib.hid (And.intro hp1 (And.intro hp2 (And.intro hm2 (And.intro hq1 hS1))))
  clear hp1 hp2 hm2 hq1 hS1
  have ba := below_alloc (w := w4) (Nat.le_refl _) (.cells #[.bool (ngB d.num), .slice Au (digs 4294967296 d.num.natAbs).length cu, .slice At (digs 4294967296 d.den).length ct] 44)
  have tab4 := tab.below ba
  have piv4 := (piv.below ba).weak b23.size
  have b25 := b24.trans (ba.mono b24.size)
  have HDW := Lib.hid dwn
  have HR1 := Lib.hid r1
  clear tab piv ba dwn r1 su st own TS3 b23 b24
  go_wp2_with fail
  have cu := gup_any g n C C S1 c6 A6 us4 ps T T4 _ tab4 (piv4.pvs tab4.1 (by decide)) ⟨HDW.out.sh, Nat.le_refl _, by rw [HH.out.1]; exact hc.out.1, by rw [HH.out.2]; have := hc.out.2.1; omega, HR1.out, by have := HB.out; omega, HDW.out.ech, HDW.out.ker⟩
  refine cu.mono ?_
  rintro e w6 ⟨rfl, us6, T6, hU6, tab6, own6⟩
  have piv6 := piv4.grown own6 (fun x e1 e2 => piv4.notTab tab4.1 (by decide) (by rw [e1, e2]))
  have b26 := b25.grown own6 b25.size (fun k e => by cases e; exact hg)
  clear cu piv4 tab4
  go_wp2
  go_ret3
  refine .inl ⟨HM.out, g, .slice A6 ps.length c6, T6, us6, ps, ?_, ?_⟩
  ·rw [← HH.out.1]
   rfl
  ·rw [← HH.out.1, ← HH.out.2]
   obtain ⟨S2, r2, hS2⟩ := hU6.len
   refine ⟨hU6.sh, hU6.ech, hU6.red, hU6.ker, ⟨S2, r2, Nat.le_trans hS2 ?_⟩, tab6, piv6, b26, hg⟩
   exact Nat.mul_le_mul HB.out.2.2.2.2 (Nat.pow_le_pow_right (by omega) (by omega))
 ·rw [if_neg (by decide)] at hS
  obtain ⟨AV, cV, rfl, -, -⟩ := hS.shape
  have HN := Lib.hid hm
  clear hm
  go_wp2
  go_ret3
  exact .inr ⟨HN.out, rfl, b2⟩
/-- Places, read. -/
def PvI (w : World) (v : Value) (ps : List Nat) : Prop := ∃ A c, v = .slice A ps.length c ∧ ∀ i, i < ps.length → ∃ ad, A = some ad ∧ w.cell? (ad.add i) = some (.int .i64 (pv ps i : Int))
theorem PvI.below {w w' : World} {v : Value} {ps : List Nat} (h : PvI w v ps) (hb : Below w.heap.size w w') : PvI w' v ps := by
 obtain ⟨A, c, e, h1⟩ := h
 refine ⟨A, c, e, fun i hi => ?_⟩
 obtain ⟨ad, e2, h2⟩ := h1 i hi
 exact ⟨ad, e2, (hb.cell (World.block_lt_of_cell? _ _ h2)).trans h2⟩
theorem RowX.pvI {w : World} {base : Nat} {v : Value} {ps : List Nat} (h : RowX isI w base 3 v (pI ps)) : PvI w v ps := by
 obtain ⟨A, c, e⟩ := RowV.slice h.1
 rw [pI_len] at e
 subst e
 refine ⟨A, c, rfl, fun i hi => ?_⟩
 rcases h.1.2 with ⟨e, h0⟩ | ⟨g', cap, cur, e, _⟩
 ·rw [pI_len] at h0; omega
 ·have e2 := e
  injection e2 with e1 e2 e3
  subst e1
  have hc := h.1
  rw [e] at hc
  refine ⟨_, rfl, ?_⟩
  rw [addr_zero]
  exact hc.cellAt (pI_at hi)
set_option maxHeartbeats 1600000 in
set_option maxRecDepth 100000 in
theorem sameints_any (a0 a1 : Value) (ps qs : List Nat) (w : World) (h0 : PvI w a0 ps) (h1 : PvI w a1 qs) (hm : ps.length ≤ 1000) :
    Calls Tryz.prog 14 #[a0, a1] w (RetV (.bool (decide (ps = qs))) w) := by
  have st0 := h0
  have st1 := h1
  obtain ⟨A0, c0, rfl, _⟩ := h0
  obtain ⟨A1, c1, rfl, _⟩ := h1
  go_enter Tryz.func14, Tryz.ntmps14
  by_cases hl : ps.length = qs.length
  · rw [← hl] at st1 ⊢
    have HLQ := Lib.hid hl
    clear hl
    go_wp2
    go_loopw [5] (fun v5 wr => ∃ k : Nat, k ≤ ps.length ∧ Hid (∀ i, i < k → pv ps i = pv qs i) ∧ Below w.heap.size w wr ∧ v5 = .int .i64 (k : Int)) (fun v5 _ => ps.length - (intOf v5).toNat)
    case atStart => exact ⟨0, by omega, (by show ∀ i, _; intro i hi; omega), Below.refl _ _, rfl⟩
    case round =>
      obtain ⟨k, hk, HZ, bb, rfl⟩ := hrel
      by_cases hlt : k < ps.length
      · obtain ⟨A, c, e, hA⟩ := st0.below bb
        injection e with e1 _ e3
        subst e1; subst e3
        obtain ⟨A', c', e, hA'⟩ := st1.below bb
        injection e with e1 _ e3
        subst e1; subst e3
        obtain ⟨ad, rfl, k0⟩ := hA k hlt
        obtain ⟨ad', rfl, k1⟩ := hA' k (by have := HLQ.out; omega)
        have bd := bb.drew
        obtain ⟨x, hx⟩ : ∃ x, x = pv ps k := ⟨_, rfl⟩
        obtain ⟨y, hy⟩ : ∃ y, y = pv qs k := ⟨_, rfl⟩
        rw [← hx] at k0
        rw [← hy] at k1
        have HX := Lib.hid (And.intro hx hy)
        clear hx hy hA hA' st0 st1
        by_cases hxy : x = y
        · subst hxy
          go_upto_region 6 with (fail)
          go_region
          all_goals
            have HZ2 : Hid (∀ i, i < k + 1 → pv ps i = pv qs i) := by
              show ∀ i, _
              intro i hi
              by_cases e : i = k
              · subst e; rw [← HX.out.1, ← HX.out.2]
              · exact HZ.out i (by omega)
            go_wp2
            go_roundw
            case rel => exact ⟨k + 1, by omega, HZ2, bd, by go_num⟩
            case measure => simp [intOf]; omega
        · go_upto_region 6 with (fail)
          go_region
          all_goals
            have HT : Hid (decide (ps = qs) = false) := decide_eq_false (fun e => by have h := HX.out; rw [← e] at h; exact hxy (h.1.trans h.2.symm))
            go_wp2
            go_ret
            exact ⟨by rw [HT.out]; rfl, bd⟩
      · obtain rfl : k = ps.length := by omega
        have HT : Hid (decide (ps = qs) = true) := decide_eq_true (pv_list HLQ.out fun i hi => HZ.out i hi)
        go_wp2
        go_ret
        exact ⟨by rw [HT.out]; rfl, bb⟩
  · have hl2 := hl
    have HT : Hid (decide (ps = qs) = false) := decide_eq_false (fun e => hl (by rw [e]))
    go_wp2
    go_ret
    exact ⟨by rw [HT.out]; rfl, Below.refl _ _⟩
end Go.Proofs.YtmpalajamfiiiaaGreat.rat
namespace Go.Proofs.YtmpalajamfiiiaaGreat.rat
open Go.RowKit Go.Proofs.YtmpalajamfiiiaaGreat.num Go.Proofs.YtmpalajamfiiiaaGreat.mem Go.Proofs.YtmpalajamfiiiaaGreat.nat Go.Proofs.YtmpalajamfiiiaaGreat.txt Go.Proofs.YtmpalajamfiiiaaGreat.str Go.Proofs.YtmpalajamfiiiaaGreat.flow Go.Proofs.YtmpalajamfiiiaaGreat.whl
set_option linter.unusedVariables false
set_option linter.unusedSimpArgs false
theorem slT_two {k : IntKind} {B : Nat} {w : World} {v u0 u1 : Value} {r0 r1 : List Rat} (h : IsV w v [u0, u1]) (h0 : SlF k B w u0 r0) (h1 : SlF k B w u1 r1) (hc : ∀ A n c, v = .slice A n c → c ≤ maxLen) : SlT k B w v [r0, r1] := by
 obtain ⟨A, c, e, h2, h3⟩ := h
 refine ⟨[u0, u1], rfl, ⟨A, c, e, h2, hc _ _ _ e, h3⟩, fun i x y hx hy => ?_⟩
 rcases i with _ | _ | i
 ·obtain rfl : u0 = x := by simpa using hx
  obtain rfl : r0 = y := by simpa using hy
  exact h0
 ·obtain rfl : u1 = x := by simpa using hx
  obtain rfl : r1 = y := by simpa using hy
  exact h1
 ·simp at hx
end Go.Proofs.YtmpalajamfiiiaaGreat.rat
namespace Go.Proofs.YtmpalajamfiiiaaGreat.rat
open Go.RowKit Go.Shelf Go.Proofs.YtmpalajamfiiiaaGreat.num Go.Proofs.YtmpalajamfiiiaaGreat.mem Go.Proofs.YtmpalajamfiiiaaGreat.nat Go.Proofs.YtmpalajamfiiiaaGreat.txt Go.Proofs.YtmpalajamfiiiaaGreat.str Go.Proofs.YtmpalajamfiiiaaGreat.flow Go.Proofs.YtmpalajamfiiiaaGreat.whl
set_option linter.unusedVariables false
set_option linter.unusedSimpArgs false
theorem pv_zero : ∀ i, i < 1 → pv [0] i = 0 := fun i hi => by
 obtain rfl : i = 0 := by omega
 rfl
theorem ex14_ech : Ech 2 2 (entF [[1, 2], [0, 0]]) 1 (pv [0]) := by
 refine ⟨by omega, fun i j h1 h2 => by omega, fun i hi => by rw [pv_zero i hi]; omega, fun i hi => ?_, fun i hi j hj => by rw [pv_zero i hi] at hj; omega, fun i h1 h2 j hj => ?_⟩
 ·rw [pv_zero i hi]
  obtain rfl : i = 0 := by omega
  decide +kernel
 ·obtain rfl : i = 1 := by omega
  rcases (show j = 0 ∨ j = 1 by omega) with rfl | rfl <;> decide +kernel
theorem ex14_red : Red 2 (entF [[1, 2], [0, 0]]) 1 (pv [0]) 0 := fun m _ hm i hi hne => by
 rw [pv_zero m hm]
 obtain rfl : i = 1 := by omega
 decide +kernel
theorem ex14_ker : KerEq 2 2 (entF [[2, 4], [1, 2]]) (entF [[1, 2], [0, 0]]) := fun x => by
 have a : ∀ (M : Nat → Nat → Rat) i, sumN 2 (fun j => M i j * x j) = M i 0 * x 0 + M i 1 * x 1 := fun M i => by
  show 0 + _ + _ = _
  rw [Rat.zero_add]
 have e00 : entF [[2, 4], [1, 2]] 0 0 = 2 := by decide +kernel
 have e01 : entF [[2, 4], [1, 2]] 0 1 = 4 := by decide +kernel
 have e10 : entF [[2, 4], [1, 2]] 1 0 = 1 := by decide +kernel
 have e11 : entF [[2, 4], [1, 2]] 1 1 = 2 := by decide +kernel
 have f00 : entF [[1, 2], [0, 0]] 0 0 = 1 := by decide +kernel
 have f01 : entF [[1, 2], [0, 0]] 0 1 = 2 := by decide +kernel
 have f10 : entF [[1, 2], [0, 0]] 1 0 = 0 := by decide +kernel
 have f11 : entF [[1, 2], [0, 0]] 1 1 = 0 := by decide +kernel
 constructor
 ·intro h i hi
  have h1 := h 1 (by omega)
  rw [a, e10, e11] at h1
  rw [a]
  rcases (show i = 0 ∨ i = 1 by omega) with rfl | rfl
  ·rw [f00, f01]; exact h1
  ·rw [f10, f11]; grind
 ·intro h i hi
  have h1 := h 0 (by omega)
  rw [a, f00, f01] at h1
  rw [a]
  rcases (show i = 0 ∨ i = 1 by omega) with rfl | rfl
  ·rw [e00, e01]; grind
  ·rw [e10, e11]; exact h1
theorem ex14_ok : GssOk [[2, 4], [1, 2]] 3 := by
 have hs : shp [[2, 4], [1, 2]] 2 2 := ⟨rfl, fun r hr => by simp at hr; rcases hr with rfl | rfl <;> rfl⟩
 have hl : lenT [[2, 4], [1, 2]] 1 := fun r hr x hx => by
  simp at hr
  rcases hr with rfl | rfl <;> simp at hx <;> rcases hx with rfl | rfl <;> exact ⟨digs_len_le (k := 1) (by omega) (by decide +kernel), digs_len_le (k := 1) (by omega) (by decide +kernel)⟩
 exact ⟨by simp, by show 2 ≤ 200; omega, rowsL_of hs hl, by omega, by simp, by simp⟩
theorem ex14_may : mayq [[2, 4], [1, 2]] := ⟨by simp, by show 2 ≤ 200; omega, fun r hr => by simp at hr; rcases hr with rfl | rfl <;> rfl⟩
theorem PvI.lit {w : World} (T : TypeId) : PvI (w.alloc (.cells #[.int .i64 0] T)) (.slice (some ⟨w.heap.size, 0, none⟩) 1 1) [0] := by
 refine ⟨some ⟨w.heap.size, 0, none⟩, 1, rfl, fun i hi => ⟨_, rfl, ?_⟩⟩
 obtain rfl : i = 0 := by simpa using hi
 rw [addr_zero]
 rw [World.cell?_alloc_new]
 rfl
set_option maxHeartbeats 6400000 in
set_option maxRecDepth 100000 in
theorem works14_any (w : World) : Calls Tryz.prog 11 #[] w (RetV (.bool true) w) := by
 obtain ⟨Z, hZ⟩ : ∃ Z : Rat, Z = ((0 : Int) : Rat) := ⟨_, rfl⟩
 obtain ⟨O, hO⟩ : ∃ O : Rat, O = ((1 : Int) : Rat) := ⟨_, rfl⟩
 obtain ⟨P, hP⟩ : ∃ P : Rat, P = ((2 : Int) : Rat) := ⟨_, rfl⟩
 obtain ⟨Q, hQ⟩ : ∃ Q : Rat, Q = ((4 : Int) : Rat) := ⟨_, rfl⟩
 have CZ : ∀ w, Calls Tryz.prog 30 #[.int .i64 0] w (RetQ Z w) := fun w => by rw [hZ]; exact of8_any 0 _ (by omega) (by omega)
 have CO : ∀ w, Calls Tryz.prog 30 #[.int .i64 1] w (RetQ O w) := fun w => by rw [hO]; exact of8_any 1 _ (by omega) (by omega)
 have CP : ∀ w, Calls Tryz.prog 30 #[.int .i64 2] w (RetQ P w) := fun w => by rw [hP]; exact of8_any 2 _ (by omega) (by omega)
 have CQ : ∀ w, Calls Tryz.prog 30 #[.int .i64 4] w (RetQ Q w) := fun w => by rw [hQ]; exact of8_any 4 _ (by omega) (by omega)
 obtain ⟨T, hT⟩ : ∃ T, T = [[P, Q], [O, P]] := ⟨_, rfl⟩
 obtain ⟨U, hU⟩ : ∃ U, U = [[O, P], [Z, Z]] := ⟨_, rfl⟩
 have eT : T = [[2, 4], [1, 2]] := by rw [hT, hP, hQ, hO]; rfl
 have eU : U = [[1, 2], [0, 0]] := by rw [hU, hP, hO, hZ]; rfl
 have HE := Lib.hid (And.intro hT (And.intro hU (And.intro eT eU)))
 clear hZ hO hP hQ hT hU eT eU
 go_enter Tryz.func11, Tryz.ntmps11
 go_wp2_with fail
 refine (CP _).mono ?_
 rintro e w1 ⟨v0, rfl, k0, -, b1⟩
 obtain ⟨u0, t0, rfl, q0, d0⟩ := k0
 obtain ⟨A0, c0, rfl, _⟩ := id q0
 obtain ⟨D0, e0, rfl, _⟩ := id d0
 go_wp2_with fail
 refine (CQ _).mono ?_
 rintro e w2 ⟨v1, rfl, k1, -, b2⟩
 obtain ⟨u1, t1, rfl, q1, d1⟩ := k1
 obtain ⟨A1, c1, rfl, _⟩ := id q1
 obtain ⟨D1, e1, rfl, _⟩ := id d1
 have s0 := slF_lit2 w2 44 (q0.below b2) (d0.below b2) q1 d1
 have ba := below_alloc (w := w2) (Nat.le_refl _) (.cells #[.bool (ngB P.num), .slice A0 (digs 4294967296 P.num.natAbs).length c0, .slice D0 (digs 4294967296 P.den).length e0, .bool (ngB Q.num), .slice A1 (digs 4294967296 Q.num.natAbs).length c1, .slice D1 (digs 4294967296 Q.den).length e1] 44)
 have b12 := b1.trans (b2.mono b1.size)
 have b13 := b12.trans (ba.mono b12.size)
 clear q0 d0 q1 d1 b1 b2 ba b12
 go_wp2_with fail
 refine (CO _).mono ?_
 rintro e w3 ⟨v2, rfl, k2, -, b3⟩
 obtain ⟨u2, t2, rfl, q2, d2⟩ := k2
 obtain ⟨A2, c2, rfl, _⟩ := id q2
 obtain ⟨D2, e2, rfl, _⟩ := id d2
 have s03 := s0.below b3
 have b14 := b13.trans (b3.mono b13.size)
 clear s0 b13 b3
 go_wp2_with fail
 refine (CP _).mono ?_
 rintro e w4 ⟨v3, rfl, k3, -, b4⟩
 obtain ⟨u3, t3, rfl, q3, d3⟩ := k3
 obtain ⟨A3, c3, rfl, _⟩ := id q3
 obtain ⟨D3, e3, rfl, _⟩ := id d3
 have s1 := slF_lit2 w4 44 (q2.below b4) (d2.below b4) q3 d3
 have ba := below_alloc (w := w4) (Nat.le_refl _) (.cells #[.bool (ngB O.num), .slice A2 (digs 4294967296 O.num.natAbs).length c2, .slice D2 (digs 4294967296 O.den).length e2, .bool (ngB P.num), .slice A3 (digs 4294967296 P.num.natAbs).length c3, .slice D3 (digs 4294967296 P.den).length e3] 44)
 have hs1 : (w4.alloc (.cells #[.bool (ngB O.num), .slice A2 (digs 4294967296 O.num.natAbs).length c2, .slice D2 (digs 4294967296 O.den).length e2, .bool (ngB P.num), .slice A3 (digs 4294967296 P.num.natAbs).length c3, .slice D3 (digs 4294967296 P.den).length e3] 44)).heap.size = w4.heap.size + 1 := by simp
 have s04 := (s03.below b4).below ba
 have b15 := b14.trans (b4.mono b14.size)
 have b16 := b15.trans (ba.mono b15.size)
 clear s03 b14 b4 q2 d2 q3 d3 ba b15
 have bt := below_alloc (w := w4.alloc (.cells #[.bool (ngB O.num), .slice A2 (digs 4294967296 O.num.natAbs).length c2, .slice D2 (digs 4294967296 O.den).length e2, .bool (ngB P.num), .slice A3 (digs 4294967296 P.num.natAbs).length c3, .slice D3 (digs 4294967296 P.den).length e3] 44)) (Nat.le_refl _) (.cells #[.slice (some ⟨w2.heap.size, 0, none⟩) 2 2, .slice (some ⟨w4.heap.size, 0, none⟩) 2 2] 64)
 have hv := isV_lit (w4.alloc (.cells #[.bool (ngB O.num), .slice A2 (digs 4294967296 O.num.natAbs).length c2, .slice D2 (digs 4294967296 O.den).length e2, .bool (ngB P.num), .slice A3 (digs 4294967296 P.num.natAbs).length c3, .slice D3 (digs 4294967296 P.den).length e3] 44)) 64 [.slice (some ⟨w2.heap.size, 0, none⟩) 2 2, .slice (some ⟨w4.heap.size, 0, none⟩) 2 2]
 have ST := slT_two hv (s04.below bt) (s1.below bt) (fun A n c e => by injection e with _ _ e3; subst e3; unfold maxLen; simp)
 have b17 := b16.trans (bt.mono b16.size)
 rw [hs1] at ST
 rw [← HE.out.1] at ST
 clear hv bt s04 s1 b16
 have HST := Lib.hid ST
 have HB := Lib.hid b17
 clear ST b17
 go_wp2_with fail
 refine (greduce_any _ T 3 _ HST.out (by have := ex14_ok; rw [← HE.out.2.2.1] at this; exact this)).mono ?_
 rintro e w5 (⟨hm, g, v, T', us, ps, rfl, hR⟩ | ⟨hm, rfl, b5⟩)
 ·have e2 : T.length = 2 := by rw [HE.out.2.2.1]; rfl
  have e3 : wideq T = 2 := by rw [HE.out.2.2.1]; rfl
  rw [e2, e3] at hR
  rw [e2]
  obtain ⟨rfl, rfl⟩ : T' = U ∧ ps = [0] := by
   refine steps_same (T0 := T) hR.sh hR.ech hR.red hR.ker ?_ ?_ ?_ ?_
   ·rw [HE.out.2.2.2]; exact ⟨rfl, fun r hr => by simp at hr; rcases hr with rfl | rfl <;> rfl⟩
   ·rw [HE.out.2.2.2]; exact ex14_ech
   ·rw [HE.out.2.2.2]; exact ex14_red
   ·rw [HE.out.2.2.2, HE.out.2.2.1]; exact ex14_ker
  obtain ⟨Av, cv, ev⟩ := RowV.slice hR.piv.1
  rw [show (pI [0]).length = 1 from rfl] at ev
  subst ev
  have pv0 := hR.piv.pvI
  have sT := hR.tab.slT hR.sh.1 (by omega)
  have b5 := HB.out.trans (hR.bel.mono HB.out.size)
  clear hR HST HB
  have ba := below_alloc (w := w5) (Nat.le_refl _) (.cells #[.int .i64 0] 3)
  have pv1 := pv0.below ba
  have sT1 := sT.below ba
  have b6 := b5.trans (ba.mono b5.size)
  have HP := Lib.hid (And.intro pv1 (And.intro sT1 b6))
  clear pv0 sT b5 ba pv1 sT1 b6
  go_wp2_with fail
  refine (sameints_any _ _ [0] [0] _ HP.out.1 (PvI.lit _) (by simp)).mono ?_
  rintro e w7 ⟨rfl, b7⟩
  rw [show decide (([0] : List Nat) = [0]) = true from rfl]
  have sT7 := HP.out.2.1.below b7
  have b17 := HP.out.2.2.trans (b7.mono HP.out.2.2.size)
  clear HP b7
  go_wp2_with fail
  refine (CO _).mono ?_
  rintro e w8 ⟨v4, rfl, k4, -, b8⟩
  obtain ⟨u4, t4, rfl, q4, d4⟩ := k4
  obtain ⟨A4, c4, rfl, _⟩ := id q4
  obtain ⟨D4, e4, rfl, _⟩ := id d4
  go_wp2_with fail
  refine (CP _).mono ?_
  rintro e w9 ⟨v5, rfl, k5, -, b9⟩
  obtain ⟨u5, t5, rfl, q5, d5⟩ := k5
  obtain ⟨A5, c5, rfl, _⟩ := id q5
  obtain ⟨D5, e5, rfl, _⟩ := id d5
  have s0 := slF_lit2 w9 44 (q4.below b9) (d4.below b9) q5 d5
  have ba := below_alloc (w := w9) (Nat.le_refl _) (.cells #[.bool (ngB O.num), .slice A4 (digs 4294967296 O.num.natAbs).length c4, .slice D4 (digs 4294967296 O.den).length e4, .bool (ngB P.num), .slice A5 (digs 4294967296 P.num.natAbs).length c5, .slice D5 (digs 4294967296 P.den).length e5] 44)
  have sT9 := ((sT7.below b8).below b9).below ba
  have b12 := b17.trans (b8.mono b17.size)
  have b13 := b12.trans (b9.mono b12.size)
  have b14 := b13.trans (ba.mono b13.size)
  clear q4 d4 q5 d5 sT7 b17 b8 b9 ba b12 b13
  go_wp2_with fail
  refine (CZ _).mono ?_
  rintro e w10 ⟨v6, rfl, k6, -, b10⟩
  obtain ⟨u6, t6, rfl, q6, d6⟩ := k6
  obtain ⟨A6, c6, rfl, _⟩ := id q6
  obtain ⟨D6, e6, rfl, _⟩ := id d6
  have s03 := s0.below b10
  have sT10 := sT9.below b10
  have b15 := b14.trans (b10.mono b14.size)
  clear s0 b10 sT9 b14
  go_wp2_with fail
  refine (CZ _).mono ?_
  rintro e w11 ⟨v7, rfl, k7, -, b11⟩
  obtain ⟨u7, t7, rfl, q7, d7⟩ := k7
  obtain ⟨A7, c7, rfl, _⟩ := id q7
  obtain ⟨D7, e7, rfl, _⟩ := id d7
  have s1 := slF_lit2 w11 44 (q6.below b11) (d6.below b11) q7 d7
  have ba := below_alloc (w := w11) (Nat.le_refl _) (.cells #[.bool (ngB Z.num), .slice A6 (digs 4294967296 Z.num.natAbs).length c6, .slice D6 (digs 4294967296 Z.den).length e6, .bool (ngB Z.num), .slice A7 (digs 4294967296 Z.num.natAbs).length c7, .slice D7 (digs 4294967296 Z.den).length e7] 44)
  have hs1 : (w11.alloc (.cells #[.bool (ngB Z.num), .slice A6 (digs 4294967296 Z.num.natAbs).length c6, .slice D6 (digs 4294967296 Z.den).length e6, .bool (ngB Z.num), .slice A7 (digs 4294967296 Z.num.natAbs).length c7, .slice D7 (digs 4294967296 Z.den).length e7] 44)).heap.size = w11.heap.size + 1 := by simp
  have s04 := (s03.below b11).below ba
  have sT11 := (sT10.below b11).below ba
  have b16 := b15.trans (b11.mono b15.size)
  have b17 := b16.trans (ba.mono b16.size)
  clear s03 b15 b11 q6 d6 q7 d7 ba b16 sT10
  have bt := below_alloc (w := w11.alloc (.cells #[.bool (ngB Z.num), .slice A6 (digs 4294967296 Z.num.natAbs).length c6, .slice D6 (digs 4294967296 Z.den).length e6, .bool (ngB Z.num), .slice A7 (digs 4294967296 Z.num.natAbs).length c7, .slice D7 (digs 4294967296 Z.den).length e7] 44)) (Nat.le_refl _) (.cells #[.slice (some ⟨w9.heap.size, 0, none⟩) 2 2, .slice (some ⟨w11.heap.size, 0, none⟩) 2 2] 64)
  have hv := isV_lit (w11.alloc (.cells #[.bool (ngB Z.num), .slice A6 (digs 4294967296 Z.num.natAbs).length c6, .slice D6 (digs 4294967296 Z.den).length e6, .bool (ngB Z.num), .slice A7 (digs 4294967296 Z.num.natAbs).length c7, .slice D7 (digs 4294967296 Z.den).length e7] 44)) 64 [.slice (some ⟨w9.heap.size, 0, none⟩) 2 2, .slice (some ⟨w11.heap.size, 0, none⟩) 2 2]
  have ST := slT_two hv (s04.below bt) (s1.below bt) (fun A n c e => by injection e with _ _ e3; subst e3; unfold maxLen; simp)
  have sT12 := sT11.below bt
  have b18 := b17.trans (bt.mono b17.size)
  rw [hs1] at ST
  rw [← HE.out.2.1] at ST
  clear hv bt s04 s1 b17 sT11
  have HST := Lib.hid (And.intro ST (And.intro sT12 b18))
  clear ST b18 sT12
  go_wp2_with fail
  refine (msame_any _ _ T' T' true _ HST.out.2.1 HST.out.1 (decide_eq_true rfl).symm).mono ?_
  rintro e w13 ⟨rfl, b13⟩
  go_wp2
  go_ret
  exact ⟨rfl, HST.out.2.2.trans (b13.mono HST.out.2.2.size)⟩
 ·exact absurd (by rw [HE.out.2.2.1]; exact ex14_may) hm
theorem dotq_sumN {r v : List Rat} (hl : r.length = v.length) : ∀ k, k ≤ r.length → dotq (r.take k) (v.take k) = sumN k (fun l => r.getD l 0 * v.getD l 0)
  | 0, _ => by rw [List.take_zero]; exact dotq_nil _
  | k + 1, hk => by
    obtain ⟨x, hx⟩ : ∃ x, r[k]? = some x := ⟨_, List.getElem?_eq_getElem (by omega)⟩
    obtain ⟨y, hy⟩ : ∃ y, v[k]? = some y := ⟨_, List.getElem?_eq_getElem (by omega)⟩
    rw [dotq_take hx hy, dotq_sumN hl k (by omega)]
    show _ = sumN k _ + r.getD k 0 * v.getD k 0
    rw [List.getD_eq_getElem?_getD, List.getD_eq_getElem?_getD, hx, hy]
    rfl
theorem shp_wide {T : List (List Rat)} {n C : Nat} (h : shp T n C) (h0 : n = 0 → C = 0) : wideq T = C := by
 cases T with
 | nil => exact (h0 h.1.symm).symm
 | cons r T => exact h.2 r List.mem_cons_self
def hasP (ps : List Nat) (j k : Nat) : Prop := ∃ i, i < k ∧ pv ps i = j
theorem hasP_mem {ps : List Nat} {j : Nat} : hasP ps j ps.length ↔ j ∈ ps := by
 constructor
 ·rintro ⟨i, hi, e⟩
  refine List.mem_of_getElem? (i := i) ?_
  rw [List.getElem?_eq_getElem hi]
  unfold pv at e
  rw [List.getD_eq_getElem?_getD, List.getElem?_eq_getElem hi] at e
  exact congrArg some e
 ·intro h
  obtain ⟨i, hi⟩ := List.mem_iff_getElem?.1 h
  refine ⟨i, (List.getElem?_eq_some_iff.1 hi).1, ?_⟩
  unfold pv
  rw [List.getD_eq_getElem?_getD, hi]
  rfl
set_option maxHeartbeats 1600000 in
set_option maxRecDepth 100000 in
theorem hasint_any (a0 : Value) (ps : List Nat) (j : Nat) (w : World) (h0 : PvI w a0 ps) (hm : ps.length ≤ 1000) :
  Calls Tryz.prog 26 #[a0, .int .i64 (j : Int)] w (RetV (.bool (decide (j ∈ ps))) w) := by
 have st0 := h0
 obtain ⟨A0, c0, rfl, _⟩ := h0
 go_enter Tryz.func26, Tryz.ntmps26
 go_wp2
 go_loopw [5] (fun v5 wr => ∃ k : Nat, k ≤ ps.length ∧ Hid (¬ hasP ps j k) ∧ Below w.heap.size w wr ∧ v5 = .int .i64 (k : Int)) (fun v5 _ => ps.length - (intOf v5).toNat)
 case atStart => exact ⟨0, by omega, (by show ¬ _; rintro ⟨i, hi, _⟩; omega), Below.refl _ _, rfl⟩
 case round =>
  obtain ⟨k, hk, HZ, bb, rfl⟩ := hrel
  by_cases hlt : k < ps.length
  ·obtain ⟨A, c, e, hA⟩ := st0.below bb
   injection e with e1 _ e3
   subst e1; subst e3
   obtain ⟨ad, rfl, k0⟩ := hA k hlt
   obtain ⟨x, hx⟩ : ∃ x, x = pv ps k := ⟨_, rfl⟩
   rw [← hx] at k0
   have HX := Lib.hid hx
   clear hx hA st0
   by_cases hxy : x = j
   ·subst hxy
    have HT : Hid (decide (x ∈ ps) = true) := decide_eq_true (hasP_mem.1 ⟨k, hlt, HX.out.symm⟩)
    go_wp2
    go_ret
    exact ⟨by rw [HT.out]; rfl, bb⟩
   ·have hxb : (((x : Nat) : Int) == ((j : Nat) : Int)) = false := by rw [beq_eq_false_iff_ne]; omega
    have HZ2 : Hid (¬ hasP ps j (k + 1)) := by
     show ¬ _
     rintro ⟨i, hi, e⟩
     by_cases e2 : i = k
     ·subst e2; exact hxy (HX.out.trans e)
     ·exact HZ.out ⟨i, by omega, e⟩
    go_wp2
    go_roundw
    case rel => exact ⟨k + 1, by omega, HZ2, bb, by go_num⟩
    case measure => simp [intOf]; omega
  ·obtain rfl : k = ps.length := by omega
   have HT : Hid (decide (j ∈ ps) = false) := decide_eq_false (fun h => HZ.out (hasP_mem.2 h))
   go_wp2
   go_ret
   exact ⟨by rw [HT.out]; rfl, bb⟩
/-- Where it is first, or -1. -/
def RetPos (ps : List Nat) (j : Nat) (w : World) (e : Ending) (w' : World) : Prop := ∃ z : Int, e = .returned (.int .i64 z) ∧ -1 ≤ z ∧ z ≤ 1000 ∧ (0 ≤ z ↔ j ∈ ps) ∧ Below w.heap.size w w'
set_option maxHeartbeats 1600000 in
set_option maxRecDepth 100000 in
theorem index_any (a0 : Value) (ps : List Nat) (j : Nat) (w : World) (h0 : PvI w a0 ps) (hm : ps.length ≤ 1000) :
  Calls Tryz.prog 91 #[a0, .int .i64 (j : Int)] w (RetPos ps j w) := by
 have st0 := h0
 obtain ⟨A0, c0, rfl, _⟩ := h0
 go_enter Tryz.func91, Tryz.ntmps91
 go_wp2
 go_loopw [8] (fun v8 wr => ∃ k : Nat, k ≤ ps.length ∧ Hid (¬ hasP ps j k) ∧ Below w.heap.size w wr ∧ v8 = .int .i64 (k : Int)) (fun v8 _ => ps.length - (intOf v8).toNat)
 case atStart => exact ⟨0, by omega, (by show ¬ _; rintro ⟨i, hi, _⟩; omega), Below.refl _ _, rfl⟩
 case round =>
  obtain ⟨k, hk, HZ, bb, rfl⟩ := hrel
  by_cases hlt : k < ps.length
  ·obtain ⟨A, c, e, hA⟩ := st0.below bb
   injection e with e1 _ e3
   subst e1; subst e3
   obtain ⟨ad, rfl, k0⟩ := hA k hlt
   obtain ⟨x, hx⟩ : ∃ x, x = pv ps k := ⟨_, rfl⟩
   rw [← hx] at k0
   have HX := Lib.hid hx
   clear hx hA st0
   by_cases hxy : j = x
   ·subst hxy
    have HT : Hid (j ∈ ps) := hasP_mem.1 ⟨k, hlt, HX.out.symm⟩
    go_wp2
    go_ret
    exact ⟨(k : Int), rfl, by omega, by omega, ⟨fun _ => HT.out, fun _ => by omega⟩, bb⟩
   ·have hxb : (((j : Nat) : Int) == ((x : Nat) : Int)) = false := by rw [beq_eq_false_iff_ne]; omega
    have HZ2 : Hid (¬ hasP ps j (k + 1)) := by
     show ¬ _
     rintro ⟨i, hi, e⟩
     by_cases e2 : i = k
     ·subst e2; exact hxy (HX.out.trans e).symm
     ·exact HZ.out ⟨i, by omega, e⟩
    go_wp2
    go_roundw
    case rel => exact ⟨k + 1, by omega, HZ2, bb, by go_num⟩
    case measure => simp [intOf]; omega
  ·obtain rfl : k = ps.length := by omega
   have HT : Hid (¬ j ∈ ps) := fun h => HZ.out (hasP_mem.2 h)
   go_wp2
   go_ret
   exact ⟨-1, rfl, by omega, by omega, ⟨fun h => by omega, fun h => absurd h HT.out⟩, bb⟩
set_option maxHeartbeats 1600000 in
set_option maxRecDepth 100000 in
theorem containsI_any (a0 : Value) (ps : List Nat) (j : Nat) (w : World) (h0 : PvI w a0 ps) (hm : ps.length ≤ 1000) :
  Calls Tryz.prog 59 #[a0, .int .i64 (j : Int)] w (RetV (.bool (decide (j ∈ ps))) w) := by
 have st0 := h0
 obtain ⟨A0, c0, rfl, _⟩ := h0
 go_enter Tryz.func59, Tryz.ntmps59
 go_wp2_with fail
 refine (index_any _ ps j _ st0 hm).mono ?_
 rintro e w2 ⟨z, rfl, h1, h2, h3, b2⟩
 have H3 := Lib.hid h3
 clear h3
 by_cases hz : (0 : Int) ≤ z
 ·have HT : Hid (decide (j ∈ ps) = true) := decide_eq_true (H3.out.1 hz)
  go_wp2
  go_ret
  exact ⟨by rw [HT.out]; rfl, b2⟩
 ·have HT : Hid (decide (j ∈ ps) = false) := decide_eq_false (fun h => hz (H3.out.2 h))
  have hzd : decide ((0 : Int) ≤ z) = false := decide_eq_false hz
  go_wp2
  go_ret
  exact ⟨by rw [HT.out]; rfl, b2⟩
set_option maxRecDepth 100000 in
theorem is14_any (b : Bool) (w : World) : Calls Tryz.prog 31 #[.bool b] w (RetV (.int .i64 (if b then 1 else 0)) w) := by
  go_enter Tryz.func31, Tryz.ntmps31
  cases b with
  | true =>
    go_wp2
    go_ret
    exact ⟨rfl, Below.refl _ _⟩
  | false =>
    go_wp2
    go_ret
    exact ⟨rfl, Below.refl _ _⟩
end Go.Proofs.YtmpalajamfiiiaaGreat.rat
namespace Go.Proofs.YtmpalajamfiiiaaGreat.rat
open Go.RowKit Go.Proofs.YtmpalajamfiiiaaGreat.num Go.Proofs.YtmpalajamfiiiaaGreat.mem Go.Proofs.YtmpalajamfiiiaaGreat.nat Go.Proofs.YtmpalajamfiiiaaGreat.txt Go.Proofs.YtmpalajamfiiiaaGreat.str Go.Proofs.YtmpalajamfiiiaaGreat.flow Go.Proofs.YtmpalajamfiiiaaGreat.whl
set_option linter.unusedVariables false
set_option linter.unusedSimpArgs false
def RetSlN (L : List Rat) (w : World) (e : Ending) (w' : World) : Prop := ∃ V, e = .returned V ∧ IsN .i64 10000 w' w.heap.size V L ∧ Below w.heap.size w w'
set_option maxHeartbeats 3200000 in
set_option maxRecDepth 100000 in
theorem rscale_new (a0 a1 : Value) (p : List Rat) (K : Rat) (w : World) (h0 : SlF .i64 10000 w a0 p) (h1 : IsP w a1 K) (hl : (scaleq p K).length ≤ p.length ∧ p.length ≤ 1000000 ∧ (∀ x ∈ p, lenQ x 10000) ∧ lenQ K 10000) :
  Calls Tryz.prog 39 #[a0, a1] w (RetSlN (scaleq p K) w) := by
 obtain ⟨u1, t1, rfl, s1, r1⟩ := h1
 obtain ⟨A1, c1, rfl, _⟩ := id s1
 obtain ⟨D1, e1, rfl, _⟩ := id r1
 have sl0 := h0
 obtain ⟨A0, c0, rfl, hc0, hm0⟩ := h0.shape
 unfold maxLen at hm0
 have HLE := Lib.hid hl
 clear hl
 go_enter Tryz.func39, Tryz.ntmps39
 go_upto_region 1 with (fail)
 obtain ⟨wx, hwx, bb, B1, hsz⟩ := vars1 w 55 #[.bool (ngB (K).num), .slice A1 (digs 10000 (K).num.natAbs).length c1, .slice D1 (digs 10000 (K).den).length e1]
 rw [hwx]
 clear hwx
 have k1s := s1.below bb
 have k1d := r1.below bb
 have k1z : IsR wx (.agg #[.bool (ngB (K).num), .slice A1 (digs 10000 (K).num.natAbs).length c1]) (K).num := ⟨_, rfl, k1s⟩
 have k1 : IsP wx (.agg #[.bool (ngB (K).num), .slice A1 (digs 10000 (K).num.natAbs).length c1, .slice D1 (digs 10000 (K).den).length e1]) (K) := ⟨_, _, rfl, k1s, k1d⟩
 have hsz0 := bb.size
 go_wp2
 go_loopw [5, 6] (fun v5 v6 wr => ∃ (k : Nat) (ps : List Elt), k ≤ p.length ∧ Hid (ps.map (·.1) = (scaleq p K).take k) ∧ RowF 55 wr wx.heap.size v5 ps ∧ FarF .i64 10000 wr v5 ps ∧ Hid (NewL wx.heap.size ps) ∧ Below wx.heap.size wx wr ∧ v6 = .int .i64 (k : Int)) (fun _ v6 _ => p.length - (intOf v6).toNat)
 case atStart => exact ⟨0, [], by omega, rfl, rowF_lit0 _ _ _ (Nat.le_refl _), FarF.nil _ _ _ _, NewL.nil _, below_alloc (Nat.le_refl _) _, rfl⟩
 case round =>
  obtain ⟨k, ps, hk, HP, hR, hF, HNL, hby, rfl⟩ := hrel
  have bw := bb.trans (hby.mono bb.size)
  clear bb
  have bb := bw
  clear bw
  replace B1 := B1.below hby
  replace k1s := k1s.below hby
  replace k1d := k1d.below hby
  replace k1z := k1z.below hby
  replace k1 := k1.below hby
  have hszr := bb.size
  by_cases hlt : k < p.length
  ·obtain ⟨x, hq0_⟩ : ∃ x, p[k]? = some x := ⟨_, List.getElem?_eq_getElem hlt⟩
   obtain ⟨g0_, o0_, ue0, te0, hA0_, _, e00, e01, e02, es0, ed0⟩ := (sl0.below bb).at_ hq0_
   subst hA0_
   have HQ0 := Lib.hid hq0_
   clear hq0_
   obtain ⟨Ae0, ce0, rfl, _⟩ := id es0
   obtain ⟨De0, ee0, rfl, _⟩ := id ed0
   have ke0 : IsP wr (.agg #[.bool (ngB x.num), .slice Ae0 (digs 10000 x.num.natAbs).length ce0, .slice De0 (digs 10000 x.den).length ee0]) x := ⟨_, _, rfl, es0, ed0⟩
   have lx : lenQ x 10000 := HLE.out.2.2.1 x (List.mem_of_getElem? HQ0.out)
   have lK : lenQ K 10000 := HLE.out.2.2.2
   have nR := hR.under
   obtain ⟨AR, cR, hAR, _⟩ := (hR.sl hF).shape
   subst hAR
   have hszy := hby.size
   have HL8 : Hid (ps.length ≤ 1000000000) := by
    have h1 := congrArg List.length HP.out
    rw [List.length_map, List.length_take] at h1
    show _ ≤ _
    have := HLE.out.1
    have := HLE.out.2.1
    omega
   have sB := bb.size
   go_upto_region 5 with (fail)
   refine flow 8 [Pd.eq (.slice AR (ps.map (·.1)).length cR), Pd.eq (.slice (some ⟨g0_, o0_, none⟩) p.length c0), Pd.eq (.int .i64 (k : Int)), Pd.eq (.pointer (some ⟨g0_, o0_ + k * 3, none⟩)), Pd.eq (.agg #[.bool (ngB x.num), .slice Ae0 (digs 10000 x.num.natAbs).length ce0, .slice De0 (digs 10000 x.den).length ee0]), Pd.eq (.agg #[.bool (ngB (K).num), .slice A1 (digs 10000 (K).num.natAbs).length c1, .slice D1 (digs 10000 (K).den).length e1]), ppf ((x * K)) wr.heap.size, pone (ppf (x * K) wr.heap.size)] (by kernel_rfl) (by kernel_rfl) ?ob1 ?done1
   case ob1 =>
    refine And.intro (ob_move rfl (wt_none rfl) (ev_far rfl rfl) (fun _ _ h => h)) ?_
    refine And.intro (ob_move rfl (wt_none rfl) (ev_far rfl rfl) (fun _ _ h => h)) ?_
    refine And.intro (ob_move rfl (wt_none rfl) (ev_far rfl rfl) (fun _ _ h => h)) ?_
    refine And.intro (ob_indexAddr rfl (wt_none rfl) (ev_dep (j := 1) (by kernel_rfl) rfl rfl) (ev_dep (j := 2) (by kernel_rfl) rfl rfl) (fun _ _ _ hx hy => ⟨_, by rw [hx, hy]; exact index3 Tryz.underlying70 (by kernel_rfl) hlt _, rfl⟩)) ?_
    refine And.intro (ob_load rfl (wt_none rfl) (ev_dep (j := 3) (by kernel_rfl) rfl rfl) (fun w2 hb => load3 Tryz.underlying55 rfl (by kernel_rfl) ((hb.cell (World.block_lt_of_cell? wr _ e00)).trans e00) ((hb.cell (World.block_lt_of_cell? wr _ e01)).trans e01) ((hb.cell (World.block_lt_of_cell? wr _ e02)).trans e02)) (fun _ _ => rfl)) ?_
    refine And.intro (ob_load rfl (wt_none rfl) (ev_far rfl rfl) (fun w2 hb => run_loadAll Tryz.underlying55 rfl (by kernel_rfl) (B1.drew.below hb)) (fun _ _ => rfl)) ?_
    refine And.intro (ob_call2 rfl Tryz.func45 (by kernel_rfl) (wt_none rfl) (ev_dep (j := 4) (by kernel_rfl) rfl rfl) (ev_dep (j := 5) (by kernel_rfl) rfl rfl) (fun w2 u0 u1 hb h0 h1 => by obtain rfl := h0; obtain rfl := h1; exact (qmul_any _ x _ K _ (ke0.drew.below hb) (k1.drew.below hb) lx lK).mono fun e w3 h => RetPF.pdf h hb.size)) ?_
    refine And.intro (ob_build_q (φ := ppf (x * K) wr.heap.size) rfl rfl (ev_dep (j := 6) (by kernel_rfl) rfl rfl) Tryz.underlying70 info_q (fun w v h => ⟨h, by obtain ⟨⟨u, t, rfl, hu, ht⟩, _⟩ := h; obtain ⟨_, _, rfl, _⟩ := id hu; obtain ⟨_, _, rfl, _⟩ := id ht; exact ⟨_, _, _, rfl, rfl, rfl, rfl⟩⟩) (fun _ _ h => h)) ?_
    trivial
   case done1 =>
    refine fun w2 hb2 v0 h0 v1 h1 v2 h2 v3 h3 v4 h4 v5 h5 v6 h6 v7 h7 b hbf => ?_
    obtain rfl := h0; obtain rfl := h1; obtain rfl := h2; obtain rfl := h3; obtain rfl := h4; obtain rfl := h5
    obtain ⟨q6, f6⟩ := h6
    obtain ⟨g7_, x7, y7, z7, rfl, c70, c71, c72, K7⟩ := h7
    simp only [Act.put, List.setIfInBounds_toArray, List.set_cons_zero, List.set_cons_succ] at hbf
    subst hbf
    replace B1 := B1.below hb2
    replace k1s := k1s.below hb2
    replace k1d := k1d.below hb2
    replace k1z := k1z.below hb2
    replace k1 := k1.below hb2
    replace hR := hR.below hb2
    replace hF := hF.below hb2
    replace bb := bb.trans (hb2.mono bb.size)
    have hsz2 := bb.size
    replace hby := hby.trans (hb2.mono hby.size)
    have s_6 := sB
    have hszB := hby.size
    obtain ⟨⟨uE, tE, eE, sE, dE⟩, fE⟩ := K7
    obtain ⟨rfl, rfl, rfl⟩ : x7 = .bool (ngB (x * K).num) ∧ y7 = uE ∧ z7 = tE := by injection eE with eE; simpa using eE
    clear eE
    obtain ⟨AE, cE, rfl, _⟩ := id sE
    obtain ⟨DE, rE, rfl, _⟩ := id dE
    refine any_append_q (i := 8) (.tmp 14) (.tmp 21) (by kernel_rfl) rfl rfl rfl Tryz.underlying70 info_q (p := (x * K, .slice AE (digs 10000 (x * K).num.natAbs).length cE, .slice DE (digs 10000 (x * K).den).length rE)) (ps := ps) rfl hR rfl c70 c71 c72 rfl rfl HL8.out hszB fun v8 w8 b8 row8 bb8 HK8 hb8 => ?_
    simp only [Act.put, List.setIfInBounds_toArray, List.set_cons_zero, List.set_cons_succ] at hb8
    subst hb8
    have EC : IsE .i64 10000 w2 ((x * K, .slice AE (digs 10000 (x * K).num.natAbs).length cE, .slice DE (digs 10000 (x * K).den).length rE) : Elt) := ⟨sE, dE⟩
    have HN8 : Hid (NewL wx.heap.size (ps ++ [((x * K, .slice AE (digs 10000 (x * K).num.natAbs).length cE, .slice DE (digs 10000 (x * K).den).length rE) : Elt)])) := HNL.out.snoc (p := ((x * K, .slice AE (digs 10000 (x * K).num.natAbs).length cE, .slice DE (digs 10000 (x * K).den).length rE) : Elt)) ((fE _ _ _ rfl).1.mono hszy) ((fE _ _ _ rfl).2.mono hszy)
    have F8 := hF.snoc HK8.out.1 EC ((fE _ _ _ rfl).1.far nR) ((fE _ _ _ rfl).2.far nR)
    clear HK8 EC fE
    refine any_assign (i := 9) (v8) (by kernel_rfl) rfl rfl rfl rfl rfl fun b hbf => ?_
    simp only [Act.put, List.setIfInBounds_toArray, List.set_cons_zero, List.set_cons_succ] at hbf
    subst hbf
    refine any_done (by kernel_rfl) ?_
    have HP8 : Hid ((ps ++ [((x * K, .slice AE (digs 10000 (x * K).num.natAbs).length cE, .slice DE (digs 10000 (x * K).den).length rE) : Elt)]).map (·.1) = (scaleq p K).take (k + 1)) := by
     show _ = _
     rw [List.map_append, HP.out, take_snoc (show (scaleq p K)[k]? = some (x * K) from by rw [scaleq, List.getElem?_map, HQ0.out]; rfl)]
     rfl
    have b8 := hby.trans bb8
    clear hR hF HP HNL
    go_wp2
    go_roundw
    case rel => exact ⟨k + 1, _, by omega, HP8, row8, F8, HN8, b8, by go_num⟩
    case measure => simp [intOf]; omega
  ·have HPE : Hid (IsN .i64 10000 wr w.heap.size u5 (scaleq p K)) := by
    have h := HP.out
    rw [List.take_of_length_le (by have := HLE.out.1; omega)] at h
    exact ⟨ps, h, hR.isVF, fun p hp => ⟨(hF p hp).1, (HNL.out p hp).1.mono hsz0, (HNL.out p hp).2.mono hsz0⟩, fun g hg => ⟨Nat.le_trans hsz0 (hR.base_le g hg), hR.under g hg⟩⟩
   clear hR hF HP HNL
   go_wp2
   go_ret
   exact ⟨_, rfl, HPE.out, bb⟩
set_option maxHeartbeats 3200000 in
set_option maxRecDepth 100000 in
theorem rless_new (a0 a1 a2 : Value) (p : List Rat) (K : Rat) (q : List Rat) (w : World) (h0 : SlF .i64 10000 w a0 p) (h1 : IsP w a1 K) (h2 : SlF .i64 10000 w a2 q) (he : p.length = q.length) (hl : (lessq p K q).length ≤ p.length ∧ p.length ≤ 1000000 ∧ (∀ x ∈ p, lenQ x 2000) ∧ (∀ x ∈ q, lenQ x 2000) ∧ lenQ K 2000) :
  Calls Tryz.prog 41 #[a0, a1, a2] w (RetSlN (lessq p K q) w) := by
 obtain ⟨u1, t1, rfl, s1, r1⟩ := h1
 obtain ⟨A1, c1, rfl, _⟩ := id s1
 obtain ⟨D1, e1, rfl, _⟩ := id r1
 have sl0 := h0
 obtain ⟨A0, c0, rfl, hc0, hm0⟩ := h0.shape
 unfold maxLen at hm0
 have sl2 := h2
 obtain ⟨A2, c2, rfl, hc2, hm2⟩ := h2.shape
 unfold maxLen at hm2
 have HLE := Lib.hid hl
 clear hl
 have HE := Lib.hid he
 clear he
 go_enter Tryz.func41, Tryz.ntmps41
 go_upto_region 1 with (fail)
 obtain ⟨wx, hwx, bb, B1, hsz⟩ := vars1 w 55 #[.bool (ngB (K).num), .slice A1 (digs 10000 (K).num.natAbs).length c1, .slice D1 (digs 10000 (K).den).length e1]
 rw [hwx]
 clear hwx
 have k1s := s1.below bb
 have k1d := r1.below bb
 have k1z : IsR wx (.agg #[.bool (ngB (K).num), .slice A1 (digs 10000 (K).num.natAbs).length c1]) (K).num := ⟨_, rfl, k1s⟩
 have k1 : IsP wx (.agg #[.bool (ngB (K).num), .slice A1 (digs 10000 (K).num.natAbs).length c1, .slice D1 (digs 10000 (K).den).length e1]) (K) := ⟨_, _, rfl, k1s, k1d⟩
 have hsz0 := bb.size
 go_wp2
 go_loopw [7, 8] (fun v7 v8 wr => ∃ (k : Nat) (ps : List Elt), k ≤ p.length ∧ Hid (ps.map (·.1) = (lessq p K q).take k) ∧ RowF 55 wr wx.heap.size v7 ps ∧ FarF .i64 10000 wr v7 ps ∧ Hid (NewL wx.heap.size ps) ∧ Below wx.heap.size wx wr ∧ v8 = .int .i64 (k : Int)) (fun _ v8 _ => p.length - (intOf v8).toNat)
 case atStart => exact ⟨0, [], by omega, rfl, rowF_lit0 _ _ _ (Nat.le_refl _), FarF.nil _ _ _ _, NewL.nil _, below_alloc (Nat.le_refl _) _, rfl⟩
 case round =>
  obtain ⟨k, ps, hk, HP, hR, hF, HNL, hby, rfl⟩ := hrel
  have bw := bb.trans (hby.mono bb.size)
  clear bb
  have bb := bw
  clear bw
  replace B1 := B1.below hby
  replace k1s := k1s.below hby
  replace k1d := k1d.below hby
  replace k1z := k1z.below hby
  replace k1 := k1.below hby
  have hszr := bb.size
  by_cases hlt : k < p.length
  ·obtain ⟨x, hq0_⟩ : ∃ x, p[k]? = some x := ⟨_, List.getElem?_eq_getElem hlt⟩
   obtain ⟨g0_, o0_, ue0, te0, hA0_, _, e00, e01, e02, es0, ed0⟩ := (sl0.below bb).at_ hq0_
   subst hA0_
   have HQ0 := Lib.hid hq0_
   clear hq0_
   obtain ⟨Ae0, ce0, rfl, _⟩ := id es0
   obtain ⟨De0, ee0, rfl, _⟩ := id ed0
   have ke0 : IsP wr (.agg #[.bool (ngB x.num), .slice Ae0 (digs 10000 x.num.natAbs).length ce0, .slice De0 (digs 10000 x.den).length ee0]) x := ⟨_, _, rfl, es0, ed0⟩
   have hlt2 : k < q.length := by have := HE.out; omega
   obtain ⟨y, hq2_⟩ : ∃ y, q[k]? = some y := ⟨_, List.getElem?_eq_getElem hlt2⟩
   obtain ⟨g2_, o2_, ue2, te2, hA2_, _, e20, e21, e22, es2, ed2⟩ := (sl2.below bb).at_ hq2_
   subst hA2_
   have HQ2 := Lib.hid hq2_
   clear hq2_
   obtain ⟨Ae2, ce2, rfl, _⟩ := id es2
   obtain ⟨De2, ee2, rfl, _⟩ := id ed2
   have ke2 : IsP wr (.agg #[.bool (ngB y.num), .slice Ae2 (digs 10000 y.num.natAbs).length ce2, .slice De2 (digs 10000 y.den).length ee2]) y := ⟨_, _, rfl, es2, ed2⟩
   have lx : lenQ x 2000 := HLE.out.2.2.1 x (List.mem_of_getElem? HQ0.out)
   have ly : lenQ y 2000 := HLE.out.2.2.2.1 y (List.mem_of_getElem? HQ2.out)
   have lK : lenQ K 2000 := HLE.out.2.2.2.2
   have lKy : lenQ (K * y) 5000 := (lenQ_mul lK ly).mono (by decide)
   have nR := hR.under
   obtain ⟨AR, cR, hAR, _⟩ := (hR.sl hF).shape
   subst hAR
   have hszy := hby.size
   have HL8 : Hid (ps.length ≤ 1000000000) := by
    have h1 := congrArg List.length HP.out
    rw [List.length_map, List.length_take] at h1
    show _ ≤ _
    have := HLE.out.1
    have := HLE.out.2.1
    omega
   have sB := bb.size
   go_upto_region 5 with (fail)
   refine flow 13 [Pd.eq (.slice AR (ps.map (·.1)).length cR), Pd.eq (.slice (some ⟨g0_, o0_, none⟩) p.length c0), Pd.eq (.int .i64 (k : Int)), Pd.eq (.pointer (some ⟨g0_, o0_ + k * 3, none⟩)), Pd.eq (.agg #[.bool (ngB x.num), .slice Ae0 (digs 10000 x.num.natAbs).length ce0, .slice De0 (digs 10000 x.den).length ee0]), Pd.eq (.agg #[.bool (ngB (K).num), .slice A1 (digs 10000 (K).num.natAbs).length c1, .slice D1 (digs 10000 (K).den).length e1]), Pd.eq (.slice (some ⟨g2_, o2_, none⟩) q.length c2), Pd.eq (.int .i64 (k : Int)), Pd.eq (.pointer (some ⟨g2_, o2_ + k * 3, none⟩)), Pd.eq (.agg #[.bool (ngB y.num), .slice Ae2 (digs 10000 y.num.natAbs).length ce2, .slice De2 (digs 10000 y.den).length ee2]), pp ((K * y)), ppf ((x - K * y)) wr.heap.size, pone (ppf (x - K * y) wr.heap.size)] (by kernel_rfl) (by kernel_rfl) ?ob2 ?done2
   case ob2 =>
    refine And.intro (ob_move rfl (wt_none rfl) (ev_far rfl rfl) (fun _ _ h => h)) ?_
    refine And.intro (ob_move rfl (wt_none rfl) (ev_far rfl rfl) (fun _ _ h => h)) ?_
    refine And.intro (ob_move rfl (wt_none rfl) (ev_far rfl rfl) (fun _ _ h => h)) ?_
    refine And.intro (ob_indexAddr rfl (wt_none rfl) (ev_dep (j := 1) (by kernel_rfl) rfl rfl) (ev_dep (j := 2) (by kernel_rfl) rfl rfl) (fun _ _ _ hx hy => ⟨_, by rw [hx, hy]; exact index3 Tryz.underlying70 (by kernel_rfl) hlt _, rfl⟩)) ?_
    refine And.intro (ob_load rfl (wt_none rfl) (ev_dep (j := 3) (by kernel_rfl) rfl rfl) (fun w2 hb => load3 Tryz.underlying55 rfl (by kernel_rfl) ((hb.cell (World.block_lt_of_cell? wr _ e00)).trans e00) ((hb.cell (World.block_lt_of_cell? wr _ e01)).trans e01) ((hb.cell (World.block_lt_of_cell? wr _ e02)).trans e02)) (fun _ _ => rfl)) ?_
    refine And.intro (ob_load rfl (wt_none rfl) (ev_far rfl rfl) (fun w2 hb => run_loadAll Tryz.underlying55 rfl (by kernel_rfl) (B1.drew.below hb)) (fun _ _ => rfl)) ?_
    refine And.intro (ob_move rfl (wt_none rfl) (ev_far rfl rfl) (fun _ _ h => h)) ?_
    refine And.intro (ob_move rfl (wt_none rfl) (ev_far rfl rfl) (fun _ _ h => h)) ?_
    refine And.intro (ob_indexAddr rfl (wt_none rfl) (ev_dep (j := 6) (by kernel_rfl) rfl rfl) (ev_dep (j := 7) (by kernel_rfl) rfl rfl) (fun _ _ _ hx hy => ⟨_, by rw [hx, hy]; exact index3 Tryz.underlying70 (by kernel_rfl) hlt2 _, rfl⟩)) ?_
    refine And.intro (ob_load rfl (wt_none rfl) (ev_dep (j := 8) (by kernel_rfl) rfl rfl) (fun w2 hb => load3 Tryz.underlying55 rfl (by kernel_rfl) ((hb.cell (World.block_lt_of_cell? wr _ e20)).trans e20) ((hb.cell (World.block_lt_of_cell? wr _ e21)).trans e21) ((hb.cell (World.block_lt_of_cell? wr _ e22)).trans e22)) (fun _ _ => rfl)) ?_
    refine And.intro (ob_call2 rfl Tryz.func45 (by kernel_rfl) (wt_none rfl) (ev_dep (j := 5) (by kernel_rfl) rfl rfl) (ev_dep (j := 9) (by kernel_rfl) rfl rfl) (fun w2 u0 u1 hb h0 h1 => by obtain rfl := h0; obtain rfl := h1; exact (qmul_any _ K _ y _ (k1.drew.below hb) (ke2.drew.below hb) (lK.mono (by decide)) (ly.mono (by decide))).mono fun e w3 h => RetPF.pd h)) ?_
    refine And.intro (ob_call2 rfl Tryz.func78 (by kernel_rfl) (wt_none rfl) (ev_dep (j := 4) (by kernel_rfl) rfl rfl) (ev_dep (j := 10) (by kernel_rfl) rfl rfl) (fun w2 u0 u1 hb h0 h1 => by obtain rfl := h0; exact (qsub_any _ x _ (K * y) _ (ke0.drew.below hb) h1 (lx.mono (by decide)) lKy).mono fun e w3 h => RetPF.pdf h hb.size)) ?_
    refine And.intro (ob_build_q (φ := ppf (x - K * y) wr.heap.size) rfl rfl (ev_dep (j := 11) (by kernel_rfl) rfl rfl) Tryz.underlying70 info_q (fun w v h => ⟨h, by obtain ⟨⟨u, t, rfl, hu, ht⟩, _⟩ := h; obtain ⟨_, _, rfl, _⟩ := id hu; obtain ⟨_, _, rfl, _⟩ := id ht; exact ⟨_, _, _, rfl, rfl, rfl, rfl⟩⟩) (fun _ _ h => h)) ?_
    trivial
   case done2 =>
    refine fun w2 hb2 v0 h0 v1 h1 v2 h2 v3 h3 v4 h4 v5 h5 v6 h6 v7 h7 v8 h8 v9 h9 v10 h10 v11 h11 v12 h12 b hbf => ?_
    obtain rfl := h0; obtain rfl := h1; obtain rfl := h2; obtain rfl := h3; obtain rfl := h4; obtain rfl := h5; obtain rfl := h6; obtain rfl := h7; obtain rfl := h8; obtain rfl := h9
    have q10 := h10
    obtain ⟨q11, f11⟩ := h11
    obtain ⟨g12_, x12, y12, z12, rfl, c120, c121, c122, K12⟩ := h12
    simp only [Act.put, List.setIfInBounds_toArray, List.set_cons_zero, List.set_cons_succ] at hbf
    subst hbf
    replace B1 := B1.below hb2
    replace k1s := k1s.below hb2
    replace k1d := k1d.below hb2
    replace k1z := k1z.below hb2
    replace k1 := k1.below hb2
    replace hR := hR.below hb2
    replace hF := hF.below hb2
    replace bb := bb.trans (hb2.mono bb.size)
    have hsz2 := bb.size
    replace hby := hby.trans (hb2.mono hby.size)
    have s_11 := sB
    have hszB := hby.size
    obtain ⟨⟨uE, tE, eE, sE, dE⟩, fE⟩ := K12
    obtain ⟨rfl, rfl, rfl⟩ : x12 = .bool (ngB (x - K * y).num) ∧ y12 = uE ∧ z12 = tE := by injection eE with eE; simpa using eE
    clear eE
    obtain ⟨AE, cE, rfl, _⟩ := id sE
    obtain ⟨DE, rE, rfl, _⟩ := id dE
    refine any_append_q (i := 13) (.tmp 22) (.tmp 34) (by kernel_rfl) rfl rfl rfl Tryz.underlying70 info_q (p := (x - K * y, .slice AE (digs 10000 (x - K * y).num.natAbs).length cE, .slice DE (digs 10000 (x - K * y).den).length rE)) (ps := ps) rfl hR rfl c120 c121 c122 rfl rfl HL8.out hszB fun v8 w8 b8 row8 bb8 HK8 hb8 => ?_
    simp only [Act.put, List.setIfInBounds_toArray, List.set_cons_zero, List.set_cons_succ] at hb8
    subst hb8
    have EC : IsE .i64 10000 w2 ((x - K * y, .slice AE (digs 10000 (x - K * y).num.natAbs).length cE, .slice DE (digs 10000 (x - K * y).den).length rE) : Elt) := ⟨sE, dE⟩
    have HN8 : Hid (NewL wx.heap.size (ps ++ [((x - K * y, .slice AE (digs 10000 (x - K * y).num.natAbs).length cE, .slice DE (digs 10000 (x - K * y).den).length rE) : Elt)])) := HNL.out.snoc (p := ((x - K * y, .slice AE (digs 10000 (x - K * y).num.natAbs).length cE, .slice DE (digs 10000 (x - K * y).den).length rE) : Elt)) ((fE _ _ _ rfl).1.mono hszy) ((fE _ _ _ rfl).2.mono hszy)
    have F8 := hF.snoc HK8.out.1 EC ((fE _ _ _ rfl).1.far nR) ((fE _ _ _ rfl).2.far nR)
    clear HK8 EC fE
    refine any_assign (i := 14) (v8) (by kernel_rfl) rfl rfl rfl rfl rfl fun b hbf => ?_
    simp only [Act.put, List.setIfInBounds_toArray, List.set_cons_zero, List.set_cons_succ] at hbf
    subst hbf
    refine any_done (by kernel_rfl) ?_
    have HP8 : Hid ((ps ++ [((x - K * y, .slice AE (digs 10000 (x - K * y).num.natAbs).length cE, .slice DE (digs 10000 (x - K * y).den).length rE) : Elt)]).map (·.1) = (lessq p K q).take (k + 1)) := by
     show _ = _
     rw [List.map_append, HP.out, take_snoc (show (lessq p K q)[k]? = some (x - K * y) from zip_at (f := fun x y => x - K * y) HQ0.out HQ2.out)]
     rfl
    have b8 := hby.trans bb8
    clear hR hF HP HNL
    go_wp2
    go_roundw
    case rel => exact ⟨k + 1, _, by omega, HP8, row8, F8, HN8, b8, by go_num⟩
    case measure => simp [intOf]; omega
  ·have HPE : Hid (IsN .i64 10000 wr w.heap.size u7 (lessq p K q)) := by
    have h := HP.out
    rw [List.take_of_length_le (by have := HLE.out.1; omega)] at h
    exact ⟨ps, h, hR.isVF, fun p hp => ⟨(hF p hp).1, (HNL.out p hp).1.mono hsz0, (HNL.out p hp).2.mono hsz0⟩, fun g hg => ⟨Nat.le_trans hsz0 (hR.base_le g hg), hR.under g hg⟩⟩
   clear hR hF HP HNL
   go_wp2
   go_ret
   exact ⟨_, rfl, HPE.out, bb⟩
end Go.Proofs.YtmpalajamfiiiaaGreat.rat
namespace Go.Proofs.YtmpalajamfiiiaaGreat.rat
open Go.RowKit Go.Shelf Go.Proofs.YtmpalajamfiiiaaGreat.num Go.Proofs.YtmpalajamfiiiaaGreat.mem Go.Proofs.YtmpalajamfiiiaaGreat.nat Go.Proofs.YtmpalajamfiiiaaGreat.txt Go.Proofs.YtmpalajamfiiiaaGreat.str Go.Proofs.YtmpalajamfiiiaaGreat.flow Go.Proofs.YtmpalajamfiiiaaGreat.whl
set_option linter.unusedVariables false
set_option linter.unusedSimpArgs false
/-- Cells that hold slices. -/
def isSl (v : Value) : Prop := ∃ A n c, v = .slice A n c
section
variable {P : Program}
/-- Append of slices to such a row. -/
theorem run_append_S {w : World} {base : Nat} {t ty e : TypeId} (hT : P.underlying t = some (.slice e)) (hI : ∃ i, P.info? e = some i ∧ i.zero = some (.slice none 0 0) ∧ i.size = 1 ∧ i.bytes = 24) {v : Value} {vs news : List Value} (hown : RowX isSl w base e v vs) {ad : Addr} {m c : Nat} (hm : m = news.length) (hm0 : 0 < m)
  (hr : ∀ (i : Nat) (u : Value), news[i]? = some u → w.cell? (ad.add i) = some u) (h1 : ∀ u ∈ news, isSl u) (hlen : vs.length + m ≤ 1000000000) (hbase : base ≤ w.heap.size) :
  ∃ v' w', (Builtin.append_ #[t, t] ty #[v, .slice (some ad) m c]).run P w = .ok v' w' ∧ RowX isSl w' base e v' (vs ++ news) ∧ w.grownBy w' v.ownBlock ∧ (v'.ownBlock = v.ownBlock ∨ v'.ownBlock = some w.heap.size) := by
 obtain ⟨i, hi, hz, hs, hby⟩ := hI
 subst hm
 have one : ∀ u ∈ news, u.oneCell' = true := fun u hu => by obtain ⟨A_, n_, c_, rfl⟩ := h1 u hu; rfl
 have hl : news.length = news.length * i.size := by rw [hs, Nat.mul_one]
 have zs : ∀ n, ∀ c ∈ Builtin.zeroCells (Value.slice none 0 0).cells n, isSl c := by
  intro n c hc
  have : c = .slice none 0 0 := by
   have h0 : ∀ n, ∀ c ∈ (Builtin.zeroCells (Value.slice none 0 0).cells n), c = .slice none 0 0 := by
    intro n c hc
    unfold Builtin.zeroCells at hc
    simp [Value.cells, Nat.mod_one] at hc
    obtain ⟨_, h3⟩ := hc
    first | exact h3.symm | exact h3.2.symm
   exact h0 n c hc
  exact ⟨none, 0, 0, this⟩
 obtain ⟨v', w', g1, g2, g3, _, g5⟩ := run_append_own_at (P := P) w base t ty e i (.slice none 0 0) 1 24 hT hi hz hs hby rfl (by decide) v vs.length vs hown.1 ad news.length c news (by simp) (fun j u hu => hr j u hu) one (by unfold maxLen; omega) (by omega) hbase
 refine ⟨v', w', g1, ⟨by unfold RowV; rw [List.length_append]; exact g2, fun g hg => ?_⟩, g3, g5⟩
 rcases hown.1.2 with ⟨rfl, h0⟩ | ⟨g', cap, cur, rfl, hbg, hgg, hnc, hcm, hcs, htake⟩
 ·have hx : vs = [] := List.eq_nil_of_length_eq_zero h0
  subst hx
  have hr2 := run_append_nil (P := P) w t ty e i (.slice none 0 0) hT hi hz ad news.length c news hl hr hm0 (by omega) (by rw [hby]; simp at hlen; omega)
  rw [hr2] at g1
  injection g1 with g1 g1'
  subst g1; subst g1'
  obtain rfl : w.heap.size = g := by simpa [Value.ownBlock] using hg
  refine ⟨_, heap_alloc_new w.drew _, fun c hc => ?_⟩
  rcases Array.mem_append.1 hc with hc | hc
  ·exact h1 c (by simpa using hc)
  ·exact zs _ c hc
 ·obtain ⟨cs, hcs1, hcs2⟩ := hown.2 g' rfl
  rw [hgg] at hcs1
  injection hcs1 with hcs1
  injection hcs1 with hcs1 _ _
  subst hcs1
  by_cases hroom : vs.length + news.length ≤ cap
  ·have hfit : vs.length * i.size + news.length ≤ cur.size := by rw [hcs, hs]; omega
   have hr2 := run_append_room (P := P) w t ty e i hT hi g' vs.length cap cur hgg ad news.length c news hl hr one hroom hfit
   rw [hr2] at g1
   injection g1 with g1 g1'
   subst g1; subst g1'
   obtain rfl : g' = g := by simpa [Value.ownBlock] using hg
   refine ⟨_, setRow_heap w g' cur _ e _ hgg, fun c hc => ?_⟩
   have hc2 : c ∈ cur.toList.take (vs.length * i.size) ++ news ++ cur.toList.drop (vs.length * i.size + news.length) := by simpa using hc
   rcases List.mem_append.1 hc2 with hc2 | hc2
   ·rcases List.mem_append.1 hc2 with hc2 | hc2
    ·exact hcs2 c (by simpa using List.mem_of_mem_take hc2)
    ·exact h1 c hc2
   ·exact hcs2 c (by simpa using List.mem_of_mem_drop hc2)
  ·have holds : ∀ j u, vs[j]? = some u → w.cell? ((⟨g', 0, none⟩ : Addr).add j) = some u := World.ownsRow.cells hown.1 (g := g') rfl
   have hr2 := run_append_grow (P := P) w t ty e i (.slice none 0 0) hT hi hz ⟨g', 0, none⟩ vs.length cap vs (by rw [hs]; omega) holds ad news.length c news hl hr (by omega) (by omega) (growslice_fits (by omega) (by rw [hby]; omega))
   rw [hr2] at g1
   injection g1 with g1 g1'
   subst g1; subst g1'
   obtain rfl : w.heap.size = g := by simpa [Value.ownBlock] using hg
   refine ⟨_, heap_alloc_new w.drew _, fun c hc => ?_⟩
   rcases Array.mem_append.1 hc with hc | hc
   ·rcases Array.mem_append.1 hc with hc | hc
    ·have hcv : c ∈ vs := by simpa using hc
     rw [← htake] at hcv
     exact hcs2 c (by simpa using List.mem_of_mem_take hcv)
    ·exact h1 c (by simpa using hc)
   ·exact zs _ c hc
theorem wp_append_S {w : World} {o : Oper} {a : Act} {K : Act → World → Prop} {Q : Exit → Act → World → Prop} (s x : Operand) {t : TypeId}
  (ho : o.op = .call { callee := .builtin .append, args := #[s, x], argTypes := #[t, t] })
  {base : Nat} {e : TypeId} (hT : P.underlying t = some (.slice e)) (hI : ∃ i, P.info? e = some i ∧ i.zero = some (.slice none 0 0) ∧ i.size = 1 ∧ i.bytes = 24) {v : Value} {vs news : List Value} (hs : a.eval s = v) (hown : RowX isSl w base e v vs) {ad : Addr} {m c : Nat} (hx : a.eval x = .slice (some ad) m c) (hm : m = news.length) (hm0 : 0 < m)
  (hr : ∀ (i : Nat) (u : Value), news[i]? = some u → w.cell? (ad.add i) = some u) (h1 : ∀ u ∈ news, isSl u) (hlen : vs.length + m ≤ 1000000000) (hbase : base ≤ w.heap.size)
  (h : ∀ v' w', RowX isSl w' base e v' (vs ++ news) → Hid (w.grownBy w' v.ownBlock) → Hid (v'.ownBlock = v.ownBlock ∨ v'.ownBlock = some w.heap.size) → K (a.put o.dst v') w') : o.wp P a w K Q := by
 obtain ⟨v', w', hrun, h2, h3, h4⟩ := run_append_S (P := P) (ty := o.type) hT hI hown (c := c) hm hm0 hr h1 hlen hbase
 unfold Oper.wp execOp
 simp only [ho, resolve, invoke, builtin, Sem.run_bind, Sem.run_pure, Result.andThen_ok, List.map_toArray, List.map_cons, List.map_nil, hs, hx, hrun]
 exact h v' w' h2 h3 h4
theorem wpList_append_S {w : World} {ops : Array Oper} {rest : List Oper} {o : Oper} {a : Act} {Q : Exit → Act → World → Prop} (hgd : o.guard = none) (s x : Operand) {t : TypeId}
  (ho : o.op = .call { callee := .builtin .append, args := #[s, x], argTypes := #[t, t] })
  {base : Nat} {e : TypeId} (hT : P.underlying t = some (.slice e)) (hI : ∃ i, P.info? e = some i ∧ i.zero = some (.slice none 0 0) ∧ i.size = 1 ∧ i.bytes = 24) {v : Value} {vs news : List Value} (hs : a.eval s = v) (hown : RowX isSl w base e v vs) {ad : Addr} {m c : Nat} (hx : a.eval x = .slice (some ad) m c) (hm : m = news.length) (hm0 : 0 < m)
  (hr : ∀ (i : Nat) (u : Value), news[i]? = some u → w.cell? (ad.add i) = some u) (h1 : ∀ u ∈ news, isSl u) (hlen : vs.length + m ≤ 1000000000) (hbase : base ≤ w.heap.size)
  (h : ∀ v' w', RowX isSl w' base e v' (vs ++ news) → Hid (w.grownBy w' v.ownBlock) → Hid (v'.ownBlock = v.ownBlock ∨ v'.ownBlock = some w.heap.size) → wpList P ops Q rest (a.put o.dst v') w') : wpList P ops Q (o :: rest) a w :=
 wpList_plain hgd fun _ hK => wp_append_S s x ho hT hI hs hown hx hm hm0 hr h1 hlen hbase fun v' w' h2 h3 h4 => hK _ _ (h v' w' h2 h3 h4)
end
/-- A row of slices, written: fractions of the program's stay. -/
theorem RowX.keepG {w w' : World} {base : Nat} {e : TypeId} {V : Value} {vs : List Value} {v : Value} {r : List Rat} (h : RowX isSl w base e V vs) (hg : w.grownBy w' V.ownBlock) (hs : SlF .u64 4294967296 w v r) : SlF .u64 4294967296 w' v r := by
  cases ho : V.ownBlock with
  | none => rw [ho] at hg; exact hs.below ⟨hg.os, hg.tape, hg.output, hg.size, fun k hk => hg.block k hk (by simp)⟩
  | some g =>
    rw [ho] at hg
    obtain ⟨cs, h1, h2⟩ := h.2 g ho
    exact hs.keepX h1 (fun c hc b => by obtain ⟨A, n, m, rfl⟩ := h2 c hc; simp) (fun c hc n => by obtain ⟨A, n', m, rfl⟩ := h2 c hc; simp) hg
/-- A table that a call makes by append. -/
structure TabX (w : World) (base : Nat) (V : Value) (us : List Value) (K : List (List Rat)) : Prop where
 row : RowX isSl w base 64 V us
 len : us.length = K.length
 own : ∀ (i : Nat) (u : Value) (r : List Rat), us[i]? = some u → K[i]? = some r → SlF .u64 4294967296 w u r
theorem TabX.nil (w : World) (base : Nat) : TabX w base (.slice none 0 0) [] [] := ⟨rowX_nil _ _ _ _, rfl, fun i u r h => by simp at h⟩
theorem TabX.below {w w' : World} {base : Nat} {V : Value} {us : List Value} {K : List (List Rat)} (h : TabX w base V us K) (hb : Below w.heap.size w w') : TabX w' base V us K := ⟨h.row.below hb, h.len, fun i u r hu hr => (h.own i u r hu hr).below hb⟩
theorem TabX.snoc {w w' : World} {base : Nat} {V V' u : Value} {us : List Value} {K : List (List Rat)} {r : List Rat} (h : TabX w base V us K) (h' : RowX isSl w' base 64 V' (us ++ [u])) (hg : w.grownBy w' V.ownBlock) (hu : SlF .u64 4294967296 w u r) : TabX w' base V' (us ++ [u]) (K ++ [r]) := by
 refine ⟨h', by simp [h.len], fun i a b ha hb => ?_⟩
 by_cases hi : i < us.length
 ·rw [List.getElem?_append_left hi] at ha
  rw [List.getElem?_append_left (by rw [← h.len]; exact hi)] at hb
  exact h.row.keepG hg (h.own i a b ha hb)
 ·rw [List.getElem?_append_right (by omega)] at ha
  rw [List.getElem?_append_right (by rw [← h.len]; omega), ← h.len] at hb
  rcases hj : i - us.length with _ | j
  ·rw [hj] at ha hb
   obtain rfl : u = a := by simpa using ha
   obtain rfl : r = b := by simpa using hb
   exact h.row.keepG hg hu
  ·rw [hj] at ha
   simp at ha
theorem TabX.slT {w : World} {base : Nat} {V : Value} {us : List Value} {K : List (List Rat)} (h : TabX w base V us K) : SlT .u64 4294967296 w V K := by
 refine ⟨us, h.len, ?_, h.own⟩
 have h1 := h.row.1
 rcases h1.2 with ⟨e, h0⟩ | ⟨g, cap, cur, e, _, hg, hn, hm, _, _⟩
 ·obtain rfl : us = [] := List.length_eq_zero_iff.1 h0
  exact ⟨none, 0, e, by simp, by unfold maxLen; omega, fun i u hu => by simp at hu⟩
 ·exact ⟨_, cap, e, hn, hm, fun i u hu => ⟨_, rfl, World.ownsRow.cells h1 (g := g) (by rw [e]; rfl) i u hu⟩⟩
/-! The kernel's rows. -/
def frs (ps : List Nat) (C : Nat) : List Nat := (List.range C).filter fun j => decide (¬ j ∈ ps)
theorem frs_in {ps : List Nat} {j : Nat} (h : j ∈ ps) : frs ps (j + 1) = frs ps j := by
 unfold frs
 rw [List.range_succ, List.filter_append]
 simp [h]
theorem frs_out {ps : List Nat} {j : Nat} (h : ¬ j ∈ ps) : frs ps (j + 1) = frs ps j ++ [j] := by
 unfold frs
 rw [List.range_succ, List.filter_append]
 simp [h]
def nvR (T : List (List Rat)) (ps : List Nat) (C j k : Nat) : List Rat := (List.range C).map (nv (entF T) k (pv ps) j)
def nvT (T : List (List Rat)) (ps : List Nat) (C m : Nat) : List (List Rat) := (frs ps m).map fun j => nvR T ps C j ps.length
theorem nvR_len (T : List (List Rat)) (ps : List Nat) (C j k : Nat) : (nvR T ps C j k).length = C := by unfold nvR; simp
theorem nvR_at {T : List (List Rat)} {ps : List Nat} {C j k c : Nat} (h : c < C) : (nvR T ps C j k)[c]? = some (nv (entF T) k (pv ps) j c) := by
 unfold nvR
 rw [List.getElem?_map, List.getElem?_range h]
 rfl
theorem nvR_zero (T : List (List Rat)) (ps : List Nat) {C j : Nat} (hj : j < C) : nvR T ps C j 0 = unitq C j := by
 apply List.ext_getElem?
 intro c
 by_cases hc : c < C
 ·rw [nvR_at hc]
  unfold nv
  by_cases e : j = c
  ·subst e
   rw [unitq_at hc, if_pos rfl]
  ·unfold unitq zerosq
   rw [List.getElem?_set_ne e, List.getElem?_replicate, if_pos hc, if_neg (fun h => e h.symm)]
   show some (-(0 : Rat)) = some 0
   rw [Rat.neg_zero]
 ·rw [List.getElem?_eq_none (by rw [nvR_len]; omega), List.getElem?_eq_none (by rw [unitq_len]; omega)]
theorem nvR_next {T : List (List Rat)} {ps : List Nat} {n C j k : Nat} (h : Ech n C (entF T) ps.length (pv ps)) (hk : k < ps.length) (hj : ¬ j ∈ ps) : (nvR T ps C j k).set (pv ps k) (-(entF T k j)) = nvR T ps C j (k + 1) := by
  have hne : pv ps k ≠ j := fun e => hj (hasP_mem.1 ⟨k, hk, e⟩)
  have hlt := h.lt k hk
  apply List.ext_getElem?
  intro c
  by_cases hc : c < C
  · rw [nvR_at hc]
    by_cases e : pv ps k = c
    · subst e
      rw [List.getElem?_set_self (by rw [nvR_len]; exact hc)]
      unfold nv
      rw [if_neg hne]
      show _ = some (-(sumN k _ + (if pv ps k = pv ps k then entF T k j else 0)))
      rw [sumN_zero fun i hi => if_neg fun e => by have := h.inj (by omega) hk e; omega, if_pos rfl, Rat.zero_add]
    · rw [List.getElem?_set_ne e, nvR_at hc]
      unfold nv
      by_cases e2 : c = j
      · rw [if_pos e2, if_pos e2]
      · rw [if_neg e2, if_neg e2]
        show _ = some (-(sumN k _ + (if pv ps k = c then entF T k j else 0)))
        rw [if_neg e, Rat.add_zero]
  · rw [List.getElem?_eq_none (by rw [List.length_set, nvR_len]; omega), List.getElem?_eq_none (by rw [nvR_len]; omega)]
theorem nvT_in {T : List (List Rat)} {ps : List Nat} {C j : Nat} (h : j ∈ ps) : nvT T ps C (j + 1) = nvT T ps C j := by unfold nvT; rw [frs_in h]
theorem nvT_out {T : List (List Rat)} {ps : List Nat} {C j : Nat} (h : ¬ j ∈ ps) : nvT T ps C (j + 1) = nvT T ps C j ++ [nvR T ps C j ps.length] := by unfold nvT; rw [frs_out h, List.map_append]; rfl
structure KerE (T0 : List (List Rat)) (n C S : Nat) (T : List (List Rat)) (ps : List Nat) : Prop where
 sh : shp T n C
 ech : Ech n C (entF T) ps.length (pv ps)
 red : Red n (entF T) ps.length (pv ps) 0
 ker : KerEq n C (entF T0) (entF T)
 len : ∃ S', rowsL T S' ∧ S' + 1 ≤ (S + 1) * 2 ^ (min ps.length (n - 1)) * 2 ^ (ps.length - 1)
def RetKer (T0 : List (List Rat)) (n C S : Nat) (w : World) (e : Ending) (w' : World) : Prop := ∃ V T ps, e = .returned (.tuple #[V, .int .i64 0]) ∧ SlT .u64 4294967296 w' V (nvT T ps C C) ∧ KerE T0 n C S T ps ∧ Below w.heap.size w w'
set_option maxHeartbeats 3200000 in
set_option maxRecDepth 100000 in
theorem gkernel_any (a0 : Value) (T : List (List Rat)) (S : Nat) (w : World) (h0 : SlT .u64 4294967296 w a0 T) (hc : Hid (GssOk T S)) :
    Calls Tryz.prog 25 #[a0] w (fun e w' => (mayq T ∧ RetKer T T.length (wideq T) S w e w') ∨ (¬ mayq T ∧ e = .returned (.tuple #[.slice none 0 0, .int .i64 8]) ∧ Below w.heap.size w w')) := by
  have st0 := h0
  obtain ⟨A0, c0, rfl, hc0, hm0⟩ := h0.shape
  obtain ⟨n, hn⟩ : ∃ n, n = T.length := ⟨_, rfl⟩
  obtain ⟨C, hC⟩ : ∃ C, C = wideq T := ⟨_, rfl⟩
  have hn5 : n ≤ 5 := by rw [hn]; exact hc.out.1
  have hC2 : C ≤ 200 := by rw [hC]; exact hc.out.2.1
  have HST := Lib.hid st0
  clear h0 st0 hc0 hm0
  go_enter Tryz.func25, Tryz.ntmps25
  go_wp2_with fail
  refine (greduce_any _ T S _ HST.out hc).mono ?_
  rintro e w2 (⟨hm, g, v, T', us, ps, rfl, hR⟩ | ⟨hm, rfl, b2⟩)
  · rw [← hn, ← hC] at hR
    rw [← hn]
    have HNC := Lib.hid (And.intro hn hC)
    have HK : Hid (KerE T n C S T' ps) := ⟨hR.sh, hR.ech, hR.red, hR.ker, hR.len⟩
    have hT'l : T'.length = n := hR.sh.1
    have HW : Hid (wideq T' = C) := shp_wide hR.sh (fun e => by rw [hC]; rw [hn] at e; rw [List.length_eq_zero_iff.1 e]; rfl)
    have sT := hR.tab.slT hT'l (by omega)
    have tT := hR.tab
    obtain ⟨Av, cv, ev⟩ := RowV.slice hR.piv.1
    rw [pI_len] at ev
    subst ev
    have pv0 := hR.piv.pvI
    have b2 := hR.bel
    have hpn : ps.length ≤ n := hR.ech.le
    have HM := Lib.hid hm
    have HTL := Lib.hid hT'l
    clear hR hm hn hC hT'l
    go_wp2_with fail
    refine (msize_any _ T' _ sT).mono ?_
    rintro e w3 ⟨rfl, b3⟩
    rw [HW.out]
    have bb3 := b2.trans (b3.mono b2.size)
    have tT3 := tT.below b3
    have pv3 := pv0.below b3
    clear sT tT pv0 b2 b3
    go_wp2
    go_loopw [9, 30] (fun v9 v30 wr => ∃ (j : Nat) (us2 : List Value), j ≤ C ∧ TabX wr w3.heap.size v9 us2 (nvT T' ps C j) ∧ Hid (Below w3.heap.size w3 wr) ∧ v30 = .int .i64 (j : Int)) (fun _ v30 _ => C - (intOf v30).toNat)
    case atStart => exact ⟨0, [], by omega, TabX.nil _ _, Below.refl _ _, rfl⟩
    case round =>
      obtain ⟨j, us2, hj, TX, HB, rfl⟩ := hrel
      obtain ⟨A9, c9, e9⟩ := RowV.slice TX.row.1
      subst e9
      by_cases hlt : j < C
      · have pvr := pv3.below HB.out
        have hps : ps.length ≤ 1000 := by omega
        by_cases hin : j ∈ ps
        · have CC := containsI_any _ ps j wr pvr hps
          rw [decide_eq_true hin] at CC
          have HNX : Hid (nvT T' ps C (j + 1) = nvT T' ps C j) := nvT_in hin
          clear hin pvr hps
          go_wp2_with fail
          refine CC.mono ?_
          rintro e w4 ⟨rfl, b4⟩
          have TX4 := TX.below b4
          have HB4 : Hid (Below w3.heap.size w3 w4) := HB.out.trans (b4.mono HB.out.size)
          clear TX CC HB
          go_wp2
          go_roundw
          case rel => exact ⟨j + 1, us2, by omega, by rw [HNX.out]; exact TX4, HB4, by go_num⟩
          case measure => simp [intOf]; omega
        · have CC := containsI_any _ ps j wr pvr hps
          rw [decide_eq_false hin] at CC
          have HNI := Lib.hid hin
          clear hin pvr hps
          go_wp2_with fail
          refine CC.mono ?_
          rintro e w4 ⟨rfl, b4⟩
          have TX4 := TX.below b4
          have HB4 : Hid (Below w3.heap.size w3 w4) := HB.out.trans (b4.mono HB.out.size)
          clear TX CC HB b4
          go_wp2_with fail
          refine (unit_row (C : Int) (j : Int) C j w4 rfl rfl hC2 hlt).mono ?_
          rintro e w5 ⟨gv, rfl, RN, hgv, b5⟩
          rw [unitq_len] at RN ⊢
          rw [← nvR_zero T' ps hlt] at RN
          have HGV := Lib.hid hgv
          have HB5 := Lib.hid b5
          clear hgv b5
          go_wp2
          go_loopw [44] (fun v44 wr => ∃ k : Nat, k ≤ ps.length ∧ RowN wr gv C (nvR T' ps C j k) ∧ Hid (Below w4.heap.size w4 wr) ∧ v44 = .int .i64 (k : Int)) (fun v44 _ => ps.length - (intOf v44).toNat)
          case atStart => exact ⟨0, by omega, RN, HB5.out, rfl⟩
          case round =>
            clear RN HB5
            obtain ⟨k, hk, RN, HB6, rfl⟩ := hrel
            by_cases hkl : k < ps.length
            · obtain ⟨wo, hwo⟩ : ∃ wo, wo = wr := ⟨_, rfl⟩
              subst hwo
              have b36 : Hid (Below w3.heap.size w3 wo) := HB4.out.trans (HB6.out.mono HB4.out.size)
              obtain ⟨A, c, e, hA⟩ := pv3.below b36.out
              injection e with e1 _ e3
              subst e1; subst e3
              obtain ⟨adp, rfl, kp⟩ := hA k hkl
              obtain ⟨x, hx⟩ : ∃ x, x = pv ps k := ⟨_, rfl⟩
              rw [← hx] at kp
              have hxC : x < C := by rw [hx]; exact HK.out.ech.lt k hkl
              have HX := Lib.hid hx
              obtain ⟨r, hr, hrl, hq⟩ := entF_at HK.out.sh (show k < n by omega) hlt
              obtain ⟨q, hqe⟩ : ∃ q, q = entF T' k j := ⟨_, rfl⟩
              rw [← hqe] at hq
              have HQE := Lib.hid hqe
              have hLQ : Hid (lenQ q 100000) := by
                obtain ⟨S', h1, h2⟩ := HK.out.len
                have h3 := h1.len r (List.mem_of_getElem? hr) q (List.mem_of_getElem? hq)
                refine h3.mono ?_
                have h4 := hc.out.2.2.2.2.2
                rw [← HNC.out.1] at h4
                have h5 : (S + 1) * 2 ^ (min ps.length (n - 1)) * 2 ^ (ps.length - 1) ≤ (S + 1) * 2 ^ (n - 1) * 2 ^ (n - 1) := Nat.mul_le_mul (pow_cut (Nat.min_le_right _ _)) (Nat.pow_le_pow_right (by omega) (by omega))
                have h6 := Nat.le_trans h2 (Nat.le_trans h5 h4)
                omega
              obtain ⟨Ar, cr, hur, ecr, sr⟩ := (tT3.below b36.out).at_ hr
              obtain ⟨gr, or, uq, tq, rfl, hia, k0, k1, k2, sq, dq⟩ := sr.at_ hq
              obtain ⟨Aq, cq, rfl, _⟩ := id sq
              obtain ⟨Dq, eq, rfl, _⟩ := id dq
              have hix := fun w => index3 (P := Tryz.prog) Tryz.underlying64 (by kernel_rfl) (g := gr) (o := or) (c := cr) hia w
              have hiv := fun w => indexN (P := Tryz.prog) Tryz.underlying64 (by kernel_rfl) (g := gv) (c := C) hxC w
              have kq : IsQ wo (.agg #[.bool (ngB q.num), .slice Aq (digs 4294967296 q.num.natAbs).length cq, .slice Dq (digs 4294967296 q.den).length eq]) q := ⟨_, _, rfl, sq, dq⟩
              obtain ⟨M, hM⟩ : ∃ M, M = -q := ⟨_, rfl⟩
              have CN : ∀ w a, IsQ w a q → Calls Tryz.prog 60 #[a] w (RetQ M w) := fun w a h => by rw [hM]; exact neg8_any a q w h hLQ.out
              have HM2 := Lib.hid hM
              have hkn : k < n := by omega
              clear hM hx hqe hr hq hA sr hrl hur
              go_wp2_with fail
              refine (CN _ _ kq).mono ?_
              rintro e w7 ⟨v7, rfl, k7, -, b7⟩
              obtain ⟨u7, t7, rfl, s7, d7⟩ := k7
              obtain ⟨A7, c7, rfl, _⟩ := id s7
              obtain ⟨D7, e7, rfl, _⟩ := id d7
              have RN7 := RN.below b7
              obtain ⟨p5, q5, t5, P0, P1, P2, F0, F1, F2⟩ := RN7.place hxC
              obtain ⟨G8, -, R8⟩ := rowN_set RN7 hxC s7 d7
              have HR8 := Lib.hid (R8 (by rw [nvR_len]; exact hxC))
              have HSE : Hid ((nvR T' ps C j k).set x M = nvR T' ps C j (k + 1)) := by
                show _ = _
                rw [HX.out, HM2.out, HQE.out]
                exact nvR_next HK.out.ech hkl HNI.out
              have bb7 := HB6.out.trans (b7.mono HB6.out.size)
              have bb8 : Hid (Below w4.heap.size w4 _) := bb7.grown G8 bb7.size (fun q e => by injection e with e; have := HGV.out; omega)
              clear R8 G8 RN RN7 s7 d7 kq sq dq k0 k1 k2 ecr hix b7 bb7
              go_wp2
              go_roundw
              case rel => exact ⟨k + 1, by omega, by rw [← HSE.out]; exact HR8.out, bb8, by go_num⟩
              case measure => simp [intOf]; omega
            · obtain rfl : k = ps.length := by omega
              obtain ⟨wo, hwo⟩ : ∃ wo, wo = wr := ⟨_, rfl⟩
              subst hwo
              have sv := RN.sl (nvR_len _ _ _ _ _) (by omega)
              have TX6 := TX4.below HB6.out
              have b36 : Hid (Below w3.heap.size w3 wo) := HB4.out.trans (HB6.out.mono HB4.out.size)
              have ba := below_alloc (w := wo) (Nat.le_refl _) (.cells #[.slice (some ⟨gv, 0, none⟩) C C] 64)
              have TX7 := TX6.below ba
              have sv7 := sv.below ba
              have hone := cell_one_new wo (.slice (some ⟨gv, 0, none⟩) C C) 64
              have hb3 : w3.heap.size ≤ (wo.alloc (.cells #[.slice (some ⟨gv, 0, none⟩) C C] 64)).heap.size := Nat.le_trans b36.out.size ba.size
              have hlu : us2.length + 1 ≤ 1000000000 := by
                have h1 := TX7.len
                have h2 : (nvT T' ps C j).length ≤ j := by
                  unfold nvT frs
                  rw [List.length_map]
                  exact Nat.le_trans (List.length_filter_le _ _) (by simp)
                omega
              have HNX : Hid (nvT T' ps C (j + 1) = nvT T' ps C j ++ [nvR T' ps C j ps.length]) := nvT_out HNI.out
              have b37 : Hid (Below w3.heap.size w3 _) := b36.out.trans (ba.mono b36.out.size)
              clear TX4 TX6 RN sv ba HB6 b36
              go_wp2_with (at_builtin; refine wpList_append_S rfl (.tmp 61) (.tmp 63) rfl Tryz.underlying22 info_vec rfl TX7.row rfl rfl (by decide) hone (fun u hu => by (obtain rfl := List.mem_singleton.1 hu; exact ⟨_, _, _, rfl⟩)) hlu hb3 ?_; intro v12 w12 RX12 HG12 HX12)
              have TX12 := TX7.snoc RX12 HG12.out sv7
              have HB12 : Hid (Below w3.heap.size w3 w12) := b37.out.grown HG12.out b37.out.size (fun g hg => TX7.row.1.base_le g hg)
              clear TX7 RX12 sv7 hone
              go_wp2
              go_roundw
              case rel => exact ⟨j + 1, _, by omega, by rw [HNX.out]; exact TX12, HB12, by go_num⟩
              case measure => simp [intOf]; omega
      · obtain rfl : j = C := by omega
        have HV := Lib.hid TX.slT
        have b3r := Lib.hid (bb3.trans (HB.out.mono bb3.size))
        clear TX HB
        go_wp2
        go_ret2
        exact .inl ⟨HM.out, by rw [← HNC.out.1, ← HNC.out.2]; exact ⟨_, T', ps, rfl, HV.out, HK.out, b3r.out⟩⟩
  · have HN := Lib.hid hm
    clear hm
    go_wp2
    go_ret2
    exact .inr ⟨HN.out, rfl, b2⟩
theorem RowX.apart {S S' : Value → Prop} {w : World} {base base' : Nat} {e e' : TypeId} {v v' : Value} {vs vs' : List Value} (h : RowX S w base e v vs) (h' : RowX S' w base' e' v' vs') (hne : e ≠ e') : ∀ g, v.ownBlock = some g → v'.ownBlock ≠ some g := fun g e1 e2 => by
 obtain ⟨cs, h1, _⟩ := h.2 g e1
 obtain ⟨cs', h2, _⟩ := h'.2 g e2
 rw [h1] at h2
 injection h2 with h2
 injection h2 with _ h2
 exact hne h2
theorem rowX_lit0 (S : Value → Prop) (w : World) (base : Nat) (e : TypeId) (hb : base ≤ w.heap.size) : RowX S (w.alloc (.cells #[] e)) base e (.slice (some ⟨w.heap.size, 0, none⟩) 0 0) [] :=
 ⟨rowV_lit0 w base e hb, fun g hg => by
  obtain rfl : w.heap.size = g := by simpa [Value.ownBlock] using hg
  exact ⟨_, heap_alloc_new w _, fun c hc => by simp at hc⟩⟩
theorem grew_of {w w' : World} {v v' : Value} (hg : w.grownBy w' v.ownBlock) (h5 : v'.ownBlock = v.ownBlock ∨ v'.ownBlock = some w.heap.size) : Grew w w' v v' :=
 ⟨keeps_of hg h5, hg, fun g hlt hne e1 => by
  rcases h5 with h | h
  ·exact hne (h ▸ e1)
  ·rw [h] at e1; injection e1 with e1; omega⟩
theorem RowX.set {w : World} {base g n c : Nat} {e : TypeId} {vs : List Value} (h : RowX isSl w base e (.slice (some ⟨g, 0, none⟩) n c) vs) (i : Nat) {u : Value} (hu : isSl u) : RowX isSl (w.setCell ⟨g, i, none⟩ u) base e (.slice (some ⟨g, 0, none⟩) n c) (vs.set i u) := by
 refine ⟨RowV.stored h.1 i u, fun g' hg' => ?_⟩
 obtain rfl : g = g' := by simpa [Value.ownBlock] using hg'
 obtain ⟨cs, h1, h2⟩ := h.2 g rfl
 refine ⟨_, heap_setCell h1, fun x hx => ?_⟩
 have hx2 : x ∈ cs ∨ x = u := by first | exact Array.mem_or_eq_of_mem_setIfInBounds hx | (have h := Array.mem_toList_iff.2 hx; rw [Array.toList_setIfInBounds] at h; exact (List.mem_or_eq_of_mem_set h).imp Array.mem_toList_iff.1 id)
 rcases hx2 with hx2 | rfl
 ·exact h2 x hx2
 ·exact hu
theorem FarS.keepB {k : IntKind} {B : Nat} {w w' : World} {base : Nat} {e : TypeId} {V : Value} {vs : List Value} {v u : Value} {r : List Rat} (hX : RowX isSl w base e V vs) (hg : w.grownBy w' V.ownBlock) (h : FarS k B w v u r) : FarS k B w' v u r := by
  cases ho : V.ownBlock with
  | none => rw [ho] at hg; exact h.below ⟨hg.os, hg.tape, hg.output, hg.size, fun k hk => hg.block k hk (by simp)⟩
  | some g =>
    rw [ho] at hg
    obtain ⟨cs, h1, h2⟩ := hX.2 g ho
    obtain ⟨ps, p1, ⟨A, c, e1, p2, p3, p4⟩, p5, p6⟩ := h
    have hno : ∀ c ∈ cs, ∀ n, c ≠ .int k n := fun c hc n => by obtain ⟨A, n', m, rfl⟩ := h2 c hc; simp
    refine ⟨ps, p1, ⟨A, c, e1, p2, p3, fun i p hp => ?_⟩, fun p hp => ⟨⟨Go.Proofs.YtmpalajamfiiiaaGreat.flow.off (p5 p hp).1.1 h1 hno hg, Go.Proofs.YtmpalajamfiiiaaGreat.flow.off (p5 p hp).1.2 h1 hno hg⟩, (p5 p hp).2⟩, fun x hx => ⟨Nat.lt_of_lt_of_le (p6 x hx).1 hg.size, (p6 x hx).2⟩⟩
    obtain ⟨g', o, e2, c0, c1, c2⟩ := p4 i p hp
    have hne : some g' ≠ some g := by
      intro e3
      injection e3 with e3
      subst e3
      rw [cell_of_row w g' _ cs e (0, 0) h1] at c0
      obtain ⟨A', n', m', e4⟩ := h2 _ (Array.mem_of_getElem? c0)
      cases e4
    exact ⟨g', o, e2, hg.cell c0 hne, hg.cell c1 hne, hg.cell c2 hne⟩
/-- A row that lies elsewhere than the pivots, if it has places at all. -/
def OwnP (w : World) (vp u : Value) (r : List Rat) : Prop := SlF .i64 10000 w u r ∧ (r ≠ [] → FarS .i64 10000 w vp u r)
theorem OwnP.below {w w' : World} {vp u : Value} {r : List Rat} (h : OwnP w vp u r) (hb : Below w.heap.size w w') : OwnP w' vp u r := ⟨h.1.below hb, fun hr => (h.2 hr).below hb⟩
theorem OwnP.far {w w' : World} {vp vp' u : Value} {r : List Rat} (h : OwnP w vp u r) (hF : r ≠ [] → FarS .i64 10000 w' vp' u r) : OwnP w' vp' u r := by
 by_cases hr : r = []
 ·subst hr
  exact ⟨h.1.any, fun hr => absurd rfl hr⟩
 ·exact ⟨(hF hr).sl, hF⟩
theorem OwnP.sl {w : World} {vp u : Value} {r : List Rat} (h : OwnP w vp u r) : isSl u := by
 obtain ⟨A, c, e, _⟩ := h.1.shape
 exact ⟨_, _, _, e⟩
theorem ownP_old {w : World} {vp u : Value} {r : List Rat} (h : SlF .i64 10000 w u r) (hv : ∀ g, vp.ownBlock = some g → w.heap.size ≤ g) : OwnP w vp u r := by
 refine ⟨h, fun hr => ?_⟩
 obtain ⟨g, o, c, rfl, hlt, _⟩ := h.place hr
 obtain ⟨ps, h1, h2, h3⟩ := h
 exact ⟨ps, h1, h2, fun p hp => ⟨h3 p hp, (h3 p hp).1.farOld hv, (h3 p hp).2.farOld hv⟩, fun x hx => by
  obtain rfl : g = x := by simpa [Value.ownBlock] using hx
  exact ⟨hlt, fun e => by have := hv _ e; omega⟩⟩
/-- The document's table, which a call writes row by row, beside its pivots. -/
structure TabD (w : World) (base : Nat) (V : Value) (us : List Value) (T : List (List Rat)) (vp : Value) : Prop where
 row : RowX isSl w base 70 V us
 len : us.length = T.length
 own : ∀ (i : Nat) (u : Value) (r : List Rat), us[i]? = some u → T[i]? = some r → OwnP w vp u r
theorem TabD.below {w w' : World} {base : Nat} {V : Value} {us : List Value} {T : List (List Rat)} {vp : Value} (h : TabD w base V us T vp) (hb : Below w.heap.size w w') : TabD w' base V us T vp := ⟨h.row.below hb, h.len, fun i u r hu hr => (h.own i u r hu hr).below hb⟩
theorem TabD.at_ {w : World} {base g n c : Nat} {us : List Value} {T : List (List Rat)} {vp : Value} (h : TabD w base (.slice (some ⟨g, 0, none⟩) n c) us T vp) {i : Nat} {r : List Rat} (hr : T[i]? = some r) : ∃ Ar cr, us[i]? = some (.slice Ar r.length cr) ∧ w.cell? ⟨g, i, none⟩ = some (.slice Ar r.length cr) ∧ OwnP w vp (.slice Ar r.length cr) r := by
 have hi : i < us.length := by rw [h.len]; exact (List.getElem?_eq_some_iff.1 hr).1
 have hu : us[i]? = some us[i] := List.getElem?_eq_getElem hi
 have hs := h.own i _ r hu hr
 obtain ⟨Ar, cr, e, _, _⟩ := hs.1.shape
 have hc := h.row.1.cellAt hu
 rw [e] at hu hs hc
 exact ⟨Ar, cr, hu, hc, hs⟩
theorem TabD.set {w : World} {base g n c : Nat} {us : List Value} {T : List (List Rat)} {vp : Value} (h : TabD w base (.slice (some ⟨g, 0, none⟩) n c) us T vp) (i : Nat) {u : Value} {r : List Rat} (hu : OwnP w vp u r) : TabD (w.setCell ⟨g, i, none⟩ u) base (.slice (some ⟨g, 0, none⟩) n c) (us.set i u) (T.set i r) vp := by
 have hg : w.grownBy (w.setCell ⟨g, i, none⟩ u) (Value.ownBlock (.slice (some ⟨g, 0, none⟩) n c)) := grown_set w g i u
 refine ⟨h.row.set i hu.sl, by rw [List.length_set, List.length_set]; exact h.len, fun j x y hx hy => ?_⟩
 rcases mem_set_at hx with ⟨rfl, rfl⟩ | ⟨hj, hx⟩
 ·rcases mem_set_at hy with ⟨_, rfl⟩ | ⟨hj, _⟩
  ·exact hu.far fun hr => FarS.keepB h.row hg (hu.2 hr)
  ·exact absurd rfl hj
 ·rcases mem_set_at hy with ⟨e, _⟩ | ⟨_, hy⟩
  ·exact absurd e hj
  ·have k := h.own j x y hx hy
   exact k.far fun hr => FarS.keepB h.row hg (k.2 hr)
theorem TabD.keepP {w w' : World} {base g n c : Nat} {us : List Value} {T : List (List Rat)} {vp u : Value} {r : List Rat} (h : TabD w base (.slice (some ⟨g, 0, none⟩) n c) us T vp) (hg : w.grownBy w' (some g)) (hu : OwnP w vp u r) : OwnP w' vp u r := hu.far fun hr => FarS.keepB h.row (show w.grownBy w' (Value.ownBlock (.slice (some ⟨g, 0, none⟩) n c)) from hg) (hu.2 hr)
theorem TabD.piv {w w' : World} {base : Nat} {V : Value} {us : List Value} {T : List (List Rat)} {vp vp' : Value} (h : TabD w base V us T vp) (hp : Grew w w' vp vp') (hne : ∀ g, V.ownBlock = some g → vp.ownBlock ≠ some g) : TabD w' base V us T vp' :=
 ⟨h.row.grown hp.2.1 hne, h.len, fun i u r hu hr => (h.own i u r hu hr).far fun h0 => ((h.own i u r hu hr).2 h0).keep hp⟩
theorem TabD.slT {w : World} {base : Nat} {V : Value} {us : List Value} {T : List (List Rat)} {vp : Value} (h : TabD w base V us T vp) : SlT .i64 10000 w V T := by
 refine ⟨us, h.len, ?_, fun i u r hu hr => (h.own i u r hu hr).1⟩
 have h1 := h.row.1
 rcases h1.2 with ⟨e, h0⟩ | ⟨g, cap, cur, e, _, hg, hn, hm, _, _⟩
 ·obtain rfl : us = [] := List.length_eq_zero_iff.1 h0
  exact ⟨none, 0, e, by simp, by unfold maxLen; omega, fun i u hu => by simp at hu⟩
 ·exact ⟨_, cap, e, hn, hm, fun i u hu => ⟨_, rfl, World.ownsRow.cells h1 (g := g) (by rw [e]; rfl) i u hu⟩⟩
theorem RowV.addr {w : World} {base : Nat} {e : TypeId} {V : Value} {vs : List Value} (h : RowV w base e V vs) (hn : 0 < vs.length) : ∃ g c, V = .slice (some ⟨g, 0, none⟩) vs.length c ∧ vs.length ≤ c := by
 rcases h.2 with ⟨e, h0⟩ | ⟨g, cap, cur, e, _, hg, hn, hm, _, _⟩
 ·omega
 ·exact ⟨g, cap, e, hn⟩
section
variable {P : Program}
/-- Append of slices, perhaps none, to an empty literal. -/
theorem wpList_append_S0 {w : World} {ops : Array Oper} {rest : List Oper} {o : Oper} {a : Act} {Q : Exit → Act → World → Prop} (hgd : o.guard = none) (s x : Operand) {t : TypeId}
  (ho : o.op = .call { callee := .builtin .append, args := #[s, x], argTypes := #[t, t] })
  {base g : Nat} {e : TypeId} (hT : P.underlying t = some (.slice e)) (hI : ∃ i, P.info? e = some i ∧ i.zero = some (.slice none 0 0) ∧ i.size = 1 ∧ i.bytes = 24) {news : List Value} (hs : a.eval s = .slice (some ⟨g, 0, none⟩) 0 0) (hown : RowX isSl w base e (.slice (some ⟨g, 0, none⟩) 0 0) []) {A : Option Addr} {m c : Nat} (hx : a.eval x = .slice A m c) (hm : m = news.length)
  (hr : ∀ (i : Nat) (u : Value), news[i]? = some u → ∃ ad, A = some ad ∧ w.cell? (ad.add i) = some u) (h1 : ∀ u ∈ news, isSl u) (hlen : m ≤ 1000000000) (hbase : base ≤ w.heap.size)
  (h : ∀ v' w', RowX isSl w' base e v' news → Hid (w.grownBy w' (some g)) → wpList P ops Q rest (a.put o.dst v') w') : wpList P ops Q (o :: rest) a w := by
 by_cases hn : news = []
 ·subst hn
  have hm0 : m = 0 := hm
  subst hm0
  obtain ⟨i, hi, hz, hsz, hby⟩ := hI
  refine wpList_plain hgd fun _ hK => ?_
  have hrun : (Builtin.append_ #[t, t] o.type #[.slice (some ⟨g, 0, none⟩) 0 0, .slice A 0 c]).run P w = .ok (.slice (some ⟨g, 0, none⟩) 0 0) w := by
   cases A with
   | none => simp [Builtin.append_, go_sem, run_underlying hT, sizeOf, typeInfo, hi, Builtin.lenOf, Builtin.firstCells, storeCells]
   | some ad => simp [Builtin.append_, go_sem, run_underlying hT, sizeOf, typeInfo, hi, hsz, Builtin.lenOf, Builtin.firstCells, storeCells]
  unfold Oper.wp execOp
  simp only [ho, resolve, invoke, builtin, Sem.run_bind, Sem.run_pure, Result.andThen_ok, List.map_toArray, List.map_cons, List.map_nil, hs, hx, hrun]
  exact hK _ _ (h _ _ hown (World.grownBy.refl _ _))
 ·have hpos : 0 < news.length := List.length_pos_iff.2 hn
  obtain ⟨ad, rfl, _⟩ := hr 0 _ (List.getElem?_eq_getElem hpos)
  refine wpList_append_S hgd s x ho hT hI hs hown hx hm (by omega) (fun i u hu => ?_) h1 (by simpa using hlen) hbase fun v' w' h2 h3 h4 => h v' w' (by simpa using h2) h3
  obtain ⟨ad', e, hc⟩ := hr i u hu
  injection e with e
  subst e
  exact hc
end
/-- What the document's Reduce hands back. -/
def RetRd (T0 : List (List Rat)) (n C S : Nat) (w : World) (e : Ending) (w' : World) : Prop := ∃ V v U qs, e = .returned (.tuple #[V, v]) ∧ SlT .i64 10000 w' V U ∧ PvI w' v qs ∧ Rdc T0 U n C C qs S ∧ Below w.heap.size w w'
theorem Rdc.small {T0 T : List (List Rat)} {n C a S : Nat} {ps : List Nat} (h : Rdc T0 T n C a ps S) (hk : ps.length < n) (hS : (S + 1) * 2 ^ n ≤ 1900) : rowsL T 950 := by
 obtain ⟨S', h1, h2⟩ := h.len
 refine h1.mono ?_
 have h3 : (S + 1) * 2 ^ (ps.length + 1) ≤ (S + 1) * 2 ^ n := Nat.mul_le_mul_left _ (Nat.pow_le_pow_right (by omega) (by omega))
 rw [Nat.pow_succ, ← Nat.mul_assoc] at h3
 omega
def RdOk (T : List (List Rat)) (S : Nat) : Prop := T.length ≤ 5 ∧ wideq T ≤ 200 ∧ rowsL T S ∧ (S + 1) * 2 ^ T.length ≤ 1900 ∧ ∀ r ∈ T, r.length = wideq T
set_option maxHeartbeats 6400000 in
set_option maxRecDepth 100000 in
theorem rreduce_any (a0 : Value) (T0 : List (List Rat)) (S : Nat) (w : World) (h0 : SlT .i64 10000 w a0 T0) (hc : Hid (RdOk T0 S)) :
    Calls Tryz.prog 12 #[a0] w (RetRd T0 T0.length (wideq T0) S w) := by
  have st0 := h0
  obtain ⟨n, hn⟩ : ∃ n, n = T0.length := ⟨_, rfl⟩
  obtain ⟨C, hC⟩ : ∃ C, C = wideq T0 := ⟨_, rfl⟩
  have hn5 : n ≤ 5 := by rw [hn]; exact hc.out.1
  have hC2 : C ≤ 200 := by rw [hC]; exact hc.out.2.1
  have HSH : Hid (shp T0 n C) := ⟨hn.symm, fun r hr => by rw [hC]; exact hc.out.2.2.2.2 r hr⟩
  have hC0 : 0 < C → 0 < n := fun h => by
    rcases Nat.eq_zero_or_pos n with e | e
    · rw [hn] at e
      rw [hC, List.length_eq_zero_iff.1 e] at h
      exact absurd h (by decide)
    · exact e
  obtain ⟨us0, hul, ⟨A0, c0, rfl, hucap, humax, hucell⟩, hus⟩ := h0
  have HST := Lib.hid st0
  have hul2 : us0.length = n := by rw [hn]; exact hul
  rw [hul2] at st0 HST hucap ⊢
  have HC := Lib.hid (And.intro hn hC)
  have ba := below_alloc (w := w) (Nat.le_refl _) (.cells #[] 70)
  have RX0 := rowX_lit0 isSl w w.heap.size 70 (Nat.le_refl _)
  have hcells : ∀ (i : Nat) (u : Value), us0[i]? = some u → ∃ ad, A0 = some ad ∧ (w.alloc (.cells #[] 70)).cell? (ad.add i) = some u := fun i u hu => by
    obtain ⟨ad, h1, h2⟩ := hucell i u hu
    exact ⟨ad, h1, (ba.cell (World.block_lt_of_cell? _ _ h2)).trans h2⟩
  have hsl0 : ∀ u ∈ us0, isSl u := fun u hu => by
    obtain ⟨i, hi⟩ := List.mem_iff_getElem?.1 hu
    obtain ⟨r, hr⟩ : ∃ r, T0[i]? = some r := ⟨_, List.getElem?_eq_getElem (by rw [← hul]; exact (List.getElem?_eq_some_iff.1 hi).1)⟩
    obtain ⟨A, c, e, _⟩ := (hus i u r hi hr).shape
    exact ⟨_, _, _, e⟩
  have HUS := Lib.hid hus
  have hbs : w.heap.size ≤ (w.alloc (.cells #[] 70)).heap.size := ba.size
  clear hn hC hul hus hucell st0 humax
  go_enter Tryz.func12, Tryz.ntmps12
  go_wp2_with (at_builtin; refine wpList_append_S0 rfl (.tmp 10) (.tmp 11) rfl Tryz.underlying23 info_veq rfl RX0 rfl hul2.symm hcells hsl0 (by omega) hbs ?_; intro V w4 RX4 HG4)
  have b04 : Below w.heap.size w w4 := ba.grown HG4.out ba.size (fun g hg => by injection hg with hg; omega)
  have ba4 := below_alloc (w := w4) (Nat.le_refl _) (.cells #[] 3)
  have RP5 := rowX_lit0 isI w4 w4.heap.size 3 (Nat.le_refl _)
  have RP5' : RowX isI _ w.heap.size 3 _ [] := RP5.weak b04.size
  have TD5 : TabD (w4.alloc (.cells #[] 3)) w.heap.size V us0 T0 (.slice (some ⟨w4.heap.size, 0, none⟩) 0 0) := by
    refine ⟨RX4.below ba4, by rw [hul2]; exact HC.out.1, fun i u r hu hr => ?_⟩
    exact (ownP_old ((HUS.out i u r hu hr).below b04) (fun g hg => by
      obtain rfl : w4.heap.size = g := by simpa [Value.ownBlock] using hg
      exact Nat.le_refl _)).below ba4
  have b05 : Hid (Below w.heap.size w (w4.alloc (.cells #[] 3))) := b04.trans (ba4.mono b04.size)
  have HD0 : Hid (Rdc T0 T0 n C 0 [] S) := Rdc.start HSH.out hc.out.2.2.1
  clear ba RX0 hcells RX4 HG4 b04 ba4 RP5 hsl0 hbs HUS hul2
  go_wp2
  go_loopw [5, 6] (fun v5 v6 wr => ∃ (j : Nat) (T : List (List Rat)) (us : List Value) (ps : List Nat), j ≤ C ∧ Hid (Rdc T0 T n C j ps S) ∧ TabD wr w.heap.size V us T v5 ∧ RowX isI wr w.heap.size 3 v5 (pI ps) ∧ Hid (Below w.heap.size w wr) ∧ v6 = .int .i64 (j : Int)) (fun _ v6 _ => C - (intOf v6).toNat)
  case atStart => exact ⟨0, T0, us0, [], by omega, HD0, TD5, RP5', b05, rfl⟩
  case round =>
    clear TD5 RP5' b05 HD0
    obtain ⟨j, T, us, ps, hj, HD, TD, RP, HB, rfl⟩ := hrel
    obtain ⟨wo, hwo⟩ : ∃ wo, wo = wr := ⟨_, rfl⟩
    subst hwo
    obtain ⟨A5, c5, e5⟩ := RowV.slice RP.1
    rw [pI_len] at e5
    subst e5
    have hstw := HST.out.below HB.out
    go_wp2_with fail
    refine (rwide_any _ T0 _ hstw).mono ?_
    rintro e w6 ⟨rfl, b6⟩
    rw [← HC.out.2]
    have TD6 := TD.below b6
    have RP6 := RP.below b6
    have HB6 : Hid (Below w.heap.size w w6) := HB.out.trans (b6.mono HB.out.size)
    clear TD RP HB b6 hstw
    by_cases hlt : j < C
    · have hn0 := hC0 (by omega)
      have hTl : T.length = n := HD.out.sh.1
      have hul : us.length = n := by rw [TD6.len]; exact hTl
      obtain ⟨g, cV, eV, hcV⟩ := RowV.addr TD6.row.1 (by omega)
      rw [hul] at eV
      rw [hul] at hcV
      subst eV
      have hpn : ps.length ≤ n := HD.out.ech.le
      have HTL := Lib.hid (And.intro hTl hul)
      clear hTl hul
      go_wp2
      go_loopw [8] (fun v8 wr => ∃ k : Nat, ps.length ≤ k ∧ k ≤ n ∧ Hid (∀ i, ps.length ≤ i → i < k → entF T i j = 0) ∧ Hid (Below w6.heap.size w6 wr) ∧ v8 = .int .i64 (k : Int)) (fun v8 _ => n - (intOf v8).toNat)
      case atStart => exact ⟨ps.length, Nat.le_refl _, hpn, (by show ∀ i, _; intro i h1 h2; omega), Below.refl _ _, rfl⟩
      case round =>
        obtain ⟨k, hpk, hkn, HZ, HB7, rfl⟩ := hrel
        by_cases hk : k < n
        · obtain ⟨r, hr, hrl, hq⟩ := entF_at HD.out.sh hk hlt
          obtain ⟨q, hqe⟩ : ∃ q, q = entF T k j := ⟨_, rfl⟩
          rw [← hqe] at hq
          have HQE := Lib.hid hqe
          obtain ⟨Ar, cr, hur, ecr, sr⟩ := (TD6.below HB7.out).at_ hr
          obtain ⟨gr, or, uq, tq, rfl, hia, k0, k1, k2, sq, dq⟩ := sr.1.at_ hq
          obtain ⟨Aq, cq, rfl, _⟩ := id sq
          obtain ⟨Dq, eq, rfl, _⟩ := id dq
          have hix := fun w => index3 (P := Tryz.prog) Tryz.underlying70 (by kernel_rfl) (g := gr) (o := or) (c := cr) hia w
          have kq : IsP wr (.agg #[.bool (ngB q.num), .slice Aq (digs 10000 q.num.natAbs).length cq, .slice Dq (digs 10000 q.den).length eq]) q := ⟨_, _, rfl, sq, dq⟩
          clear hr hq sr hqe hrl hur
          by_cases hq0 : q = 0
          · have CZ := qzero_any _ q true _ kq (decide_eq_true hq0).symm
            have HZ2 : Hid (∀ i, ps.length ≤ i → i < k + 1 → entF T i j = 0) := by
              show ∀ i, _
              intro i h1 h2
              by_cases e : i = k
              · subst e; rw [← HQE.out]; exact hq0
              · exact HZ.out i h1 (by omega)
            clear hq0 kq
            go_wp2_with fail
            refine CZ.mono ?_
            rintro e w8 ⟨rfl, b8⟩
            have HB8 : Hid (Below w6.heap.size w6 w8) := HB7.out.trans (b8.mono HB7.out.size)
            clear CZ HB7 HZ
            go_wp2
            go_roundw
            case rel => exact ⟨k + 1, by omega, by omega, HZ2, HB8, by go_num⟩
            case measure => simp [intOf]; omega
          · have CZ := qzero_any _ q false _ kq (decide_eq_false hq0).symm
            have HNE : Hid (entF T k j ≠ 0) := by show _ ≠ _; rw [← HQE.out]; exact hq0
            clear hq0 kq
            go_wp2_with fail
            refine CZ.mono ?_
            rintro e w8 ⟨rfl, b8⟩
            have b68 := HB7.out.trans (b8.mono HB7.out.size)
            have TD8 := TD6.below b68
            have RP8 := RP6.below b68
            have HB8 : Hid (Below w.heap.size w w8) := HB6.out.trans (b68.mono HB6.out.size)
            have hkb : ((k : Int) == (n : Int)) = false := by rw [beq_eq_false_iff_ne]; omega
            obtain ⟨w8', hw8⟩ : ∃ w8', w8' = w8 := ⟨_, rfl⟩
            subst hw8
            clear CZ HB7 HZ TD6 RP6 HB6 b68 b8 k0 k1 k2 sq dq ecr hix
            have hat : ps.length < n := by omega
            have hgb : w.heap.size ≤ g := TD8.row.1.base_le g rfl
            have HGB := Lib.hid hgb
            go_upto_region 11 with (fail)
            go_cut [] from 43 to 56 (fun wx => ∃ us2 : List Value, TabD wx w.heap.size (.slice (some ⟨g, 0, none⟩) n cV) us2 (swapT T ps.length k) (.slice A5 ps.length c5) ∧ RowX isI wx w.heap.size 3 (.slice A5 ps.length c5) (pI ps) ∧ Hid (Below w.heap.size w wx))
            case first =>
              by_cases hke : k = ps.length
              · subst hke
                obtain ⟨rk, hrk, -⟩ := row_ex HD.out.sh hat
                obtain ⟨Ak, ck, huk, eck, srk⟩ := TD8.at_ hrk
                have fk := TD8.row.1.frozenAt ps.length
                have HRK := Lib.hid hrk
                clear hrk
                go_region
                all_goals
                  have TD9 := TD8.set ps.length srk
                  have srk9 := TD8.keepP (grown_set w8' g ps.length (.slice Ak rk.length ck)) srk
                  have TD10 := TD9.set ps.length srk9
                  rw [show (T.set ps.length rk).set ps.length rk = swapT T ps.length ps.length by unfold swapT; rw [getT HRK.out]] at TD10
                  have G10 : w8'.grownBy ((w8'.setCell ⟨g, ps.length, none⟩ (.slice Ak rk.length ck)).setCell ⟨g, ps.length, none⟩ (.slice Ak rk.length ck)) (some g) := (grown_set w8' g ps.length (.slice Ak rk.length ck)).trans (grown_set _ g ps.length (.slice Ak rk.length ck))
                  have RP10 := RP8.grown G10 (fun x e1 e2 => RP8.apart TD8.row (by decide) x e1 e2)
                  have HB10 : Hid (Below w.heap.size w _) := HB8.out.grown G10 HB8.out.size (fun q e => by injection e with e; have := HGB.out; omega)
                  have bdr := (Below.refl ((w8'.setCell ⟨g, ps.length, none⟩ (.slice Ak rk.length ck)).setCell ⟨g, ps.length, none⟩ (.slice Ak rk.length ck)).heap.size ((w8'.setCell ⟨g, ps.length, none⟩ (.slice Ak rk.length ck)).setCell ⟨g, ps.length, none⟩ (.slice Ak rk.length ck))).drew
                  have TD11 := TD10.below bdr
                  have RP11 := RP10.below bdr
                  have HB11 : Hid (Below w.heap.size w _) := HB10.out.trans (bdr.mono HB10.out.size)
                  clear TD9 srk9 TD10 G10 RP10 HB10 bdr TD8 RP8 HB8 srk
                  go_wp2
                  go_meet
                  exact ⟨_, TD11, RP11, HB11.out⟩
              · have hke2 : ¬ ps.length = k := fun e => hke e.symm
                obtain ⟨rk, hrk, -⟩ := row_ex HD.out.sh hat
                obtain ⟨rf, hrf, -⟩ := row_ex HD.out.sh hk
                obtain ⟨Ak, ck, huk, eck, srk⟩ := TD8.at_ hrk
                obtain ⟨Af, cf, huf, ecf, srf⟩ := TD8.at_ hrf
                have fk := TD8.row.1.frozenAt ps.length
                have ff := TD8.row.1.frozenAt k
                have HRK := Lib.hid (And.intro hrk hrf)
                clear hrk hrf
                go_region
                all_goals
                  have TD9 := TD8.set ps.length srf
                  have srk9 := TD8.keepP (grown_set w8' g ps.length (.slice Af rf.length cf)) srk
                  have TD10 := TD9.set k srk9
                  rw [show (T.set ps.length rf).set k rk = swapT T ps.length k by unfold swapT; rw [getT HRK.out.1, getT HRK.out.2]] at TD10
                  have G10 : w8'.grownBy ((w8'.setCell ⟨g, ps.length, none⟩ (.slice Af rf.length cf)).setCell ⟨g, k, none⟩ (.slice Ak rk.length ck)) (some g) := (grown_set w8' g ps.length (.slice Af rf.length cf)).trans (grown_set _ g k (.slice Ak rk.length ck))
                  have RP10 := RP8.grown G10 (fun x e1 e2 => RP8.apart TD8.row (by decide) x e1 e2)
                  have HB10 : Hid (Below w.heap.size w _) := HB8.out.grown G10 HB8.out.size (fun q e => by injection e with e; have := HGB.out; omega)
                  have bdr := (Below.refl ((w8'.setCell ⟨g, ps.length, none⟩ (.slice Af rf.length cf)).setCell ⟨g, k, none⟩ (.slice Ak rk.length ck)).heap.size ((w8'.setCell ⟨g, ps.length, none⟩ (.slice Af rf.length cf)).setCell ⟨g, k, none⟩ (.slice Ak rk.length ck))).drew
                  have TD11 := TD10.below bdr
                  have RP11 := RP10.below bdr
                  have HB11 : Hid (Below w.heap.size w _) := HB10.out.trans (bdr.mono HB10.out.size)
                  clear TD9 srk9 TD10 G10 RP10 HB10 bdr TD8 RP8 HB8 srk srf
                  go_wp2
                  go_meet
                  exact ⟨_, TD11, RP11, HB11.out⟩
            case rest =>
              obtain ⟨us2, TD9', RP9', HB9'⟩ := hcut
              obtain ⟨w9, hw9⟩ : ∃ w9, w9 = wc := ⟨_, rfl⟩
              subst hw9
              clear TD8 RP8 HB8 hgb
              obtain ⟨T1, hT1⟩ : ∃ T1, T1 = swapT T ps.length k := ⟨_, rfl⟩
              rw [← hT1] at TD9'
              have hs1 : shp T1 n C := by rw [hT1]; exact swapT_shp HD.out.sh hat hk
              obtain ⟨r1, hr1, hrl1, hq1⟩ := entF_at hs1 hat hlt
              obtain ⟨q1, hqe⟩ : ∃ q1, q1 = entF T1 ps.length j := ⟨_, rfl⟩
              rw [← hqe] at hq1
              have hqf : q1 = entF T k j := by
                rw [hqe, hT1, swapT_ent HD.out.sh hat hk]
                exact congrFun (if_pos rfl) j
              have hq0 : q1 ≠ 0 := by rw [hqf]; exact HNE.out
              have hR1 : rowsL T1 950 := by rw [hT1]; exact swapT_rows HD.out.sh hat hk (HD.out.small hat (by have := hc.out.2.2.2.1; rwa [← HC.out.1] at this))
              have hLr : rowL r1 950 := hR1 r1 (List.mem_of_getElem? hr1)
              obtain ⟨X, hX⟩ : ∃ X, X = q1⁻¹ := ⟨_, rfl⟩
              have hLX : lenQ X 950 := by rw [hX]; exact lenQ_inv hq0 (hLr.len q1 (List.mem_of_getElem? hq1))
              have CV : ∀ w a, IsP w a q1 → Calls Tryz.prog 40 #[a] w (RetP X w) := fun w a h1 => by rw [hX]; exact qinv_any a q1 w h1 hq0
              have HLS : Hid ((scaleq r1 X).length ≤ r1.length ∧ r1.length ≤ 1000000 ∧ (∀ x ∈ r1, lenQ x 10000) ∧ lenQ X 10000) := ⟨by rw [scaleq_len]; exact Nat.le_refl _, by omega, fun x hx => (hLr.len x hx).mono (by omega), hLX.mono (by omega)⟩
              have HE := Lib.hid (And.intro hT1 (And.intro hs1 (And.intro hr1 (And.intro hrl1 (And.intro hq1 (And.intro hqe (And.intro hqf (And.intro hq0 (And.intro hR1 (And.intro hX hLr))))))))))
              have bd := (Below.refl w9.heap.size w9).drew
              have TDd := TD9'.below bd
              have RPd := RP9'.below bd
              have HBd : Hid (Below w.heap.size w w9.drew) := HB9'.out.trans (bd.mono HB9'.out.size)
              obtain ⟨Ar, cr, hur, ecr, sr⟩ := TDd.at_ hr1
              obtain ⟨gr, or, uq, tq, rfl, hia, k0, k1, k2, sq, dq⟩ := sr.1.at_ hq1
              obtain ⟨Aq, cq, rfl, _⟩ := id sq
              obtain ⟨Dq, eq, rfl, _⟩ := id dq
              have hix := fun w => index3 (P := Tryz.prog) Tryz.underlying70 (by kernel_rfl) (g := gr) (o := or) (c := cr) hia w
              have kq : IsP w9.drew (.agg #[.bool (ngB q1.num), .slice Aq (digs 10000 q1.num.natAbs).length cq, .slice Dq (digs 10000 q1.den).length eq]) q1 := ⟨_, _, rfl, sq, dq⟩
              have hps2 : Hid (∀ g, (Value.slice A5 ps.length c5).ownBlock = some g → g < w9.drew.heap.size) := fun g hg => RPd.1.under g hg
              clear TD9' RP9' HB9' hT1 hs1 hrl1 hqe hqf hq0 hR1 hX hLX hLr hur
              clear hr1 hq1
              go_upto_region 12 with (fail)
              go_cut [] from 57 to 72 (fun wx => ∃ us3 : List Value, TabD wx w.heap.size (.slice (some ⟨g, 0, none⟩) n cV) us3 (T1.set ps.length (scaleq r1 X)) (.slice A5 ps.length c5) ∧ RowX isI wx w.heap.size 3 (.slice A5 ps.length c5) (pI ps) ∧ Hid (Below w.heap.size w wx))
              case first =>
                go_region_law (first
                  | (go_simp; go_at_call 40; refine (CV _ _ (by exact kq)).mono ?_; rintro e w10 ⟨v10, rfl, k10, b10⟩; obtain ⟨u10, t10, rfl, s10, d10⟩ := id k10; obtain ⟨A10, c10, rfl, _⟩ := id s10; obtain ⟨D10, e10, rfl, _⟩ := id d10; have sr10 := sr.1.below b10; have ecr10 := (b10.cell (World.block_lt_of_cell? _ _ ecr)).trans ecr)
                  | (go_simp; go_at_call 39; refine (rscale_new _ _ r1 X _ (by exact sr10) (by exact k10) HLS.out).mono ?_; rintro e w11 ⟨Vn, rfl, SN, b11⟩; obtain ⟨An, cn, rfl, -, -⟩ := SN.sl.shape; have TD11 := (TDd.below b10).below b11; have f11 := TD11.row.1.frozenAt ps.length; obtain ⟨A12, c12, -, e12, -⟩ := TD11.at_ HE.out.2.2.1))
                all_goals
                  have hps10 : ∀ g, (Value.slice A5 ps.length c5).ownBlock = some g → g < w10.heap.size := fun g hg => Nat.lt_of_lt_of_le (hps2.out g hg) b10.size
                  have OW : OwnP w11 (.slice A5 ps.length c5) (.slice An (scaleq r1 X).length cn) (scaleq r1 X) := ⟨SN.sl, fun _ => SN.far hps10⟩
                  have TD13 := TD11.set ps.length OW
                  have RP11 := (RPd.below b10).below b11
                  have RP13 := RP11.grown (grown_set w11 g ps.length (.slice An (scaleq r1 X).length cn)) (fun x e1 e2 => RP11.apart TD11.row (by decide) x e1 e2)
                  have HB11 := (HBd.out.trans (b10.mono HBd.out.size)).trans (b11.mono (HBd.out.trans (b10.mono HBd.out.size)).size)
                  have HB13 : Hid (Below w.heap.size w _) := HB11.grown (grown_set w11 g ps.length (.slice An (scaleq r1 X).length cn)) HB11.size (fun q e => by injection e with e; have := HGB.out; omega)
                  clear TD11 RP11 OW SN HB11 TDd RPd HBd kq sr sr10 k10 s10 d10
                  go_wp2
                  go_meet
                  exact ⟨_, TD13, RP13, HB13.out⟩
              case rest =>
                obtain ⟨us3, TD13, RP13, HB13⟩ := hcut
                obtain ⟨w13, hw13⟩ : ∃ w13, w13 = wc := ⟨_, rfl⟩
                subst hw13
                clear TDd RPd HBd kq sr k0 k1 k2 ecr hix CV sq dq hps2
                have hkl : ps.length < T1.length := by rw [HE.out.2.1.1]; exact hat
                obtain ⟨T2, hT2⟩ : ∃ T2, T2 = T1.set ps.length (scaleq r1 X) := ⟨_, rfl⟩
                rw [← hT2] at TD13
                have eT2 : T2 = scaleT (swapT T ps.length k) ps.length (entF (swapT T ps.length k) ps.length j)⁻¹ := by
                  rw [hT2, scaleT, ← HE.out.1, getT HE.out.2.2.1, HE.out.2.2.2.2.2.2.2.2.2.1, HE.out.2.2.2.2.2.1]
                have hs2 : shp T2 n C := by rw [hT2]; exact shp_set HE.out.2.1 (by rw [scaleq_len]; exact HE.out.2.2.2.1)
                obtain ⟨p, hp⟩ : ∃ p, p = scaleq r1 X := ⟨_, rfl⟩
                have hp2 : T2[ps.length]? = some p := by rw [hT2, hp]; exact List.getElem?_set_self hkl
                have hR2 : rowsL T2 950 := by
                  rw [hT2]
                  intro x hx
                  rcases List.mem_or_eq_of_mem_set hx with hx | rfl
                  · exact HE.out.2.2.2.2.2.2.2.2.1 x hx
                  · rw [HE.out.2.2.2.2.2.2.2.2.2.1]
                    exact HE.out.2.2.2.2.2.2.2.2.2.2.scale (List.mem_of_getElem? HE.out.2.2.2.2.1) HE.out.2.2.2.2.2.2.2.1
                have HPV : Hid (clrM T2 (fun i => decide (i ≠ ps.length)) p j n = pivT T (fun i => decide (i ≠ ps.length)) ps.length k j n) := by
                  show _ = _
                  unfold pivT
                  rw [← eT2, getT hp2]
                have HDN : Hid (Rdc T0 (pivT T (fun i => decide (i ≠ ps.length)) ps.length k j n) n C (j + 1) (ps ++ [j]) S) := HD.out.pivot hlt hpk hk HNE.out
                have hpl : Hid (p.length = C) := hs2.2 _ (List.mem_of_getElem? hp2)
                have HPL : Hid (∀ x ∈ p, lenQ x 2000) := fun x hx => ((hR2 p (List.mem_of_getElem? hp2)).len x hx).mono (by omega)
                have H2 := Lib.hid (And.intro hs2 (And.intro hp2 hR2))
                have HPS : Hid (pI ps ++ [.int .i64 (j : Int)] = pI (ps ++ [j])) := pI_snoc ps j
                clear hT2 eT2 hs2 hp2 hR2 hp hkl
                go_wp2
                go_loopw [9] (fun v9 wr => ∃ (i : Nat) (us4 : List Value), i ≤ n ∧ TabD wr w.heap.size (.slice (some ⟨g, 0, none⟩) n cV) us4 (clrM T2 (fun i => decide (i ≠ ps.length)) p j i) (.slice A5 ps.length c5) ∧ RowX isI wr w.heap.size 3 (.slice A5 ps.length c5) (pI ps) ∧ Hid (Below w.heap.size w wr) ∧ v9 = .int .i64 (i : Int)) (fun v9 _ => n - (intOf v9).toNat)
                case atStart => exact ⟨0, us3, by omega, TD13, RP13, HB13, rfl⟩
                case round =>
                  clear TD13 RP13 HB13
                  obtain ⟨i, us4, hin, TD, RP, HB, rfl⟩ := hrel
                  obtain ⟨wq, hwq⟩ : ∃ wq, wq = wr := ⟨_, rfl⟩
                  subst hwq
                  by_cases hi : i < n
                  · by_cases hia2 : i = ps.length
                    · subst hia2
                      have HNX : Hid (clrM T2 (fun i => decide (i ≠ ps.length)) p j (ps.length + 1) = clrM T2 (fun i => decide (i ≠ ps.length)) p j ps.length) := clrM_pass (by simp)
                      go_wp2
                      go_roundw
                      case rel => exact ⟨ps.length + 1, us4, by omega, by rw [HNX.out]; exact TD, RP, HB, by go_num⟩
                      case measure => simp [intOf]; omega
                    · have hnb : ((i : Int) == (ps.length : Int)) = false := by rw [beq_eq_false_iff_ne]; omega
                      obtain ⟨r, hr, hrl, hq⟩ := entF_at H2.out.1 hi hlt
                      obtain ⟨q, hqe⟩ : ∃ q, q = entF T2 i j := ⟨_, rfl⟩
                      rw [← hqe] at hq
                      have hrU : (clrM T2 (fun i => decide (i ≠ ps.length)) p j i)[i]? = some r := by rw [clrM_ge _ _ _ _ i i (Nat.le_refl _)]; exact hr
                      have hpU : (clrM T2 (fun i => decide (i ≠ ps.length)) p j i)[ps.length]? = some p := by rw [clrM_not (by simp)]; exact H2.out.2.1
                      have bd := (Below.refl wq.heap.size wq).drew
                      have TDd := TD.below bd
                      have RPd := RP.below bd
                      have HBd : Hid (Below w.heap.size w wq.drew) := HB.out.trans (bd.mono HB.out.size)
                      obtain ⟨Ar, cr, hur, ecr, sr⟩ := TDd.at_ hrU
                      obtain ⟨Ap, cp, hup, ecp, sp⟩ := TDd.at_ hpU
                      obtain ⟨gr, or, uq, tq, rfl, hia, k0, k1, k2, sq, dq⟩ := sr.1.at_ hq
                      obtain ⟨Aq, cq, rfl, _⟩ := id sq
                      obtain ⟨Dq, eq, rfl, _⟩ := id dq
                      have hix := fun w => index3 (P := Tryz.prog) Tryz.underlying70 (by kernel_rfl) (g := gr) (o := or) (c := cr) hia w
                      have kq : IsP wq.drew (.agg #[.bool (ngB q.num), .slice Aq (digs 10000 q.num.natAbs).length cq, .slice Dq (digs 10000 q.den).length eq]) q := ⟨_, _, rfl, sq, dq⟩
                      have hps2 : Hid (∀ g, (Value.slice A5 ps.length c5).ownBlock = some g → g < wq.drew.heap.size) := fun g hg => RPd.1.under g hg
                      have HRE := Lib.hid (And.intro hr (And.intro hrU hpU))
                      have hLr := H2.out.2.2 r (List.mem_of_getElem? hr)
                      have HRL : Hid (r.length = p.length) := hrl.trans hpl.out.symm
                      have HLS : Hid ((lessq r q p).length ≤ r.length ∧ r.length ≤ 1000000 ∧ (∀ x ∈ r, lenQ x 2000) ∧ (∀ x ∈ p, lenQ x 2000) ∧ lenQ q 2000) := ⟨by rw [lessq_len HRL.out]; exact Nat.le_refl _, by omega, fun x hx => (hLr.len x hx).mono (by omega), HPL.out, (hLr.len q (List.mem_of_getElem? hq)).mono (by omega)⟩
                      have HNX : Hid ((clrM T2 (fun i => decide (i ≠ ps.length)) p j i).set i (lessq r q p) = clrM T2 (fun i => decide (i ≠ ps.length)) p j (i + 1)) := by
                        show _ = _
                        rw [clrM_next (by simpa using hia2) hr, hqe]
                      clear hr hq hqe hrU hpU hLr hur hup hrl TD RP HB bd
                      go_upto_region 17 with (fail)
                      go_region_law (go_simp; go_at_call 41; refine (rless_new _ _ _ r q p _ (by exact sr.1) (by exact kq) (by exact sp.1) HRL.out HLS.out).mono ?_; rintro e w15 ⟨Vn, rfl, SN, b15⟩; obtain ⟨An, cn, rfl, -, -⟩ := SN.sl.shape; have TD15 := TDd.below b15; have f15 := TD15.row.1.frozenAt i; obtain ⟨A16, c16, -, e16, -⟩ := TD15.at_ HRE.out.2.1)
                      all_goals
                        have OW : OwnP w15 (.slice A5 ps.length c5) (.slice An (lessq r q p).length cn) (lessq r q p) := ⟨SN.sl, fun _ => SN.far hps2.out⟩
                        have TD17 := TD15.set i OW
                        rw [HNX.out] at TD17
                        have RP15 := RPd.below b15
                        have RP17 := RP15.grown (grown_set w15 g i (.slice An (lessq r q p).length cn)) (fun x e1 e2 => RP15.apart TD15.row (by decide) x e1 e2)
                        have HB15 := HBd.out.trans (b15.mono HBd.out.size)
                        have HB17 : Hid (Below w.heap.size w _) := HB15.grown (grown_set w15 g i (.slice An (lessq r q p).length cn)) HB15.size (fun q e => by injection e with e; have := HGB.out; omega)
                        clear TD15 RP15 OW SN HB15 TDd RPd HBd kq sr sp
                        go_wp2
                        go_roundw
                        case rel => exact ⟨i + 1, _, by omega, TD17, RP17, HB17, by go_num⟩
                        case measure => simp [intOf]; omega
                  · obtain rfl : i = n := by omega
                    rw [HPV.out] at TD
                    have ba := below_alloc (w := wq) (Nat.le_refl _) (.cells #[.int .i64 (j : Int)] 3)
                    have TD11 := TD.below ba
                    have RP11 := RP.below ba
                    have HB11 : Hid (Below w.heap.size w _) := HB.out.trans (ba.mono HB.out.size)
                    have hbase : w.heap.size ≤ (wq.alloc (.cells #[.int .i64 (j : Int)] 3)).heap.size := HB11.out.size
                    have hone := cell_one_new wq (.int .i64 (j : Int)) 3
                    have hlp : (pI ps).length + 1 ≤ 1000000000 := by rw [pI_len]; omega
                    clear TD RP HB ba
                    go_wp2_with (at_builtin; refine wpList_append_X rfl (.tmp 101) (.tmp 103) rfl Tryz.underlying26 info_int rfl RP11 rfl rfl (by decide) hone (fun u hu => by (obtain rfl := List.mem_singleton.1 hu; exact ⟨_, rfl⟩)) hlp hbase ?_; intro v12 w12 RP12 HG12 HX12)
                    have TD12 := TD11.piv (grew_of HG12.out HX12.out) (fun x e1 e2 => RP11.apart TD11.row (by decide) x e2 e1)
                    have HB12 : Hid (Below w.heap.size w w12) := HB11.out.grown HG12.out HB11.out.size (fun x e => RP11.1.base_le x e)
                    rw [HPS.out] at RP12
                    clear TD11 RP11 HB11 hone
                    go_wp2
                    go_roundw
                    case rel => exact ⟨j + 1, _, us4, ps ++ [j], by omega, HDN, TD12, RP12, HB12, by go_num⟩
                    case measure => simp [intOf]; omega
        · obtain rfl : k = n := by omega
          have HD5 : Hid (Rdc T0 T k C (j + 1) ps S) := HD.out.skip fun i h1 h2 => HZ.out i h1 h2
          have TD7 := TD6.below HB7.out
          have RP7 := RP6.below HB7.out
          have HB8 : Hid (Below w.heap.size w wr) := HB6.out.trans (HB7.out.mono HB6.out.size)
          clear TD6 RP6 HB7 HB6 HZ
          go_wp2
          go_roundw
          case rel => exact ⟨j + 1, T, us, ps, by omega, HD5, TD7, RP7, HB8, by go_num⟩
          case measure => simp [intOf]; omega
    · obtain rfl : j = C := by omega
      have HV := Lib.hid TD6.slT
      have HP := Lib.hid RP6.pvI
      clear TD6 RP6
      go_wp2
      go_ret2
      exact ⟨_, _, T, ps, rfl, HV.out, HP.out, by rw [← HC.out.1, ← HC.out.2]; exact HD.out, HB6.out⟩
theorem wide_le {t : List (List Rat)} {m : Nat} (h : ∀ r ∈ t, r.length ≤ m) : wideq t ≤ m := by
 cases t with
 | nil => exact Nat.zero_le _
 | cons r t => exact h r List.mem_cons_self
theorem rows_few {p : List (List Rat)} {m : Nat} (h2 : ∀ r ∈ p, r.length ≤ m) (h3 : lenT p 1) : rowsL p (m + 1) := fun r hr => (rowL_of (fun x hx => h3 r hr x hx)).mono (by have := h2 r hr; omega)
theorem gss_few5 {p : List (List Rat)} (h1 : p.length ≤ 5) (h2 : ∀ r ∈ p, r.length ≤ 5) (h3 : lenT p 1) : GssOk p 6 := by
 have hw : wideq p ≤ 5 := wide_le h2
 have hx : 2 ^ (p.length - 1) ≤ 2 ^ 4 := Nat.pow_le_pow_right (by omega) (by omega)
 have h4 : (6 + 1) * 2 ^ (p.length - 1) ≤ 7 * 2 ^ 4 := Nat.mul_le_mul (by omega) hx
 have h5 : (6 + 1) * 2 ^ (p.length - 1) * 2 ^ (p.length - 1) ≤ 7 * 2 ^ 4 * 2 ^ 4 := Nat.mul_le_mul h4 hx
 exact ⟨h1, by omega, rows_few h2 h3, by omega, by omega, by omega⟩
theorem rd_few5 {p : List (List Rat)} (h1 : p.length ≤ 5) (h2 : ∀ r ∈ p, r.length ≤ 5) (h3 : lenT p 1) (hm : mayq p) : RdOk p 6 := by
 have hw : wideq p ≤ 5 := wide_le h2
 have hx : 2 ^ p.length ≤ 2 ^ 5 := Nat.pow_le_pow_right (by omega) h1
 have h4 : (6 + 1) * 2 ^ p.length ≤ 7 * 2 ^ 5 := Nat.mul_le_mul (by omega) hx
 exact ⟨h1, by omega, rows_few h2 h3, by omega, hm.2.2⟩
theorem frs_cnt {n C : Nat} {M : Nat → Nat → Rat} {ps : List Nat} (h : Ech n C M ps.length (pv ps)) : ∀ j : Nat, j ≤ C → ∃ c, c ≤ ps.length ∧ (∀ i, i < c → pv ps i < j) ∧ (∀ i, c ≤ i → i < ps.length → j ≤ pv ps i) ∧ (frs ps j).length + c = j
  | 0, _ => ⟨0, by omega, fun i h => by omega, fun i _ _ => Nat.zero_le _, by simp [frs]⟩
  | j + 1, hj => by
    obtain ⟨c, h1, h2, h3, h4⟩ := frs_cnt h j (by omega)
    by_cases hin : j ∈ ps
    · obtain ⟨i, hi, e⟩ := hasP_mem.2 hin
      have hci : c = i := by
        rcases Nat.lt_trichotomy i c with h5 | h5 | h5
        · have := h2 i h5; omega
        · exact h5.symm
        · have := h3 c (Nat.le_refl _) (by omega)
          have := h.rise c i h5 hi
          omega
      subst hci
      refine ⟨c + 1, by omega, fun k hk => ?_, fun k h5 h6 => ?_, by rw [frs_in hin]; omega⟩
      · by_cases e2 : k = c
        · subst e2; omega
        · have := h2 k (by omega); omega
      · have := h.rise c k (by omega) h6; omega
    · refine ⟨c, h1, fun k hk => by have := h2 k hk; omega, fun k h5 h6 => ?_, by rw [frs_out hin, List.length_append]; simp; omega⟩
      have h7 := h3 k h5 h6
      have h8 : pv ps k ≠ j := fun e => hin (hasP_mem.1 ⟨k, h6, e⟩)
      omega
theorem frs_len {n C : Nat} {M : Nat → Nat → Rat} {ps : List Nat} (h : Ech n C M ps.length (pv ps)) : (frs ps C).length + ps.length = C := by
 obtain ⟨c, h1, h2, h3, h4⟩ := frs_cnt h C (Nat.le_refl _)
 have : c = ps.length := by
  rcases Nat.lt_or_ge c ps.length with h5 | h5
  ·have := h3 c (Nat.le_refl _) h5
   have := h.lt c h5
   omega
  ·omega
 omega
theorem frs_at {ps : List Nat} {j : Nat} (hj : ¬ j ∈ ps) : ∀ C : Nat, j < C → (frs ps C)[(frs ps j).length]? = some j
  | 0, h => by omega
  | C + 1, h => by
    by_cases e : j = C
    · subst e
      rw [frs_out hj, List.getElem?_append_right (Nat.le_refl _), Nat.sub_self]
      rfl
    · have ih := frs_at hj C (by omega)
      have hl : (frs ps j).length < (frs ps C).length := (List.getElem?_eq_some_iff.1 ih).1
      by_cases hin : C ∈ ps
      · rw [frs_in hin]; exact ih
      · rw [frs_out hin, List.getElem?_append_left hl]; exact ih
theorem nvT_len {T : List (List Rat)} {ps : List Nat} {n C : Nat} {M : Nat → Nat → Rat} (h : Ech n C M ps.length (pv ps)) : (nvT T ps C C).length + ps.length = C := by
 unfold nvT; rw [List.length_map]; exact frs_len h
theorem nvT_at {T : List (List Rat)} {ps : List Nat} {C j : Nat} (hj : ¬ j ∈ ps) (h : j < C) : (nvT T ps C C)[(frs ps j).length]? = some (nvR T ps C j ps.length) := by
 unfold nvT
 rw [List.getElem?_map, frs_at hj C h]
 rfl
theorem not_piv {ps : List Nat} {j : Nat} (hj : ¬ j ∈ ps) : ∀ i, i < ps.length → pv ps i ≠ j := fun i hi e => hj (hasP_mem.1 ⟨i, hi, e⟩)
/-- With a row of the kernel, the table makes noughts. -/
theorem ker_dots {p T : List (List Rat)} {n C j : Nat} {ps : List Nat} {S : Nat} (hp : shp p n C) (h : KerE p n C S T ps) (hj : ¬ j ∈ ps) (hjC : j < C) : ∀ x ∈ dotsq p (nvR T ps C j ps.length), x = 0 := by
 intro x hx
 unfold dotsq at hx
 obtain ⟨r, hr, rfl⟩ := List.mem_map.1 hx
 obtain ⟨i, hi⟩ := List.mem_iff_getElem?.1 hr
 have hin : i < n := by rw [← hp.1]; exact (List.getElem?_eq_some_iff.1 hi).1
 have hrl : r.length = C := hp.2 r hr
 have hl : r.length = (nvR T ps C j ps.length).length := by rw [nvR_len, hrl]
 have h2 := dotq_sumN hl r.length (Nat.le_refl _)
 rw [List.take_length, hl, List.take_length, ← hl, hrl] at h2
 rw [h2]
 have h3 := (h.ker _).2 (nv_ker h.ech h.red hjC (not_piv hj)) i hin
 refine Eq.trans (sumN_congr fun l hl => ?_) h3
 rw [entF_row hi, List.getD_eq_getElem?_getD (l := nvR T ps C j ps.length), nvR_at hl]
 rfl
theorem lead_noughts {l : List Rat} (h : ∀ x ∈ l, x = 0) : leadq l = l.length := leadq_is (Nat.le_refl _) (fun x hx => h x (List.mem_of_mem_take hx)) (fun x hx => by rw [List.getElem?_eq_none (Nat.le_refl _)] at hx; cases hx)
theorem nvR_lens {T : List (List Rat)} {ps : List Nat} {n C j m : Nat} (hs : shp T n C) (he : Ech n C (entF T) ps.length (pv ps)) (hl : lenT T m) (hm : 1 ≤ m) (hj : ¬ j ∈ ps) (hjC : j < C) : ∀ y ∈ nvR T ps C j ps.length, lenQ y m := by
 intro y hy
 obtain ⟨c, hc⟩ := List.mem_iff_getElem?.1 hy
 have hcC : c < C := by have := (List.getElem?_eq_some_iff.1 hc).1; rwa [nvR_len] at this
 rw [nvR_at hcC] at hc
 injection hc with hc
 subst hc
 by_cases e : c = j
 ·subst e; rw [nv_self]; exact (lenQ_01 (.inr rfl)).mono hm
 ·by_cases h : ∃ i, i < ps.length ∧ pv ps i = c
  ·obtain ⟨i, hi, rfl⟩ := h
   rw [nv_piv he hi e]
   have hin : i < n := Nat.lt_of_lt_of_le hi he.le
   obtain ⟨r, hr, _, hq⟩ := entF_at hs hin hjC
   exact lenQ_neg (hl r (List.mem_of_getElem? hr) _ (List.mem_of_getElem? hq))
  ·rw [nv_free e (fun i hi e2 => h ⟨i, hi, e2⟩)]
   exact (lenQ_01 (.inl rfl)).mono hm
theorem KerE.small {p T : List (List Rat)} {n C : Nat} {ps : List Nat} (h : KerE p n C 6 T ps) (hn : n ≤ 5) (hr : ps.length ≤ 4) : lenT T 895 := by
 obtain ⟨S', h1, h2⟩ := h.len
 have h3 : (6 + 1) * 2 ^ (min ps.length (n - 1)) * 2 ^ (ps.length - 1) ≤ (6 + 1) * 2 ^ 4 * 2 ^ 3 := Nat.mul_le_mul (Nat.mul_le_mul_left _ (Nat.pow_le_pow_right (by omega) (by omega))) (Nat.pow_le_pow_right (by omega) (by omega))
 exact h1.len.mono (by omega)
end Go.Proofs.YtmpalajamfiiiaaGreat.rat
