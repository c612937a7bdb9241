/- Whole numbers: a sign and a size; how they lie in memory; what a call's end says of one. Condition: as each says. -/
import Derived.Test.YtbebmknfecehnaaGreatDigT
import Derived.Test.YtbebmknfecehnaaGreatFlow
namespace Go.Proofs.YtbebmknfecehnaaGreat.whl
open Go.RowKit Go.Proofs.YtbebmknfecehnaaGreat.num Go.Proofs.YtbebmknfecehnaaGreat.mem Go.Proofs.YtbebmknfecehnaaGreat.nat Go.Proofs.YtbebmknfecehnaaGreat.txt Go.Proofs.YtbebmknfecehnaaGreat.str
set_option linter.unusedVariables false

/-- Is the number below 0? -/
def ngB (z : Int) : Bool := decide (z < 0)
theorem ngB_of_neg {z : Int} (h : z < 0) : ngB z = true := decide_eq_true h
theorem ngB_of_pos {z : Int} (h : ¬ z < 0) : ngB z = false := decide_eq_false h
theorem ngB_true {z : Int} (h : ngB z = true) : z < 0 := of_decide_eq_true h
theorem ngB_false {z : Int} (h : ngB z = false) : ¬ z < 0 := of_decide_eq_false h
theorem ngB_zero : ngB 0 = false := rfl
/-- The number of this sign and size. -/
def sg (b : Bool) (x : Nat) : Int := if b = true then -(x : Int) else x
theorem sg_true (x : Nat) : sg true x = -(x : Int) := rfl
theorem sg_false (x : Nat) : sg false x = (x : Int) := rfl
theorem sg_abs (b : Bool) (x : Nat) : (sg b x).natAbs = x := by cases b <;> simp [sg]
theorem sg_self (z : Int) : sg (ngB z) z.natAbs = z := by
  rcases h : ngB z with _ | _
  · have := ngB_false h; rw [sg_false]; omega
  · have := ngB_true h; rw [sg_true]; omega
theorem ngB_sg_pos {b : Bool} {x : Nat} (h : 0 < x) : ngB (sg b x) = b := by
  cases b
  · exact ngB_of_pos (by rw [sg_false]; omega)
  · exact ngB_of_neg (by rw [sg_true]; omega)
theorem ngB_sg_zero (b : Bool) : ngB (sg b 0) = false := by cases b <;> rfl
/-- The order of two whole numbers, as Go tells it. -/
def ordz (x y : Int) : Int := if x < y then -1 else if y < x then 1 else 0
theorem ordz_lt {x y : Int} (h : x < y) : ordz x y = -1 := if_pos h
theorem ordz_gt {x y : Int} (h : y < x) : ordz x y = 1 := by unfold ordz; rw [if_neg (by omega), if_pos h]
theorem ordz_eq {x y : Int} (h : x = y) : ordz x y = 0 := by unfold ordz; rw [if_neg (by omega), if_neg (by omega)]
theorem ordz_neg (x y : Int) : ordz y x = - ordz x y := by unfold ordz; (repeat' split) <;> omega
theorem ordz_bd (x y : Int) : -1 ≤ ordz x y ∧ ordz x y ≤ 1 := by unfold ordz; (repeat' split) <;> omega
theorem ordz_sub (x y : Int) : ordz (x - y) 0 = ordz x y := by unfold ordz; (repeat' split) <;> omega
/-- How many limbs a whole number has. -/
def lenZ (z : Int) : Nat := (digs 4294967296 z.natAbs).length
theorem lenZ_mono {x y : Int} (h : x.natAbs ≤ y.natAbs) : lenZ x ≤ lenZ y := digs_len_mono (by omega) h
theorem lenZ_add (x y : Int) : lenZ (x + y) ≤ lenZ x + lenZ y + 1 :=
  Nat.le_trans (digs_len_mono (by omega) (show (x + y).natAbs ≤ x.natAbs + y.natAbs by omega)) (add_len _ _)
theorem lenZ_neg (x : Int) : lenZ (-x) = lenZ x := by unfold lenZ; rw [Int.natAbs_neg]
theorem lenZ_sub (x y : Int) : lenZ (x - y) ≤ lenZ x + lenZ y + 1 := by
  have := lenZ_add x (-y)
  rw [lenZ_neg] at this
  exact this
theorem lenZ_mul (x y : Int) : lenZ (x * y) ≤ lenZ x + lenZ y := by
  unfold lenZ; rw [Int.natAbs_mul]; exact mul_len _ _
theorem lenZ_dec (x : Int) : (digs 10000 x.natAbs).length ≤ 3 * lenZ x := dec_le _
theorem lenZ_zero : lenZ 0 = 0 := by unfold lenZ; rw [Int.natAbs_zero, digs_zero]; rfl
/-- The floor's quotient and rest are the only ones. -/
theorem floor_one {x y q r : Int} (h : x = q * y + r) (hr : (0 ≤ r ∧ r < y) ∨ (y < r ∧ r ≤ 0)) : q = x.fdiv y ∧ r = x.fmod y := by
  rcases hr with ⟨h1, h2⟩ | ⟨h1, h2⟩
  · have := (Int.fdiv_fmod_unique (a := x) (b := y) (r := r) (q := q) (by omega)).2 ⟨by rw [h, Int.mul_comm]; omega, h1, h2⟩
    exact ⟨this.1.symm, this.2.symm⟩
  · have := (Int.fdiv_fmod_unique' (a := x) (b := y) (r := r) (q := q) (by omega)).2 ⟨by rw [h, Int.mul_comm]; omega, h1, h2⟩
    exact ⟨this.1.symm, this.2.symm⟩

/-- The value is this whole number: its sign, and its limbs in memory. -/
def IsZ (w : World) (v : Value) (z : Int) : Prop := ∃ u, v = .agg #[.bool (ngB z), u] ∧ IsS w .u64 u (digs 4294967296 z.natAbs)
/-- The document's way: four decimal digits a place. -/
def IsR (w : World) (v : Value) (z : Int) : Prop := ∃ u, v = .agg #[.bool (ngB z), u] ∧ IsS w .i64 u (digs 10000 z.natAbs)
/-- Its limbs lie in blocks from B on. -/
def FreshZ (B : Nat) (v : Value) : Prop := ∀ n u, v = .agg #[.bool n, u] → Fresh B u
theorem IsZ.below {w w' : World} {v : Value} {z : Int} (h : IsZ w v z) (hb : Below w.heap.size w w') : IsZ w' v z := by
  obtain ⟨u, e, h1⟩ := h
  exact ⟨u, e, h1.below hb⟩
theorem IsR.below {w w' : World} {v : Value} {z : Int} (h : IsR w v z) (hb : Below w.heap.size w w') : IsR w' v z := by
  obtain ⟨u, e, h1⟩ := h
  exact ⟨u, e, h1.below hb⟩
theorem IsZ.drew {w : World} {v : Value} {z : Int} (h : IsZ w v z) : IsZ w.drew v z := by
  obtain ⟨u, e, h1⟩ := h
  exact ⟨u, e, h1.drew⟩
theorem IsR.drew {w : World} {v : Value} {z : Int} (h : IsR w v z) : IsR w.drew v z := by
  obtain ⟨u, e, h1⟩ := h
  exact ⟨u, e, h1.drew⟩
theorem FreshZ.mono {B B' : Nat} {v : Value} (h : FreshZ B v) (hb : B' ≤ B) : FreshZ B' v := fun n u e => (h n u e).mono hb
theorem isZ_mk {w : World} {u : Value} {z : Int} {x : Nat} {b : Bool} (h : IsS w .u64 u (digs 4294967296 x)) (hx : z.natAbs = x) (hb : b = ngB z) : IsZ w (.agg #[.bool b, u]) z := by
  subst hx; subst hb; exact ⟨u, rfl, h⟩
theorem isR_mk {w : World} {u : Value} {z : Int} {x : Nat} {b : Bool} (h : IsS w .i64 u (digs 10000 x)) (hx : z.natAbs = x) (hb : b = ngB z) : IsR w (.agg #[.bool b, u]) z := by
  subst hx; subst hb; exact ⟨u, rfl, h⟩
theorem freshZ_mk {B : Nat} {b : Bool} {u : Value} (h : Fresh B u) : FreshZ B (.agg #[.bool b, u]) := by
  intro n u' e
  injection e with e
  have e1 := congrArg (fun a => a[1]?) e
  simp at e1
  subst e1; exact h

/-- The call ends with this whole number in new memory; what was there is as it was. -/
def RetZ (z : Int) (w : World) (e : Ending) (w' : World) : Prop := ∃ v, e = .returned v ∧ IsZ w' v z ∧ FreshZ w.heap.size v ∧ Below w.heap.size w w'
/-- The same, of the document's numbers. -/
def RetR (z : Int) (w : World) (e : Ending) (w' : World) : Prop := ∃ v, e = .returned v ∧ IsR w' v z ∧ Below w.heap.size w w'
/-- A whole number, and an error's number. -/
def RetZE (z : Int) (n : Int) (w : World) (e : Ending) (w' : World) : Prop := ∃ v, e = .returned (.tuple #[v, .int .i64 n]) ∧ IsZ w' v z ∧ FreshZ w.heap.size v ∧ Below w.heap.size w w'
/-- Two whole numbers, and an error's number. -/
def RetZZE (x y : Int) (n : Int) (w : World) (e : Ending) (w' : World) : Prop := ∃ v u, e = .returned (.tuple #[v, u, .int .i64 n]) ∧ IsZ w' v x ∧ IsZ w' u y ∧ FreshZ w.heap.size v ∧ FreshZ w.heap.size u ∧ Below w.heap.size w w'
/-- Two of the document's. -/
def RetRR (x y : Int) (w : World) (e : Ending) (w' : World) : Prop := ∃ v u, e = .returned (.tuple #[v, u]) ∧ IsR w' v x ∧ IsR w' u y ∧ Below w.heap.size w w'
/-- Block g is just these cells, none frozen. -/
def Blk (w : World) (g : Nat) (t : TypeId) (cs : Array Value) : Prop := w.heap[g]? = some (.cells cs t (0, 0))
theorem Blk.lt {w : World} {g : Nat} {t : TypeId} {cs : Array Value} (h : Blk w g t cs) : g < w.heap.size := (Array.getElem?_eq_some_iff.1 h).1
theorem Blk.cell {w : World} {g : Nat} {t : TypeId} {cs : Array Value} (h : Blk w g t cs) (i : Nat) : w.cell? ⟨g, i, none⟩ = cs[i]? := cell_of_row w g i cs t (0, 0) h
theorem Blk.frozen {w : World} {g : Nat} {t : TypeId} {cs : Array Value} (h : Blk w g t cs) (i : Nat) : w.frozen? ⟨g, i, none⟩ = false := by
  unfold Blk at h
  simp [World.frozen?, h]
theorem Blk.new (w : World) (t : TypeId) (cs : Array Value) : Blk (w.alloc (.cells cs t)) w.heap.size t cs := heap_alloc_new w _
theorem Blk.alloc {w : World} {g : Nat} {t : TypeId} {cs : Array Value} (h : Blk w g t cs) (o : Obj) : Blk (w.alloc o) g t cs := (Below.heap_alloc w o g h.lt).trans h
theorem Blk.drew {w : World} {g : Nat} {t : TypeId} {cs : Array Value} (h : Blk w g t cs) : Blk w.drew g t cs := h
theorem Blk.below {w w' : World} {g : Nat} {t : TypeId} {cs : Array Value} (h : Blk w g t cs) (hb : Below w.heap.size w w') : Blk w' g t cs := (hb.block g h.lt).trans h
theorem Blk.grown {w w' : World} {g g' : Nat} {t : TypeId} {cs : Array Value} (h : Blk w g t cs) (hb : w.grownBy w' (some g')) (hne : g ≠ g') : Blk w' g t cs := (hb.block g h.lt (fun e => hne (by injection e))).trans h
/-- The two cells of a whole number's variable: they read so, and may be written. -/
theorem Blk.two {w : World} {g : Nat} {t : TypeId} {x y : Value} (h : Blk w g t #[x, y]) : w.cell? ⟨g, 0, none⟩ = some x ∧ w.cell? ⟨g, 1, none⟩ = some y ∧ w.frozen? ⟨g, 0, none⟩ = false ∧ w.frozen? ⟨g, 1, none⟩ = false :=
  ⟨h.cell 0, h.cell 1, h.frozen 0, h.frozen 1⟩
/-- The end of a call whose result is a whole number in a variable of its own. -/
theorem endZ {w w2 : World} {b : Bool} {u x y : Value} {z : Int} {g B : Nat} (hb : Below w.heap.size w w2) (hg : w.heap.size ≤ g) (hgB : g < B) (hu : IsS w2 .u64 u (digs 4294967296 z.natAbs)) (hf : Fresh B u) (hz : b = ngB z) :
    RetZ z w (.returned (.agg #[.bool b, u])) ((w2.setCell ⟨g, 0, none⟩ x).setCell ⟨g, 1, none⟩ y) := by
  subst hz
  exact ⟨_, rfl, ⟨u, rfl, (hu.setCell hf hgB _).setCell hf hgB _⟩, freshZ_mk (hf.mono (by omega)), (hb.setCell hg _).setCell hg _⟩

open Go.Proofs.YtbebmknfecehnaaGreat.flow
/-- A whole number, in memory from block B on. -/
def pz (z : Int) (B : Nat) : Pd := ⟨fun w v => IsZ w v z ∧ FreshZ B v, fun h hb => ⟨h.1.below hb, h.2⟩⟩
def pr (z : Int) : Pd := ⟨fun w v => IsR w v z, fun h hb => h.below hb⟩
/-- A whole number, wherever it lies. -/
def pi (z : Int) : Pd := ⟨fun w v => IsZ w v z, fun h hb => h.below hb⟩
/-- A list of numbers, in memory from block B on. -/
def ps (k : IntKind) (l : List Nat) (B : Nat) : Pd := ⟨fun w v => IsS w k v l ∧ Fresh B v, fun h hb => ⟨h.1.below hb, h.2⟩⟩
theorem RetS.pd {k : IntKind} {l : List Nat} {w : World} {e : Ending} {w' : World} {B : Nat} (h : RetS k l w e w') (hB : B ≤ w.heap.size) : RetPd (ps k l B) w e w' := by
  obtain ⟨v, rfl, h1, h2, h3⟩ := h
  exact ⟨v, rfl, ⟨h1, h2.mono hB⟩, h3⟩
theorem RetZ.pd {z : Int} {w : World} {e : Ending} {w' : World} {B : Nat} (h : RetZ z w e w') (hB : B ≤ w.heap.size) : RetPd (pz z B) w e w' := by
  obtain ⟨v, rfl, h1, h2, h3⟩ := h
  exact ⟨v, rfl, ⟨h1, h2.mono hB⟩, h3⟩
theorem RetR.pd {z : Int} {w : World} {e : Ending} {w' : World} (h : RetR z w e w') : RetPd (pr z) w e w' := h
/-- A pair: numbers, and an error's number; three: numbers, numbers, an error's number. -/
def pt (k : IntKind) (l : List Nat) (n : Int) (B : Nat) : Pd := ⟨fun w t => ∃ v, t = .tuple #[v, .int .i64 n] ∧ IsS w k v l ∧ Fresh B v, fun h hb => by obtain ⟨v, e, h1, h2⟩ := h; exact ⟨v, e, h1.below hb, h2⟩⟩
def pt3 (k : IntKind) (l m : List Nat) (n : Int) (B : Nat) : Pd := ⟨fun w t => ∃ v u, t = .tuple #[v, u, .int .i64 n] ∧ IsS w k v l ∧ IsS w k u m ∧ Fresh B v ∧ Fresh B u, fun h hb => by obtain ⟨v, u, e, h1, h2, h3⟩ := h; exact ⟨v, u, e, h1.below hb, h2.below hb, h3⟩⟩
def pt2 (k : IntKind) (l m : List Nat) (B : Nat) : Pd := ⟨fun w t => ∃ v u, t = .tuple #[v, u] ∧ IsS w k v l ∧ IsS w k u m ∧ Fresh B v ∧ Fresh B u, fun h hb => by obtain ⟨v, u, e, h1, h2, h3⟩ := h; exact ⟨v, u, e, h1.below hb, h2.below hb, h3⟩⟩
theorem RetSI.pd {k : IntKind} {l : List Nat} {n : Int} {w : World} {e : Ending} {w' : World} {B : Nat} (h : RetSI k l n w e w') (hB : B ≤ w.heap.size) : RetPd (pt k l n B) w e w' := by
  obtain ⟨v, rfl, h1, h2, h3⟩ := h
  exact ⟨_, rfl, ⟨v, rfl, h1, h2.mono hB⟩, h3⟩
theorem RetSSE.pd {l m : List Nat} {n : Int} {w : World} {e : Ending} {w' : World} {B : Nat} (h : RetSSE l m n w e w') (hB : B ≤ w.heap.size) : RetPd (pt3 .u64 l m n B) w e w' := by
  obtain ⟨v, u, rfl, h1, h2, h3, h4, h5⟩ := h
  exact ⟨_, rfl, ⟨v, u, rfl, h1, h2, h3.mono hB, h4.mono hB⟩, h5⟩
theorem RetSS.pd {k : IntKind} {l m : List Nat} {w : World} {e : Ending} {w' : World} {B : Nat} (h : RetSS k l m w e w') (hB : B ≤ w.heap.size) : RetPd (pt2 k l m B) w e w' := by
  obtain ⟨v, u, rfl, h1, h2, h3, h4, h5⟩ := h
  exact ⟨_, rfl, ⟨v, u, rfl, h1, h2, h3.mono hB, h4.mono hB⟩, h5⟩
theorem RetV.pd {u : Value} {w : World} {e : Ending} {w' : World} (h : RetV u w e w') : RetPd (Pd.eq u) w e w' := ⟨u, h.1, rfl, h.2⟩
end Go.Proofs.YtbebmknfecehnaaGreat.whl
