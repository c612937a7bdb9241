/- What WholeTexts' regions want beside: the obligations of min, of a string's length and cut; one answer of a text; texts of whole numbers, read. Condition: as each says. -/
import Derived.Test.YtbebmknfecehnaaGreatWhlO
import Derived.Test.YtbebmknfecehnaaGreatFlowL
namespace Go.Proofs.YtbebmknfecehnaaGreat.flow
open Go.RowKit Go.Proofs.YtbebmknfecehnaaGreat.num Go.Proofs.YtbebmknfecehnaaGreat.mem
set_option linter.unusedVariables false
section
variable {P : Program} {Q : Exit → Act → World → Prop} {ops : Array Oper} {L : List Oper} {Φ : List Pd} {w0 : World} {a0 : Act} {i : Nat} {o : Oper}
theorem ob_min {x y : Operand} {at_ : Array TypeId} {F G : World → Value → Prop} (hop : o.op = .call { callee := .builtin .min, args := #[x, y], argTypes := at_ }) (hw : Wt ops L Φ w0 a0 o true) (hx : Ev L Φ w0 a0 o x F) (hy : Ev L Φ w0 a0 o y G)
    (hr : ∀ w u v, F w u → G w v → ∃ r, (Builtin.min2 u v).run P w = .ok r w ∧ (ph Φ i).p w r) : Ob P Q ops L Φ w0 a0 i o :=
  ob_val hw (by unfold isA; rw [hop]) fun ms w hS => by
    obtain ⟨v, h1, h2⟩ := hr w _ _ (hx ms w hS) (hy ms w hS)
    exact ⟨v, by unfold execOp; simp [hop, resolve, invoke, builtin, Builtin.min_, h1], h2⟩
theorem ob_slice_to {t : TypeId} {x y : Operand} {F G : World → Value → Prop} (hop : o.op = .slice t x none (some y) none) (hw : Wt ops L Φ w0 a0 o true) (hx : Ev L Φ w0 a0 o x F) (hy : Ev L Φ w0 a0 o y G)
    (hr : ∀ w u v, F w u → G w v → ∃ r, (Instr.sliceAt t u none (some v) none).run P w = .ok r w ∧ (ph Φ i).p w r) : Ob P Q ops L Φ w0 a0 i o :=
  ob_val hw (by unfold isA; rw [hop]) fun ms w hS => by
    obtain ⟨v, h1, h2⟩ := hr w _ _ (hx ms w hS) (hy ms w hS)
    exact ⟨v, by unfold execOp; simp only [hop, Sem.run_bind, Option.map_none, Option.map_some, h1]; rfl, h2⟩
theorem ob_index {t : TypeId} {x y : Operand} {F G : World → Value → Prop} (hop : o.op = .index t x y) (hw : Wt ops L Φ w0 a0 o true) (hx : Ev L Φ w0 a0 o x F) (hy : Ev L Φ w0 a0 o y G)
    (hr : ∀ w u v, F w u → G w v → ∃ r, (Instr.index t u v).run P w = .ok r w ∧ (ph Φ i).p w r) : Ob P Q ops L Φ w0 a0 i o :=
  ob_val hw (by unfold isA; rw [hop]) fun ms w hS => by
    obtain ⟨v, h1, h2⟩ := hr w _ _ (hx ms w hS) (hy ms w hS)
    exact ⟨v, by unfold execOp; simp only [hop, Sem.run_bind, h1]; rfl, h2⟩
theorem ob_build2b {t : TypeId} {k l : Nat} {x y : Operand} {F G : World → Value → Prop} (hop : o.op = .build t #[(k, x), (l, y)]) (hw : Wt ops L Φ w0 a0 o true) (hx : Ev L Φ w0 a0 o x F) (hy : Ev L Φ w0 a0 o y G)
    (hr : ∀ w u u', Below w0.heap.size w0 w → F w u → G w u' → ∃ v, (Instr.build t #[(k, u), (l, u')]).run P w = .ok v w ∧ (ph Φ i).p w v) : Ob P Q ops L Φ w0 a0 i o :=
  ob_val hw (by unfold isA; rw [hop]) fun ms w hS => by
    obtain ⟨v, h1, h2⟩ := hr w _ _ hS.below (hx ms w hS) (hy ms w hS)
    exact ⟨v, by unfold execOp; simp only [hop, Sem.run_bind, List.map_toArray, List.map_cons, List.map_nil, h1]; rfl, h2⟩
theorem len_string {t ty : TypeId} (hu : P.underlying t = some .string) (S : ByteArray) (w : World) : (Builtin.len_ #[t] ty #[.string S]).run P w = .ok (.int .i64 (S.size : Int)) w := by
  simp [Builtin.len_, go_sem, run_underlying hu]
theorem min_nat (a b : Nat) (w : World) : (Builtin.min2 (.int .i64 (a : Int)) (.int .i64 (b : Int))).run P w = .ok (.int .i64 ((min a b : Nat) : Int)) w := by
  simp only [Builtin.min2, Sem.run_pure]
  congr 2
  split <;> omega
theorem slice_to {t : TypeId} (hu : P.underlying t = some .string) (S : ByteArray) (n : Nat) (hn : n ≤ S.size) (w : World) : (Instr.sliceAt t (.string S) none (some (.int .i64 (n : Int))) none).run P w = .ok (.string (S.extract 0 n)) w := by
  simp [Instr.sliceAt, Instr.slice, Instr.sliceBounds, Instr.sliceBound, go_sem, run_underlying hu, hn]
theorem slice_from {t : TypeId} (hu : P.underlying t = some .string) (S : ByteArray) (n : Nat) (hn : n ≤ S.size) (w : World) : (Instr.sliceAt t (.string S) (some (.int .i64 (n : Int))) none none).run P w = .ok (.string (S.extract n S.size)) w := by
  simp [Instr.sliceAt, Instr.slice, Instr.sliceBounds, Instr.sliceBound, go_sem, run_underlying hu, hn]
end
end Go.Proofs.YtbebmknfecehnaaGreat.flow
namespace Go.Proofs.YtbebmknfecehnaaGreat.whl
open Go.RowKit Go.Proofs.YtbebmknfecehnaaGreat.num Go.Proofs.YtbebmknfecehnaaGreat.mem Go.Proofs.YtbebmknfecehnaaGreat.nat Go.Proofs.YtbebmknfecehnaaGreat.txt Go.Proofs.YtbebmknfecehnaaGreat.str Go.Proofs.YtbebmknfecehnaaGreat.flow
set_option linter.unusedVariables false
theorem vars1 (w : World) (t1 : TypeId) (x : Array Value) : ∃ wx, w.alloc (.cells x t1) = wx ∧ Below w.heap.size w wx ∧ Blk wx w.heap.size t1 x ∧ w.heap.size < wx.heap.size := ⟨_, rfl, below_alloc (Nat.le_refl _) _, Blk.new w t1 x, by simp⟩
theorem index_head {P : Program} {t : TypeId} (hu : P.underlying t = some .string) {S : ByteArray} {c : UInt8} {l : List UInt8} (h : StrIs S (c :: l)) (w : World) : (Instr.index t (.string S) (.int .i64 0)).run P w = .ok (.int .u8 (c.toNat : Int)) w := by
  obtain rfl := h.is
  have e : (ByteArray.mk (c :: l).toArray)[(0 : Nat)]? = some c := rfl
  simp [Instr.index, go_sem, run_underlying hu]
  rfl
/-- What a text is, and only that. -/
theorem fromR_ex (b : Nat) (l : List UInt8) : ∃ x e, FromR b l x e := by
  by_cases h : okS b l
  · exact ⟨numS b l, 0, .inl ⟨h, rfl, rfl⟩⟩
  · exact ⟨0, 5, .inr ⟨h, rfl, rfl⟩⟩
theorem fromR_txt (x : Nat) : FromR 10 (txt 10 x) x 0 := .inl ⟨txt_ok (by omega) (by omega) x, (num_txt (by omega) (by omega) x).symm, rfl⟩
/-- A whole number, wherever it lies, and an error's number. -/
def pzn (z : Int) (n : Int) : Pd := ⟨fun w t => ∃ v, t = .tuple #[v, .int .i64 n] ∧ IsZ w v z, fun h hb => by obtain ⟨v, e, h1⟩ := h; exact ⟨v, e, h1.below hb⟩⟩
/-- No figure is a sign. -/
theorem txt_head {x : Nat} : (txt 10 x).head? ≠ some 45 := by
  intro h
  have hok := (txt_ok (b := 10) (by omega) (by omega) x).2
  have hm : (45 : UInt8) ∈ txt 10 x := List.mem_of_head? h
  exact absurd (hok 45 hm) (by decide)
theorem cut_txtz (z : Int) : Cut (ngB z) (txtz z) (txt 10 z.natAbs) := by
  by_cases hz : z < 0
  · exact .inl ⟨by unfold ngB; exact decide_eq_true hz, by unfold txtz; rw [if_pos hz]⟩
  · refine .inr ⟨by unfold ngB; exact decide_eq_false hz, by unfold txtz; rw [if_neg hz], ?_⟩
    unfold txtz; rw [if_neg hz]; exact txt_head
theorem cut_ex (l : List UInt8) : ∃ b t, Cut b l t ∧ t.length ≤ l.length := by
  by_cases h : l.head? = some 45
  · cases l with
    | nil => simp at h
    | cons c t =>
      obtain rfl : c = 45 := by simpa using h
      exact ⟨true, t, .inl ⟨rfl, rfl⟩, by simp⟩
  · exact ⟨false, l, .inr ⟨rfl, rfl, h⟩, Nat.le_refl _⟩
theorem dec_z {x : Int} (h : lenZ x ≤ 50) : (digs 10000 x.natAbs).length ≤ 1000 := by have := dec_le x.natAbs; unfold lenZ at h; omega
theorem ngB_len (y : Nat) : decide ((0 : Int) < (((digs 4294967296 y).length : Nat) : Int)) = ngB (sg true y) := by
  by_cases hy : 0 < y
  · rw [ngB_sg_pos hy]; have := len_pos hy; exact decide_eq_true (by omega)
  · obtain rfl : y = 0 := by omega
    rw [digs_zero]; rfl
theorem ngB_no (y : Nat) : false = ngB (sg false y) := by
  symm; unfold ngB sg; simp
/-- A printed text is this one string. -/
theorem RetStrB.pd {l : List UInt8} {w : World} {e : Ending} {w' : World} (h : RetStrB l w e w') : RetPd (Pd.eq (.string ⟨l.toArray⟩)) w e w' := by
  obtain ⟨R, rfl, hR, hb⟩ := h
  exact ⟨_, rfl, by rw [hR.is]; rfl, hb⟩
end Go.Proofs.YtbebmknfecehnaaGreat.whl
