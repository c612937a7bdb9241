/- Texts with a sign ahead: strings.CutPrefix of "-", whole.Parse; the document's texts. Condition: as each says. -/
import Derived.Test.YtcmjbkgcknimlaaDoorWhlM
namespace Go.Proofs.YtcmjbkgcknimlaaDoor.whl
open Go.RowKit Go.Proofs.YtcmjbkgcknimlaaDoor.num Go.Proofs.YtcmjbkgcknimlaaDoor.mem Go.Proofs.YtcmjbkgcknimlaaDoor.nat Go.Proofs.YtcmjbkgcknimlaaDoor.txt Go.Proofs.YtcmjbkgcknimlaaDoor.str Go.Proofs.YtcmjbkgcknimlaaDoor.flow
set_option linter.unusedVariables false

set_option maxHeartbeats 400000 in
theorem hasp_yes (S : ByteArray) (t : List UInt8) (w : World) (hS : StrIs S (45 :: t)) :
    Calls Tryd.prog 92 #[.string S, .string ⟨#[45]⟩] w (RetV (.bool true) w) := by
  have hsz := hS.size
  rw [List.length_cons] at hsz
  have hsz2 : 1 ≤ S.size := by omega
  have h1 : (1 : Int) ≤ (S.size : Int) := by omega
  have hcut : ((S.extract 0 1).toList == [45]) = true := by rw [Lib.toList_data, hS.to_ 1]; simp
  clear hsz
  go_enter Tryd.func92, Tryd.ntmps92
  go_wp2
  go_ret
  exact ⟨rfl, Below.refl _ _⟩
set_option maxHeartbeats 400000 in
theorem hasp_no (S : ByteArray) (l : List UInt8) (w : World) (hS : StrIs S l) (h : l.head? ≠ some 45) :
    Calls Tryd.prog 92 #[.string S, .string ⟨#[45]⟩] w (RetV (.bool false) w) := by
  have hsz := hS.size
  cases l with
  | nil =>
    rw [List.length_nil] at hsz
    have h1 : ¬ (1 : Int) ≤ (S.size : Int) := by omega
    clear hsz
    go_enter Tryd.func92, Tryd.ntmps92
    go_wp2
    go_ret
    exact ⟨rfl, Below.refl _ _⟩
  | cons c t =>
    rw [List.length_cons] at hsz
    have hsz2 : 1 ≤ S.size := by omega
    have h1 : (1 : Int) ≤ (S.size : Int) := by omega
    have hcut : ((S.extract 0 1).toList == [45]) = false := by
      rw [Lib.toList_data, hS.to_ 1]
      rw [beq_eq_false_iff_ne]
      intro e
      exact h (by simpa using e)
    clear hsz
    go_enter Tryd.func92, Tryd.ntmps92
    go_wp2
    go_ret
    exact ⟨rfl, Below.refl _ _⟩
/-- The text l is a sign (or none), and t. -/
def Cut (b : Bool) (l t : List UInt8) : Prop := (b = true ∧ l = 45 :: t) ∨ (b = false ∧ t = l ∧ l.head? ≠ some 45)
def RetCut (b : Bool) (t : List UInt8) (w : World) (e : Ending) (w' : World) : Prop := ∃ R, e = .returned (.tuple #[.string R, .bool b]) ∧ StrIs R t ∧ Below w.heap.size w w'
set_option maxHeartbeats 400000 in
theorem scut_any (S : ByteArray) (l t : List UInt8) (b : Bool) (w : World) (hS : StrIs S l) (hc : Cut b l t) :
    Calls Tryd.prog 78 #[.string S, .string ⟨#[45]⟩] w (RetCut b t w) := by
  rcases hc with ⟨rfl, rfl⟩ | ⟨rfl, rfl, h⟩
  · have hsz := hS.size
    rw [List.length_cons] at hsz
    have hsz2 : 1 ≤ S.size := by omega
    clear hsz
    go_enter Tryd.func78, Tryd.ntmps78
    go_wp2_with fail
    refine (hasp_yes S t _ hS).mono ?_
    rintro e w1 ⟨rfl, b1⟩
    go_wp2
    go_ret2
    exact ⟨_, rfl, hS.from_ 1, b1⟩
  · go_enter Tryd.func78, Tryd.ntmps78
    go_wp2_with fail
    refine (hasp_no S _ _ hS h).mono ?_
    rintro e w1 ⟨rfl, b1⟩
    go_wp2
    go_ret2
    exact ⟨_, rfl, hS, b1⟩
set_option maxHeartbeats 400000 in
theorem cut_any (S : ByteArray) (l t : List UInt8) (b : Bool) (w : World) (hS : StrIs S l) (hc : Cut b l t) :
    Calls Tryd.prog 61 #[.string S, .string ⟨#[45]⟩] w (RetCut b t w) := by
  go_enter Tryd.func61, Tryd.ntmps61
  go_wp2_with fail
  refine (scut_any S l t b _ hS hc).mono ?_
  rintro e w1 ⟨R, rfl, hR, b1⟩
  go_wp2
  go_ret2
  exact ⟨R, rfl, hR, b1⟩
/-- A list of ints is kept while two cells of a variable without ints are written. -/
theorem off_set2 {w : World} {k : IntKind} {v : Value} {l : List Nat} {g : Nat} {e : TypeId} {cs : Array Value} (h : IsS w k v l) (hB : w.heap[g]? = some (.cells cs e (0, 0))) (hno : ∀ c ∈ cs, ∀ n, c ≠ .int k n) (x y : Value) :
    IsS ((w.setCell ⟨g, 0, none⟩ x).setCell ⟨g, 1, none⟩ y) k v l := by
  refine off h hB hno ?_
  have one : ∀ (w : World) (o : Nat) (v : Value), w.grownBy (w.setCell ⟨g, o, none⟩ v) (some g) := fun w o v => ⟨rfl, rfl, rfl, by simp [World.setCell], fun k _ hk => Below.heap_setCell w ⟨g, o, none⟩ v k (fun e => hk (by rw [e]))⟩
  exact grown_trans (one _ _ _) (one _ _ _)
/-- A whole number of a text, and an error's number. -/
def RetZP (b : Bool) (t : List UInt8) (w : World) (e : Ending) (w' : World) : Prop := ∃ x en, FromR 10 t x en ∧ ∃ v, e = .returned (.tuple #[v, .int .i64 en]) ∧ IsZ w' v (sg b x) ∧ Below w.heap.size w w'
set_option maxHeartbeats 1600000 in
set_option maxRecDepth 100000 in
theorem parse7_any (S : ByteArray) (l t : List UInt8) (b : Bool) (w : World) (hS : StrIs S l) (hc : Cut b l t) (hl : t.length ≤ 1000) :
    Calls Tryd.prog 36 #[.string S] w (RetZP b t w) := by
  have HSZ : Hid (sg b 0 = 0) := by show _ = _; cases b <;> rfl
  go_enter Tryd.func36, Tryd.ntmps36
  go_wp2_with fail
  refine (cut_any S l t b _ hS hc).mono ?_
  rintro e w1 ⟨R, rfl, hR, b1⟩
  go_wp2_with fail
  refine (parse_any R t _ hR hl).mono ?_
  rintro e w2 ⟨x, en, hF, v, rfl, kv, b2⟩
  have B2 := ((Blk.new w 25 #[.bool false, .slice none 0 0]).below b1).below b2
  have bb1 := (below_alloc (Nat.le_refl w.heap.size) (.cells #[.bool false, .slice none 0 0] 25)).trans (b1.mono (by simp))
  have bb2 := bb1.trans (b2.mono bb1.size)
  obtain ⟨A, c, rfl, _⟩ := id kv
  have HF := Lib.hid hF
  rcases hF with ⟨z1, z2, rfl⟩ | ⟨z1, rfl, rfl⟩ <;> clear z1
  · clear z2
    go_wp2_with fail
    refine (signed_pi b _ x (sg b x) _ kv rfl).mono ?_
    rintro e w3 ⟨v3, rfl, ⟨u3, rfl, k3⟩, b3⟩
    obtain ⟨A3, c3, rfl, _⟩ := id k3
    have B3 := B2.below b3
    have bb3 := bb2.trans (b3.mono bb2.size)
    obtain ⟨c0, c1, g0, g1⟩ := B3.two
    go_wp2
    exact bodyPost_ret (v := .tuple #[.agg #[.bool (ngB (sg b x)), .slice A3 (digs 4294967296 (sg b x).natAbs).length c3], .int .i64 0]) (by simp [results, Tryd.results36, go_sem, c0, c1]) rfl ⟨x, 0, HF.out, _, rfl, ⟨_, rfl, off_set2 k3 B3 no_ints2 _ _⟩, (bb3.setCell (Nat.le_refl _) _).setCell (Nat.le_refl _) _⟩
  · obtain ⟨c0, c1, g0, g1⟩ := B2.two
    go_wp2
    exact bodyPost_ret (v := .tuple #[.agg #[.bool false, .slice none 0 0], .int .i64 5]) (by simp [results, Tryd.results36, go_sem, c0, c1]) rfl ⟨0, 5, HF.out, _, rfl, by rw [HSZ.out]; exact ⟨_, rfl, by rw [show ((0 : Int).natAbs) = 0 from rfl, digs_zero]; exact isNil _ _⟩, (bb2.setCell (Nat.le_refl _) _).setCell (Nat.le_refl _) _⟩
end Go.Proofs.YtcmjbkgcknimlaaDoor.whl
