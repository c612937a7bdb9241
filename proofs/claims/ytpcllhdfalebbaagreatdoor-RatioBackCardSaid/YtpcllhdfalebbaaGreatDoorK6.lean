/- strings.Repeat: so many copies of a text (the contract of the library's own text, laid at this program). Condition: the result takes 2^47 bytes at most.
Package ratio: noughts behind a 1, powers, a text read in parts, a point put into digits. Condition: as each says.
Twos and fives of a lower part: a closure that takes a number out of another as often as it goes, and what calls it. Condition: as each says.
Package ratio's own contracts, as the landed code has them. Condition: as each says.
Rows of texts that the call makes by append; a row's cell in a region that draws its order; one cell written in the text's order. Condition: as each says.
The chapter's example of layer 9, and what its laws want beside.
An argument as a fraction: a struct of a struct and a slice. Condition: as it says. -/
import Derived.Test.YtpcllhdfalebbaaGreatDoorK5
import Derived.Shelf.Strings.Repeat
set_option Elab.async false
namespace Go.Proofs.YtpcllhdfalebbaaGreatDoor.rto
open Go Go.Proofs Go.Shelf Go.RowKit Go.Lib
set_option linter.unusedVariables false
def lays105_ren : Go.Shelf.Ren := ⟨fun | 105 => 82 | 212 => 107 | 99 => 108 | 165 => 109 | 166 => 110 | 170 => 111 | 169 => 112 | 263 => 132 | 264 => 133 | 206 => 134 | 240 => 135 | 241 => 136 | 276 => 154 | 277 => 155 | n => n, fun | 9 => 9 | 3 => 3 | 4 => 4 | 20 => 20 | 0 => 0 | 46 => 142 | 109 => 143 | 5 => 5 | 72 => 147 | 76 => 151 | 51 => 167 | 146 => 168 | 53 => 60 | 148 => 100 | 70 => 145 | 37 => 93 | 75 => 150 | 127 => 171 | 164 => 184 | 80 => 154 | n => n, fun | n => n⟩
theorem lays105 : Go.Proofs.Lays.n105 Tryz.prog lays105_ren := {
  mixed := by kernel_rfl
  f99 := Tryz.func108.trans (congrArg some (by kernel_rfl))
  f105 := Tryz.func82.trans (congrArg some (by kernel_rfl))
  f165 := Tryz.func109.trans (congrArg some (by kernel_rfl))
  f166 := Tryz.func110.trans (congrArg some (by kernel_rfl))
  f169 := Tryz.func112.trans (congrArg some (by kernel_rfl))
  f170 := Tryz.func111.trans (congrArg some (by kernel_rfl))
  f206 := Tryz.func134.trans (congrArg some (by kernel_rfl))
  f212 := Tryz.func107.trans (congrArg some (by kernel_rfl))
  f240 := Tryz.func135.trans (congrArg some (by kernel_rfl))
  f241 := Tryz.func136.trans (congrArg some (by kernel_rfl))
  f263 := Tryz.func132.trans (congrArg some (by kernel_rfl))
  f264 := Tryz.func133.trans (congrArg some (by kernel_rfl))
  f276 := Tryz.func154.trans (congrArg some (by kernel_rfl))
  f277 := Tryz.func155.trans (congrArg some (by kernel_rfl))
  t0 := Tryz.underlying0
  a0 := Tryz.isAgg0
  z0 := Tryz.sizeOf0
  v0 := Tryz.zeroValue0
  t3 := Tryz.underlying3
  a3 := Tryz.isAgg3
  z3 := Tryz.sizeOf3
  v3 := Tryz.zeroValue3
  t4 := Tryz.underlying4
  a4 := Tryz.isAgg4
  z4 := Tryz.sizeOf4
  v4 := Tryz.zeroValue4
  t5 := Tryz.underlying5
  a5 := Tryz.isAgg5
  z5 := Tryz.sizeOf5
  v5 := Tryz.zeroValue5
  t9 := Tryz.underlying9
  a9 := Tryz.isAgg9
  z9 := Tryz.sizeOf9
  v9 := Tryz.zeroValue9
  t20 := Tryz.underlying20
  a20 := Tryz.isAgg20
  z20 := Tryz.sizeOf20
  v20 := Tryz.zeroValue20
  t37 := Tryz.underlying93
  a37 := Tryz.isAgg93
  z37 := Tryz.sizeOf93
  v37 := Tryz.zeroValue93
  t46 := Tryz.underlying142
  a46 := Tryz.isAgg142
  z46 := Tryz.sizeOf142
  v46 := Tryz.zeroValue142
  t51 := Tryz.underlying167
  a51 := Tryz.isAgg167
  z51 := Tryz.sizeOf167
  v51 := Tryz.zeroValue167
  t53 := Tryz.underlying60
  a53 := Tryz.isAgg60
  z53 := Tryz.sizeOf60
  v53 := Tryz.zeroValue60
  t70 := Tryz.underlying145
  a70 := Tryz.isAgg145
  z70 := Tryz.sizeOf145
  v70 := Tryz.zeroValue145
  t72 := Tryz.underlying147
  a72 := Tryz.isAgg147
  z72 := Tryz.sizeOf147
  v72 := Tryz.zeroValue147
  t75 := Tryz.underlying150
  a75 := Tryz.isAgg150
  z75 := Tryz.sizeOf150
  v75 := Tryz.zeroValue150
  t76 := Tryz.underlying151
  a76 := Tryz.isAgg151
  z76 := Tryz.sizeOf151
  v76 := Tryz.zeroValue151
  t109 := Tryz.underlying143
  a109 := Tryz.isAgg143
  z109 := Tryz.sizeOf143
  v109 := Tryz.zeroValue143
  t127 := Tryz.underlying171
  a127 := Tryz.isAgg171
  z127 := Tryz.sizeOf171
  v127 := Tryz.zeroValue171
  t146 := Tryz.underlying168
  a146 := Tryz.isAgg168
  z146 := Tryz.sizeOf168
  v146 := Tryz.zeroValue168
  t148 := Tryz.underlying100
  a148 := Tryz.isAgg100
  z148 := Tryz.sizeOf100
  v148 := Tryz.zeroValue100
  t164 := Tryz.underlying184
  a164 := Tryz.isAgg184
  z164 := Tryz.sizeOf184
  v164 := Tryz.zeroValue184 }
theorem extra105 : Builder.Extra Tryz.prog lays105_ren := {
  sizeBuilder := by kernel_rfl
  liesBuilder := by kernel_rfl
  t5 := Tryz.underlying5
  a5 := Tryz.isAgg5
  z5 := Tryz.sizeOf5
  v5 := Tryz.zeroValue5
  infoByte := by kernel_rfl
  cellsByte := by kernel_rfl
  sizeByte := by kernel_rfl
  neB5 := by decide }
theorem repeat_lib (s : ByteArray) (c : Nat) (w : World) (hc : c ≤ 9223372036854775807) (hlen : s.size * c ≤ 140737488355328) :
    Calls Tryz.prog 82 #[.string s, .int .i64 c] w fun e w' => e = .returned (.string ⟨(Lib.repeatL s.data.toList c).toArray⟩) ∧ Below w.heap.size w w' := Any.strings_Repeat lays105 extra105 s c w hc hlen
end Go.Proofs.YtpcllhdfalebbaaGreatDoor.rto
set_option maxRecDepth 10000
set_option Elab.async false
set_option synthInstance.maxSize 1024
namespace Go.Proofs.YtpcllhdfalebbaaGreatDoor.rto
open Go Go.Proofs Go.Lib Go.RowKit Go.Proofs.YtpcllhdfalebbaaGreatDoor Go.Proofs.YtpcllhdfalebbaaGreatDoor.num Go.Proofs.YtpcllhdfalebbaaGreatDoor.mem Go.Proofs.YtpcllhdfalebbaaGreatDoor.nat Go.Proofs.YtpcllhdfalebbaaGreatDoor.txt Go.Proofs.YtpcllhdfalebbaaGreatDoor.str Go.Proofs.YtpcllhdfalebbaaGreatDoor.flow Go.Proofs.YtpcllhdfalebbaaGreatDoor.whl Go.Proofs.YtpcllhdfalebbaaGreatDoor.rat
set_option linter.unusedVariables false
theorem repeat_any (nI : Int) (n : Nat) (w : World) (hn : nI = (n : Int)) (hl : n ≤ 10000) :
    Calls Tryz.prog 82 #[.string ⟨#[48]⟩, .int .i64 nI] w (RetStrB (List.replicate n 48) w) := by
  subst hn
  refine (repeat_lib ⟨#[48]⟩ n w (by omega) (by show 1 * n ≤ _; omega)).mono ?_
  rintro e w1 ⟨rfl, b1⟩
  refine ⟨_, rfl, ?_, b1⟩
  show Lib.repeatL [48] n = _
  rw [show ([48] : List UInt8) = List.replicate 1 48 from rfl, Lib.repeatL_replicate, Nat.mul_one]
theorem unit_any (nI : Int) (n : Nat) (w : World) (hn : nI = (n : Int)) (hl : n ≤ 10000) :
    Calls Tryz.prog 63 #[.int .i64 nI] w (RetStrB (49 :: List.replicate n 48) w) := by
  subst hn
  go_enter Tryz.func63, Tryz.ntmps63
  go_wp2_with fail
  refine (repeat_any _ n _ rfl hl).mono ?_
  rintro e w1 ⟨R, rfl, hR, b1⟩
  have hsz := hR.size
  rw [List.length_replicate] at hsz
  have hsz8 : ¬ 9223372036854775807 < 1 + R.size := by omega
  go_wp2
  go_ret
  exact ⟨_, rfl, concat_one 49 _ _ hR, b1⟩
theorem pow_any (bI nI : Int) (b n : Nat) (w : World) (hb : bI = (b : Int)) (hn : nI = (n : Int)) (h2 : 2 ≤ b) (h36 : b ≤ 36) (hl : n ≤ 900) :
    Calls Tryz.prog 44 #[.int .i64 bI, .int .i64 nI] w (RetSb .u64 (digs 4294967296 (b ^ n)) w) := by
  subst hb
  subst hn
  go_enter Tryz.func44, Tryz.ntmps44
  go_wp2_with fail
  refine (unit_any _ n _ rfl (by omega)).mono ?_
  rintro e w1 ⟨R, rfl, hR, b1⟩
  go_wp2_with fail
  refine (dfrom_any R _ _ b _ hR (by simp; omega) rfl h2 h36).mono ?_
  rintro e w2 ⟨x, en, hx, v, rfl, h1, b2⟩
  rcases hx with ⟨o1, rfl, rfl⟩ | ⟨o1, _⟩
  · rw [unit_num] at h1
    go_wp2
    go_ret
    exact ⟨_, rfl, h1, b1.trans (b2.mono b1.size)⟩
  · exact absurd (unit_ok h2) o1
/-- Two numbers and an error's number. -/
def RetP3 (p : Int × Nat × Nat) (w : World) (e : Ending) (w' : World) : Prop := ∃ v u, e = .returned (.tuple #[v, u, .int .i64 p.1]) ∧ IsS w' .u64 v (digs 4294967296 p.2.1) ∧ IsS w' .u64 u (digs 4294967296 p.2.2) ∧ Below w.heap.size w w'
theorem numbers_any (S T : ByteArray) (u v : List UInt8) (w : World) (hS : StrIs S u) (hT : StrIs T v) (hl : u.length ≤ 1000) (hl2 : v.length ≤ 1000) :
    Calls Tryz.prog 62 #[.string S, .string T] w (RetP3 (numsL u v) w) := by
  go_enter Tryz.func62, Tryz.ntmps62
  go_wp2_with fail
  refine (parse_any S u _ hS hl).mono ?_
  rintro e w1 ⟨x, en, hx, v1, rfl, h1, b1⟩
  rcases hx with ⟨o1, rfl, rfl⟩ | ⟨o1, rfl, rfl⟩
  · go_wp2_with fail
    refine (parse_any T v _ hT hl2).mono ?_
    rintro e w2 ⟨y, en, hy, v2, rfl, h2, b2⟩
    rcases hy with ⟨o2, rfl, rfl⟩ | ⟨o2, rfl, rfl⟩
    · have hN : numsL u v = (0, numS 10 u, numS 10 v) := by simp [numsL, o1, o2]
      go_wp2
      go_ret3
      rw [hN]
      exact ⟨_, _, rfl, h1.below b2, h2, b1.trans (b2.mono b1.size)⟩
    · have hN : numsL u v = (5, 0, 0) := by simp [numsL, o2]
      go_wp2
      go_ret3
      rw [hN]
      exact ⟨_, _, rfl, nil_digs _, nil_digs _, b1.trans (b2.mono b1.size)⟩
  · have hN : numsL u v = (5, 0, 0) := by simp [numsL, o1]
    go_wp2
    go_ret3
    rw [hN]
    exact ⟨_, _, rfl, nil_digs _, nil_digs _, b1⟩
set_option maxHeartbeats 800000 in
theorem parts_any (S : ByteArray) (l : List UInt8) (w : World) (hS : StrIs S l) (hl : l.length ≤ 400) :
    Calls Tryz.prog 24 #[.string S] w (RetP3 (partsL l) w) := by
  by_cases h47 : (47 : UInt8) ∈ l
  · obtain ⟨u, v, rfl, hu⟩ := cut_first h47
    rw [parts_slash hu]
    rw [List.length_append, List.length_cons] at hl
    go_enter Tryz.func24, Tryz.ntmps24
    go_wp2_with fail
    refine (cut_slash_yes S u v _ hS (by rw [List.length_append, List.length_cons]; omega) hu).mono ?_
    rintro e w1 ⟨R, T, rfl, hR, hT, b1⟩
    go_wp2_with fail
    refine (numbers_any R T u v _ hR hT (by omega) (by omega)).mono ?_
    rintro e w2 ⟨v1, v2, rfl, k1, k2, b2⟩
    go_wp2
    go_ret3
    exact ⟨_, _, rfl, k1, k2, b1.trans (b2.mono b1.size)⟩
  · by_cases h46 : (46 : UInt8) ∈ l
    · obtain ⟨u, v, rfl, hu⟩ := cut_first h46
      rw [List.length_append, List.length_cons] at hl
      have hu47 : (47 : UInt8) ∉ u := fun h => h47 (by simp [h])
      go_enter Tryz.func24, Tryz.ntmps24
      go_wp2_with fail
      refine (cut_slash_no S _ _ hS h47).mono ?_
      rintro e w1 ⟨R0, T0, rfl, hR0, hT0, b1⟩
      clear hR0 hT0
      go_wp2_with fail
      refine (cut_point_yes S u v _ hS (by rw [List.length_append, List.length_cons]; omega) hu).mono ?_
      rintro e w2 ⟨R, T, rfl, hR, hT, b2⟩
      have e1 : (R.toList == []) = (u == []) := by rw [Lib.toList_data, hR]
      have e2 : (T.toList == []) = (v == []) := by rw [Lib.toList_data, hT]
      have B2 := b1.trans (b2.mono b1.size)
      by_cases hu0 : u = []
      · have f1 : (u == []) = true := by rw [hu0]; rfl
        rw [f1] at e1
        have HPT := Lib.hid (parts_bare (v := v) hu47 hu (.inl hu0))
        clear hu0 f1
        go_wp2
        go_ret3
        rw [HPT.out]
        exact ⟨_, _, rfl, nil_digs _, nil_digs _, B2⟩
      · have f1 : (u == []) = false := by rw [beq_eq_false_iff_ne]; exact hu0
        rw [f1] at e1
        by_cases hv0 : v = []
        · have f2 : (v == []) = true := by rw [hv0]; rfl
          rw [f2] at e2
          have HPT := Lib.hid (parts_bare (v := v) hu47 hu (.inr hv0))
          clear hu0 f1 hv0 f2
          go_wp2
          go_ret3
          rw [HPT.out]
          exact ⟨_, _, rfl, nil_digs _, nil_digs _, B2⟩
        · have f2 : (v == []) = false := by rw [beq_eq_false_iff_ne]; exact hv0
          rw [f2] at e2
          have HPT := Lib.hid (parts_point hu47 hu hu0 hv0)
          have s1 := hR.size
          have s2 := hT.size
          have hsz8 : ¬ 9223372036854775807 < R.size + T.size := by omega
          have hRT : StrIs (R ++ T) (u ++ v) := by
            unfold StrIs
            rw [ByteArray.data_append, Array.toList_append, hR, hT]
          clear hu0 f1 hv0 f2
          go_wp2_with fail
          refine (unit_any _ v.length _ (by first | rfl | rw [s2]) (by omega)).mono ?_
          rintro e w3 ⟨O, rfl, hO, b3⟩
          go_wp2_with fail
          refine (numbers_any _ O (u ++ v) _ _ hRT hO (by rw [List.length_append]; omega) (by simp; omega)).mono ?_
          rintro e w4 ⟨v1, v2, rfl, k1, k2, b4⟩
          go_wp2
          go_ret3
          have B3 := B2.trans (b3.mono B2.size)
          rw [HPT.out]
          exact ⟨_, _, rfl, k1, k2, B3.trans (b4.mono B3.size)⟩
    · rw [parts_whole h47 h46]
      go_enter Tryz.func24, Tryz.ntmps24
      go_wp2_with fail
      refine (cut_slash_no S _ _ hS h47).mono ?_
      rintro e w1 ⟨R0, T0, rfl, hR0, hT0, b1⟩
      clear hR0 hT0
      go_wp2_with fail
      refine (cut_point_no S _ _ hS h46).mono ?_
      rintro e w2 ⟨R, T, rfl, hR, hT, b2⟩
      clear hR hT
      have B2 := b1.trans (b2.mono b1.size)
      go_wp2_with fail
      refine (numbers_any S ⟨#[49]⟩ l [49] _ hS rfl (by omega) (by simp)).mono ?_
      rintro e w3 ⟨v1, v2, rfl, k1, k2, b3⟩
      go_wp2
      go_ret3
      exact ⟨_, _, rfl, k1, k2, B2.trans (b3.mono B2.size)⟩
/-- A text of digits with a point ahead of the last n. -/
def dotted (l : List UInt8) (n : Nat) : List UInt8 := if n = 0 then l else (padz n l).take ((padz n l).length - n) ++ 46 :: (padz n l).drop ((padz n l).length - n)
set_option maxHeartbeats 800000 in
theorem pointed_any (S : ByteArray) (l : List UInt8) (nI : Int) (n : Nat) (w : World) (hS : StrIs S l) (hn : nI = (n : Int)) (hl : l.length ≤ 5000) (hn2 : n ≤ 5000) :
    Calls Tryz.prog 45 #[.string S, .int .i64 nI] w (RetStrB (dotted l n) w) := by
  subst hn
  have hsz := hS.size
  by_cases h0 : n = 0
  · have hd : dotted l n = l := if_pos h0
    rw [hd]
    subst h0
    clear hd
    go_enter Tryz.func45, Tryz.ntmps45
    go_wp2
    go_ret
    exact ⟨_, rfl, hS, Below.refl _ _⟩
  · have HD : Hid (dotted l n = (padz n l).take ((padz n l).length - n) ++ 46 :: (padz n l).drop ((padz n l).length - n)) := if_neg h0
    have h0I : ((n : Int) == 0) = false := by rw [beq_eq_false_iff_ne]; omega
    have hpl := padz_len (n := n) (s := l)
    have hpu := padz_le (n := n) (s := l)
    obtain ⟨k, hk⟩ : ∃ k, k = n + 1 - l.length := ⟨_, rfl⟩
    have HP : Hid (padz n l = List.replicate k 48 ++ l) := by show _ = _; rw [hk]; rfl
    go_enter Tryz.func45, Tryz.ntmps45
    go_wp2_with fail
    refine (repeat_any _ k _ (by omega) (by omega)).mono ?_
    rintro e w1 ⟨R, rfl, hR, b1⟩
    have s1 := hR.size
    rw [List.length_replicate] at s1
    obtain ⟨P, hP⟩ : ∃ P, P = padz n l := ⟨_, rfl⟩
    have hT : StrIs (R ++ S) P := by
      unfold StrIs
      rw [ByteArray.data_append, Array.toList_append, hR, hS, hP, HP.out]
    have hTs : (R ++ S).size = P.length := hT.size
    rw [← hP] at hpl hpu
    have HP2 := Lib.hid hP
    have hsz8 : ¬ 9223372036854775807 < R.size + S.size := by omega
    have hsz9 : R.size + S.size = P.length := by rw [← hTs, ByteArray.size_append]
    obtain ⟨m, hm⟩ : ∃ m, m = P.length - n := ⟨_, rfl⟩
    have hm2 : (P.length : Int) - (n : Int) = (m : Int) := by omega
    have hmle : m ≤ P.length := by omega
    have HM := Lib.hid hm
    clear hP hk
    go_wp2_with fail
    obtain ⟨X, hX⟩ : ∃ X, X = R ++ S := ⟨_, rfl⟩
    rw [← hX] at hT hTs ⊢
    have hXs : X.size = P.length := hTs
    have hR1 : StrIs (X.extract 0 m) (P.take m) := hT.to_ m
    have hR2 : StrIs (X.extract m X.size) (P.drop m) := hT.from_ m
    have q1 := hR1.size
    have q2 := hR2.size
    rw [List.length_take] at q1
    rw [List.length_drop] at q2
    have hz1 : ¬ 9223372036854775807 < (X.extract 0 m).size + 1 := by omega
    have hz2 : ¬ 9223372036854775807 < (X.extract 0 m).size + 1 + (X.extract m X.size).size := by omega
    rw [← HM.out]
    have hm3 : m ≤ X.size := by omega
    have hm4 : (m : Int) ≤ (X.size : Int) := by omega
    have HE : Hid (StrIs (X.extract 0 m ++ ⟨#[46]⟩ ++ X.extract m X.size) (dotted l n)) := by
      show StrIs _ _
      rw [HD.out, ← HP2.out, ← HM.out]
      unfold StrIs
      rw [ByteArray.data_append, ByteArray.data_append, Array.toList_append, Array.toList_append, hR1, hR2, List.append_assoc]
      rfl
    have bd := b1.drew
    have hz3 : ¬ 9223372036854775807 < m + 1 := by omega
    have hz4 : ¬ 9223372036854775807 < m + 1 + (X.size - m) := by omega
    have hz5 : X.size ≤ 100000 := by omega
    clear hXs hpl hpu hT hTs q1 q2 hR1 hR2 hm hm2 hsz8 hsz9 s1 hR hsz hmle hX h0 h0I
    go_region
    all_goals
      go_wp2
      go_ret
      exact ⟨_, rfl, HE.out, bd⟩
end Go.Proofs.YtpcllhdfalebbaaGreatDoor.rto
set_option maxRecDepth 10000
set_option Elab.async false
set_option synthInstance.maxSize 1024
namespace Go.Proofs.YtpcllhdfalebbaaGreatDoor.rto
open Go Go.Proofs Go.Lib Go.RowKit Go.Proofs.YtpcllhdfalebbaaGreatDoor Go.Proofs.YtpcllhdfalebbaaGreatDoor.num Go.Proofs.YtpcllhdfalebbaaGreatDoor.mem Go.Proofs.YtpcllhdfalebbaaGreatDoor.nat Go.Proofs.YtpcllhdfalebbaaGreatDoor.txt Go.Proofs.YtpcllhdfalebbaaGreatDoor.str Go.Proofs.YtpcllhdfalebbaaGreatDoor.flow Go.Proofs.YtpcllhdfalebbaaGreatDoor.whl Go.Proofs.YtpcllhdfalebbaaGreatDoor.rat
set_option linter.unusedVariables false
theorem no_slice {k : IntKind} {A : Option Addr} {n m : Nat} : ∀ c ∈ (#[.slice A n m] : Array Value), ∀ i, c ≠ .int k i := by
  intro c hc i
  simp at hc
  subst hc
  simp
theorem grown_one (w : World) (g : Nat) (v : Value) : w.grownBy (w.setCell ⟨g, 0, none⟩ v) (some g) := ⟨rfl, rfl, rfl, by simp [World.setCell], fun k _ hk => Below.heap_setCell w ⟨g, 0, none⟩ v k (fun e => hk (by rw [e]))⟩
/-- How often, and what is left in the variable. -/
def RetOut (B g x d : Nat) (t : TypeId) (w : World) (e : Ending) (w' : World) : Prop := ∃ n y v, e = .returned (.int .i64 ((n : Nat) : Int)) ∧ Outs x d n y ∧ Blk w' g t #[v] ∧ IsS w' .u64 v (digs 4294967296 y) ∧ Below B w w'
set_option maxRecDepth 100000 in
set_option maxHeartbeats 1600000 in
theorem outs_any (B g : Nat) (v0 : Value) (x d : Nat) (dI : Int) (w : World) (hdI : dI = (d : Int)) (h2 : 2 ≤ d) (h32 : d < 4294967296) (hx : x ≠ 0) (hl : (digs 4294967296 x).length ≤ 10000) (hB : Blk w g 23 #[v0]) (h : IsS w .u64 v0 (digs 4294967296 x)) (hg : B ≤ g) (hBw : B ≤ w.heap.size) :
    Calls Tryz.prog 76 #[.int .u64 dI, .pointer (some ⟨g, 0, none⟩)] w (RetOut B g x d 23 w) := by
  subst hdI
  have hmod : d % 4294967296 = d := Nat.mod_eq_of_lt h32
  have hnb := nbits_len hl
  have h2d : 0 < d % 4294967296 := by rw [hmod]; omega
  have HM := Lib.hid hmod
  clear hmod
  go_enter Tryz.func76, Tryz.ntmps76
  go_wp2
  go_loopw [4] (fun v4 wr => ∃ (n y : Nat) (u : Value), v4 = .int .i64 (n : Int) ∧ Hid (x = d ^ n * y) ∧ Blk wr g 23 #[u] ∧ IsS wr .u64 u (digs 4294967296 y) ∧ Below B w wr) (fun v4 _ => nbits x - (RowKit.intOf v4).toNat)
  case atStart => exact ⟨0, x, v0, rfl, by show _ = _; simp, hB, h, Below.refl _ _⟩
  case round =>
    obtain ⟨n, y, u, rfl, HX, hBr, hu, hb⟩ := hrel
    have hy : y ≠ 0 := by rintro rfl; exact hx (by have := HX.out; simpa using this)
    have hnx : n < nbits x := outs_lt HX.out hy h2
    have hyl : (digs 4294967296 y).length ≤ 10000 := Nat.le_trans (digs_len_mono (by omega) (by have := HX.out; rw [this]; exact Nat.le_mul_of_pos_left _ (Nat.pow_pos (by omega)))) hl
    have hlen : 0 < (digs 4294967296 y).length := len_pos (by omega)
    have hlen2 : (0 : Int) < (((digs 4294967296 y).length : Nat) : Int) := by omega
    obtain ⟨Au, cu, rfl, _⟩ := id hu
    have c0 := hBr.cell 0
    have z0 := hBr.frozen 0
    have hwr : ¬ (9223372036854775807 : Int) < (n : Int) + 1 := by omega
    go_wp2_with fail
    obtain ⟨R, hR⟩ : ∃ R, R = y % d := ⟨_, rfl⟩
    refine (dsmall_ok _ y _ d (y / d) R _ rfl (by omega) h2d hu (by omega) (by rw [HM.out]) (by rw [HM.out]; exact hR)).mono ?_
    rintro e w1 ⟨vq, rfl, k1, f1, b1⟩
    obtain ⟨Aq, cq, rfl, _⟩ := id k1
    have hBr1 := hBr.below b1
    have hu1 := hu.below b1
    have hb1 := hb.trans (b1.mono (Nat.le_trans hBw hb.size))
    have c1 := hBr1.cell 0
    have z1 := hBr1.frozen 0
    by_cases hr : R = 0
    · have hr1 : (((R : Nat) : Int) != 0) = false := by rw [hr]; rfl
      have HX2 : Hid (x = d ^ (n + 1) * (y / d)) := by
        show _ = _
        rw [HX.out, Nat.pow_succ, Nat.mul_assoc]
        congr 1
        exact (Nat.mul_div_cancel' (Nat.dvd_of_mod_eq_zero (by rw [← hR]; exact hr))).symm
      have k2 := off k1 hBr1 no_slice (grown_one w1 g (.slice Aq (digs 4294967296 (y / d)).length cq))
      have B2 : Blk (w1.setCell ⟨g, 0, none⟩ (.slice Aq (digs 4294967296 (y / d)).length cq)) g 23 #[.slice Aq (digs 4294967296 (y / d)).length cq] := one_setCell hBr1
      have hb2 := hb1.setCell (p := ⟨g, 0, none⟩) hg (.slice Aq (digs 4294967296 (y / d)).length cq)
      have hme : nbits x - (n + 1) < nbits x - n := by omega
      clear hu hu1 hBr c0 z0 hb b1 hb1 HX hr hR
      go_wp2
      go_roundw
      case rel => exact ⟨n + 1, y / d, _, by go_num, HX2, B2, k2, hb2⟩
      case measure => simp [RowKit.intOf]; omega
    · have hr1 : (((R : Nat) : Int) != 0) = true := by rw [bne_iff_ne]; omega
      have HO : Hid (Outs x d n y) := ⟨HX.out, fun h => hr (by rw [hR]; exact Nat.mod_eq_zero_of_dvd h)⟩
      clear hu c0 z0 hb b1 HX hr hR hy c1 z1 hlen hlen2 hyl hnx
      go_wp2
      go_ret
      exact ⟨n, y, _, rfl, HO.out, hBr1, hu1, hb1⟩
theorem outs_more {x d n y : Nat} (h : Outs x d n y) (hx : x ≠ 0) (hl : (digs 4294967296 x).length ≤ 1000) (hd : 2 ≤ d) : y ≠ 0 ∧ (digs 4294967296 y).length ≤ 1000 ∧ n ≤ 32000 := by
  obtain ⟨e, _⟩ := h
  have hy : y ≠ 0 := by rintro rfl; exact hx (by simpa using e)
  refine ⟨hy, Nat.le_trans (digs_len_mono (by omega) (by rw [e]; exact Nat.le_mul_of_pos_left _ (Nat.pow_pos (by omega)))) hl, ?_⟩
  have h1 := outs_lt e hy hd
  have h2 := nbits_len hl
  omega
/-- A lower part's twos and fives, and whether it has others. -/
def RetFac (d : Nat) (w : World) (e : Ending) (w' : World) : Prop := ∃ t f r, e = .returned (.tuple #[.int .i64 ((t : Nat) : Int), .int .i64 ((f : Nat) : Int), .bool (decide (r ≠ 1))]) ∧ Fac d t f r ∧ Below w.heap.size w w'
set_option maxRecDepth 100000 in
set_option maxHeartbeats 1600000 in
theorem factors_any (v : Value) (d : Nat) (w : World) (h : IsS w .u64 v (digs 4294967296 d)) (hd : d ≠ 0) (hl : (digs 4294967296 d).length ≤ 1000) :
    Calls Tryz.prog 42 #[v] w (RetFac d w) := by
  obtain ⟨A, c, rfl, _⟩ := id h
  go_enter Tryz.func42, Tryz.ntmps42
  go_wp2_with fail
  obtain ⟨W, hW⟩ : ∃ W, W = w.alloc (.cells #[.slice A (digs 4294967296 d).length c] 23) := ⟨_, rfl⟩
  rw [← hW]
  have bA : Below w.heap.size w W := by rw [hW]; exact below_alloc (Nat.le_refl _) _
  have BV : Blk W w.heap.size 23 #[.slice A (digs 4294967296 d).length c] := by rw [hW]; exact Blk.new _ _ _
  have hv := h.below bA
  clear hW
  refine (outs_any w.heap.size w.heap.size _ d 2147483648 _ W rfl (by omega) (by omega) hd (by omega) BV hv (Nat.le_refl _) bA.size).mono ?_
  rintro e w1 ⟨c1, x1, v1, rfl, o1, B1, k1, b1⟩
  obtain ⟨n1, l1, m1⟩ := outs_more o1 hd hl (by omega)
  have bb1 := bA.trans b1
  have O1 := Lib.hid o1
  clear o1 b1 bA BV hv
  go_wp2_with fail
  refine (outs_any w.heap.size w.heap.size _ x1 2 _ w1 rfl (by omega) (by omega) n1 (by omega) B1 k1 (Nat.le_refl _) bb1.size).mono ?_
  rintro e w2 ⟨c2, x2, v2, rfl, o2, B2, k2, b2⟩
  obtain ⟨n2, l2, m2⟩ := outs_more o2 n1 l1 (by omega)
  have bb2 := bb1.trans b2
  have O2 := Lib.hid o2
  clear o2 b2 bb1 B1 k1 n1 l1
  go_wp2_with fail
  refine (outs_any w.heap.size w.heap.size _ x2 1220703125 _ w2 rfl (by omega) (by omega) n2 (by omega) B2 k2 (Nat.le_refl _) bb2.size).mono ?_
  rintro e w3 ⟨c3, x3, v3, rfl, o3, B3, k3, b3⟩
  obtain ⟨n3, l3, m3⟩ := outs_more o3 n2 l2 (by omega)
  have bb3 := bb2.trans b3
  have O3 := Lib.hid o3
  clear o3 b3 bb2 B2 k2 n2 l2
  go_wp2_with fail
  refine (outs_any w.heap.size w.heap.size _ x3 5 _ w3 rfl (by omega) (by omega) n3 (by omega) B3 k3 (Nat.le_refl _) bb3.size).mono ?_
  rintro e w4 ⟨c4, x4, v4, rfl, o4, B4, k4, b4⟩
  obtain ⟨n4, l4, m4⟩ := outs_more o4 n3 l3 (by omega)
  have bb4 := bb3.trans b4
  have HF := Lib.hid (O1.out.fac O2.out O3.out o4)
  clear o4 b4 bb3 B3 k3 n3 l3 O1 O2 O3
  go_upto_region 5 with (fail)
  have c0 : w4.drew.cell? ⟨w.heap.size, 0, none⟩ = some v4 := B4.cell 0
  have k4d : IsS w4.drew .u64 v4 (digs 4294967296 x4) := k4.drew
  have bb4d := bb4.drew
  have lt4 := B4.lt
  clear B4 k4 bb4
  have HT : Hid ((ord x4 1 != 0) = decide (x4 ≠ 1)) := by
    show _ = _
    have := ord_zero (x := x4) (y := 1)
    by_cases e : x4 = 1
    · rw [this.2 e, decide_eq_false (by omega)]; rfl
    · rw [decide_eq_true e, bne_iff_ne]; exact fun h => e (this.1 h)
  go_region_law (first
    | (go_simp; go_at_call 79; refine (of_any _ 1 _ rfl (by omega)).mono ?_; rintro e w5 ⟨u1, rfl, q1, f1, b5⟩; have c1' := (b5.cell lt4).trans c0; have k5 := k4d.below b5)
    | (go_simp; go_at_call 78; refine (cmp_any _ _ x4 1 (ord x4 1) _ k5 q1 rfl).mono ?_; rintro e w6 ⟨rfl, b6⟩))
  all_goals
    have bb5 := bb4d.trans (b5.mono bb4d.size)
    have bb6 := bb5.trans (b6.mono bb5.size)
    go_wp2
    go_ret3
    refine ⟨31 * c1 + c2, 13 * c3 + c4, x4, ?_, HF.out, bb6⟩
    rw [← HT.out]
    first | rfl | (go_num) | (simp)
end Go.Proofs.YtpcllhdfalebbaaGreatDoor.rto
namespace Go.Proofs.YtpcllhdfalebbaaGreatDoor.rto
open Go.RowKit Go.Proofs.YtpcllhdfalebbaaGreatDoor.num Go.Proofs.YtpcllhdfalebbaaGreatDoor.mem Go.Proofs.YtpcllhdfalebbaaGreatDoor.nat Go.Proofs.YtpcllhdfalebbaaGreatDoor.txt Go.Proofs.YtpcllhdfalebbaaGreatDoor.str Go.Proofs.YtpcllhdfalebbaaGreatDoor.flow Go.Proofs.YtpcllhdfalebbaaGreatDoor.whl Go.Proofs.YtpcllhdfalebbaaGreatDoor.rat
set_option linter.unusedVariables false
theorem one_txt {d : Nat} (h : d = 1) : (txt 10 d == [49]) = true := by subst h; decide +kernel
theorem one_txt_no {d : Nat} (h : ¬ d = 1) : (txt 10 d == [49]) = false := by
  rw [beq_eq_false_iff_ne]
  intro e
  have h1 := num_txt (b := 10) (by omega) (by omega) d
  rw [e] at h1
  have h2 : numS 10 [49] = 1 := unit_num (n := 0)
  omega
theorem RetSB.pd9 {l : List UInt8} {b : Bool} {w : World} {e : Ending} {w' : World} (h : RetSB l b w e w') : RetPd (Pd.eq (.tuple #[.string ⟨l.toArray⟩, .bool b])) w e w' := by
  obtain ⟨R, h1, h2, h3⟩ := h
  obtain rfl := h2.is
  exact ⟨_, h1, rfl, h3⟩
theorem ten_len3 {n m : Nat} (h : 4 * n < 32 * m) : (digs 4294967296 (10 ^ n)).length ≤ m := by
  refine digs_len_le (by omega) (Nat.lt_of_le_of_lt (Nat.pow_le_pow_left (show 10 ≤ 16 by omega) n) ?_)
  rw [show (16 : Nat) = 2 ^ 4 from rfl, ← Nat.pow_mul, pow32]
  exact Nat.pow_lt_pow_right (by omega) h
theorem ten_len2 {n : Nat} (h : n ≤ 320) : (digs 4294967296 (10 ^ n)).length ≤ 41 := ten_len3 (by omega)
theorem quot_len {a n d x : Nat} (ha : (digs 4294967296 a).length ≤ 10) (hn : n ≤ 320) (hx : x = a * 10 ^ n / d) : (digs 4294967296 x).length ≤ 51 := by
  have h1 := mul_len a (10 ^ n)
  have h2 := ten_len2 hn
  have h3 := digs_len_mono (B := 4294967296) (by omega) (x := x) (y := a * 10 ^ n) (by rw [hx]; exact Nat.div_le_self _ _)
  omega
theorem two_len (k : Nat) : (digs 4294967296 (2 ^ k)).length ≤ k + 1 := digs_len_le (by omega) (Nat.lt_of_lt_of_le (Nat.pow_lt_pow_right (a := 2) (by omega) (Nat.lt_succ_self k)) (Nat.pow_le_pow_left (by omega) _))
theorem five_len (k : Nat) : (digs 4294967296 (5 ^ k)).length ≤ k + 1 := digs_len_le (by omega) (Nat.lt_of_lt_of_le (Nat.pow_lt_pow_right (a := 5) (by omega) (Nat.lt_succ_self k)) (Nat.pow_le_pow_left (by omega) _))
theorem dotted_len (l : List UInt8) (n : Nat) : (dotted l n).length ≤ l.length + n + 2 := by
  unfold dotted
  split
  · omega
  · have h := padz_le (n := n) (s := l)
    rw [List.length_append, List.length_cons, List.length_take, List.length_drop]
    omega
theorem decT_len9 {b : Bool} {x n : Nat} (hx : (digs 4294967296 x).length ≤ 51) (hn : n ≤ 320) : (decT b x n).length ≤ 2000 := by
  have h1 := txt10_len x
  have h2 := dotted_len (txt 10 x) n
  have h3 : (decP x n).length = (dotted (txt 10 x) n).length := rfl
  unfold decT
  split
  · rw [List.length_cons]; omega
  · omega
theorem l100_ : lenQ ((100 : Int) : Rat) 1 := by
  unfold lenQ lenZ
  have h1 : (((100 : Int) : Rat)).num = 100 := rfl
  have h2 : (((100 : Int) : Rat)).den = 1 := rfl
  rw [h1, h2]
  exact ⟨digs_len_le (by omega) (by decide), digs_len_le (by omega) (by decide)⟩
theorem parts_e (l : List UInt8) : (partsL l).1 = 0 ∨ partsL l = (5, 0, 0) := by
  unfold partsL
  split
  · split
    · exact .inl rfl
    · split
      · split
        · exact .inl rfl
        · exact .inl rfl
      · exact .inr rfl
  · exact .inr rfl
/-- A text's % (or none), and what stands ahead of it. -/
def Suf (b : Bool) (l t : List UInt8) : Prop := (b = true ∧ l.getLast? = some 37 ∧ t = l.dropLast) ∨ (b = false ∧ ¬ l.getLast? = some 37 ∧ t = l)
/-- Two numbers and an error's number, told. -/
def RetP2 (n : Int) (x y : Nat) (w : World) (e : Ending) (w' : World) : Prop := ∃ v u, e = .returned (.tuple #[v, u, .int .i64 n]) ∧ IsS w' .u64 v (digs 4294967296 x) ∧ IsS w' .u64 u (digs 4294967296 y) ∧ Below w.heap.size w w'
theorem parts_eq (S : ByteArray) (l : List UInt8) (n : Int) (x y : Nat) (w : World) (hS : StrIs S l) (hl : l.length ≤ 400) (hp : partsL l = (n, x, y)) :
    Calls Tryz.prog 24 #[.string S] w (RetP2 n x y w) := by
  have h := parts_any S l w hS hl
  rw [hp] at h
  exact h
theorem nums_len {u v : List UInt8} {e : Int} {x y : Nat} (h : numsL u v = (e, x, y)) : (digs 4294967296 x).length ≤ u.length ∧ (digs 4294967296 y).length ≤ v.length := by
  unfold numsL at h
  split at h
  · rename_i k
    injection h with _ h
    injection h with h1 h2
    subst h1; subst h2
    exact ⟨numS_len (by omega) k.1, numS_len (by omega) k.2⟩
  · injection h with _ h
    injection h with h1 h2
    subst h1; subst h2
    rw [digs_zero]
    exact ⟨Nat.zero_le _, Nat.zero_le _⟩
theorem parts_len9 {l : List UInt8} {e : Int} {x y : Nat} (h : partsL l = (e, x, y)) : (digs 4294967296 x).length ≤ l.length ∧ (digs 4294967296 y).length ≤ l.length + 1 := by
  by_cases h47 : (47 : UInt8) ∈ l
  · obtain ⟨u, v, rfl, hu⟩ := cut_first h47
    rw [parts_slash hu] at h
    have := nums_len h
    rw [List.length_append, List.length_cons]; omega
  · by_cases h46 : (46 : UInt8) ∈ l
    · obtain ⟨u, v, rfl, hu⟩ := cut_first h46
      have hu47 : (47 : UInt8) ∉ u := fun h => h47 (by simp [h])
      by_cases hu0 : u = [] ∨ v = []
      · rw [parts_bare hu47 hu hu0] at h
        injection h with _ h
        injection h with h1 h2
        subst h1; subst h2
        rw [digs_zero]
        exact ⟨Nat.zero_le _, Nat.zero_le _⟩
      · rw [parts_point hu47 hu (fun e => hu0 (.inl e)) (fun e => hu0 (.inr e))] at h
        have := nums_len h
        simp only [List.length_append, List.length_cons, List.length_replicate] at this ⊢
        omega
    · rw [parts_whole h47 h46] at h
      have := nums_len h
      simp only [List.length_cons, List.length_nil] at this
      omega
set_option maxHeartbeats 1600000 in
set_option maxRecDepth 100000 in
theorem fprint9_any (a0 : Value) (q : Rat) (w : World) (h0 : IsQ w a0 q) (hl : lenQ q 10) :
    Calls Tryz.prog 18 #[a0] w (RetStrB (txtr q) w) := by
  by_cases hd : q.den = 1
  · obtain ⟨u0, t0, rfl, s0, r0⟩ := h0
    obtain ⟨A0, c0, rfl, _⟩ := id s0
    obtain ⟨D0, e0, rfl, _⟩ := id r0
    have HX := Lib.hid (txtr_one hd)
    have HC : (txt 10 q.den == [49]) = true := one_txt hd
    have lz := txtz_len q.num
    have lt := txt10_len q.den
    have hl1 := hl.1
    have hl2 := hl.2
    clear hd
    go_enter Tryz.func18, Tryz.ntmps18
    go_upto_region 1 with (fail)
    obtain ⟨wx, hwx, bb, B0, hsz⟩ := vars1 w 27 #[.bool (ngB (q).num), .slice A0 (digs 4294967296 (q).num.natAbs).length c0, .slice D0 (digs 4294967296 (q).den).length e0]
    rw [hwx]
    clear hwx
    have k0s := s0.below bb
    have k0d := r0.below bb
    have k0z : IsZ wx (.agg #[.bool (ngB (q).num), .slice A0 (digs 4294967296 (q).num.natAbs).length c0]) (q).num := ⟨_, rfl, k0s⟩
    have k0 : IsQ wx (.agg #[.bool (ngB (q).num), .slice A0 (digs 4294967296 (q).num.natAbs).length c0, .slice D0 (digs 4294967296 (q).den).length e0]) (q) := ⟨_, _, rfl, k0s, k0d⟩
    have hsz0 := bb.size
    have sB := bb.size
    refine flow 8 [Pd.eq (.pointer (some ⟨w.heap.size, 0, none⟩)), Pd.eq (.agg #[.bool (ngB (q).num), .slice A0 (digs 4294967296 (q).num.natAbs).length c0]), Pd.eq (.string (ByteArray.mk (List.toArray (txtz (q).num : List UInt8)))), Pd.eq (.pointer (some ⟨w.heap.size, 2, none⟩)), Pd.eq (.slice D0 (digs 4294967296 (q).den).length e0), Pd.eq (.string (ByteArray.mk (List.toArray (txt 10 (q).den : List UInt8)))), Pd.eq (.string (ByteArray.mk (List.toArray (txtz (q).num : List UInt8)))), Pd.eq (.string (ByteArray.mk (List.toArray (txt 10 (q).den : List UInt8))))] (by kernel_rfl) (by kernel_rfl) ?ob1 ?done1
    case ob1 =>
      refine And.intro (ob_fieldAddr rfl (wt_none rfl) (ev_far rfl rfl) (fun _ => by kernel_rfl) (fun _ => rfl)) ?_
      refine And.intro (ob_load rfl (wt_none rfl) (ev_dep (j := 0) (by kernel_rfl) rfl rfl) (fun w2 hb => run_loadPart Tryz.underlying25 rfl (by kernel_rfl) (B0.drew.below hb) rfl) (fun _ _ => rfl)) ?_
      refine And.intro (ob_call1 rfl Tryz.func54 (by kernel_rfl) (wt_none rfl) (ev_dep (j := 1) (by kernel_rfl) rfl rfl) (fun w2 u0 hb h0 => by obtain rfl := h0; exact (zprint_any _ q.num _ (k0z.drew.below hb) (Nat.le_trans hl.1 (by decide))).mono fun e w3 h => RetStrB.pd h)) ?_
      refine And.intro (ob_fieldAddr rfl (wt_none rfl) (ev_far rfl rfl) (fun _ => by kernel_rfl) (fun _ => rfl)) ?_
      refine And.intro (ob_load rfl (wt_none rfl) (ev_dep (j := 3) (by kernel_rfl) rfl rfl) (fun w2 hb => run_load1 Tryz.underlying23 rfl ((B0.drew.below hb).cell 2)) (fun _ _ => rfl)) ?_
      refine And.intro (ob_call1 rfl Tryz.func46 (by kernel_rfl) (wt_none rfl) (ev_dep (j := 4) (by kernel_rfl) rfl rfl) (fun w2 u0 hb h0 => by obtain rfl := h0; exact (print_any _ q.den _ (k0d.drew.below hb) (Nat.le_trans hl.2 (by decide))).mono fun e w3 h => RetStrB.pd h)) ?_
      refine And.intro (ob_assign rfl (wt_none rfl) (ev_dep (j := 2) (by kernel_rfl) rfl rfl) (fun _ _ h => h)) ?_
      refine And.intro (ob_assign rfl (wt_none rfl) (ev_dep (j := 5) (by kernel_rfl) rfl rfl) (fun _ _ h => h)) ?_
      trivial
    case done1 =>
      refine fun w1 hb1 v0 h0 v1 h1 v2 h2 v3 h3 v4 h4 v5 h5 v6 h6 v7 h7 b hbf => ?_
      obtain rfl := h0; obtain rfl := h1; obtain rfl := h2; obtain rfl := h3; obtain rfl := h4; obtain rfl := h5; obtain rfl := h6; obtain rfl := h7
      simp only [Act.put, List.setIfInBounds_toArray, List.set_cons_zero, List.set_cons_succ] at hbf
      subst hbf
      replace B0 := B0.below hb1
      replace k0s := k0s.below hb1
      replace k0d := k0d.below hb1
      replace k0z := k0z.below hb1
      replace k0 := k0.below hb1
      replace bb := bb.trans (hb1.mono bb.size)
      have hsz1 := bb.size
      refine any_done (by kernel_rfl) ?_
      go_wp2
      go_ret
      rw [HX.out]
      exact ⟨_, rfl, StrIs.mk _, bb⟩
  · obtain ⟨u0, t0, rfl, s0, r0⟩ := h0
    obtain ⟨A0, c0, rfl, _⟩ := id s0
    obtain ⟨D0, e0, rfl, _⟩ := id r0
    have HX := Lib.hid (txtr_two hd)
    have HC : (txt 10 q.den == [49]) = false := one_txt_no hd
    have lz := txtz_len q.num
    have lt := txt10_len q.den
    have hl1 := hl.1
    have hl2 := hl.2
    clear hd
    go_enter Tryz.func18, Tryz.ntmps18
    go_upto_region 1 with (fail)
    obtain ⟨wx, hwx, bb, B0, hsz⟩ := vars1 w 27 #[.bool (ngB (q).num), .slice A0 (digs 4294967296 (q).num.natAbs).length c0, .slice D0 (digs 4294967296 (q).den).length e0]
    rw [hwx]
    clear hwx
    have k0s := s0.below bb
    have k0d := r0.below bb
    have k0z : IsZ wx (.agg #[.bool (ngB (q).num), .slice A0 (digs 4294967296 (q).num.natAbs).length c0]) (q).num := ⟨_, rfl, k0s⟩
    have k0 : IsQ wx (.agg #[.bool (ngB (q).num), .slice A0 (digs 4294967296 (q).num.natAbs).length c0, .slice D0 (digs 4294967296 (q).den).length e0]) (q) := ⟨_, _, rfl, k0s, k0d⟩
    have hsz0 := bb.size
    have sB := bb.size
    refine flow 8 [Pd.eq (.pointer (some ⟨w.heap.size, 0, none⟩)), Pd.eq (.agg #[.bool (ngB (q).num), .slice A0 (digs 4294967296 (q).num.natAbs).length c0]), Pd.eq (.string (ByteArray.mk (List.toArray (txtz (q).num : List UInt8)))), Pd.eq (.pointer (some ⟨w.heap.size, 2, none⟩)), Pd.eq (.slice D0 (digs 4294967296 (q).den).length e0), Pd.eq (.string (ByteArray.mk (List.toArray (txt 10 (q).den : List UInt8)))), Pd.eq (.string (ByteArray.mk (List.toArray (txtz (q).num : List UInt8)))), Pd.eq (.string (ByteArray.mk (List.toArray (txt 10 (q).den : List UInt8))))] (by kernel_rfl) (by kernel_rfl) ?ob2 ?done2
    case ob2 =>
      refine And.intro (ob_fieldAddr rfl (wt_none rfl) (ev_far rfl rfl) (fun _ => by kernel_rfl) (fun _ => rfl)) ?_
      refine And.intro (ob_load rfl (wt_none rfl) (ev_dep (j := 0) (by kernel_rfl) rfl rfl) (fun w2 hb => run_loadPart Tryz.underlying25 rfl (by kernel_rfl) (B0.drew.below hb) rfl) (fun _ _ => rfl)) ?_
      refine And.intro (ob_call1 rfl Tryz.func54 (by kernel_rfl) (wt_none rfl) (ev_dep (j := 1) (by kernel_rfl) rfl rfl) (fun w2 u0 hb h0 => by obtain rfl := h0; exact (zprint_any _ q.num _ (k0z.drew.below hb) (Nat.le_trans hl.1 (by decide))).mono fun e w3 h => RetStrB.pd h)) ?_
      refine And.intro (ob_fieldAddr rfl (wt_none rfl) (ev_far rfl rfl) (fun _ => by kernel_rfl) (fun _ => rfl)) ?_
      refine And.intro (ob_load rfl (wt_none rfl) (ev_dep (j := 3) (by kernel_rfl) rfl rfl) (fun w2 hb => run_load1 Tryz.underlying23 rfl ((B0.drew.below hb).cell 2)) (fun _ _ => rfl)) ?_
      refine And.intro (ob_call1 rfl Tryz.func46 (by kernel_rfl) (wt_none rfl) (ev_dep (j := 4) (by kernel_rfl) rfl rfl) (fun w2 u0 hb h0 => by obtain rfl := h0; exact (print_any _ q.den _ (k0d.drew.below hb) (Nat.le_trans hl.2 (by decide))).mono fun e w3 h => RetStrB.pd h)) ?_
      refine And.intro (ob_assign rfl (wt_none rfl) (ev_dep (j := 2) (by kernel_rfl) rfl rfl) (fun _ _ h => h)) ?_
      refine And.intro (ob_assign rfl (wt_none rfl) (ev_dep (j := 5) (by kernel_rfl) rfl rfl) (fun _ _ h => h)) ?_
      trivial
    case done2 =>
      refine fun w1 hb1 v0 h0 v1 h1 v2 h2 v3 h3 v4 h4 v5 h5 v6 h6 v7 h7 b hbf => ?_
      obtain rfl := h0; obtain rfl := h1; obtain rfl := h2; obtain rfl := h3; obtain rfl := h4; obtain rfl := h5; obtain rfl := h6; obtain rfl := h7
      simp only [Act.put, List.setIfInBounds_toArray, List.set_cons_zero, List.set_cons_succ] at hbf
      subst hbf
      replace B0 := B0.below hb1
      replace k0s := k0s.below hb1
      replace k0d := k0d.below hb1
      replace k0z := k0z.below hb1
      replace k0 := k0.below hb1
      replace bb := bb.trans (hb1.mono bb.size)
      have hsz1 := bb.size
      refine any_done (by kernel_rfl) ?_
      have sB := bb.size
      go_upto_region 4 with (fail)
      refine flowp 5 [Pd.eq (.string (ByteArray.mk (List.toArray (txtz (q).num : List UInt8)))), Pd.eq (.string (ByteArray.mk (List.toArray ((txtz (q).num) ++ ([47]) : List UInt8)))), Pd.eq (.string (ByteArray.mk (List.toArray (txt 10 (q).den : List UInt8)))), Pd.eq (.string (ByteArray.mk (List.toArray (((txtz (q).num) ++ ([47])) ++ (txt 10 (q).den) : List UInt8)))), Pd.eq (.string (ByteArray.mk (List.toArray (((txtz (q).num) ++ ([47])) ++ (txt 10 (q).den) : List UInt8))))] (by kernel_rfl) ?ob3 ?done3
      case ob3 =>
        refine And.intro (ob_move rfl (wt_none rfl) (ev_far rfl rfl) (fun _ _ h => h)) ?_
        refine And.intro (ob_bin rfl (wt_none rfl) (ev_dep (j := 0) (by kernel_rfl) rfl rfl) (ev_const _) (fun _ _ _ hx hy => ⟨.string (ByteArray.mk (List.toArray ((txtz (q).num) ++ ([47]) : List UInt8))), by rw [hx, hy]; exact bin_add_str _ _ (txtz (q).num) ([47]) (by first | omega | (simp; omega)) _, rfl⟩)) ?_
        refine And.intro (ob_move rfl (wt_none rfl) (ev_far rfl rfl) (fun _ _ h => h)) ?_
        refine And.intro (ob_bin rfl (wt_none rfl) (ev_dep (j := 1) (by kernel_rfl) rfl rfl) (ev_dep (j := 2) (by kernel_rfl) rfl rfl) (fun _ _ _ hx hy => ⟨.string (ByteArray.mk (List.toArray (((txtz (q).num) ++ ([47])) ++ (txt 10 (q).den) : List UInt8))), by rw [hx, hy]; exact bin_add_str _ _ ((txtz (q).num) ++ ([47])) (txt 10 (q).den) (by first | omega | (simp; omega)) _, rfl⟩)) ?_
        refine And.intro (ob_assign rfl (wt_none rfl) (ev_dep (j := 3) (by kernel_rfl) rfl rfl) (fun _ _ h => h)) ?_
        trivial
      case done3 =>
        refine fun w2 hb2 v0 h0 v1 h1 v2 h2 v3 h3 v4 h4 b hbf => ?_
        obtain rfl := h0; obtain rfl := h1; obtain rfl := h2; obtain rfl := h3; obtain rfl := h4
        simp only [Act.put, List.setIfInBounds_toArray, List.set_cons_zero, List.set_cons_succ] at hbf
        subst hbf
        replace B0 := B0.below hb2
        replace k0s := k0s.below hb2
        replace k0d := k0d.below hb2
        replace k0z := k0z.below hb2
        replace k0 := k0.below hb2
        replace bb := bb.trans (hb2.mono bb.size)
        have hsz2 := bb.size
        refine ops_done ?_
        go_wp2
        go_ret
        rw [HX.out]
        exact ⟨_, rfl, StrIs.mk _, bb⟩
set_option maxHeartbeats 1600000 in
set_option maxRecDepth 100000 in
theorem fdigits9_any (a0 : Value) (q : Rat) (w : World) (h0 : IsQ w a0 q) (hl : lenQ q 10) :
    Calls Tryz.prog 20 #[a0] w (RetV (.int .i64 (((txt 10 q.den).length : Nat) : Int)) w) := by
  obtain ⟨u0, t0, rfl, s0, r0⟩ := h0
  obtain ⟨A0, c0, rfl, _⟩ := id s0
  obtain ⟨D0, e0, rfl, _⟩ := id r0
  go_enter Tryz.func20, Tryz.ntmps20
  go_upto_region 1 with (fail)
  obtain ⟨wx, hwx, bb, B0, hsz⟩ := vars1 w 27 #[.bool (ngB (q).num), .slice A0 (digs 4294967296 (q).num.natAbs).length c0, .slice D0 (digs 4294967296 (q).den).length e0]
  rw [hwx]
  clear hwx
  have k0s := s0.below bb
  have k0d := r0.below bb
  have k0z : IsZ wx (.agg #[.bool (ngB (q).num), .slice A0 (digs 4294967296 (q).num.natAbs).length c0]) (q).num := ⟨_, rfl, k0s⟩
  have k0 : IsQ wx (.agg #[.bool (ngB (q).num), .slice A0 (digs 4294967296 (q).num.natAbs).length c0, .slice D0 (digs 4294967296 (q).den).length e0]) (q) := ⟨_, _, rfl, k0s, k0d⟩
  have hsz0 := bb.size
  have sB := bb.size
  refine flowp 4 [Pd.eq (.pointer (some ⟨w.heap.size, 2, none⟩)), Pd.eq (.slice D0 (digs 4294967296 (q).den).length e0), Pd.eq (.int .i64 (((txt 10 (q).den).length : Nat) : Int)), Pd.eq (.int .i64 (((txt 10 (q).den).length : Nat) : Int))] (by kernel_rfl) ?ob4 ?done4
  case ob4 =>
    refine And.intro (ob_fieldAddr rfl (wt_none rfl) (ev_far rfl rfl) (fun _ => by kernel_rfl) (fun _ => rfl)) ?_
    refine And.intro (ob_load rfl (wt_none rfl) (ev_dep (j := 0) (by kernel_rfl) rfl rfl) (fun w2 hb => run_load1 Tryz.underlying23 rfl ((B0.below hb).cell 2)) (fun _ _ => rfl)) ?_
    refine And.intro (ob_call1 rfl Tryz.func57 (by kernel_rfl) (wt_none rfl) (ev_dep (j := 1) (by kernel_rfl) rfl rfl) (fun w2 u0 hb h0 => by obtain rfl := h0; exact (count_any _ q.den _ _ (k0d.below hb) (Nat.le_trans hl.2 (by decide)) rfl).mono fun e w3 h => RetV.pd h)) ?_
    refine And.intro (ob_assign rfl (wt_none rfl) (ev_dep (j := 2) (by kernel_rfl) rfl rfl) (fun _ _ h => h)) ?_
    trivial
  case done4 =>
    refine fun w1 hb1 v0 h0 v1 h1 v2 h2 v3 h3 b hbf => ?_
    obtain rfl := h0; obtain rfl := h1; obtain rfl := h2; obtain rfl := h3
    simp only [Act.put, List.setIfInBounds_toArray, List.set_cons_zero, List.set_cons_succ] at hbf
    subst hbf
    replace B0 := B0.below hb1
    replace k0s := k0s.below hb1
    replace k0d := k0d.below hb1
    replace k0z := k0z.below hb1
    replace k0 := k0.below hb1
    replace bb := bb.trans (hb1.mono bb.size)
    have hsz1 := bb.size
    refine ops_done ?_
    go_wp2
    go_ret
    exact ⟨rfl, bb⟩
set_option maxHeartbeats 1600000 in
set_option maxRecDepth 100000 in
theorem fdec9_no (a0 : Value) (q : Rat) (w : World) (h0 : IsQ w a0 q) (hl : lenQ q 10) (hm : ∀ m, ¬ q.den ∣ 10 ^ m) :
    Calls Tryz.prog 13 #[a0] w (RetSB [] false w) := by
  obtain ⟨u0, t0, rfl, s0, r0⟩ := h0
  obtain ⟨A0, c0, rfl, _⟩ := id s0
  obtain ⟨D0, e0, rfl, _⟩ := id r0
  have HM := Lib.hid hm
  clear hm
  go_enter Tryz.func13, Tryz.ntmps13
  go_upto_region 1 with (fail)
  obtain ⟨wx, hwx, bb, B0, hsz⟩ := vars1 w 27 #[.bool (ngB (q).num), .slice A0 (digs 4294967296 (q).num.natAbs).length c0, .slice D0 (digs 4294967296 (q).den).length e0]
  rw [hwx]
  clear hwx
  have k0s := s0.below bb
  have k0d := r0.below bb
  have k0z : IsZ wx (.agg #[.bool (ngB (q).num), .slice A0 (digs 4294967296 (q).num.natAbs).length c0]) (q).num := ⟨_, rfl, k0s⟩
  have k0 : IsQ wx (.agg #[.bool (ngB (q).num), .slice A0 (digs 4294967296 (q).num.natAbs).length c0, .slice D0 (digs 4294967296 (q).den).length e0]) (q) := ⟨_, _, rfl, k0s, k0d⟩
  have hsz0 := bb.size
  obtain ⟨x0, x1, x2, _, _, _⟩ := three B0
  go_wp2_with fail
  refine (factors_any _ q.den _ k0d (by have := q.den_pos; omega) (Nat.le_trans hl.2 (by decide))).mono ?_
  rintro e w2 ⟨t, f, r, rfl, HF, b2⟩
  clear x0 x1 x2
  have hr : decide (r ≠ 1) = true := by
    refine decide_eq_true fun e => ?_
    subst e
    exact HM.out (max t f) ⟨2 ^ (max t f - t) * 5 ^ (max t f - f), by have h := HF.1; rw [Nat.mul_one] at h; rw [h]; exact fac_split (Nat.le_max_left t f) (Nat.le_max_right t f)⟩
  rw [hr]
  clear HF hr
  replace B0 := B0.below b2
  replace k0s := k0s.below b2
  replace k0d := k0d.below b2
  replace k0z := k0z.below b2
  replace k0 := k0.below b2
  replace bb := bb.trans (b2.mono bb.size)
  have hsz1 := bb.size
  go_wp2
  go_ret2
  exact ⟨_, rfl, rfl, bb⟩
set_option maxHeartbeats 1600000 in
set_option maxRecDepth 100000 in
theorem fdec9_yes (a0 : Value) (q : Rat) (n x : Nat) (w : World) (h0 : IsQ w a0 q) (hl : lenQ q 10) (hd : q.den ∣ 10 ^ n) (hm : ∀ m, m < n → ¬ q.den ∣ 10 ^ m) (h2 : 2 ^ n ≤ q.den) (hx : x = q.num.natAbs * 10 ^ n / q.den) :
    Calls Tryz.prog 13 #[a0] w (RetSB (decT (ngB q.num) x n) true w) := by
  obtain ⟨u0, t0, rfl, s0, r0⟩ := h0
  obtain ⟨A0, c0, rfl, _⟩ := id s0
  obtain ⟨D0, e0, rfl, _⟩ := id r0
  have HD := Lib.hid hd
  have HM := Lib.hid hm
  have HX := Lib.hid hx
  have hnb := ten_bits h2
  have hnl := nbits_len hl.2
  have hn9 : n ≤ 320 := by omega
  have HDT : Hid (decT (ngB q.num) x n = if ngB q.num = true then 45 :: dotted (txt 10 x) n else dotted (txt 10 x) n) := rfl
  clear hd hm hx h2 hnb hnl
  go_enter Tryz.func13, Tryz.ntmps13
  go_upto_region 1 with (fail)
  obtain ⟨wx, hwx, bb, B0, hsz⟩ := vars1 w 27 #[.bool (ngB (q).num), .slice A0 (digs 4294967296 (q).num.natAbs).length c0, .slice D0 (digs 4294967296 (q).den).length e0]
  rw [hwx]
  clear hwx
  have k0s := s0.below bb
  have k0d := r0.below bb
  have k0z : IsZ wx (.agg #[.bool (ngB (q).num), .slice A0 (digs 4294967296 (q).num.natAbs).length c0]) (q).num := ⟨_, rfl, k0s⟩
  have k0 : IsQ wx (.agg #[.bool (ngB (q).num), .slice A0 (digs 4294967296 (q).num.natAbs).length c0, .slice D0 (digs 4294967296 (q).den).length e0]) (q) := ⟨_, _, rfl, k0s, k0d⟩
  have hsz0 := bb.size
  obtain ⟨x0, x1, x2, _, _, _⟩ := three B0
  go_wp2_with fail
  refine (factors_any _ q.den _ k0d (by have := q.den_pos; omega) (Nat.le_trans hl.2 (by decide))).mono ?_
  rintro e w2 ⟨t, f, r, rfl, HF, b2⟩
  clear x0 x1 x2
  obtain ⟨rfl, hn⟩ := HF.least HD.out HM.out
  have HQ := Lib.hid (HF.quot (a := q.num.natAbs) hn)
  have ht : t ≤ n := by rw [hn]; exact Nat.le_max_left t f
  have hf : f ≤ n := by rw [hn]; exact Nat.le_max_right t f
  have HMX : Hid (max (t : Int) (f : Int) = (n : Int)) := by show _ = _; omega
  have ht2 : (n : Int) - (t : Int) = ((n - t : Nat) : Int) := by omega
  have hf2 : (n : Int) - (f : Int) = ((n - f : Nat) : Int) := by omega
  have hr : decide ((1 : Nat) ≠ 1) = false := by decide
  rw [hr]
  clear HF hr hn
  replace B0 := B0.below b2
  replace k0s := k0s.below b2
  replace k0d := k0d.below b2
  replace k0z := k0z.below b2
  replace k0 := k0.below b2
  replace bb := bb.trans (b2.mono bb.size)
  have hsz1 := bb.size
  obtain ⟨x0, x1, x2, y0, y1, y2⟩ := three B0
  have lx := quot_len hl.1 hn9 HX.out
  have lt2 := two_len (n - t)
  have lt5 := five_len (n - f)
  have hPL : plen [q.num.natAbs, 2 ^ (n - t), 5 ^ (n - f)] ≤ 50000 := by
    have := hl.1
    unfold lenZ at this
    simp only [plen, List.map_cons, List.map_nil, List.sum_cons, List.sum_nil]
    omega
  have HPR : Hid ([q.num.natAbs, 2 ^ (n - t), 5 ^ (n - f)].prod = x) := by
    show _ = _
    rw [HX.out, HQ.out]
    simp only [List.prod_cons, List.prod_nil, Nat.mul_one, Nat.mul_assoc]
  have x1d : w2.drew.cell? ⟨w.heap.size, 1, none⟩ = _ := x1
  have kd : IsS w2.drew .u64 (.slice A0 (digs 4294967296 q.num.natAbs).length c0) (digs 4294967296 q.num.natAbs) := k0s.drew
  have ltb := B0.lt
  have ltd : w.heap.size < w2.drew.heap.size := ltb
  have con2 := Lib.hid (pow_any 2 ((n - t : Nat) : Int) 2 (n - t) w2.drew rfl rfl (by omega) (by omega) (by omega))
  have HLX : Hid ((txt 10 x).length ≤ 5000) := by show _ ≤ _; have := txt10_len x; omega
  have hwt : IntKind.i64.wrap ((n - t : Nat) : Int) = ((n - t : Nat) : Int) := by rw [IntKind.wrap_i64]; omega
  have hwf : IntKind.i64.wrap ((n - f : Nat) : Int) = ((n - f : Nat) : Int) := by rw [IntKind.wrap_i64]; omega
  clear lt2 lt5 x0 x1 x2 y0 y1 y2
  go_upto_region 5 with (fail)
  rw [HMX.out]
  go_region_law (first
    | (go_simp; go_at_call 44; (with_reducible refine con2.out.mono ?_); rintro e w3 ⟨v3, rfl, k3, b3⟩; obtain ⟨A3, c3, rfl, _⟩ := id k3; have con5 := Lib.hid (pow_any 5 ((n - f : Nat) : Int) 5 (n - f) w3 rfl rfl (by omega) (by omega) (by omega)); have x1e := (b3.cell ltd).trans x1d; have ke := kd.below b3; have lte : w.heap.size < w3.heap.size := Nat.lt_of_lt_of_le ltd b3.size)
    | (go_simp; go_at_call 44; (with_reducible refine con5.out.mono ?_); rintro e w4 ⟨v4, rfl, k4, b4⟩; obtain ⟨A4, c4, rfl, _⟩ := id k4; have x1f := (b4.cell lte).trans x1e; have kf := ke.below b4; have k3f := k3.below b4; have hbA := below_alloc (Nat.le_refl w4.heap.size) (.cells #[.slice A0 (digs 4294967296 q.num.natAbs).length c0, .slice A3 (digs 4294967296 (2 ^ (n - t))).length c3, .slice A4 (digs 4294967296 (5 ^ (n - f))).length c4] 23))
    | (go_simp; go_at_call 43; refine (product_any 3 _ [_, _, _] [q.num.natAbs, 2 ^ (n - t), 5 ^ (n - f)] _ rfl (by omega) hPL (isV_lit w4 23 [_, _, _]) (nums3 (kf.below hbA) (k3f.below hbA) (k4.below hbA))).mono ?_; rintro e w6 ⟨v6, rfl, k6, f6, b6⟩))
  all_goals
    rw [HPR.out] at k6
    have B2_ : Below w2.heap.size w2 w2.drew := (Below.refl _ _).drew
    have B3_ := B2_.trans (b3.mono B2_.size)
    have B4_ := B3_.trans (b4.mono B3_.size)
    have BA_ := B4_.trans (hbA.mono B4_.size)
    have bx := BA_.trans (b6.mono BA_.size)
    clear B2_ B3_ B4_ BA_ b3 b4 b6 x1d x1e kd ke k3 k4 k3f kf hbA con2 con5 ltb ltd lte ht2 hf2 hwt hwf hPL
    replace B0 := B0.below bx
    replace k0s := k0s.below bx
    replace k0d := k0d.below bx
    replace k0z := k0z.below bx
    replace k0 := k0.below bx
    replace bb := bb.trans (bx.mono bb.size)
    have hsz2 := bb.size
    go_wp2_with fail
    refine (print_any _ x _ k6 (by omega)).mono ?_
    rintro e w7 ⟨R7, rfl, hR7, b7⟩
    replace B0 := B0.below b7
    replace k0s := k0s.below b7
    replace k0d := k0d.below b7
    replace k0z := k0z.below b7
    replace k0 := k0.below b7
    replace bb := bb.trans (b7.mono bb.size)
    have hsz3 := bb.size
    go_wp2_with fail
    refine (pointed_any R7 _ _ n _ hR7 rfl HLX.out (by omega)).mono ?_
    rintro e w8 ⟨R8, rfl, hR8, b8⟩
    replace B0 := B0.below b8
    replace k0s := k0s.below b8
    replace k0d := k0d.below b8
    replace k0z := k0z.below b8
    replace k0 := k0.below b8
    replace bb := bb.trans (b8.mono bb.size)
    have hsz4 := bb.size
    have s8 := hR8.size
    have d8 := dotted_len (txt 10 x) n
    have l8 := HLX.out
    have hsz8 : ¬ 9223372036854775807 < 1 + R8.size := by omega
    have HR8 := Lib.hid hR8
    clear s8 d8 l8 hR8 hR7 k6 f6 lx hn9 ht hf
    obtain ⟨s, hs⟩ : ∃ s, s = ordz q.num 0 := ⟨_, rfl⟩
    by_cases hsn : s < 0
    · have HNG : Hid (ngB q.num = true) := by
        show _ = _
        rw [hs] at hsn
        unfold ordz at hsn
        refine ngB_of_neg ?_
        (repeat' split at hsn) <;> omega
      have HS := Lib.hid hs
      clear hs
      have sB := bb.size
      go_upto_region 7 with (fail)
      refine flowp 3 [Pd.eq (.agg #[.bool (ngB (q).num), .slice A0 (digs 4294967296 (q).num.natAbs).length c0, .slice D0 (digs 4294967296 (q).den).length e0]), Pd.eq (.int .i64 s), Pd.eq (.bool (decide (s < 0)))] (by kernel_rfl) ?ob5 ?done5
      case ob5 =>
        refine And.intro (ob_load rfl (wt_none rfl) (ev_far rfl rfl) (fun w2 hb => run_loadAll Tryz.underlying27 rfl (by kernel_rfl) (B0.below hb)) (fun _ _ => rfl)) ?_
        refine And.intro (ob_call1 rfl Tryz.func47 (by kernel_rfl) (wt_none rfl) (ev_dep (j := 0) (by kernel_rfl) rfl rfl) (fun w2 u0 hb h0 => by obtain rfl := h0; exact (fsign0_any _ q s _ (k0.below hb) HS.out).mono fun e w3 h => RetV.pd h)) ?_
        refine And.intro (ob_bin rfl (wt_none rfl) (ev_dep (j := 1) (by kernel_rfl) rfl rfl) (ev_const _) (fun _ _ _ hx hy => ⟨.bool (decide (s < 0)), by rw [hx, hy]; exact bin_lss_int _ _ _ _ _, rfl⟩)) ?_
        trivial
      case done5 =>
        refine fun w5 hb5 v0 h0 v1 h1 v2 h2 b hbf => ?_
        obtain rfl := h0; obtain rfl := h1; obtain rfl := h2
        simp only [Act.put, List.setIfInBounds_toArray, List.set_cons_zero, List.set_cons_succ] at hbf
        subst hbf
        replace B0 := B0.below hb5
        replace k0s := k0s.below hb5
        replace k0d := k0d.below hb5
        replace k0z := k0z.below hb5
        replace k0 := k0.below hb5
        replace bb := bb.trans (hb5.mono bb.size)
        have hsz5 := bb.size
        refine ops_done ?_
        go_wp2
        go_ret2
        rw [HDT.out, HNG.out]
        exact ⟨_, rfl, concat_one 45 _ _ HR8.out, bb⟩
    · have HNG : Hid (ngB q.num = false) := by
        show _ = _
        rw [hs] at hsn
        unfold ordz at hsn
        refine ngB_of_pos ?_
        (repeat' split at hsn) <;> omega
      have HS := Lib.hid hs
      clear hs
      have sB := bb.size
      go_upto_region 7 with (fail)
      refine flowp 3 [Pd.eq (.agg #[.bool (ngB (q).num), .slice A0 (digs 4294967296 (q).num.natAbs).length c0, .slice D0 (digs 4294967296 (q).den).length e0]), Pd.eq (.int .i64 s), Pd.eq (.bool (decide (s < 0)))] (by kernel_rfl) ?ob6 ?done6
      case ob6 =>
        refine And.intro (ob_load rfl (wt_none rfl) (ev_far rfl rfl) (fun w2 hb => run_loadAll Tryz.underlying27 rfl (by kernel_rfl) (B0.below hb)) (fun _ _ => rfl)) ?_
        refine And.intro (ob_call1 rfl Tryz.func47 (by kernel_rfl) (wt_none rfl) (ev_dep (j := 0) (by kernel_rfl) rfl rfl) (fun w2 u0 hb h0 => by obtain rfl := h0; exact (fsign0_any _ q s _ (k0.below hb) HS.out).mono fun e w3 h => RetV.pd h)) ?_
        refine And.intro (ob_bin rfl (wt_none rfl) (ev_dep (j := 1) (by kernel_rfl) rfl rfl) (ev_const _) (fun _ _ _ hx hy => ⟨.bool (decide (s < 0)), by rw [hx, hy]; exact bin_lss_int _ _ _ _ _, rfl⟩)) ?_
        trivial
      case done6 =>
        refine fun w5 hb5 v0 h0 v1 h1 v2 h2 b hbf => ?_
        obtain rfl := h0; obtain rfl := h1; obtain rfl := h2
        simp only [Act.put, List.setIfInBounds_toArray, List.set_cons_zero, List.set_cons_succ] at hbf
        subst hbf
        replace B0 := B0.below hb5
        replace k0s := k0s.below hb5
        replace k0d := k0d.below hb5
        replace k0z := k0z.below hb5
        replace k0 := k0.below hb5
        replace bb := bb.trans (hb5.mono bb.size)
        have hsz5 := bb.size
        refine ops_done ?_
        go_wp2
        go_ret2
        rw [HDT.out, HNG.out]
        exact ⟨_, rfl, HR8.out, bb⟩
set_option maxHeartbeats 1600000 in
set_option maxRecDepth 100000 in
theorem fpct9_yes (a0 : Value) (q : Rat) (n x : Nat) (w : World) (h0 : IsQ w a0 q) (hl : lenQ q 9) (hd : (q * 100).den ∣ 10 ^ n) (hm : ∀ m, m < n → ¬ (q * 100).den ∣ 10 ^ m) (h2 : 2 ^ n ≤ (q * 100).den) (hx : x = (q * 100).num.natAbs * 10 ^ n / (q * 100).den) :
    Calls Tryz.prog 15 #[a0] w (RetSB (decT (ngB (q * 100).num) x n ++ [37]) true w) := by
  obtain ⟨u0, t0, rfl, s0, r0⟩ := h0
  obtain ⟨A0, c0, rfl, _⟩ := id s0
  obtain ⟨D0, e0, rfl, _⟩ := id r0
  obtain ⟨Q, hQ⟩ : ∃ Q, Q = q * 100 := ⟨_, rfl⟩
  have HQ : Hid (q * ((100 : Int) : Rat) = Q) := by show _ = _; rw [hQ]; rfl
  have LQ : lenQ Q 10 := by rw [← HQ.out]; exact lenQ_mul (m := 9) (n := 1) hl l100_
  rw [← hQ] at hd hm h2 hx ⊢
  have HD := Lib.hid hd
  have HM := Lib.hid hm
  have H2 := Lib.hid h2
  have HX := Lib.hid hx
  have hnb := ten_bits h2
  have hnl := nbits_len LQ.2
  have hlt := decT_len9 (b := ngB Q.num) (quot_len LQ.1 (by omega) hx) (show n ≤ 320 by omega)
  clear hd hm h2 hx hnb hnl hQ
  go_enter Tryz.func15, Tryz.ntmps15
  go_upto_region 1 with (fail)
  obtain ⟨wx, hwx, bb, B0, hsz⟩ := vars1 w 27 #[.bool (ngB (q).num), .slice A0 (digs 4294967296 (q).num.natAbs).length c0, .slice D0 (digs 4294967296 (q).den).length e0]
  rw [hwx]
  clear hwx
  have k0s := s0.below bb
  have k0d := r0.below bb
  have k0z : IsZ wx (.agg #[.bool (ngB (q).num), .slice A0 (digs 4294967296 (q).num.natAbs).length c0]) (q).num := ⟨_, rfl, k0s⟩
  have k0 : IsQ wx (.agg #[.bool (ngB (q).num), .slice A0 (digs 4294967296 (q).num.natAbs).length c0, .slice D0 (digs 4294967296 (q).den).length e0]) (q) := ⟨_, _, rfl, k0s, k0d⟩
  have hsz0 := bb.size
  have sB := bb.size
  refine flow 9 [Pd.eq (.agg #[.bool (ngB (q).num), .slice A0 (digs 4294967296 (q).num.natAbs).length c0, .slice D0 (digs 4294967296 (q).den).length e0]), pq (((100 : Int) : Rat)) wx.heap.size, pq (Q) wx.heap.size, Pd.eq (.tuple #[.string (ByteArray.mk (List.toArray (decT (ngB Q.num) x n : List UInt8))), .bool true]), Pd.eq (.tuple #[.string (ByteArray.mk (List.toArray (decT (ngB Q.num) x n : List UInt8))), .bool true]), Pd.eq (.string (ByteArray.mk (List.toArray (decT (ngB Q.num) x n : List UInt8)))), Pd.eq (.bool true), Pd.eq (.string (ByteArray.mk (List.toArray (decT (ngB Q.num) x n : List UInt8)))), Pd.eq (.bool true)] (by kernel_rfl) (by kernel_rfl) ?ob7 ?done7
  case ob7 =>
    refine And.intro (ob_load rfl (wt_none rfl) (ev_far rfl rfl) (fun w2 hb => run_loadAll Tryz.underlying27 rfl (by kernel_rfl) (B0.drew.below hb)) (fun _ _ => rfl)) ?_
    refine And.intro (ob_call1 rfl Tryz.func51 (by kernel_rfl) (wt_none rfl) (ev_const _) (fun w2 u0 hb h0 => by obtain rfl := h0; exact (of8_any 100 _ (by omega) (by omega)).mono fun e w3 h => RetQ.pd h hb.size)) ?_
    refine And.intro (ob_call2 rfl Tryz.func50 (by kernel_rfl) (wt_none rfl) (ev_dep (j := 0) (by kernel_rfl) rfl rfl) (ev_dep (j := 1) (by kernel_rfl) rfl rfl) (fun w2 u0 u1 hb h0 h1 => by obtain rfl := h0; exact (mul8_any _ q _ ((100 : Int) : Rat) _ (k0.drew.below hb) h1.1 (hl.mono (by decide)) (l100_.mono (by decide))).mono fun e w3 h => RetQ.pd (RetQ.to h HQ.out) hb.size)) ?_
    refine And.intro (ob_call1 rfl Tryz.func13 (by kernel_rfl) (wt_none rfl) (ev_dep (j := 2) (by kernel_rfl) rfl rfl) (fun w2 u0 hb h0 => by exact (fdec9_yes _ Q n x _ h0.1 LQ HD.out HM.out H2.out HX.out).mono fun e w3 h => RetSB.pd9 h)) ?_
    refine And.intro (ob_move rfl (wt_none rfl) (ev_dep (j := 3) (by kernel_rfl) rfl rfl) (fun _ _ h => h)) ?_
    refine And.intro (ob_extract rfl (wt_none rfl) (ev_dep (j := 4) (by kernel_rfl) rfl rfl) (fun w2 u hu => by obtain rfl := hu; exact ⟨_, rfl, rfl⟩)) ?_
    refine And.intro (ob_extract rfl (wt_none rfl) (ev_dep (j := 4) (by kernel_rfl) rfl rfl) (fun w2 u hu => by obtain rfl := hu; exact ⟨_, rfl, rfl⟩)) ?_
    refine And.intro (ob_assign rfl (wt_none rfl) (ev_dep (j := 5) (by kernel_rfl) rfl rfl) (fun _ _ h => h)) ?_
    refine And.intro (ob_assign rfl (wt_none rfl) (ev_dep (j := 6) (by kernel_rfl) rfl rfl) (fun _ _ h => h)) ?_
    trivial
  case done7 =>
    refine fun w1 hb1 v0 h0 v1 h1 v2 h2 v3 h3 v4 h4 v5 h5 v6 h6 v7 h7 v8 h8 b hbf => ?_
    obtain rfl := h0; obtain rfl := h3; obtain rfl := h4; obtain rfl := h5; obtain rfl := h6; obtain rfl := h7; obtain rfl := h8
    obtain ⟨q1, f1⟩ := h1
    obtain ⟨q2, f2⟩ := h2
    simp only [Act.put, List.setIfInBounds_toArray, List.set_cons_zero, List.set_cons_succ] at hbf
    subst hbf
    replace B0 := B0.below hb1
    replace k0s := k0s.below hb1
    replace k0d := k0d.below hb1
    replace k0z := k0z.below hb1
    replace k0 := k0.below hb1
    replace bb := bb.trans (hb1.mono bb.size)
    have hsz1 := bb.size
    have s_1 := sB
    have s_2 := sB
    refine any_done (by kernel_rfl) ?_
    have sB := bb.size
    go_upto_region 4 with (fail)
    refine flowp 4 [Pd.eq (.string (ByteArray.mk (List.toArray (decT (ngB Q.num) x n : List UInt8)))), Pd.eq (.string (ByteArray.mk (List.toArray ((decT (ngB Q.num) x n) ++ ([37]) : List UInt8)))), Pd.eq (.string (ByteArray.mk (List.toArray ((decT (ngB Q.num) x n) ++ ([37]) : List UInt8)))), Pd.eq (.bool true)] (by kernel_rfl) ?ob8 ?done8
    case ob8 =>
      refine And.intro (ob_move rfl (wt_none rfl) (ev_far rfl rfl) (fun _ _ h => h)) ?_
      refine And.intro (ob_bin rfl (wt_none rfl) (ev_dep (j := 0) (by kernel_rfl) rfl rfl) (ev_const _) (fun _ _ _ hx hy => ⟨.string (ByteArray.mk (List.toArray ((decT (ngB Q.num) x n) ++ ([37]) : List UInt8))), by rw [hx, hy]; exact bin_add_str _ _ (decT (ngB Q.num) x n) ([37]) (by first | omega | (simp; omega)) _, rfl⟩)) ?_
      refine And.intro (ob_assign rfl (wt_none rfl) (ev_dep (j := 1) (by kernel_rfl) rfl rfl) (fun _ _ h => h)) ?_
      refine And.intro (ob_assign rfl (wt_none rfl) (ev_const _) (fun _ _ h => h)) ?_
      trivial
    case done8 =>
      refine fun w2 hb2 v0 h0 v1 h1 v2 h2 v3 h3 b hbf => ?_
      obtain rfl := h0; obtain rfl := h1; obtain rfl := h2; obtain rfl := h3
      simp only [Act.put, List.setIfInBounds_toArray, List.set_cons_zero, List.set_cons_succ] at hbf
      subst hbf
      replace B0 := B0.below hb2
      replace k0s := k0s.below hb2
      replace k0d := k0d.below hb2
      replace k0z := k0z.below hb2
      replace k0 := k0.below hb2
      replace bb := bb.trans (hb2.mono bb.size)
      have hsz2 := bb.size
      refine ops_done ?_
      go_wp2
      go_ret2
      exact ⟨_, rfl, StrIs.mk _, bb⟩
set_option maxHeartbeats 1600000 in
set_option maxRecDepth 100000 in
theorem fpct9_no (a0 : Value) (q : Rat) (w : World) (h0 : IsQ w a0 q) (hl : lenQ q 9) (hm : ∀ m, ¬ (q * 100).den ∣ 10 ^ m) :
    Calls Tryz.prog 15 #[a0] w (RetSB [] false w) := by
  obtain ⟨u0, t0, rfl, s0, r0⟩ := h0
  obtain ⟨A0, c0, rfl, _⟩ := id s0
  obtain ⟨D0, e0, rfl, _⟩ := id r0
  obtain ⟨Q, hQ⟩ : ∃ Q, Q = q * 100 := ⟨_, rfl⟩
  have HQ : Hid (q * ((100 : Int) : Rat) = Q) := by show _ = _; rw [hQ]; rfl
  have LQ : lenQ Q 10 := by rw [← HQ.out]; exact lenQ_mul (m := 9) (n := 1) hl l100_
  rw [← hQ] at hm
  have HM := Lib.hid hm
  clear hm hQ
  go_enter Tryz.func15, Tryz.ntmps15
  go_upto_region 1 with (fail)
  obtain ⟨wx, hwx, bb, B0, hsz⟩ := vars1 w 27 #[.bool (ngB (q).num), .slice A0 (digs 4294967296 (q).num.natAbs).length c0, .slice D0 (digs 4294967296 (q).den).length e0]
  rw [hwx]
  clear hwx
  have k0s := s0.below bb
  have k0d := r0.below bb
  have k0z : IsZ wx (.agg #[.bool (ngB (q).num), .slice A0 (digs 4294967296 (q).num.natAbs).length c0]) (q).num := ⟨_, rfl, k0s⟩
  have k0 : IsQ wx (.agg #[.bool (ngB (q).num), .slice A0 (digs 4294967296 (q).num.natAbs).length c0, .slice D0 (digs 4294967296 (q).den).length e0]) (q) := ⟨_, _, rfl, k0s, k0d⟩
  have hsz0 := bb.size
  have sB := bb.size
  refine flow 9 [Pd.eq (.agg #[.bool (ngB (q).num), .slice A0 (digs 4294967296 (q).num.natAbs).length c0, .slice D0 (digs 4294967296 (q).den).length e0]), pq (((100 : Int) : Rat)) wx.heap.size, pq (Q) wx.heap.size, Pd.eq (.tuple #[.string (ByteArray.mk (List.toArray ([] : List UInt8))), .bool false]), Pd.eq (.tuple #[.string (ByteArray.mk (List.toArray ([] : List UInt8))), .bool false]), Pd.eq (.string (ByteArray.mk (List.toArray ([] : List UInt8)))), Pd.eq (.bool false), Pd.eq (.string (ByteArray.mk (List.toArray ([] : List UInt8)))), Pd.eq (.bool false)] (by kernel_rfl) (by kernel_rfl) ?ob9 ?done9
  case ob9 =>
    refine And.intro (ob_load rfl (wt_none rfl) (ev_far rfl rfl) (fun w2 hb => run_loadAll Tryz.underlying27 rfl (by kernel_rfl) (B0.drew.below hb)) (fun _ _ => rfl)) ?_
    refine And.intro (ob_call1 rfl Tryz.func51 (by kernel_rfl) (wt_none rfl) (ev_const _) (fun w2 u0 hb h0 => by obtain rfl := h0; exact (of8_any 100 _ (by omega) (by omega)).mono fun e w3 h => RetQ.pd h hb.size)) ?_
    refine And.intro (ob_call2 rfl Tryz.func50 (by kernel_rfl) (wt_none rfl) (ev_dep (j := 0) (by kernel_rfl) rfl rfl) (ev_dep (j := 1) (by kernel_rfl) rfl rfl) (fun w2 u0 u1 hb h0 h1 => by obtain rfl := h0; exact (mul8_any _ q _ ((100 : Int) : Rat) _ (k0.drew.below hb) h1.1 (hl.mono (by decide)) (l100_.mono (by decide))).mono fun e w3 h => RetQ.pd (RetQ.to h HQ.out) hb.size)) ?_
    refine And.intro (ob_call1 rfl Tryz.func13 (by kernel_rfl) (wt_none rfl) (ev_dep (j := 2) (by kernel_rfl) rfl rfl) (fun w2 u0 hb h0 => by exact (fdec9_no _ Q _ h0.1 LQ HM.out).mono fun e w3 h => RetSB.pd9 h)) ?_
    refine And.intro (ob_move rfl (wt_none rfl) (ev_dep (j := 3) (by kernel_rfl) rfl rfl) (fun _ _ h => h)) ?_
    refine And.intro (ob_extract rfl (wt_none rfl) (ev_dep (j := 4) (by kernel_rfl) rfl rfl) (fun w2 u hu => by obtain rfl := hu; exact ⟨_, rfl, rfl⟩)) ?_
    refine And.intro (ob_extract rfl (wt_none rfl) (ev_dep (j := 4) (by kernel_rfl) rfl rfl) (fun w2 u hu => by obtain rfl := hu; exact ⟨_, rfl, rfl⟩)) ?_
    refine And.intro (ob_assign rfl (wt_none rfl) (ev_dep (j := 5) (by kernel_rfl) rfl rfl) (fun _ _ h => h)) ?_
    refine And.intro (ob_assign rfl (wt_none rfl) (ev_dep (j := 6) (by kernel_rfl) rfl rfl) (fun _ _ h => h)) ?_
    trivial
  case done9 =>
    refine fun w1 hb1 v0 h0 v1 h1 v2 h2 v3 h3 v4 h4 v5 h5 v6 h6 v7 h7 v8 h8 b hbf => ?_
    obtain rfl := h0; obtain rfl := h3; obtain rfl := h4; obtain rfl := h5; obtain rfl := h6; obtain rfl := h7; obtain rfl := h8
    obtain ⟨q1, f1⟩ := h1
    obtain ⟨q2, f2⟩ := h2
    simp only [Act.put, List.setIfInBounds_toArray, List.set_cons_zero, List.set_cons_succ] at hbf
    subst hbf
    replace B0 := B0.below hb1
    replace k0s := k0s.below hb1
    replace k0d := k0d.below hb1
    replace k0z := k0z.below hb1
    replace k0 := k0.below hb1
    replace bb := bb.trans (hb1.mono bb.size)
    have hsz1 := bb.size
    have s_1 := sB
    have s_2 := sB
    refine any_done (by kernel_rfl) ?_
    go_wp2
    go_ret2
    exact ⟨_, rfl, StrIs.mk _, bb⟩
set_option maxHeartbeats 1600000 in
set_option maxRecDepth 100000 in
theorem parse9_ok_100 (l t : List UInt8) (X Y : Nat) (Q : Rat) (w : World) (hl : l.length ≤ 300) (hlt : t.length ≤ 300) (HB : Suf true l t) (HP : Hid (partsL t = (0, X, Y))) (hY : Y ≠ 0) (HQ0 : Hid (Rat.divInt ((X : Nat) : Int) (((Y * 100) : Nat) : Int) = Q)) :
    Calls Tryz.prog 6 #[.string (ByteArray.mk (List.toArray l))] w (RetQF Q 0 w) := by
  have hlx := (parts_len9 HP.out).1
  have hly := (parts_len9 HP.out).2
  have hlm := mul_len Y 100
  have hl1 : (digs 4294967296 100).length ≤ 1 := digs_len_le (k := 1) (by omega) (by omega)
  have HLN : Hid (lenZ ((X : Nat) : Int) ≤ 1000) := by show _ ≤ _; rw [lenD]; omega
  have HLD : Hid (lenZ (((Y * 100) : Nat) : Int) ≤ 1000) := by show _ ≤ _; rw [lenD]; omega
  have HN0 : Hid ((((Y * 100) : Nat) : Int) ≠ 0) := by show _ ≠ _; omega
  go_enter Tryz.func6, Tryz.ntmps6
  go_upto_region 1 with (fail)
  obtain ⟨wx, hwx, bb, BR0, hsz⟩ := vars1 w 27 #[.bool false, .slice none 0 0, .slice none 0 0]
  rw [hwx]
  clear hwx
  have hsz0 := bb.size
  go_wp2_with fail
  refine (suffix_any _ l t true _ (StrIs.mk l) (by omega) HB).mono ?_
  rintro e w1 ⟨T, rfl, hT, b1⟩
  replace BR0 := BR0.below b1
  replace bb := bb.trans (b1.mono bb.size)
  have hsz1 := bb.size
  go_wp2_with fail
  refine (parts_eq T t 0 X Y _ hT (by omega) HP.out).mono ?_
  rintro e w2 ⟨v, u, rfl, k1, k2, b2⟩
  obtain ⟨A1, c1, rfl, _⟩ := id k1
  obtain ⟨A2, c2, rfl, _⟩ := id k2
  replace BR0 := BR0.below b2
  replace bb := bb.trans (b2.mono bb.size)
  have hsz2 := bb.size
  go_wp2_with fail
  refine (small_any _ Y 100 0 100 0 _ k2 (by omega) rfl rfl (by omega) (by omega) (Y * 100) (by omega)).mono ?_
  rintro e w3 ⟨v3, rfl, k3, f3, b3⟩
  obtain ⟨A3, c3, rfl, _⟩ := id k3
  replace BR0 := BR0.below b3
  replace k1 := k1.below b3
  replace k2 := k2.below b3
  replace bb := bb.trans (b3.mono bb.size)
  have hsz3 := bb.size
  have sB := bb.size
  go_upto_region 7 with (fail)
  refine flowp 7 [Pd.eq (.slice A1 (digs 4294967296 X).length c1), pz (((X : Nat) : Int)) w3.heap.size, Pd.eq (.slice A3 (digs 4294967296 (Y * 100)).length c3), pz ((((Y * 100) : Nat) : Int)) w3.heap.size, pqf (Q) 0 w3.heap.size, pq (Q) w3.heap.size, Pd.eq (.int .i64 0)] (by kernel_rfl) ?ob10 ?done10
  case ob10 =>
    refine And.intro (ob_move rfl (wt_none rfl) (ev_far rfl rfl) (fun _ _ h => h)) ?_
    refine And.intro (ob_call2 rfl Tryz.func27 (by kernel_rfl) (wt_none rfl) (ev_const _) (ev_dep (j := 0) (by kernel_rfl) rfl rfl) (fun w2 u0 u1 hb h0 h1 => by obtain rfl := h0; obtain rfl := h1; exact (made_any false _ X _ _ (k1.below hb) (by omega) rfl).mono fun e w3 h => RetZ.pd h hb.size)) ?_
    refine And.intro (ob_move rfl (wt_none rfl) (ev_far rfl rfl) (fun _ _ h => h)) ?_
    refine And.intro (ob_call2 rfl Tryz.func27 (by kernel_rfl) (wt_none rfl) (ev_const _) (ev_dep (j := 2) (by kernel_rfl) rfl rfl) (fun w2 u0 u1 hb h0 h1 => by obtain rfl := h0; obtain rfl := h1; exact (made_any false _ (Y * 100) _ _ (k3.below hb) (by omega) rfl).mono fun e w3 h => RetZ.pd h hb.size)) ?_
    refine And.intro (ob_call2 rfl Tryz.func26 (by kernel_rfl) (wt_none rfl) (ev_dep (j := 1) (by kernel_rfl) rfl rfl) (ev_dep (j := 3) (by kernel_rfl) rfl rfl) (fun w2 u0 u1 hb h0 h1 => by exact (HQ0.out ▸ make8_ok _ ((X : Nat) : Int) _ (((Y * 100) : Nat) : Int) _ h0.1 h1.1 HLN.out HLD.out HN0.out).mono fun e w3 h => RetQF.pd h hb.size)) ?_
    refine And.intro (ob_extract rfl (wt_none rfl) (ev_dep (j := 4) (by kernel_rfl) rfl rfl) (fun w2 u hu => by obtain ⟨v, rfl, q1, q2⟩ := hu; exact ⟨v, rfl, q1, q2⟩)) ?_
    refine And.intro (ob_extract rfl (wt_none rfl) (ev_dep (j := 4) (by kernel_rfl) rfl rfl) (fun w2 u hu => by obtain ⟨v, rfl, q1, q2⟩ := hu; exact ⟨_, rfl, rfl⟩)) ?_
    trivial
  case done10 =>
    refine fun w4 hb4 v0 h0 v1 h1 v2 h2 v3 h3 v4 h4 v5 h5 v6 h6 b hbf => ?_
    obtain rfl := h0; obtain rfl := h2; obtain rfl := h6
    obtain ⟨q1, f1⟩ := h1
    obtain ⟨q3, f3⟩ := h3
    clear h4
    obtain ⟨q5, f5⟩ := h5
    simp only [Act.put, List.setIfInBounds_toArray, List.set_cons_zero, List.set_cons_succ] at hbf
    subst hbf
    replace BR0 := BR0.below hb4
    replace k1 := k1.below hb4
    replace k2 := k2.below hb4
    replace k3 := k3.below hb4
    replace bb := bb.trans (hb4.mono bb.size)
    have hsz4 := bb.size
    have s_1 := sB
    have s_3 := sB
    have s_5 := sB
    obtain ⟨u5, t5, rfl, q5, d5⟩ := q5
    obtain ⟨A9, c9, rfl, _⟩ := id q5
    obtain ⟨D9, e9, rfl, _⟩ := id d5
    have fS := (f5 _ _ _ rfl).1.mono s_5
    have fT := (f5 _ _ _ rfl).2.mono s_5
    refine ops_store (i := 7) rfl rfl rfl rfl rfl rfl (cells := [.bool (ngB (Q).num), .slice A9 (digs 4294967296 (Q).num.natAbs).length c9, .slice D9 (digs 4294967296 (Q).den).length e9]) rfl BR0 rfl (by kernel_rfl) (one3 rfl rfl rfl) fun w9 hg9 B9 => ?_
    have k9 := off q5 BR0 no_ints3 hg9
    have d9 := off d5 BR0 no_ints3 hg9
    have bb9 := bb.trans ((Below.refl _ _).grown hg9 bb.size (fun g hg => by injection hg with hg; omega))
    obtain ⟨C0, C1, C2, _, _, _⟩ := three B9
    refine ops_assign (i := 8) (.int .i64 0) rfl rfl rfl rfl rfl fun b hbf => ?_
    simp only [Act.put, List.setIfInBounds_toArray, List.set_cons_zero, List.set_cons_succ] at hbf
    subst hbf
    refine ops_done ?_
    go_wp2
    exact bodyPost_ret (v := .tuple #[.agg #[.bool (ngB (Q).num), .slice A9 (digs 4294967296 (Q).num.natAbs).length c9, .slice D9 (digs 4294967296 (Q).den).length e9], .int .i64 0]) (by simp [results, Tryz.results6, go_sem, C0, C1, C2]) rfl ⟨_, rfl, isQ_mk k9 d9 rfl rfl rfl, freshQ_mk fS fT, bb9⟩
set_option maxHeartbeats 1600000 in
set_option maxRecDepth 100000 in
theorem parse9_ok_1 (l t : List UInt8) (X Y : Nat) (Q : Rat) (w : World) (hl : l.length ≤ 300) (hlt : t.length ≤ 300) (HB : Suf false l t) (HP : Hid (partsL t = (0, X, Y))) (hY : Y ≠ 0) (HQ0 : Hid (Rat.divInt ((X : Nat) : Int) ((Y : Nat) : Int) = Q)) :
    Calls Tryz.prog 6 #[.string (ByteArray.mk (List.toArray l))] w (RetQF Q 0 w) := by
  have hlx := (parts_len9 HP.out).1
  have hly := (parts_len9 HP.out).2
  have hlm := mul_len Y 100
  have hl1 : (digs 4294967296 100).length ≤ 1 := digs_len_le (k := 1) (by omega) (by omega)
  have HLN : Hid (lenZ ((X : Nat) : Int) ≤ 1000) := by show _ ≤ _; rw [lenD]; omega
  have HLD : Hid (lenZ ((Y : Nat) : Int) ≤ 1000) := by show _ ≤ _; rw [lenD]; omega
  have HN0 : Hid (((Y : Nat) : Int) ≠ 0) := by show _ ≠ _; omega
  go_enter Tryz.func6, Tryz.ntmps6
  go_upto_region 1 with (fail)
  obtain ⟨wx, hwx, bb, BR0, hsz⟩ := vars1 w 27 #[.bool false, .slice none 0 0, .slice none 0 0]
  rw [hwx]
  clear hwx
  have hsz0 := bb.size
  go_wp2_with fail
  refine (suffix_any _ l t false _ (StrIs.mk l) (by omega) HB).mono ?_
  rintro e w1 ⟨T, rfl, hT, b1⟩
  replace BR0 := BR0.below b1
  replace bb := bb.trans (b1.mono bb.size)
  have hsz1 := bb.size
  go_wp2_with fail
  refine (parts_eq T t 0 X Y _ hT (by omega) HP.out).mono ?_
  rintro e w2 ⟨v, u, rfl, k1, k2, b2⟩
  obtain ⟨A1, c1, rfl, _⟩ := id k1
  obtain ⟨A2, c2, rfl, _⟩ := id k2
  replace BR0 := BR0.below b2
  replace bb := bb.trans (b2.mono bb.size)
  have hsz2 := bb.size
  have sB := bb.size
  go_upto_region 7 with (fail)
  refine flowp 7 [Pd.eq (.slice A1 (digs 4294967296 X).length c1), pz (((X : Nat) : Int)) w2.heap.size, Pd.eq (.slice A2 (digs 4294967296 Y).length c2), pz (((Y : Nat) : Int)) w2.heap.size, pqf (Q) 0 w2.heap.size, pq (Q) w2.heap.size, Pd.eq (.int .i64 0)] (by kernel_rfl) ?ob11 ?done11
  case ob11 =>
    refine And.intro (ob_move rfl (wt_none rfl) (ev_far rfl rfl) (fun _ _ h => h)) ?_
    refine And.intro (ob_call2 rfl Tryz.func27 (by kernel_rfl) (wt_none rfl) (ev_const _) (ev_dep (j := 0) (by kernel_rfl) rfl rfl) (fun w2 u0 u1 hb h0 h1 => by obtain rfl := h0; obtain rfl := h1; exact (made_any false _ X _ _ (k1.below hb) (by omega) rfl).mono fun e w3 h => RetZ.pd h hb.size)) ?_
    refine And.intro (ob_move rfl (wt_none rfl) (ev_far rfl rfl) (fun _ _ h => h)) ?_
    refine And.intro (ob_call2 rfl Tryz.func27 (by kernel_rfl) (wt_none rfl) (ev_const _) (ev_dep (j := 2) (by kernel_rfl) rfl rfl) (fun w2 u0 u1 hb h0 h1 => by obtain rfl := h0; obtain rfl := h1; exact (made_any false _ Y _ _ (k2.below hb) (by omega) rfl).mono fun e w3 h => RetZ.pd h hb.size)) ?_
    refine And.intro (ob_call2 rfl Tryz.func26 (by kernel_rfl) (wt_none rfl) (ev_dep (j := 1) (by kernel_rfl) rfl rfl) (ev_dep (j := 3) (by kernel_rfl) rfl rfl) (fun w2 u0 u1 hb h0 h1 => by exact (HQ0.out ▸ make8_ok _ ((X : Nat) : Int) _ ((Y : Nat) : Int) _ h0.1 h1.1 HLN.out HLD.out HN0.out).mono fun e w3 h => RetQF.pd h hb.size)) ?_
    refine And.intro (ob_extract rfl (wt_none rfl) (ev_dep (j := 4) (by kernel_rfl) rfl rfl) (fun w2 u hu => by obtain ⟨v, rfl, q1, q2⟩ := hu; exact ⟨v, rfl, q1, q2⟩)) ?_
    refine And.intro (ob_extract rfl (wt_none rfl) (ev_dep (j := 4) (by kernel_rfl) rfl rfl) (fun w2 u hu => by obtain ⟨v, rfl, q1, q2⟩ := hu; exact ⟨_, rfl, rfl⟩)) ?_
    trivial
  case done11 =>
    refine fun w3 hb3 v0 h0 v1 h1 v2 h2 v3 h3 v4 h4 v5 h5 v6 h6 b hbf => ?_
    obtain rfl := h0; obtain rfl := h2; obtain rfl := h6
    obtain ⟨q1, f1⟩ := h1
    obtain ⟨q3, f3⟩ := h3
    clear h4
    obtain ⟨q5, f5⟩ := h5
    simp only [Act.put, List.setIfInBounds_toArray, List.set_cons_zero, List.set_cons_succ] at hbf
    subst hbf
    replace BR0 := BR0.below hb3
    replace k1 := k1.below hb3
    replace k2 := k2.below hb3
    replace bb := bb.trans (hb3.mono bb.size)
    have hsz3 := bb.size
    have s_1 := sB
    have s_3 := sB
    have s_5 := sB
    obtain ⟨u5, t5, rfl, q5, d5⟩ := q5
    obtain ⟨A9, c9, rfl, _⟩ := id q5
    obtain ⟨D9, e9, rfl, _⟩ := id d5
    have fS := (f5 _ _ _ rfl).1.mono s_5
    have fT := (f5 _ _ _ rfl).2.mono s_5
    refine ops_store (i := 7) rfl rfl rfl rfl rfl rfl (cells := [.bool (ngB (Q).num), .slice A9 (digs 4294967296 (Q).num.natAbs).length c9, .slice D9 (digs 4294967296 (Q).den).length e9]) rfl BR0 rfl (by kernel_rfl) (one3 rfl rfl rfl) fun w9 hg9 B9 => ?_
    have k9 := off q5 BR0 no_ints3 hg9
    have d9 := off d5 BR0 no_ints3 hg9
    have bb9 := bb.trans ((Below.refl _ _).grown hg9 bb.size (fun g hg => by injection hg with hg; omega))
    obtain ⟨C0, C1, C2, _, _, _⟩ := three B9
    refine ops_assign (i := 8) (.int .i64 0) rfl rfl rfl rfl rfl fun b hbf => ?_
    simp only [Act.put, List.setIfInBounds_toArray, List.set_cons_zero, List.set_cons_succ] at hbf
    subst hbf
    refine ops_done ?_
    go_wp2
    exact bodyPost_ret (v := .tuple #[.agg #[.bool (ngB (Q).num), .slice A9 (digs 4294967296 (Q).num.natAbs).length c9, .slice D9 (digs 4294967296 (Q).den).length e9], .int .i64 0]) (by simp [results, Tryz.results6, go_sem, C0, C1, C2]) rfl ⟨_, rfl, isQ_mk k9 d9 rfl rfl rfl, freshQ_mk fS fT, bb9⟩
set_option maxHeartbeats 1600000 in
set_option maxRecDepth 100000 in
theorem parse9_text_100 (l t : List UInt8) (X Y : Nat) (w : World) (hl : l.length ≤ 300) (hlt : t.length ≤ 300) (HB : Suf true l t) (HP : Hid (partsL t = (5, X, Y))) :
    Calls Tryz.prog 6 #[.string (ByteArray.mk (List.toArray l))] w (RetQN 5 w) := by
  have hlx := (parts_len9 HP.out).1
  have hly := (parts_len9 HP.out).2
  have hlm := mul_len Y 100
  have hl1 : (digs 4294967296 100).length ≤ 1 := digs_len_le (k := 1) (by omega) (by omega)
  go_enter Tryz.func6, Tryz.ntmps6
  go_upto_region 1 with (fail)
  obtain ⟨wx, hwx, bb, BR0, hsz⟩ := vars1 w 27 #[.bool false, .slice none 0 0, .slice none 0 0]
  rw [hwx]
  clear hwx
  have hsz0 := bb.size
  go_wp2_with fail
  refine (suffix_any _ l t true _ (StrIs.mk l) (by omega) HB).mono ?_
  rintro e w1 ⟨T, rfl, hT, b1⟩
  replace BR0 := BR0.below b1
  replace bb := bb.trans (b1.mono bb.size)
  have hsz1 := bb.size
  go_wp2_with fail
  refine (parts_eq T t 5 X Y _ hT (by omega) HP.out).mono ?_
  rintro e w2 ⟨v, u, rfl, k1, k2, b2⟩
  obtain ⟨A1, c1, rfl, _⟩ := id k1
  obtain ⟨A2, c2, rfl, _⟩ := id k2
  replace BR0 := BR0.below b2
  replace bb := bb.trans (b2.mono bb.size)
  have hsz2 := bb.size
  have sB := bb.size
  go_upto_region 4 with (fail)
  refine flowp 2 [Pd.eq (.agg #[.bool false, .slice none 0 0, .slice none 0 0]), Pd.eq (.int .i64 5)] (by kernel_rfl) ?ob12 ?done12
  case ob12 =>
    refine And.intro (ob_build0 (v := .agg #[.bool false, .slice none 0 0, .slice none 0 0]) rfl (wt_none rfl) (fun _ => by kernel_rfl) (fun _ => rfl)) ?_
    refine And.intro (ob_move rfl (wt_none rfl) (ev_far rfl rfl) (fun _ _ h => h)) ?_
    trivial
  case done12 =>
    refine fun w3 hb3 v0 h0 v1 h1 b hbf => ?_
    obtain rfl := h0; obtain rfl := h1
    simp only [Act.put, List.setIfInBounds_toArray, List.set_cons_zero, List.set_cons_succ] at hbf
    subst hbf
    replace BR0 := BR0.below hb3
    replace bb := bb.trans (hb3.mono bb.size)
    have hsz3 := bb.size
    refine ops_store (i := 2) rfl rfl rfl rfl rfl rfl (cells := [.bool false, .slice none 0 0, .slice none 0 0]) rfl BR0 rfl (by kernel_rfl) (one3 rfl rfl rfl) fun w9 hg9 B9 => ?_
    have bb9 := bb.trans ((Below.refl _ _).grown hg9 bb.size (fun g hg => by injection hg with hg; omega))
    obtain ⟨C0, C1, C2, _, _, _⟩ := three B9
    refine ops_assign (i := 3) (.int .i64 5) rfl rfl rfl rfl rfl fun b hbf => ?_
    simp only [Act.put, List.setIfInBounds_toArray, List.set_cons_zero, List.set_cons_succ] at hbf
    subst hbf
    refine ops_done ?_
    go_wp2
    exact bodyPost_ret (v := .tuple #[.agg #[.bool false, .slice none 0 0, .slice none 0 0], .int .i64 5]) (by simp [results, Tryz.results6, go_sem, C0, C1, C2]) rfl ⟨rfl, bb9⟩
set_option maxHeartbeats 1600000 in
set_option maxRecDepth 100000 in
theorem parse9_text_1 (l t : List UInt8) (X Y : Nat) (w : World) (hl : l.length ≤ 300) (hlt : t.length ≤ 300) (HB : Suf false l t) (HP : Hid (partsL t = (5, X, Y))) :
    Calls Tryz.prog 6 #[.string (ByteArray.mk (List.toArray l))] w (RetQN 5 w) := by
  have hlx := (parts_len9 HP.out).1
  have hly := (parts_len9 HP.out).2
  have hlm := mul_len Y 100
  have hl1 : (digs 4294967296 100).length ≤ 1 := digs_len_le (k := 1) (by omega) (by omega)
  go_enter Tryz.func6, Tryz.ntmps6
  go_upto_region 1 with (fail)
  obtain ⟨wx, hwx, bb, BR0, hsz⟩ := vars1 w 27 #[.bool false, .slice none 0 0, .slice none 0 0]
  rw [hwx]
  clear hwx
  have hsz0 := bb.size
  go_wp2_with fail
  refine (suffix_any _ l t false _ (StrIs.mk l) (by omega) HB).mono ?_
  rintro e w1 ⟨T, rfl, hT, b1⟩
  replace BR0 := BR0.below b1
  replace bb := bb.trans (b1.mono bb.size)
  have hsz1 := bb.size
  go_wp2_with fail
  refine (parts_eq T t 5 X Y _ hT (by omega) HP.out).mono ?_
  rintro e w2 ⟨v, u, rfl, k1, k2, b2⟩
  obtain ⟨A1, c1, rfl, _⟩ := id k1
  obtain ⟨A2, c2, rfl, _⟩ := id k2
  replace BR0 := BR0.below b2
  replace bb := bb.trans (b2.mono bb.size)
  have hsz2 := bb.size
  have sB := bb.size
  go_upto_region 4 with (fail)
  refine flowp 2 [Pd.eq (.agg #[.bool false, .slice none 0 0, .slice none 0 0]), Pd.eq (.int .i64 5)] (by kernel_rfl) ?ob13 ?done13
  case ob13 =>
    refine And.intro (ob_build0 (v := .agg #[.bool false, .slice none 0 0, .slice none 0 0]) rfl (wt_none rfl) (fun _ => by kernel_rfl) (fun _ => rfl)) ?_
    refine And.intro (ob_move rfl (wt_none rfl) (ev_far rfl rfl) (fun _ _ h => h)) ?_
    trivial
  case done13 =>
    refine fun w3 hb3 v0 h0 v1 h1 b hbf => ?_
    obtain rfl := h0; obtain rfl := h1
    simp only [Act.put, List.setIfInBounds_toArray, List.set_cons_zero, List.set_cons_succ] at hbf
    subst hbf
    replace BR0 := BR0.below hb3
    replace bb := bb.trans (hb3.mono bb.size)
    have hsz3 := bb.size
    refine ops_store (i := 2) rfl rfl rfl rfl rfl rfl (cells := [.bool false, .slice none 0 0, .slice none 0 0]) rfl BR0 rfl (by kernel_rfl) (one3 rfl rfl rfl) fun w9 hg9 B9 => ?_
    have bb9 := bb.trans ((Below.refl _ _).grown hg9 bb.size (fun g hg => by injection hg with hg; omega))
    obtain ⟨C0, C1, C2, _, _, _⟩ := three B9
    refine ops_assign (i := 3) (.int .i64 5) rfl rfl rfl rfl rfl fun b hbf => ?_
    simp only [Act.put, List.setIfInBounds_toArray, List.set_cons_zero, List.set_cons_succ] at hbf
    subst hbf
    refine ops_done ?_
    go_wp2
    exact bodyPost_ret (v := .tuple #[.agg #[.bool false, .slice none 0 0, .slice none 0 0], .int .i64 5]) (by simp [results, Tryz.results6, go_sem, C0, C1, C2]) rfl ⟨rfl, bb9⟩
set_option maxHeartbeats 1600000 in
set_option maxRecDepth 100000 in
theorem parse9_zero_100 (l t : List UInt8) (X Y : Nat) (w : World) (hl : l.length ≤ 300) (hlt : t.length ≤ 300) (HB : Suf true l t) (HP : Hid (partsL t = (0, X, Y))) (hY : Y = 0) :
    Calls Tryz.prog 6 #[.string (ByteArray.mk (List.toArray l))] w (RetQN 3 w) := by
  have hlx := (parts_len9 HP.out).1
  have hly := (parts_len9 HP.out).2
  have hlm := mul_len Y 100
  have hl1 : (digs 4294967296 100).length ≤ 1 := digs_len_le (k := 1) (by omega) (by omega)
  have HN0 : Hid ((((Y * 100) : Nat) : Int) = 0) := by show _ = _; omega
  clear hY
  go_enter Tryz.func6, Tryz.ntmps6
  go_upto_region 1 with (fail)
  obtain ⟨wx, hwx, bb, BR0, hsz⟩ := vars1 w 27 #[.bool false, .slice none 0 0, .slice none 0 0]
  rw [hwx]
  clear hwx
  have hsz0 := bb.size
  go_wp2_with fail
  refine (suffix_any _ l t true _ (StrIs.mk l) (by omega) HB).mono ?_
  rintro e w1 ⟨T, rfl, hT, b1⟩
  replace BR0 := BR0.below b1
  replace bb := bb.trans (b1.mono bb.size)
  have hsz1 := bb.size
  go_wp2_with fail
  refine (parts_eq T t 0 X Y _ hT (by omega) HP.out).mono ?_
  rintro e w2 ⟨v, u, rfl, k1, k2, b2⟩
  obtain ⟨A1, c1, rfl, _⟩ := id k1
  obtain ⟨A2, c2, rfl, _⟩ := id k2
  replace BR0 := BR0.below b2
  replace bb := bb.trans (b2.mono bb.size)
  have hsz2 := bb.size
  go_wp2_with fail
  refine (small_any _ Y 100 0 100 0 _ k2 (by omega) rfl rfl (by omega) (by omega) (Y * 100) (by omega)).mono ?_
  rintro e w3 ⟨v3, rfl, k3, f3, b3⟩
  obtain ⟨A3, c3, rfl, _⟩ := id k3
  replace BR0 := BR0.below b3
  replace k1 := k1.below b3
  replace k2 := k2.below b3
  replace bb := bb.trans (b3.mono bb.size)
  have hsz3 := bb.size
  have sB := bb.size
  go_upto_region 7 with (fail)
  refine flowp 7 [Pd.eq (.slice A1 (digs 4294967296 X).length c1), pz (((X : Nat) : Int)) w3.heap.size, Pd.eq (.slice A3 (digs 4294967296 (Y * 100)).length c3), pz ((((Y * 100) : Nat) : Int)) w3.heap.size, Pd.eq (.tuple #[.agg #[.bool false, .slice none 0 0, .slice none 0 0], .int .i64 3]), Pd.eq (.agg #[.bool false, .slice none 0 0, .slice none 0 0]), Pd.eq (.int .i64 3)] (by kernel_rfl) ?ob14 ?done14
  case ob14 =>
    refine And.intro (ob_move rfl (wt_none rfl) (ev_far rfl rfl) (fun _ _ h => h)) ?_
    refine And.intro (ob_call2 rfl Tryz.func27 (by kernel_rfl) (wt_none rfl) (ev_const _) (ev_dep (j := 0) (by kernel_rfl) rfl rfl) (fun w2 u0 u1 hb h0 h1 => by obtain rfl := h0; obtain rfl := h1; exact (made_any false _ X _ _ (k1.below hb) (by omega) rfl).mono fun e w3 h => RetZ.pd h hb.size)) ?_
    refine And.intro (ob_move rfl (wt_none rfl) (ev_far rfl rfl) (fun _ _ h => h)) ?_
    refine And.intro (ob_call2 rfl Tryz.func27 (by kernel_rfl) (wt_none rfl) (ev_const _) (ev_dep (j := 2) (by kernel_rfl) rfl rfl) (fun w2 u0 u1 hb h0 h1 => by obtain rfl := h0; obtain rfl := h1; exact (made_any false _ (Y * 100) _ _ (k3.below hb) (by omega) rfl).mono fun e w3 h => RetZ.pd h hb.size)) ?_
    refine And.intro (ob_call2 rfl Tryz.func26 (by kernel_rfl) (wt_none rfl) (ev_dep (j := 1) (by kernel_rfl) rfl rfl) (ev_dep (j := 3) (by kernel_rfl) rfl rfl) (fun w2 u0 u1 hb h0 h1 => by exact (fmake_zero _ ((X : Nat) : Int) _ (((Y * 100) : Nat) : Int) _ h0.1 h1.1 HN0.out).mono fun e w3 h => RetQN.pd h)) ?_
    refine And.intro (ob_extract rfl (wt_none rfl) (ev_dep (j := 4) (by kernel_rfl) rfl rfl) (fun w2 u hu => by obtain rfl := hu; exact ⟨_, rfl, rfl⟩)) ?_
    refine And.intro (ob_extract rfl (wt_none rfl) (ev_dep (j := 4) (by kernel_rfl) rfl rfl) (fun w2 u hu => by obtain rfl := hu; exact ⟨_, rfl, rfl⟩)) ?_
    trivial
  case done14 =>
    refine fun w4 hb4 v0 h0 v1 h1 v2 h2 v3 h3 v4 h4 v5 h5 v6 h6 b hbf => ?_
    obtain rfl := h0; obtain rfl := h2; obtain rfl := h4; obtain rfl := h5; obtain rfl := h6
    obtain ⟨q1, f1⟩ := h1
    obtain ⟨q3, f3⟩ := h3
    simp only [Act.put, List.setIfInBounds_toArray, List.set_cons_zero, List.set_cons_succ] at hbf
    subst hbf
    replace BR0 := BR0.below hb4
    replace k1 := k1.below hb4
    replace k2 := k2.below hb4
    replace k3 := k3.below hb4
    replace bb := bb.trans (hb4.mono bb.size)
    have hsz4 := bb.size
    have s_1 := sB
    have s_3 := sB
    refine ops_store (i := 7) rfl rfl rfl rfl rfl rfl (cells := [.bool false, .slice none 0 0, .slice none 0 0]) rfl BR0 rfl (by kernel_rfl) (one3 rfl rfl rfl) fun w9 hg9 B9 => ?_
    have bb9 := bb.trans ((Below.refl _ _).grown hg9 bb.size (fun g hg => by injection hg with hg; omega))
    obtain ⟨C0, C1, C2, _, _, _⟩ := three B9
    refine ops_assign (i := 8) (.int .i64 3) rfl rfl rfl rfl rfl fun b hbf => ?_
    simp only [Act.put, List.setIfInBounds_toArray, List.set_cons_zero, List.set_cons_succ] at hbf
    subst hbf
    refine ops_done ?_
    go_wp2
    exact bodyPost_ret (v := .tuple #[.agg #[.bool false, .slice none 0 0, .slice none 0 0], .int .i64 3]) (by simp [results, Tryz.results6, go_sem, C0, C1, C2]) rfl ⟨rfl, bb9⟩
set_option maxHeartbeats 1600000 in
set_option maxRecDepth 100000 in
theorem parse9_zero_1 (l t : List UInt8) (X Y : Nat) (w : World) (hl : l.length ≤ 300) (hlt : t.length ≤ 300) (HB : Suf false l t) (HP : Hid (partsL t = (0, X, Y))) (hY : Y = 0) :
    Calls Tryz.prog 6 #[.string (ByteArray.mk (List.toArray l))] w (RetQN 3 w) := by
  have hlx := (parts_len9 HP.out).1
  have hly := (parts_len9 HP.out).2
  have hlm := mul_len Y 100
  have hl1 : (digs 4294967296 100).length ≤ 1 := digs_len_le (k := 1) (by omega) (by omega)
  have HN0 : Hid (((Y : Nat) : Int) = 0) := by show _ = _; omega
  clear hY
  go_enter Tryz.func6, Tryz.ntmps6
  go_upto_region 1 with (fail)
  obtain ⟨wx, hwx, bb, BR0, hsz⟩ := vars1 w 27 #[.bool false, .slice none 0 0, .slice none 0 0]
  rw [hwx]
  clear hwx
  have hsz0 := bb.size
  go_wp2_with fail
  refine (suffix_any _ l t false _ (StrIs.mk l) (by omega) HB).mono ?_
  rintro e w1 ⟨T, rfl, hT, b1⟩
  replace BR0 := BR0.below b1
  replace bb := bb.trans (b1.mono bb.size)
  have hsz1 := bb.size
  go_wp2_with fail
  refine (parts_eq T t 0 X Y _ hT (by omega) HP.out).mono ?_
  rintro e w2 ⟨v, u, rfl, k1, k2, b2⟩
  obtain ⟨A1, c1, rfl, _⟩ := id k1
  obtain ⟨A2, c2, rfl, _⟩ := id k2
  replace BR0 := BR0.below b2
  replace bb := bb.trans (b2.mono bb.size)
  have hsz2 := bb.size
  have sB := bb.size
  go_upto_region 7 with (fail)
  refine flowp 7 [Pd.eq (.slice A1 (digs 4294967296 X).length c1), pz (((X : Nat) : Int)) w2.heap.size, Pd.eq (.slice A2 (digs 4294967296 Y).length c2), pz (((Y : Nat) : Int)) w2.heap.size, Pd.eq (.tuple #[.agg #[.bool false, .slice none 0 0, .slice none 0 0], .int .i64 3]), Pd.eq (.agg #[.bool false, .slice none 0 0, .slice none 0 0]), Pd.eq (.int .i64 3)] (by kernel_rfl) ?ob15 ?done15
  case ob15 =>
    refine And.intro (ob_move rfl (wt_none rfl) (ev_far rfl rfl) (fun _ _ h => h)) ?_
    refine And.intro (ob_call2 rfl Tryz.func27 (by kernel_rfl) (wt_none rfl) (ev_const _) (ev_dep (j := 0) (by kernel_rfl) rfl rfl) (fun w2 u0 u1 hb h0 h1 => by obtain rfl := h0; obtain rfl := h1; exact (made_any false _ X _ _ (k1.below hb) (by omega) rfl).mono fun e w3 h => RetZ.pd h hb.size)) ?_
    refine And.intro (ob_move rfl (wt_none rfl) (ev_far rfl rfl) (fun _ _ h => h)) ?_
    refine And.intro (ob_call2 rfl Tryz.func27 (by kernel_rfl) (wt_none rfl) (ev_const _) (ev_dep (j := 2) (by kernel_rfl) rfl rfl) (fun w2 u0 u1 hb h0 h1 => by obtain rfl := h0; obtain rfl := h1; exact (made_any false _ Y _ _ (k2.below hb) (by omega) rfl).mono fun e w3 h => RetZ.pd h hb.size)) ?_
    refine And.intro (ob_call2 rfl Tryz.func26 (by kernel_rfl) (wt_none rfl) (ev_dep (j := 1) (by kernel_rfl) rfl rfl) (ev_dep (j := 3) (by kernel_rfl) rfl rfl) (fun w2 u0 u1 hb h0 h1 => by exact (fmake_zero _ ((X : Nat) : Int) _ ((Y : Nat) : Int) _ h0.1 h1.1 HN0.out).mono fun e w3 h => RetQN.pd h)) ?_
    refine And.intro (ob_extract rfl (wt_none rfl) (ev_dep (j := 4) (by kernel_rfl) rfl rfl) (fun w2 u hu => by obtain rfl := hu; exact ⟨_, rfl, rfl⟩)) ?_
    refine And.intro (ob_extract rfl (wt_none rfl) (ev_dep (j := 4) (by kernel_rfl) rfl rfl) (fun w2 u hu => by obtain rfl := hu; exact ⟨_, rfl, rfl⟩)) ?_
    trivial
  case done15 =>
    refine fun w3 hb3 v0 h0 v1 h1 v2 h2 v3 h3 v4 h4 v5 h5 v6 h6 b hbf => ?_
    obtain rfl := h0; obtain rfl := h2; obtain rfl := h4; obtain rfl := h5; obtain rfl := h6
    obtain ⟨q1, f1⟩ := h1
    obtain ⟨q3, f3⟩ := h3
    simp only [Act.put, List.setIfInBounds_toArray, List.set_cons_zero, List.set_cons_succ] at hbf
    subst hbf
    replace BR0 := BR0.below hb3
    replace k1 := k1.below hb3
    replace k2 := k2.below hb3
    replace bb := bb.trans (hb3.mono bb.size)
    have hsz3 := bb.size
    have s_1 := sB
    have s_3 := sB
    refine ops_store (i := 7) rfl rfl rfl rfl rfl rfl (cells := [.bool false, .slice none 0 0, .slice none 0 0]) rfl BR0 rfl (by kernel_rfl) (one3 rfl rfl rfl) fun w9 hg9 B9 => ?_
    have bb9 := bb.trans ((Below.refl _ _).grown hg9 bb.size (fun g hg => by injection hg with hg; omega))
    obtain ⟨C0, C1, C2, _, _, _⟩ := three B9
    refine ops_assign (i := 8) (.int .i64 3) rfl rfl rfl rfl rfl fun b hbf => ?_
    simp only [Act.put, List.setIfInBounds_toArray, List.set_cons_zero, List.set_cons_succ] at hbf
    subst hbf
    refine ops_done ?_
    go_wp2
    exact bodyPost_ret (v := .tuple #[.agg #[.bool false, .slice none 0 0, .slice none 0 0], .int .i64 3]) (by simp [results, Tryz.results6, go_sem, C0, C1, C2]) rfl ⟨rfl, bb9⟩
theorem suf_or (l : List UInt8) : Suf true l l.dropLast ∨ Suf false l l := by
  by_cases h : l.getLast? = some 37
  · exact .inl (.inl ⟨rfl, h, rfl⟩)
  · exact .inr (.inr ⟨rfl, h, rfl⟩)
theorem read_suf1 {l t : List UInt8} (h : Suf true l t) : readQ l = readP 100 t := by
  rcases h with ⟨_, h1, rfl⟩ | ⟨h, _⟩
  · rw [read_last h1, List.dropLast_eq_take]
  · cases h
theorem read_suf0 {l t : List UInt8} (h : Suf false l t) : readQ l = readP 1 t := by
  rcases h with ⟨h, _⟩ | ⟨_, h1, rfl⟩
  · cases h
  · exact read_plain h1
theorem dropLast_le (l : List UInt8) : l.dropLast.length ≤ l.length := by rw [List.length_dropLast]; omega
theorem fparse9_ok (l : List UInt8) (q : Rat) (w : World) (hl : l.length ≤ 300) (h : readQ l = (0, q)) : Calls Tryz.prog 6 #[.string (ByteArray.mk (List.toArray l))] w (RetQF q 0 w) := by
  have key : ∀ (t : List UInt8) (n : Nat), n ≠ 0 → readP n t = (0, q) → ∃ X Y, partsL t = (0, X, Y) ∧ Y ≠ 0 ∧ Rat.divInt ((X : Nat) : Int) ((Y * n : Nat) : Int) = q := by
    intro t n hn h
    rw [readP_parts hn] at h
    rcases hp : partsL t with ⟨e, X, Y⟩
    rw [hp] at h
    by_cases he : e = 0
    · subst he
      rw [if_pos rfl] at h
      by_cases hy : Y = 0
      · rw [if_pos hy] at h; injection h with h _; cases h
      · rw [if_neg hy] at h
        injection h with _ h
        exact ⟨X, Y, rfl, hy, h⟩
    · rw [if_neg he] at h; injection h with h _; cases h
  rcases suf_or l with hb | hb
  · rw [read_suf1 hb] at h
    obtain ⟨X, Y, hp, hy, hq⟩ := key _ 100 (by omega) h
    exact parse9_ok_100 l _ X Y q w hl (Nat.le_trans (dropLast_le l) hl) hb hp hy hq
  · rw [read_suf0 hb] at h
    obtain ⟨X, Y, hp, hy, hq⟩ := key _ 1 (by omega) h
    exact parse9_ok_1 l _ X Y q w hl hl hb hp hy (by rw [Nat.mul_one] at hq; exact hq)
theorem fparse9_no (l : List UInt8) (n : Int) (w : World) (hl : l.length ≤ 300) (h : (readQ l).1 = n) (hn : n ≠ 0) : Calls Tryz.prog 6 #[.string (ByteArray.mk (List.toArray l))] w (RetQN n w) := by
  have key : ∀ (t : List UInt8) (k : Nat), k ≠ 0 → (readP k t).1 = n → (partsL t = (5, 0, 0) ∧ n = 5) ∨ ∃ X, partsL t = (0, X, 0) ∧ n = 3 := by
    intro t k hk h
    rw [readP_parts hk] at h
    rcases parts_e t with he | he
    · rw [if_pos he] at h
      rcases hp : partsL t with ⟨e, X, Y⟩
      rw [hp] at h he
      obtain rfl : e = 0 := he
      by_cases hy : Y = 0
      · subst hy
        rw [if_pos rfl] at h
        exact .inr ⟨X, rfl, h.symm⟩
      · rw [if_neg hy] at h
        exact absurd h.symm hn
    · rw [he] at h
      exact .inl ⟨he, h.symm⟩
  rcases suf_or l with hb | hb
  · rw [read_suf1 hb] at h
    rcases key _ 100 (by omega) h with ⟨hp, rfl⟩ | ⟨X, hp, rfl⟩
    · exact parse9_text_100 l _ 0 0 w hl (Nat.le_trans (dropLast_le l) hl) hb hp
    · exact parse9_zero_100 l _ X 0 w hl (Nat.le_trans (dropLast_le l) hl) hb hp rfl
  · rw [read_suf0 hb] at h
    rcases key _ 1 (by omega) h with ⟨hp, rfl⟩ | ⟨X, hp, rfl⟩
    · exact parse9_text_1 l _ 0 0 w hl hl hb hp
    · exact parse9_zero_1 l _ X 0 w hl hl hb hp rfl
end Go.Proofs.YtpcllhdfalebbaaGreatDoor.rto
namespace Go.Proofs.YtpcllhdfalebbaaGreatDoor.flow
open Go.RowKit Go.Proofs.YtpcllhdfalebbaaGreatDoor.num Go.Proofs.YtpcllhdfalebbaaGreatDoor.mem Go.Proofs.YtpcllhdfalebbaaGreatDoor.nat Go.Proofs.YtpcllhdfalebbaaGreatDoor.txt Go.Proofs.YtpcllhdfalebbaaGreatDoor.str
set_option linter.unusedVariables false
section
variable {P : Program} {Q : Exit → Act → World → Prop} {ops : Array Oper} {o : Oper}
theorem ops_store_at {i : Nat} {rest : List Nat} {a : Act} {w : World} {ty : TypeId} {x y : Operand} {g p : Nat} {v : Value} {cs : Array Value} {e : TypeId} (ho : ops[i]? = some o) (hg : o.guard = none) (hd : o.dst = none) (hop : o.op = .store ty x y)
    (hx : a.eval x = .pointer (some ⟨g, p, none⟩)) (hy : a.eval y = v) (hv : v.cells = #[v]) (h1 : v.oneCell' = true) (hB : w.heap[g]? = some (.cells cs e (0, 0))) (hp : p < cs.size) (hi : (P.info? ty).map (·.size) = some 1)
    (h : ∀ w', w.grownBy w' (some g) → w'.heap[g]? = some (.cells (cs.setIfInBounds p v) e (0, 0)) → wpOps P ops Q rest a w') : wpOps P ops Q (i :: rest) a w :=
  ops_one ho hg (wp_store_at hd hop hx hy hv h1 hB hp hi h)
end
section
variable {P : Program} {Q : Exit → Act → World → Prop} {ops : Array Oper} {L : List Oper} {Φ : List Pd} {w0 : World} {a0 : Act} {i : Nat} {o : Oper}
theorem ob_indexAddr {t : TypeId} {x y : Operand} {F G : World → Value → Prop} (hop : o.op = .indexAddr t x y) (hw : Wt ops L Φ w0 a0 o true) (hx : Ev L Φ w0 a0 o x F) (hy : Ev L Φ w0 a0 o y G)
    (hr : ∀ w u v, F w u → G w v → ∃ r, (Instr.indexAt t u v).run P w = .ok r w ∧ (ph Φ i).p w r) : Ob P Q ops L Φ w0 a0 i o :=
  ob_val hw (by unfold isA; rw [hop]) fun ms w hS => by
    obtain ⟨v, h1, h2⟩ := hr w _ _ (hx ms w hS) (hy ms w hS)
    exact ⟨v, by unfold execOp; simp only [hop, Sem.run_bind, h1]; rfl, h2⟩
theorem index_row {t e : TypeId} (hu : P.underlying t = some (.slice e)) (hs : (P.info? e).map (·.size) = some 1) (ad : Addr) {n c k : Nat} (hk : k < n) (w : World) : (Instr.indexAt t (.slice (some ad) n c) (.int .i64 (k : Int))).run P w = .ok (.pointer (some (ad.add k))) w := by
  cases hq : P.info? e with
  | none => simp [hq] at hs
  | some inf =>
    have hsz : inf.size = 1 := by simpa [hq] using hs
    simp [Instr.indexAt, asIntOf, go_sem, run_underlying hu, sizeOf, typeInfo, hq, hsz, hk]
/-- 'all = append(all, s)', all a row of texts of the call's own. -/
theorem wpList_append_str {w : World} {ops : Array Oper} {rest : List Oper} {o : Oper} {a : Act} {Q : Exit → Act → World → Prop} (hgd : o.guard = none) (s x : Operand) {t : TypeId}
    (ho : o.op = .call { callee := .builtin .append, args := #[s, x], argTypes := #[t, t] })
    {base : Nat} {e : TypeId} (hT : P.underlying t = some (.slice e)) (hI : ∃ i, P.info? e = some i ∧ i.zero = some (.string ⟨#[]⟩) ∧ i.size = 1 ∧ i.bytes = 16) {v u : Value} {vs : List Value} (hs : a.eval s = v) (hown : RowV w base e v vs) (hx : a.eval x = .slice (some ⟨w.heap.size, 0, none⟩) 1 1) (hu : u.oneCell' = true)
    (hlen : vs.length ≤ 1000000000) (hbase : base ≤ w.heap.size)
    (h : ∀ v' w', RowV w' base e v' (vs ++ [u]) → Below base w w' → wpList P ops Q rest (a.put o.dst v') w') : wpList P ops Q (o :: rest) a (w.alloc (.cells #[u] e)) := by
  obtain ⟨i, hi, hz, hsz, hby⟩ := hI
  refine wpList_append_lies (w.alloc (.cells #[u] e)) hgd s x t ho base e i (.string ⟨#[]⟩) 1 16 hT hi hz hsz hby rfl (by omega) v vs.length vs hs (World.ownsRow.alloc hown _) ⟨w.heap.size, 0, none⟩ 1 1 [u] hx rfl ?_ ?_ (by omega) (by unfold maxLen; omega) (by omega) (by simp; omega) _ rfl ?_
  · exact World.news_of_block (heap_alloc_new w _)
  · intro u' hu'
    obtain rfl := List.mem_singleton.1 hu'
    exact hu
  · intro g cap w' h1 h2 h3 h4
    have h5 : w.grownBy w' v.ownBlock := grown_trans (World.grownBy_alloc w _ _) h2
    exact h _ w' (by unfold RowV; rw [List.length_append]; exact h1) ((Below.refl base w).grown h5 hbase hown.base_le)
end
theorem row_lit1 (w : World) (base : Nat) (e : TypeId) (u : Value) (hb : base ≤ w.heap.size) : ∃ w', w.alloc (.cells #[u] e) = w' ∧ RowV w' base e (.slice (some ⟨w.heap.size, 0, none⟩) 1 1) [u] ∧ Below w.heap.size w w' := by
  have h := World.ownsRow_lit (e := e) (size := 1) w #[u] 1 hb (by unfold maxLen; omega) rfl
  exact ⟨_, rfl, by simpa [RowV] using h, below_alloc (Nat.le_refl _) _⟩
theorem info_str : ∃ i, Tryz.prog.info? 9 = some i ∧ i.zero = some (.string ⟨#[]⟩) ∧ i.size = 1 ∧ i.bytes = 16 := info_parts (P := Tryz.prog) (e := 9) (z := .string ⟨#[]⟩) (size := 1) (bytes := 16) (by kernel_rfl)
end Go.Proofs.YtpcllhdfalebbaaGreatDoor.flow
namespace Go.Proofs.YtpcllhdfalebbaaGreatDoor.rto
open Go.RowKit Go.Proofs.YtpcllhdfalebbaaGreatDoor.num Go.Proofs.YtpcllhdfalebbaaGreatDoor.mem Go.Proofs.YtpcllhdfalebbaaGreatDoor.nat Go.Proofs.YtpcllhdfalebbaaGreatDoor.txt Go.Proofs.YtpcllhdfalebbaaGreatDoor.str Go.Proofs.YtpcllhdfalebbaaGreatDoor.flow Go.Proofs.YtpcllhdfalebbaaGreatDoor.whl Go.Proofs.YtpcllhdfalebbaaGreatDoor.rat
set_option linter.unusedVariables false
theorem RetSB.pd {l : List UInt8} {b : Bool} {w : World} {e : Ending} {w' : World} (h : RetSB l b w e w') : RetPd (Pd.eq (.tuple #[.string ⟨l.toArray⟩, .bool b])) w e w' := by
  obtain ⟨R, h1, h2, h3⟩ := h
  obtain rfl := h2.is
  exact ⟨_, h1, rfl, h3⟩
/-- A fraction of the document's own, and no error. -/
def ppe (q : Rat) : Pd := ⟨fun w t => ∃ v, t = .tuple #[v, .int .i64 0] ∧ IsP w v q, fun h hb => by obtain ⟨v, e, h1⟩ := h; exact ⟨v, e, h1.below hb⟩⟩
theorem rparse9_ok (l : List UInt8) (q : Rat) (w : World) (hl : l.length ≤ 100) (h : readQ l = (0, q)) : Calls Tryz.prog 7 #[.string (ByteArray.mk (List.toArray l))] w (RetPd (ppe q) w) :=
  (rparse9_any l w hl).mono fun e w' h' => by
    obtain ⟨v, h1, h2, _, h4⟩ := h'.1 (by rw [h])
    rw [h] at h2
    exact ⟨_, h1, ⟨v, rfl, h2⟩, h4⟩
theorem rparse9_no (l : List UInt8) (n : Int) (w : World) (hl : l.length ≤ 100) (h : (readQ l).1 = n) (hn : n ≠ 0) : Calls Tryz.prog 7 #[.string (ByteArray.mk (List.toArray l))] w (RetQN n w) :=
  (rparse9_any l w hl).mono fun e w' h' => by
    obtain ⟨h1, h2⟩ := h'.2 (by rw [h]; exact hn)
    rw [h] at h1
    exact ⟨h1, h2⟩
theorem read125 : readQ [49, 50, 46, 53, 37] = (0, mkRat 1 8) := by
  rw [read_last rfl]
  have h := read_B2 (n := 100) (l := [49, 50, 46, 53]) (r := [53]) (s := 46) (by unfold okS; decide) (by decide) (by unfold okS; decide) (by decide)
  exact h.trans (congrArg (Prod.mk 0) (by decide +kernel))
theorem read18 : readQ [49, 47, 56] = (0, mkRat 1 8) := by
  rw [read_plain (by decide)]
  have h := read_B1 (n := 1) (l := [49, 47, 56]) (r := [56]) (s := 47) (by unfold okS; decide) (by decide) (by unfold okS; decide) rfl (by decide +kernel)
  exact h.trans (congrArg (Prod.mk 0) (by decide +kernel))
/-- With how few digits, if with any. -/
theorem tells_or (d : Nat) : (∃ n, d ∣ 10 ^ n ∧ (∀ m, m < n → ¬ d ∣ 10 ^ m) ∧ 2 ^ n ≤ d) ∨ ∀ m, ¬ d ∣ 10 ^ m := by
  by_cases h : ∃ n, d ∣ 10 ^ n
  · obtain ⟨n, hn⟩ := h
    obtain ⟨k, _, h1, h2, h3⟩ := least_ten n d hn
    exact .inl ⟨k, h1, h2, h3⟩
  · exact .inr fun m hm => h ⟨m, hm⟩
theorem read_len {l : List UInt8} {q : Rat} (hl : l.length ≤ 60) (h : readQ l = (0, q)) : lenQ q 1000 := by
  have key : ∀ (n : Nat) (T : List UInt8), T.length ≤ 60 → 1 ≤ n → n ≤ 100 → readP n T = (0, q) → lenQ q 1000 := by
    intro n T hT hn1 hn h
    have ha := cut_len (l := T)
    have hb : (cutB T).length ≤ T.length := by unfold cutB; exact (List.dropWhile_sublist _).length_le
    have ln : (digs 4294967296 n).length ≤ 1 := digs_len_le (k := 1) (by omega) (by omega)
    unfold readP at h
    split at h
    · rename_i hA
      have lx := numS_len (b := 10) (by omega) hA
      split at h
      · have h2 := congrArg Prod.snd h
        simp only at h2
        rw [← h2]
        exact lenQ_mk (by omega) (by rw [lenD]; omega) (by omega)
      · rename_i s r hsr
        rw [hsr] at hb
        simp at hb
        split at h
        · rename_i hR
          have ly := numS_len (b := 10) (by omega) hR
          split at h
          · split at h
            · have h2 := congrArg Prod.fst h
              simp at h2
            · rename_i hy
              have h2 := congrArg Prod.snd h
              simp only at h2
              have lm := mul_len (numS 10 r) n
              rw [← h2]
              exact lenQ_mk (Nat.mul_ne_zero hy (by omega)) (by rw [lenD]; omega) (by omega)
          · have h2 := congrArg Prod.snd h
            simp only at h2
            have lt := ten_len r.length
            have l1 := mul_len (numS 10 (cutA T)) (10 ^ r.length)
            have l2 := mul_len (10 ^ r.length) n
            have l3 := add_len (numS 10 (cutA T) * 10 ^ r.length) (numS 10 r)
            rw [← h2]
            exact lenQ_mk (Nat.mul_ne_zero (by have : 0 < 10 ^ r.length := Nat.pow_pos (by omega); omega) (by omega)) (by rw [lenD]; omega) (by omega)
        · have h2 := congrArg Prod.fst h
          simp at h2
    · have h2 := congrArg Prod.fst h
      simp at h2
  by_cases hp : l.getLast? = some 37
  · rw [read_last hp] at h
    exact key 100 _ (by rw [List.length_take]; omega) (by omega) (by omega) h
  · rw [read_plain hp] at h
    exact key 1 _ hl (by omega) (by omega) h
theorem decT_len {q : Rat} {n x : Nat} {b : Bool} (hl : lenQ q 3) (h2 : 2 ^ n ≤ q.den) (hx : x = q.num.natAbs * 10 ^ n / q.den) : (decT b x n).length ≤ 2000 := by
  have hn := Nat.lt_of_lt_of_le (ten_bits h2) (nbits_len hl.2)
  have l0 := hl.1
  have lt := ten_len n
  have lm := mul_len q.num.natAbs (10 ^ n)
  have lx : (digs 4294967296 x).length ≤ 100 := by
    refine Nat.le_trans (digs_len_mono (by omega) (y := q.num.natAbs * 10 ^ n) (by rw [hx]; exact Nat.div_le_self _ _)) ?_
    unfold lenZ at l0; omega
  have d4 := txt4_len x
  have d5 := dec_le x
  have lp := padz_le (n := n) (s := txt 10 x)
  have hP : (decP x n).length ≤ 1999 := by
    unfold decP
    split
    · omega
    · rw [List.length_append, List.length_cons, List.length_take, List.length_drop]; omega
  unfold decT
  split
  · rw [List.length_cons]; omega
  · omega
theorem ten_len9 (i : Nat) : (digs 4294967296 (10 ^ i)).length ≤ i / 9 + 1 := by
  refine digs_len_le (by omega) (Nat.lt_of_le_of_lt (Nat.pow_le_pow_right (n := 10) (by omega) (show i ≤ 9 * (i / 9 + 1) by omega)) ?_)
  rw [Nat.pow_mul]
  exact Nat.pow_lt_pow_left (by decide) (by omega)
theorem decT_short {q : Rat} {n x : Nat} {b : Bool} (hl : lenQ q 3) (h2 : 2 ^ n ≤ q.den) (hx : x = q.num.natAbs * 10 ^ n / q.den) : (decT b x n).length ≤ 290 := by
  have hn := Nat.lt_of_lt_of_le (ten_bits h2) (nbits_len hl.2)
  have l0 := hl.1
  have lt := ten_len9 n
  have lm := mul_len q.num.natAbs (10 ^ n)
  have lx : (digs 4294967296 x).length ≤ 14 := by
    refine Nat.le_trans (digs_len_mono (by omega) (y := q.num.natAbs * 10 ^ n) (by rw [hx]; exact Nat.div_le_self _ _)) ?_
    unfold lenZ at l0; omega
  have d4 := txt10_len x
  have lp := padz_le (n := n) (s := txt 10 x)
  have hP : (decP x n).length ≤ 289 := by
    unfold decP
    split
    · omega
    · rw [List.length_append, List.length_cons, List.length_take, List.length_drop]; omega
  unfold decT
  split
  · rw [List.length_cons]; omega
  · omega
theorem txtr_short {q : Rat} (hl : lenQ q 2) : (txtr q).length ≤ 290 := by
  have h1 := txtz_len q.num
  have h2 := txt10_len q.den
  have h3 := hl.1
  have h4 := hl.2
  unfold txtr
  split
  · omega
  · rw [List.length_append, List.length_cons]; omega
theorem abs_q (q : Rat) : ∃ R : Rat, R.num = ((q.num.natAbs : Nat) : Int) ∧ R.den = q.den :=
  ⟨⟨((q.num.natAbs : Nat) : Int), q.den, q.den_nz, by rw [Int.natAbs_natCast]; exact q.reduced⟩, rfl, rfl⟩
theorem hund_pos {q : Rat} (h : ngB q.num = false) : ngB (q * 100).num = false := by
  refine ngB_of_pos fun h1 => ?_
  have h2 : ¬ q < 0 := fun h3 => ngB_false h (num_lt.2 h3)
  have h3 := Rat.mul_nonneg (Rat.not_lt.1 h2) (show (0 : Rat) ≤ 100 by decide +kernel)
  exact Rat.not_lt.2 h3 (num_lt.1 h1)
theorem read_decT {q : Rat} {n x : Nat} (h : ngB q.num = false) (hx : x = q.num.natAbs * 10 ^ n / q.den) (hd : q.den ∣ 10 ^ n) : readQ (decT (ngB q.num) x n) = (0, q) := by
  rw [h, decT_pos]; exact dec_back (ngB_false h) hx hd
theorem read_pctT {q : Rat} {n x : Nat} (h : ngB q.num = false) (hx : x = (q * 100).num.natAbs * 10 ^ n / (q * 100).den) (hd : (q * 100).den ∣ 10 ^ n) : readQ (decT (ngB (q * 100).num) x n ++ [37]) = (0, q) := by
  have h1 := hund_pos h
  rw [h1, decT_pos]; exact pct_back (ngB_false h1) hx hd
/-- A text that reads as this fraction. -/
def Reads (q : Rat) (l : List UInt8) : Prop := readQ l = (0, q) ∧ l.length ≤ 300
set_option maxHeartbeats 1600000 in
set_option maxRecDepth 100000 in
theorem works9_any (w : World) :
    Calls Tryz.prog 8 #[] w (RetV (.bool true) w) := by
  have bb : Below w.heap.size w w := Below.refl _ _
  have hsz0 := bb.size
  obtain ⟨Q, hQ⟩ : ∃ Q, Q = mkRat 1 8 := ⟨_, rfl⟩
  have HR1 : Hid (readQ [49, 50, 46, 53, 37] = (0, Q)) := by show _ = _; rw [hQ]; exact read125
  have HR2 : Hid (readQ [49, 47, 56] = (0, Q)) := by show _ = _; rw [hQ]; exact read18
  have HP : Hid (txtr Q = [49, 47, 56]) := by show _ = _; rw [hQ]; decide +kernel
  have HD : Hid (Q.den ∣ 10 ^ 3) := by show _ ∣ _; rw [hQ]; decide +kernel
  have HM : Hid (∀ m, m < 3 → ¬ Q.den ∣ 10 ^ m) := by show ∀ m, _ → _; rw [hQ]; decide +kernel
  have H2 : Hid (2 ^ 3 ≤ Q.den) := by show _ ≤ _; rw [hQ]; decide +kernel
  have HX : Hid (125 = Q.num.natAbs * 10 ^ 3 / Q.den) := by show _ = _; rw [hQ]; decide +kernel
  have HT : Hid (decT (ngB Q.num) 125 3 = [48, 46, 49, 50, 53]) := by show _ = _; rw [hQ]; decide +kernel
  have lQ : lenQ Q 2 := by rw [hQ]; exact lenQ_mk (by omega) (dig32 (by decide)) (dig32 (by decide))
  clear hQ
  go_enter Tryz.func8, Tryz.ntmps8
  go_upto_region 1 with (fail)
  refine flowp 5 [pqf (Q) 0 w.heap.size, pqf (Q) 0 w.heap.size, pq (Q) w.heap.size, Pd.eq (.int .i64 0), pn 27 #[.bool false, .slice none 0 0, .slice none 0 0] w.heap.size] (by kernel_rfl) ?ob1 ?done1
  case ob1 =>
    refine And.intro (ob_call1 rfl Tryz.func6 (by kernel_rfl) (wt_none rfl) (ev_const _) (fun w2 u0 hb h0 => by obtain rfl := h0; exact (fparse9_ok [49, 50, 46, 53, 37] Q _ (by first | decide | omega) HR1.out).mono fun e w3 h => RetQF.pd h hb.size)) ?_
    refine And.intro (ob_move rfl (wt_none rfl) (ev_dep (j := 0) (by kernel_rfl) rfl rfl) (fun _ _ h => h)) ?_
    refine And.intro (ob_extract rfl (wt_none rfl) (ev_dep (j := 1) (by kernel_rfl) rfl rfl) (fun w2 u hu => by obtain ⟨v, rfl, q1, q2⟩ := hu; exact ⟨v, rfl, q1, q2⟩)) ?_
    refine And.intro (ob_extract rfl (wt_none rfl) (ev_dep (j := 1) (by kernel_rfl) rfl rfl) (fun w2 u hu => by obtain ⟨v, rfl, q1, q2⟩ := hu; exact ⟨_, rfl, rfl⟩)) ?_
    refine And.intro (ob_alloc (z := .agg #[.bool false, .slice none 0 0, .slice none 0 0]) rfl rfl (fun _ => by kernel_rfl) (fun _ _ hB h => ⟨_, rfl, hB, h⟩)) ?_
    trivial
  case done1 =>
    refine fun w1 hb1 v0 h0 v1 h1 v2 h2 v3 h3 v4 h4 d4 b hbf => ?_
    obtain rfl := h3
    clear h0
    clear h1
    obtain ⟨q2, f2⟩ := h2
    obtain ⟨g1_4, rfl, hg4, B4⟩ := h4
    simp only [Act.put, List.setIfInBounds_toArray, List.set_cons_zero, List.set_cons_succ] at hbf
    subst hbf
    replace bb := bb.trans (hb1.mono bb.size)
    have hsz1 := bb.size
    have BA1 := B4
    obtain ⟨u2, t2, rfl, q2, d2⟩ := q2
    obtain ⟨Aa, ca, rfl, _⟩ := id q2
    obtain ⟨Da, ea, rfl, _⟩ := id d2
    refine ops_store (i := 5) rfl rfl rfl rfl rfl rfl (cells := [.bool (ngB (Q).num), .slice Aa (digs 4294967296 (Q).num.natAbs).length ca, .slice Da (digs 4294967296 (Q).den).length ea]) rfl BA1 rfl (by kernel_rfl) (one3 rfl rfl rfl) fun w2 hg2 BN2 => ?_
    replace q2 := off q2 BA1 no_ints3 hg2
    replace d2 := off d2 BA1 no_ints3 hg2
    replace bb := bb.trans ((Below.refl _ _).grown hg2 bb.size (fun g hg => by injection hg with hg; omega))
    have hsz2 := bb.size
    have Ba : Blk w2 (g1_4) _ _ := BN2
    have kas := q2
    have kad := d2
    have kaz : IsZ w2 (.agg #[.bool (ngB (Q).num), .slice Aa (digs 4294967296 (Q).num.natAbs).length ca]) ((Q).num) := ⟨_, rfl, kas⟩
    have ka : IsQ w2 (.agg #[.bool (ngB (Q).num), .slice Aa (digs 4294967296 (Q).num.natAbs).length ca, .slice Da (digs 4294967296 (Q).den).length ea]) (Q) := ⟨_, _, rfl, kas, kad⟩
    refine ops_assign (i := 6) (.int .i64 0) rfl rfl rfl rfl rfl fun b hbf => ?_
    simp only [Act.put, List.setIfInBounds_toArray, List.set_cons_zero, List.set_cons_succ] at hbf
    subst hbf
    refine ops_done ?_
    go_upto_region 2 with (fail)
    have lt2_1 := Blk.lt Ba
    refine flowp 5 [pqf (Q) 0 w2.heap.size, pqf (Q) 0 w2.heap.size, pq (Q) w2.heap.size, Pd.eq (.int .i64 0), pn 27 #[.bool false, .slice none 0 0, .slice none 0 0] w2.heap.size] (by kernel_rfl) ?ob2 ?done2
    case ob2 =>
      refine And.intro (ob_call1 rfl Tryz.func6 (by kernel_rfl) (wt_none rfl) (ev_const _) (fun w2 u0 hb h0 => by obtain rfl := h0; exact (fparse9_ok [49, 47, 56] Q _ (by first | decide | omega) HR2.out).mono fun e w3 h => RetQF.pd h hb.size)) ?_
      refine And.intro (ob_move rfl (wt_none rfl) (ev_dep (j := 0) (by kernel_rfl) rfl rfl) (fun _ _ h => h)) ?_
      refine And.intro (ob_extract rfl (wt_none rfl) (ev_dep (j := 1) (by kernel_rfl) rfl rfl) (fun w2 u hu => by obtain ⟨v, rfl, q1, q2⟩ := hu; exact ⟨v, rfl, q1, q2⟩)) ?_
      refine And.intro (ob_extract rfl (wt_none rfl) (ev_dep (j := 1) (by kernel_rfl) rfl rfl) (fun w2 u hu => by obtain ⟨v, rfl, q1, q2⟩ := hu; exact ⟨_, rfl, rfl⟩)) ?_
      refine And.intro (ob_alloc (z := .agg #[.bool false, .slice none 0 0, .slice none 0 0]) rfl rfl (fun _ => by kernel_rfl) (fun _ _ hB h => ⟨_, rfl, hB, h⟩)) ?_
      trivial
    case done2 =>
      refine fun w3 hb3 v0 h0 v1 h1 v2 h2 v3 h3 v4 h4 d4 b hbf => ?_
      obtain rfl := h3
      clear h0
      clear h1
      obtain ⟨q2, f2⟩ := h2
      obtain ⟨g2_4, rfl, hg4, B4⟩ := h4
      simp only [Act.put, List.setIfInBounds_toArray, List.set_cons_zero, List.set_cons_succ] at hbf
      subst hbf
      replace Ba := Ba.below hb3
      replace kas := kas.below hb3
      replace kad := kad.below hb3
      replace kaz := kaz.below hb3
      replace ka := ka.below hb3
      replace bb := bb.trans (hb3.mono bb.size)
      have hsz3 := bb.size
      have BA3 := B4
      obtain ⟨u2, t2, rfl, q2, d2⟩ := q2
      obtain ⟨Ab, cb, rfl, _⟩ := id q2
      obtain ⟨Db, eb, rfl, _⟩ := id d2
      refine ops_store (i := 5) rfl rfl rfl rfl rfl rfl (cells := [.bool (ngB (Q).num), .slice Ab (digs 4294967296 (Q).num.natAbs).length cb, .slice Db (digs 4294967296 (Q).den).length eb]) rfl BA3 rfl (by kernel_rfl) (one3 rfl rfl rfl) fun w4 hg4 BN4 => ?_
      replace q2 := off q2 BA3 no_ints3 hg4
      replace d2 := off d2 BA3 no_ints3 hg4
      replace kas := off kas BA3 no_ints3 hg4
      replace kad := off kad BA3 no_ints3 hg4
      replace kaz : IsZ w4 (.agg #[.bool (ngB (Q).num), .slice Aa (digs 4294967296 (Q).num.natAbs).length ca]) ((Q).num) := ⟨_, rfl, kas⟩
      replace ka : IsQ w4 (.agg #[.bool (ngB (Q).num), .slice Aa (digs 4294967296 (Q).num.natAbs).length ca, .slice Da (digs 4294967296 (Q).den).length ea]) (Q) := ⟨_, _, rfl, kas, kad⟩
      replace Ba := Ba.grown hg4 (by omega)
      replace bb := bb.trans ((Below.refl _ _).grown hg4 bb.size (fun g hg => by injection hg with hg; omega))
      have hsz4 := bb.size
      have Bb : Blk w4 (g2_4) _ _ := BN4
      have kbs := q2
      have kbd := d2
      have kbz : IsZ w4 (.agg #[.bool (ngB (Q).num), .slice Ab (digs 4294967296 (Q).num.natAbs).length cb]) ((Q).num) := ⟨_, rfl, kbs⟩
      have kb : IsQ w4 (.agg #[.bool (ngB (Q).num), .slice Ab (digs 4294967296 (Q).num.natAbs).length cb, .slice Db (digs 4294967296 (Q).den).length eb]) (Q) := ⟨_, _, rfl, kbs, kbd⟩
      refine ops_assign (i := 6) (.int .i64 0) rfl rfl rfl rfl rfl fun b hbf => ?_
      simp only [Act.put, List.setIfInBounds_toArray, List.set_cons_zero, List.set_cons_succ] at hbf
      subst hbf
      refine ops_done ?_
      go_upto_region 3 with (fail)
      refine flowp 7 [Pd.eq (.agg #[.bool (ngB (Q).num), .slice Aa (digs 4294967296 (Q).num.natAbs).length ca, .slice Da (digs 4294967296 (Q).den).length ea]), Pd.eq (.tuple #[.string (ByteArray.mk (List.toArray ([48, 46, 49, 50, 53] : List UInt8))), .bool true]), Pd.eq (.tuple #[.string (ByteArray.mk (List.toArray ([48, 46, 49, 50, 53] : List UInt8))), .bool true]), Pd.eq (.string (ByteArray.mk (List.toArray ([48, 46, 49, 50, 53] : List UInt8)))), Pd.eq (.bool true), Pd.eq (.string (ByteArray.mk (List.toArray ([48, 46, 49, 50, 53] : List UInt8)))), Pd.eq (.bool true)] (by kernel_rfl) ?ob3 ?done3
      case ob3 =>
        refine And.intro (ob_load rfl (wt_none rfl) (ev_far rfl rfl) (fun w2 hb => run_loadAll Tryz.underlying27 rfl (by kernel_rfl) (Ba.below hb)) (fun _ _ => rfl)) ?_
        refine And.intro (ob_call1 rfl Tryz.func13 (by kernel_rfl) (wt_none rfl) (ev_dep (j := 0) (by kernel_rfl) rfl rfl) (fun w2 u0 hb h0 => by obtain rfl := h0; exact (fdec9_yes _ Q 3 125 _ (ka.below hb) (lQ.mono (by decide)) HD.out HM.out H2.out HX.out).mono fun e w3 h => RetSB.pd (HT.out ▸ h))) ?_
        refine And.intro (ob_move rfl (wt_none rfl) (ev_dep (j := 1) (by kernel_rfl) rfl rfl) (fun _ _ h => h)) ?_
        refine And.intro (ob_extract rfl (wt_none rfl) (ev_dep (j := 2) (by kernel_rfl) rfl rfl) (fun w2 u hu => by obtain rfl := hu; exact ⟨_, rfl, rfl⟩)) ?_
        refine And.intro (ob_extract rfl (wt_none rfl) (ev_dep (j := 2) (by kernel_rfl) rfl rfl) (fun w2 u hu => by obtain rfl := hu; exact ⟨_, rfl, rfl⟩)) ?_
        refine And.intro (ob_assign rfl (wt_none rfl) (ev_dep (j := 3) (by kernel_rfl) rfl rfl) (fun _ _ h => h)) ?_
        refine And.intro (ob_assign rfl (wt_none rfl) (ev_dep (j := 4) (by kernel_rfl) rfl rfl) (fun _ _ h => h)) ?_
        trivial
      case done3 =>
        refine fun w5 hb5 v0 h0 v1 h1 v2 h2 v3 h3 v4 h4 v5 h5 v6 h6 b hbf => ?_
        obtain rfl := h0; obtain rfl := h1; obtain rfl := h2; obtain rfl := h3; obtain rfl := h4; obtain rfl := h5; obtain rfl := h6
        simp only [Act.put, List.setIfInBounds_toArray, List.set_cons_zero, List.set_cons_succ] at hbf
        subst hbf
        replace Ba := Ba.below hb5
        replace kas := kas.below hb5
        replace kad := kad.below hb5
        replace kaz := kaz.below hb5
        replace ka := ka.below hb5
        replace Bb := Bb.below hb5
        replace kbs := kbs.below hb5
        replace kbd := kbd.below hb5
        replace kbz := kbz.below hb5
        replace kb := kb.below hb5
        replace bb := bb.trans (hb5.mono bb.size)
        have hsz5 := bb.size
        refine ops_done ?_
        go_upto_region 4 with (fail)
        refine flowp 24 [Pd.eq (.int .i64 0), Pd.eq (.bool true), Pd.eq (.bool true), Pd.eq (.int .i64 0), Pd.eq (.bool true), Pd.eq (.bool true), Pd.eq (.bool true), Pd.eq (.agg #[.bool (ngB (Q).num), .slice Aa (digs 4294967296 (Q).num.natAbs).length ca, .slice Da (digs 4294967296 (Q).den).length ea]), Pd.eq (.agg #[.bool (ngB (Q).num), .slice Ab (digs 4294967296 (Q).num.natAbs).length cb, .slice Db (digs 4294967296 (Q).den).length eb]), Pd.eq (.bool true), Pd.eq (.bool true), Pd.eq (.bool true), Pd.eq (.agg #[.bool (ngB (Q).num), .slice Aa (digs 4294967296 (Q).num.natAbs).length ca, .slice Da (digs 4294967296 (Q).den).length ea]), Pd.eq (.string (ByteArray.mk (List.toArray ([49, 47, 56] : List UInt8)))), Pd.eq (.bool true), Pd.eq (.bool true), Pd.eq (.bool true), Pd.eq (.string (ByteArray.mk (List.toArray ([48, 46, 49, 50, 53] : List UInt8)))), Pd.eq (.bool true), Pd.eq (.bool true), Pd.eq (.bool true), Pd.eq (.bool true), Pd.eq (.bool true), Pd.eq (.bool true)] (by kernel_rfl) ?ob4 ?done4
        case ob4 =>
          refine And.intro (ob_move rfl (wt_none rfl) (ev_far rfl rfl) (fun _ _ h => h)) ?_
          refine And.intro (ob_bin rfl (wt_none rfl) (ev_dep (j := 0) (by kernel_rfl) rfl rfl) (ev_const _) (fun _ _ _ hx hy => ⟨.bool ((0 : Int) == 0), by rw [hx, hy]; exact bin_eql_int _ _ _ _ _, congrArg Value.bool (by decide)⟩)) ?_
          refine And.intro (ob_move rfl (wt_none rfl) (ev_dep (j := 1) (by kernel_rfl) rfl rfl) (fun _ _ h => h)) ?_
          refine And.intro (ob_move rfl (wt_dep (c := true) (b := true) (g := 2) rfl (by kernel_rfl) rfl rfl rfl (by exact fun _ _ h => h)) (ev_far rfl rfl) (fun _ _ h => h)) ?_
          refine And.intro (ob_bin rfl (wt_dep (c := true) (b := true) (g := 2) rfl (by kernel_rfl) rfl rfl rfl (by exact fun _ _ h => h)) (ev_dep (j := 3) (by kernel_rfl) rfl rfl) (ev_const _) (fun _ _ _ hx hy => ⟨.bool ((0 : Int) == 0), by rw [hx, hy]; exact bin_eql_int _ _ _ _ _, congrArg Value.bool (by decide)⟩)) ?_
          refine And.intro (ob_pick (b := true) rfl (wt_none rfl) (ev_dep (j := 2) (by kernel_rfl) rfl rfl) (ev_dep (j := 4) (by kernel_rfl) rfl rfl) (fun _ _ h => h)) ?_
          refine And.intro (ob_move rfl (wt_none rfl) (ev_dep (j := 5) (by kernel_rfl) rfl rfl) (fun _ _ h => h)) ?_
          refine And.intro (ob_load rfl (wt_dep (c := true) (b := true) (g := 6) rfl (by kernel_rfl) rfl rfl rfl (by exact fun _ _ h => h)) (ev_far rfl rfl) (fun w2 hb => run_loadAll Tryz.underlying27 rfl (by kernel_rfl) (Ba.below hb)) (fun _ _ => rfl)) ?_
          refine And.intro (ob_load rfl (wt_dep (c := true) (b := true) (g := 6) rfl (by kernel_rfl) rfl rfl rfl (by exact fun _ _ h => h)) (ev_far rfl rfl) (fun w2 hb => run_loadAll Tryz.underlying27 rfl (by kernel_rfl) (Bb.below hb)) (fun _ _ => rfl)) ?_
          refine And.intro (ob_call2 rfl Tryz.func22 (by kernel_rfl) (wt_dep (c := true) (b := true) (g := 6) rfl (by kernel_rfl) rfl rfl rfl (by exact fun _ _ h => h)) (ev_dep (j := 7) (by kernel_rfl) rfl rfl) (ev_dep (j := 8) (by kernel_rfl) rfl rfl) (fun w2 u0 u1 hb h0 h1 => by obtain rfl := h0; obtain rfl := h1; exact (fsame_any _ _ (Q) (Q) true _ (ka.below hb) (kb.below hb) (lQ.mono (by decide)) (lQ.mono (by decide)) (decide_eq_true rfl).symm).mono fun e w3 h => RetV.pd h)) ?_
          refine And.intro (ob_pick (b := true) rfl (wt_none rfl) (ev_dep (j := 6) (by kernel_rfl) rfl rfl) (ev_dep (j := 9) (by kernel_rfl) rfl rfl) (fun _ _ h => h)) ?_
          refine And.intro (ob_move rfl (wt_none rfl) (ev_dep (j := 10) (by kernel_rfl) rfl rfl) (fun _ _ h => h)) ?_
          refine And.intro (ob_load rfl (wt_dep (c := true) (b := true) (g := 11) rfl (by kernel_rfl) rfl rfl rfl (by exact fun _ _ h => h)) (ev_far rfl rfl) (fun w2 hb => run_loadAll Tryz.underlying27 rfl (by kernel_rfl) (Ba.below hb)) (fun _ _ => rfl)) ?_
          refine And.intro (ob_call1 rfl Tryz.func18 (by kernel_rfl) (wt_dep (c := true) (b := true) (g := 11) rfl (by kernel_rfl) rfl rfl rfl (by exact fun _ _ h => h)) (ev_dep (j := 12) (by kernel_rfl) rfl rfl) (fun w2 u0 hb h0 => by obtain rfl := h0; exact (fprint9_any _ Q _ (ka.below hb) (lQ.mono (by decide))).mono fun e w3 h => RetStrB.pd (HP.out ▸ h))) ?_
          refine And.intro (ob_bin rfl (wt_dep (c := true) (b := true) (g := 11) rfl (by kernel_rfl) rfl rfl rfl (by exact fun _ _ h => h)) (ev_dep (j := 13) (by kernel_rfl) rfl rfl) (ev_const _) (fun _ _ _ hx hy => ⟨.bool ((ByteArray.mk (List.toArray ([49, 47, 56] : List UInt8))).toList == (ByteArray.mk (List.toArray ([49, 47, 56] : List UInt8))).toList), by rw [hx, hy]; exact bin_eql_str _ _ _ _ _, congrArg Value.bool (beq_self_eq_true _)⟩)) ?_
          refine And.intro (ob_pick (b := true) rfl (wt_none rfl) (ev_dep (j := 11) (by kernel_rfl) rfl rfl) (ev_dep (j := 14) (by kernel_rfl) rfl rfl) (fun _ _ h => h)) ?_
          refine And.intro (ob_move rfl (wt_none rfl) (ev_dep (j := 15) (by kernel_rfl) rfl rfl) (fun _ _ h => h)) ?_
          refine And.intro (ob_move rfl (wt_dep (c := true) (b := true) (g := 16) rfl (by kernel_rfl) rfl rfl rfl (by exact fun _ _ h => h)) (ev_far rfl rfl) (fun _ _ h => h)) ?_
          refine And.intro (ob_bin rfl (wt_dep (c := true) (b := true) (g := 16) rfl (by kernel_rfl) rfl rfl rfl (by exact fun _ _ h => h)) (ev_dep (j := 17) (by kernel_rfl) rfl rfl) (ev_const _) (fun _ _ _ hx hy => ⟨.bool ((ByteArray.mk (List.toArray ([48, 46, 49, 50, 53] : List UInt8))).toList == (ByteArray.mk (List.toArray ([48, 46, 49, 50, 53] : List UInt8))).toList), by rw [hx, hy]; exact bin_eql_str _ _ _ _ _, congrArg Value.bool (beq_self_eq_true _)⟩)) ?_
          refine And.intro (ob_pick (b := true) rfl (wt_none rfl) (ev_dep (j := 16) (by kernel_rfl) rfl rfl) (ev_dep (j := 18) (by kernel_rfl) rfl rfl) (fun _ _ h => h)) ?_
          refine And.intro (ob_move rfl (wt_none rfl) (ev_dep (j := 19) (by kernel_rfl) rfl rfl) (fun _ _ h => h)) ?_
          refine And.intro (ob_move rfl (wt_dep (c := true) (b := true) (g := 20) rfl (by kernel_rfl) rfl rfl rfl (by exact fun _ _ h => h)) (ev_far rfl rfl) (fun _ _ h => h)) ?_
          refine And.intro (ob_pick (b := true) rfl (wt_none rfl) (ev_dep (j := 20) (by kernel_rfl) rfl rfl) (ev_dep (j := 21) (by kernel_rfl) rfl rfl) (fun _ _ h => h)) ?_
          refine And.intro (ob_assign rfl (wt_none rfl) (ev_dep (j := 22) (by kernel_rfl) rfl rfl) (fun _ _ h => h)) ?_
          trivial
        case done4 =>
          refine fun w6 hb6 v0 h0 v1 h1 v2 h2 v3 h3 v4 h4 v5 h5 v6 h6 v7 h7 v8 h8 v9 h9 v10 h10 v11 h11 v12 h12 v13 h13 v14 h14 v15 h15 v16 h16 v17 h17 v18 h18 v19 h19 v20 h20 v21 h21 v22 h22 v23 h23 b hbf => ?_
          obtain rfl := h0; obtain rfl := h1; obtain rfl := h2; obtain rfl := h3; obtain rfl := h4; obtain rfl := h5; obtain rfl := h6; obtain rfl := h7; obtain rfl := h8; obtain rfl := h9; obtain rfl := h10; obtain rfl := h11; obtain rfl := h12; obtain rfl := h13; obtain rfl := h14; obtain rfl := h15; obtain rfl := h16; obtain rfl := h17; obtain rfl := h18; obtain rfl := h19; obtain rfl := h20; obtain rfl := h21; obtain rfl := h22; obtain rfl := h23
          simp only [Act.put, List.setIfInBounds_toArray, List.set_cons_zero, List.set_cons_succ] at hbf
          subst hbf
          replace Ba := Ba.below hb6
          replace kas := kas.below hb6
          replace kad := kad.below hb6
          replace kaz := kaz.below hb6
          replace ka := ka.below hb6
          replace Bb := Bb.below hb6
          replace kbs := kbs.below hb6
          replace kbd := kbd.below hb6
          replace kbz := kbz.below hb6
          replace kb := kb.below hb6
          replace bb := bb.trans (hb6.mono bb.size)
          have hsz6 := bb.size
          refine ops_done ?_
          go_wp2
          go_ret
          exact ⟨rfl, bb⟩
end Go.Proofs.YtpcllhdfalebbaaGreatDoor.rto
namespace Go.Proofs.YtpcllhdfalebbaaGreatDoor.rat
open Go.RowKit Go.ChangeShapes Go.WideShapes Go.ChangeAt Go.Joins Go.Deep Go.Proofs.YtpcllhdfalebbaaGreatDoor.num Go.Proofs.YtpcllhdfalebbaaGreatDoor.mem Go.Proofs.YtpcllhdfalebbaaGreatDoor.nat Go.Proofs.YtpcllhdfalebbaaGreatDoor.txt Go.Proofs.YtpcllhdfalebbaaGreatDoor.str Go.Proofs.YtpcllhdfalebbaaGreatDoor.flow Go.Proofs.YtpcllhdfalebbaaGreatDoor.whl
set_option linter.unusedVariables false
theorem arg_q {H : Type} {enc : TypeId × Value → H} {P : Program} {W : World} {base : Nat} {t e : TypeId} {f0 f1 g0 g1 : Field} {v : Value} {d : DataW H} {p : List MemPlace} (hs : P.underlying t = some (.struct #[f0, f1])) (hC : P.cellsOf t = 3) (ho : (f0.offset == 0 && f1.offset == 2 && P.cellsOf f0.type == 2 && P.cellsOf f1.type == 1) = true)
    (hs2 : P.underlying f0.type = some (.struct #[g0, g1])) (hone : oneCellFields P #[g0, g1] = true) (hb : P.underlying g0.type = some .bool) (hsl : P.underlying g1.type = some (.slice e)) (hsl2 : P.underlying f1.type = some (.slice e)) (he : P.underlying e = some (.int .u64)) (ce : P.cellsOf e = 1)
    (hv : Value.okWide P W .any base t v) (h : DataW.Trod enc P W 0 (fun _ => true) true t v d p) : ∃ b u r l m, v = .agg #[.bool b, u, r] ∧ IsS W .u64 u l ∧ Lt 18446744073709551616 l ∧ IsS W .u64 r m ∧ Lt 18446744073709551616 m := by
  simp only [Bool.and_eq_true, beq_iff_eq] at ho
  obtain ⟨⟨⟨o0, o1⟩, k0⟩, k1⟩ := ho
  obtain ⟨cs, rfl, hsz⟩ := okWide_struct hs hv
  obtain ⟨L⟩ := cs
  match L, hsz.trans hC with
  | [c0, c1, c2], _ =>
    obtain ⟨fuel, hf⟩ := h
    obtain ⟨xs, n, _, hx, _, hlen, hg⟩ := DataW.trod_struct hs hf
    have h0 := hg 0 f0 rfl
    have h1 := hg 1 f1 rfl
    simp [Value.cells, o0, o1, k0, k1] at h0 h1
    match xs, hlen with
    | [y0, y1], _ =>
      have h0' : DataW.trod enc P W 0 (fun _ => true) true n f0.type [c0, c1] = some y0 := by simpa using h0
      have h1' : DataW.trod enc P W 0 (fun _ => true) true n f1.type [c2] = some y1 := by simpa using h1
      obtain ⟨zs, n2, _, hz, _, hlen2, hg2⟩ := DataW.trod_struct hs2 h0'
      obtain ⟨p0, q0⟩ := hone_of hone 0 g0 rfl
      obtain ⟨p1, q1⟩ := hone_of hone 1 g1 rfl
      have j0 := hg2 0 g0 rfl
      have j1 := hg2 1 g1 rfl
      simp [p0, p1, q0, q1] at j0 j1
      match zs, hlen2 with
      | [z0, z1], _ =>
        have j0' : DataW.trod enc P W 0 (fun _ => true) true n2 g0.type [c0] = some z0 := by simpa using j0
        have j1' : DataW.trod enc P W 0 (fun _ => true) true n2 g1.type [c1] = some z1 := by simpa using j1
        obtain ⟨b, e0, _⟩ := DataW.trod_bool hb j0'
        injection e0 with e0 _
        subst e0
        obtain ⟨l, a1, a2⟩ := trod_nat hsl he ce j1'
        obtain ⟨m, b1, b2⟩ := trod_nat hsl2 he ce h1'
        exact ⟨b, c1, c2, l, m, rfl, a1, a2, b1, b2⟩
end Go.Proofs.YtpcllhdfalebbaaGreatDoor.rat
