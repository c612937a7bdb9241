/- Rows and tables of whole numbers (structs of a sign and a slice: two cells each): slices that read as these; rows that a call makes at their full length, written place by place. Condition: as each says.
Package bareiss: even, square, first. Condition: as each says.
Package bareiss: step. Condition: as it says.
Bareiss' way: what one step makes of a table; rows changed about; what is kept where a variable is set, or a row cut. Condition: as each says.
Rows of a table each in a block of its own ('Apt'): what keeps it. Condition: as each says.
Package bareiss: way. Condition: as it says.
Package bareiss: signed, Minor, Det. Condition: as each says.
Package bareiss: Minor, Det. Condition: as each says.
Package solve: Clear. Condition: as it says.
The document's Clear. Condition: as it says.
Package solve: paired and fit. Condition: as each says.
Package solve: Solve. Condition: as it says.
Package sparse: Full: a table of rows that the call makes, filled in the order of a map. Condition: as each says.
A table made row by row, the last of them being filled.
Package solve: over. Condition: as it says.
The chapter's example of layer 15. Condition: as each says.
Rows of whole numbers that grow by append, whose whole block holds signs and slices alone: what lies elsewhere stays. Condition: as each says.
Rows of whole numbers that grow: appends in regions; what is kept. An argument as a table of whole numbers. Condition: as each says.
Rows of whole numbers as pairs: a whole row, or a part of one, put behind another one; a number written in place. Condition: as each says.
The library's Grow (of nothing) and Concat, at rows of whole numbers. Condition: as each says.
The library's Grow (of nothing) and Concat, at rows of fractions. Condition: as each says.
What Solve's rows hold at the end of Bareiss' way: a times them is b times the last pivot, and each is a determinant (Cramer), but for one sign. Mathematics: no program stands here.
Determinants of whole numbers by the first row, and sums. Mathematics alone: no program stands here.
Layer 15: two tables of whole numbers beside each other; what Solve's answer is. Mathematics, and words of memory. Condition: as each says.
Package solve: cleared. Condition: as it says.
Equations made whole: what solves them, over the determinant, solves what was given. Mathematics alone. -/
import Derived.Test.YtagaabooccnamaaGreatKA5
import Derived.BigQuiet
import Derived.Deep.CutRange
import Derived.Deep.RegionHeld3
import Derived.Lib.AppendZerosOnto
import Derived.Shelf.Abstract
set_option linter.unusedVariables false
set_option linter.unusedSimpArgs false
set_option maxRecDepth 100000
set_option maxHeartbeats 6400000
open And renaming intro -> zA
open List renaming setIfInBounds_toArray -> zA0, set_cons_succ -> zA1, set_cons_zero -> zA2, getElem?_eq_getElem -> zA3, getElem?_eq_some_iff -> zA4, mem_of_getElem? -> zA5, getD_eq_getElem?_getD -> zA6, take_of_length_le -> zA7, length_append -> zA8, length_map -> zA9, replicate -> zB, getElem?_append_left -> zB0, getElem?_map -> zB1, length_set -> zB2
open Nat renaming le_refl -> zB3, le_trans -> zB4
namespace Go.Proofs.YtagaabooccnamaaGreat.rat
open Go.RowKit num mem nat txt str flow whl
def SlZ (k : IntKind) (B : Nat) (w : World) (v : Value) (zs : List Int) : Prop:=∃ A c,v = .slice A zs.length c /\ zs.length <= c /\ c <= maxLen /\ ∀ (i : Nat) (z : Int),zs[i]? = some z -> ∃ g o u,A = some ⟨g,o,none⟩ /\ w.cell? ⟨g,o + i * 2,none⟩ = some (.bool (ngB z)) /\ w.cell? ⟨g,o + i * 2 + 1,none⟩ = some u /\ IsS w k u (digs B z.natAbs)
theorem SlZ.below {k : IntKind} {B : Nat} {w w' : World} {v : Value} {zs : List Int} (h : SlZ k B w v zs) (hb : Below w.heap.size w w') : SlZ k B w' v zs:=by
 obtain ⟨A,c,e,h1,h2,h3⟩:=h
 refine ⟨A,c,e,h1,h2,fun i z hz => ?_⟩
 obtain ⟨g,o,u,e2,c0,c1,s⟩:=h3 i z hz
 exact ⟨g,o,u,e2,(hb.cell (World.block_lt_of_cell? w _ c0)).trans c0,(hb.cell (World.block_lt_of_cell? w _ c1)).trans c1,s.below hb⟩
theorem SlZ.shape {k : IntKind} {B : Nat} {w : World} {v : Value} {zs : List Int} (h : SlZ k B w v zs) : ∃ A c,v = .slice A zs.length c /\ zs.length <= c /\ c <= maxLen:=by
 obtain ⟨A,c,e,h1,h2,_⟩:=h
 exact ⟨A,c,e,h1,h2⟩
theorem SlZ.at_ {k : IntKind} {B : Nat} {w : World} {A : Option Addr} {n c : Nat} {zs : List Int} {i : Nat} {z : Int} (h : SlZ k B w (.slice A n c) zs) (hz : zs[i]? = some z) : ∃ g o u,A = some ⟨g,o,none⟩ /\ i < n /\ w.cell? ⟨g,o + i * 2,none⟩ = some (.bool (ngB z)) /\ w.cell? ⟨g,o + i * 2 + 1,none⟩ = some u /\ IsS w k u (digs B z.natAbs):=by
 obtain ⟨A',c',e,h1,h2,h3⟩:=h
 injection e with e1 e2 e3
 subst e1; subst e2; subst e3
 obtain ⟨g,o,u,e4,c0,c1,s⟩:=h3 i z hz
 exact ⟨g,o,u,e4,(zA4.1 hz).1,c0,c1,s⟩
theorem SlZ.at2 {k : IntKind} {B : Nat} {w : World} {g o n c : Nat} {zs : List Int} {i : Nat} {z : Int} (h : SlZ k B w (.slice (some ⟨g,o,none⟩) n c) zs) (hz : zs[i]? = some z) : ∃ u,i < n /\ w.cell? ⟨g,o + i * 2,none⟩ = some (.bool (ngB z)) /\ w.cell? ⟨g,o + i * 2 + 1,none⟩ = some u /\ IsS w k u (digs B z.natAbs):=by
 obtain ⟨g',o',u,hA,h1,h2,h3,h4⟩:=h.at_ hz
 injection hA with hA
 injection hA with e1 e2
 subst e1
 subst e2
 exact ⟨u,h1,h2,h3,h4⟩
theorem SlZ.place {k : IntKind} {B : Nat} {w : World} {A : Option Addr} {n c : Nat} {zs : List Int} (h : SlZ k B w (.slice A n c) zs) (hne : zs ≠ []) : ∃ g o,A = some ⟨g,o,none⟩ /\ g < w.heap.size:=by
  cases zs with
  | nil => exact absurd rfl hne
  | cons z zs =>
    obtain ⟨g,o,u,rfl,_,hc,_⟩:=h.at_ (i:=0) (z:=z) rfl
    exact ⟨g,o,rfl,World.block_lt_of_cell? w _ hc⟩
theorem qA9 (k : IntKind) (B : Nat) (w : World) {A : Option Addr} {c : Nat} (hc : c <= maxLen) : SlZ k B w (.slice A 0 c) []:=⟨A,c,rfl,Nat.zero_le _,hc,fun i z hz => by simp at hz⟩
theorem SlZ.any {k : IntKind} {B : Nat} {w w' : World} {v : Value} (h : SlZ k B w v []) : SlZ k B w' v []:=by
 obtain ⟨A,c,e,h1,h2,_⟩:=h
 exact ⟨A,c,e,h1,h2,fun i z hz => by simp at hz⟩
theorem SlZ.take {k : IntKind} {B : Nat} {w : World} {A : Option Addr} {n c : Nat} {zs : List Int} (h : SlZ k B w (.slice A n c) zs) {m : Nat} (hm : m <= zs.length) : SlZ k B w (.slice A m c) (zs.take m):=by
 obtain ⟨A',c',e,h1,h2,h3⟩:=h
 injection e with e1 e2 e3
 subst e1; subst e2; subst e3
 have hl : (zs.take m).length = m:=by rw [List.length_take]; omega
 refine ⟨A,c,by rw [hl],by omega,h2,fun i z hz => h3 i z ?_⟩
 rw [List.getElem?_take] at hz
 split at hz
 ·exact hz
 ·cases hz
theorem SlZ.drop {k : IntKind} {B : Nat} {w : World} {g o n c : Nat} {zs : List Int} (h : SlZ k B w (.slice (some ⟨g,o,none⟩) n c) zs) {m : Nat} (hm : m <= zs.length) : SlZ k B w (.slice (some ⟨g,o + m * 2,none⟩) (n - m) (c - m)) (zs.drop m):=by
 obtain ⟨A',c',e,h1,h2,h3⟩:=h
 injection e with e1 e2 e3
 subst e1; subst e2; subst e3
 refine ⟨_,_,by rw [List.length_drop],by rw [List.length_drop]; omega,by omega,fun i z hz => ?_⟩
 rw [List.getElem?_drop] at hz
 obtain ⟨g',o',u,e4,c0,c1,s⟩:=h3 (m + i) z hz
 injection e4 with e4
 injection e4 with e5 e6
 subst e5; subst e6
 refine ⟨g,o + m * 2,u,rfl,?_,?_,s⟩
 ·rw [<- c0]; congr 2; omega
 ·rw [<- c1]; congr 2; omega
theorem zV4 {P : Program} {t e : TypeId} (hu : P.underlying t = some (.slice e)) (hs : (P.info? e).map (·.size) = some 2) {g o n c k : Nat} (hk : k < n) (w : World) : (Instr.indexAt t (.slice (some ⟨g,o,none⟩) n c) (.int .i64 (k : Int))).run P w = .ok (.pointer (some ⟨g,o + k * 2,none⟩)) w:=by
  cases hq : P.info? e with
  | none => simp [hq] at hs
  | some inf =>
    have hsz : inf.size = 2:=by simpa [hq] using hs
    simp [Instr.indexAt,asIntOf,go_sem,run_underlying hu,sizeOf,typeInfo,hq,hsz,hk]
def zJ (w : World) (g n : Nat) (zs : List Int) : Prop:=∃ ps : List (Int × Value),ps.length = n /\ zs.length <= n /\ Blk w g 60 (zE5 ps).toArray /\ (∀ p ∈ ps,∃ A m c,p.2 = .slice A m c) /\ ∀ (i : Nat) (z : Int),zs[i]? = some z -> ∃ p,ps[i]? = some p /\ p.1 = z /\ IsS w .u64 p.2 (digs 4294967296 z.natAbs)
theorem zJ.below {w w' : World} {g n : Nat} {zs : List Int} (h : zJ w g n zs) (hb : Below w.heap.size w w') : zJ w' g n zs:=by
 obtain ⟨ps,h1,h2,h3,h4,h5⟩:=h
 refine ⟨ps,h1,h2,h3.below hb,h4,fun i q hq => ?_⟩
 obtain ⟨p,k1,k2,k3⟩:=h5 i q hq
 exact ⟨p,k1,k2,k3.below hb⟩
theorem zJ.lt {w : World} {g n : Nat} {zs : List Int} (h : zJ w g n zs) : g < w.heap.size:=by
 obtain ⟨ps,_,_,h3,_⟩:=h
 exact h3.lt
theorem qL (ps : List (Int × Value)) : (zE5 ps).length = ps.length * 2:=by
 induction ps with
 | nil => rfl
 | cons p ps ih => show (Value.bool (ngB p.1) :: p.2 :: zE5 ps).length = _; rw [List.length_cons,List.length_cons,ih,List.length_cons]; omega
theorem zV5 (p : Int × Value) (ps : List (Int × Value)) : zE5 (p :: ps) = .bool (ngB p.1) :: p.2 :: zE5 ps:=rfl
theorem yH3 : ∀ (ps : List (Int × Value)) (i : Nat) (p : Int × Value),((zE5 ps).set (i * 2) (.bool (ngB p.1))).set (i * 2 + 1) p.2 = zE5 (ps.set i p)
  | [],i,p => by simp [zE5]
  | q :: ps, 0, p => by
    rw [zA2,zV5,zV5]
    simp
  | q :: ps, i + 1, p => by
    have ih:=yH3 ps i p
    rw [zA1,zV5,zV5,<- ih,show (i + 1) * 2 = i * 2 + 1 + 1 from by omega]
    simp
theorem jC3 {k : IntKind} {ps : List (Int × Value)} (h4 : ∀ p ∈ ps,∃ A m c,p.2 = .slice A m c) : ∀ c ∈ (zE5 ps).toArray,∀ n,c ≠ .int k n:=by
 intro c hc n
 obtain ⟨p,hp,hc⟩:=List.mem_flatMap.1 (List.mem_toArray.1 hc)
 obtain ⟨A,m,d,e1⟩:=h4 p hp
 simp only [e1,List.mem_cons,List.not_mem_nil,or_false] at hc
 rcases hc with rfl | rfl <;> simp
theorem zJ.keep {w w' : World} {g n : Nat} {zs : List Int} {k : IntKind} {v : Value} {l : List Nat} (h : zJ w g n zs) (hg : w.grownBy w' (some g)) (hs : IsS w k v l) : IsS w' k v l:=by
 obtain ⟨ps,_,_,h3,h4,_⟩:=h
 exact Go.Proofs.YtagaabooccnamaaGreat.flow.off hs h3 (jC3 h4) hg
theorem zJ.places {w : World} {g n i : Nat} {zs : List Int} (h : zJ w g n zs) (hi : i < n) : ∃ x y,w.cell? ⟨g,0 + i * 2,none⟩ = some x /\ w.cell? ⟨g,0 + i * 2 + 1,none⟩ = some y /\ w.frozen? ⟨g,0 + i * 2,none⟩ = false /\ w.frozen? ⟨g,0 + i * 2 + 1,none⟩ = false:=by
 obtain ⟨ps,h1,h2,h3,h4,h5⟩:=h
 obtain ⟨f0,f1⟩:=qD7 ps i _ (zA3 (by omega))
 rw [Nat.zero_add]
 exact ⟨_,_,by rw [h3.cell,List.getElem?_toArray]; exact f0,by rw [h3.cell,List.getElem?_toArray]; exact f1,h3.frozen _,h3.frozen _⟩
theorem zJ.set2 {w : World} {g n : Nat} {zs : List Int} {z : Int} {u : Value} (h : zJ w g n zs) (hi : zs.length < n) (hu : IsS w .u64 u (digs 4294967296 z.natAbs)) :
  w.grownBy ((w.setCell ⟨g,0 + zs.length * 2,none⟩ (.bool (ngB z))).setCell ⟨g,0 + zs.length * 2 + 1,none⟩ u) (some g) /\ zJ ((w.setCell ⟨g,0 + zs.length * 2,none⟩ (.bool (ngB z))).setCell ⟨g,0 + zs.length * 2 + 1,none⟩ u) g n (zs ++ [z]):=by
 have hg : w.grownBy ((w.setCell ⟨g,0 + zs.length * 2,none⟩ (.bool (ngB z))).setCell ⟨g,0 + zs.length * 2 + 1,none⟩ u) (some g):=(zF0 w g (0 + zs.length * 2) _).andThen (zF0 _ g (0 + zs.length * 2 + 1) _) (fun j e => .inr e)
 have keep:=fun {k v l} => h.keep (k:=k) (v:=v) (l:=l) hg
 obtain ⟨ps,h1,h2,h3,h4,h5⟩:=h
 refine ⟨hg,ps.set zs.length (z,u),by rw [zB2]; exact h1,by simp; omega,?_,fun p hp => ?_,fun j x hx => ?_⟩
 ·have h6:=zR6 (zR6 h3 (i:=0 + zs.length * 2) (.bool (ngB z))) (i:=0 + zs.length * 2 + 1) u
  have e : (((zE5 ps).toArray).setIfInBounds (0 + zs.length * 2) (.bool (ngB z))).setIfInBounds (0 + zs.length * 2 + 1) u = (zE5 (ps.set zs.length (z,u))).toArray:=by
   rw [<- yH3 ps zs.length (z,u),Nat.zero_add]
   simp
  rw [e] at h6
  exact h6
 ·rcases List.mem_or_eq_of_mem_set hp with hp | rfl
  ·exact h4 p hp
  ·obtain ⟨A,c,e1,_⟩:=hu
   exact ⟨_,_,_,e1⟩
 ·by_cases hj : j = zs.length
  ·subst hj
   rw [List.getElem?_concat_length] at hx
   injection hx with hx
   subst hx
   exact ⟨_,List.getElem?_set_self (by omega),rfl,keep hu⟩
  ·have hl:=(zA4.1 hx).1
   rw [zA8,List.length_singleton] at hl
   rw [zB0 (by omega)] at hx
   obtain ⟨p,k1,k2,k3⟩:=h5 j x hx
   exact ⟨p,by rw [List.getElem?_set_ne (fun e => hj e.symm)]; exact k1,k2,keep k3⟩
theorem zJ.sl {w : World} {g n : Nat} {zs : List Int} (h : zJ w g n zs) (hn : zs.length = n) (hm : n <= 1000000000) : SlZ .u64 4294967296 w (.slice (some ⟨g,0,none⟩) n n) zs:=by
 obtain ⟨ps,h1,h2,h3,h4,h5⟩:=h
 refine ⟨some ⟨g,0,none⟩,n,by rw [hn],by omega,by unfold maxLen; omega,fun i z hz => ?_⟩
 obtain ⟨p,k1,rfl,k3⟩:=h5 i z hz
 obtain ⟨f0,f1⟩:=qD7 ps i p k1
 refine ⟨g,0,p.2,rfl,?_,?_,k3⟩
 ·rw [Nat.zero_add,h3.cell,List.getElem?_toArray]; exact f0
 ·rw [Nat.zero_add,h3.cell,List.getElem?_toArray]; exact f1
theorem made2 (n : Nat) : (madeCells #[.bool false,.slice none 0 0] (n * 2)).toList = zE5 (zB n ((0,.slice none 0 0) : Int × Value)):=by
  have key : ∀ n j : Nat,(zE5 (zB n ((0,.slice none 0 0) : Int × Value)))[j]? = if j < n * 2 then some ((#[.bool false,.slice none 0 0] : Array Value)[j % 2]?.getD undef) else none:=by
    intro n
    induction n with
    | zero => intro j; simp [zE5]
    | succ n ih =>
      intro j
      rw [List.replicate_succ,zV5]
      match j with
      | 0 => simp [ngB]
      | 1 => simp; omega
      | j + 2 =>
        rw [List.getElem?_cons_succ,List.getElem?_cons_succ,ih j]
        have h1 : (j + 2) % 2 = j % 2:=by omega
        rw [h1]
        by_cases h : j < n * 2
        · rw [if_pos h,if_pos (by omega)]
        · rw [if_neg h,if_neg (by omega)]
  apply List.ext_getElem?
  intro j
  rw [key n j]
  have h3 : j % 2 < 2:=Nat.mod_lt _ (by omega)
  by_cases h : j < n * 2
  · rw [if_pos h]
    rcases (by omega : j % 2 = 0 \/ j % 2 = 1) with e | e <;> simp [madeCells,h,e]
  · rw [if_neg h]
    simp [madeCells,h]
theorem jC4 {w : World} {g n : Nat} (h : Blk w g 60 (zE5 (zB n ((0,.slice none 0 0) : Int × Value))).toArray) : zJ w g n [] :=
 ⟨_,List.length_replicate,Nat.zero_le _,h,fun p hp => by obtain rfl:=(List.mem_replicate.1 hp).2; exact ⟨_,_,_,rfl⟩,fun i q hq => by simp at hq⟩
section
variable {P : Program}
theorem yH4 {w : World} {t : TypeId} (ht : P.underlying t = some (.slice 60)) (hI : ∃ i,P.info? 60 = some i /\ i.zero = some (.agg #[.bool false,.slice none 0 0]) /\ i.size = 2 /\ i.bytes = 32) (n : Nat) (hn : n <= 1000000000) :
  ∃ w',(Instr.makeSlice t (.int .i64 (n : Int)) (.int .i64 (n : Int))).run P w = .ok (.slice (some ⟨w.heap.size,0,none⟩) n n) w' /\ zJ w' w.heap.size n [] /\ Below w.heap.size w w':=by
 obtain ⟨i,hi,hz,hs,hb⟩:=hI
 obtain ⟨w',h1,h2,h3⟩:=run_make_full (P:=P) w w.heap.size t 60 i _ 2 ht hi hz hs .i64 .i64 n (by rw [hb]; omega) (by unfold maxLen; omega) (zB3 _)
 refine ⟨w',h1,jC4 ?_,(Below.refl _ w).grown h3 (zB3 _) (fun g hg => by cases hg)⟩
 obtain ⟨hl,h2⟩:=h2
 rcases h2 with ⟨h4,_⟩ | ⟨g,cap,cur,h4,_,h5,_,_,h6,h7⟩
 ·cases h4
 ·injection h4 with h4 _ h8
  injection h4 with h4
  injection h4 with h4 _ _
  subst h4; subst h8
  rw [zA7 (by simp [h6])] at h7
  have e : cur = (zE5 (zB n ((0,.slice none 0 0) : Int × Value))).toArray:=by
   rw [<- made2]
   rw [show (Value.agg #[.bool false,.slice none 0 0]).cells = #[.bool false,.slice none 0 0] from rfl] at h7
   rw [<- h7]
  rw [<- e]
  exact h5
end
def SlW (k : IntKind) (B : Nat) (w : World) (v : Value) (t : List (List Int)) : Prop:=∃ us : List Value,us.length = t.length /\ (∃ A c,v = .slice A us.length c /\ us.length <= c /\ c <= maxLen /\ ∀ (i : Nat) (u : Value),us[i]? = some u -> ∃ ad,A = some ad /\ w.cell? (ad.add i) = some u) /\ ∀ (i : Nat) (u : Value) (r : List Int),us[i]? = some u -> t[i]? = some r -> SlZ k B w u r
theorem SlW.below {k : IntKind} {B : Nat} {w w' : World} {v : Value} {t : List (List Int)} (h : SlW k B w v t) (hb : Below w.heap.size w w') : SlW k B w' v t:=by
 obtain ⟨us,hl,⟨A,c,e,h1,h2,h3⟩,h4⟩:=h
 refine ⟨us,hl,⟨A,c,e,h1,h2,fun i u hu => ?_⟩,fun i u r hu hr => (h4 i u r hu hr).below hb⟩
 obtain ⟨ad,ha,hc⟩:=h3 i u hu
 exact ⟨ad,ha,(hb.cell (World.block_lt_of_cell? w _ hc)).trans hc⟩
theorem SlW.shape {k : IntKind} {B : Nat} {w : World} {v : Value} {t : List (List Int)} (h : SlW k B w v t) : ∃ A c,v = .slice A t.length c /\ t.length <= c /\ c <= maxLen:=by
 obtain ⟨us,hl,⟨A,c,e,h1,h2,_⟩,_⟩:=h
 rw [hl] at e h1
 exact ⟨A,c,e,h1,h2⟩
theorem SlW.at_ {k : IntKind} {B : Nat} {w : World} {A : Option Addr} {n c i : Nat} {t : List (List Int)} {r : List Int} (h : SlW k B w (.slice A n c) t) (hr : t[i]? = some r) : ∃ ad Ar cr,A = some ad /\ i < n /\ w.cell? (ad.add i) = some (.slice Ar r.length cr) /\ SlZ k B w (.slice Ar r.length cr) r:=by
 obtain ⟨us,hl,⟨A',c',e,h1,h2,h3⟩,h4⟩:=h
 injection e with e1 e2 e3
 subst e1; subst e2; subst e3
 have hi:=(zA4.1 hr).1
 obtain ⟨u,hu⟩ : ∃ u,us[i]? = some u:=⟨_,zA3 (by omega)⟩
 obtain ⟨ad,ha,hc⟩:=h3 i u hu
 have hs:=h4 i u r hu hr
 obtain ⟨Ar,cr,rfl,_⟩:=hs.shape
 exact ⟨ad,Ar,cr,ha,by omega,hc,hs⟩
theorem SlW.place {k : IntKind} {B : Nat} {w : World} {A : Option Addr} {n c : Nat} {t : List (List Int)} (h : SlW k B w (.slice A n c) t) (hne : t ≠ []) : ∃ ad,A = some ad:=by
  cases t with
  | nil => exact absurd rfl hne
  | cons r t =>
    obtain ⟨ad,_,_,e,_⟩:=h.at_ (i:=0) (r:=r) rfl
    exact ⟨ad,e⟩
theorem SlW.at2 {k : IntKind} {B : Nat} {w : World} {ad : Addr} {n c i : Nat} {t : List (List Int)} {r : List Int} (h : SlW k B w (.slice (some ad) n c) t) (hr : t[i]? = some r) : ∃ Ar cr,i < n /\ w.cell? (ad.add i) = some (.slice Ar r.length cr) /\ SlZ k B w (.slice Ar r.length cr) r:=by
 obtain ⟨ad',Ar,cr,hA,h1,h2,h3⟩:=h.at_ hr
 injection hA with hA
 subst hA
 exact ⟨Ar,cr,h1,h2,h3⟩
theorem zF9.keepZ {w w' : World} {g : Nat} {TS : TypeId} {us : List Value} {k : IntKind} {B : Nat} {v : Value} {r : List Int} (h : zF9 w g TS us) (hg : w.grownBy w' (some g)) (hs : SlZ k B w v r) : SlZ k B w' v r:=by
 obtain ⟨A,c,e,h2,h3,h4⟩:=hs
 refine ⟨A,c,e,h2,h3,fun i z hz => ?_⟩
 obtain ⟨g',o,u,e2,c0,c1,s⟩:=h4 i z hz
 have hne : some g' ≠ some g:=by
  intro e3
  injection e3 with e3
  subst e3
  rw [h.1.cell,List.getElem?_toArray] at c0
  obtain ⟨A',m,d,e4⟩:=h.2 _ (zA5 c0)
  cases e4
 exact ⟨g',o,u,e2,hg.cell c0 hne,hg.cell c1 hne,h.keep hg s⟩
def zD5 (k : IntKind) (B : Nat) (w : World) (g : Nat) (TS : TypeId) (us : List Value) (t : List (List Int)) : Prop:=zF9 w g TS us /\ us.length = t.length /\ ∀ (i : Nat) (u : Value) (r : List Int),us[i]? = some u -> t[i]? = some r -> SlZ k B w u r
theorem zD5.below {k : IntKind} {B : Nat} {w w' : World} {g : Nat} {TS : TypeId} {us : List Value} {t : List (List Int)} (h : zD5 k B w g TS us t) (hb : Below w.heap.size w w') : zD5 k B w' g TS us t:=⟨h.1.below hb,h.2.1,fun i u r hu hr => (h.2.2 i u r hu hr).below hb⟩
theorem zD5.drew {k : IntKind} {B : Nat} {w : World} {g : Nat} {TS : TypeId} {us : List Value} {t : List (List Int)} (h : zD5 k B w g TS us t) : zD5 k B w.drew g TS us t:=h.below (Below.refl _ w).drew
theorem zD5.lt {k : IntKind} {B : Nat} {w : World} {g : Nat} {TS : TypeId} {us : List Value} {t : List (List Int)} (h : zD5 k B w g TS us t) : g < w.heap.size:=h.1.lt
theorem zD5.put {k : IntKind} {B : Nat} {w w' : World} {g i : Nat} {TS : TypeId} {us : List Value} {t : List (List Int)} {u : Value} {r : List Int} (h : zD5 k B w g TS us t) (hg : w.grownBy w' (some g)) (hB : w'.heap[g]? = some (.cells (us.toArray.setIfInBounds i u) TS (0,0))) (hu : SlZ k B w u r) : zD5 k B w' g TS (us.set i u) (t.set i r):=by
 obtain ⟨A,c,eu,_⟩:=hu.shape
 refine ⟨h.1.put hB ⟨_,_,_,eu⟩,by rw [zB2,zB2]; exact h.2.1,fun j x y hx hy => ?_⟩
 by_cases hj : i = j
 ·subst hj
  have hi : i < us.length:=by have:=(zA4.1 hx).1; rwa [zB2] at this
  rw [List.getElem?_set_self hi] at hx
  rw [List.getElem?_set_self (by rw [<- h.2.1]; exact hi)] at hy
  injection hx with hx
  injection hy with hy
  subst hx; subst hy
  exact h.1.keepZ hg hu
 ·rw [List.getElem?_set_ne hj] at hx hy
  exact h.1.keepZ hg (h.2.2 j x y hx hy)
theorem zD5.stored {k : IntKind} {B : Nat} {w : World} {g : Nat} {TS : TypeId} {us : List Value} {t : List (List Int)} (h : zD5 k B w g TS us t) (i : Nat) {u : Value} {r : List Int} (hu : SlZ k B w u r) : zD5 k B (w.setCell ⟨g,i,none⟩ u) g TS (us.set i u) (t.set i r):=h.put (zF0 w g i u) (heap_setCell h.1.1) hu
theorem zD5.at_ {k : IntKind} {B : Nat} {w : World} {g : Nat} {TS : TypeId} {us : List Value} {T : List (List Int)} (h : zD5 k B w g TS us T) {i : Nat} {r : List Int} (hr : T[i]? = some r) : ∃ Ar cr,us[i]? = some (.slice Ar r.length cr) /\ w.cell? ⟨g,i,none⟩ = some (.slice Ar r.length cr) /\ SlZ k B w (.slice Ar r.length cr) r:=by
 have hi:=(zA4.1 hr).1
 obtain ⟨u,hu⟩ : ∃ u,us[i]? = some u:=⟨_,zA3 (by rw [h.2.1]; exact hi)⟩
 have hs:=h.2.2 i u r hu hr
 obtain ⟨Ar,cr,rfl,_⟩:=hs.shape
 have hc:=h.1.cell hu
 rw [zQ0] at hc
 exact ⟨Ar,cr,hu,hc,hs⟩
theorem zD5.sub {k : IntKind} {B : Nat} {w : World} {g : Nat} {TS : TypeId} {us : List Value} {T : List (List Int)} (h : zD5 k B w g TS us T) {o m c : Nat} (hm : o + m <= T.length) (hc : m <= c) (hx : c <= maxLen) : SlW k B w (.slice (some ⟨g,o,none⟩) m c) ((T.drop o).take m):=by
 have hl : ((us.drop o).take m).length = m:=by rw [List.length_take,List.length_drop,h.2.1]; omega
 have hl2 : ((T.drop o).take m).length = m:=by rw [List.length_take,List.length_drop]; omega
 refine ⟨(us.drop o).take m,by rw [hl,hl2],⟨some ⟨g,o,none⟩,c,by rw [hl],by omega,hx,fun i u hu => ⟨_,rfl,?_⟩⟩,fun i u r hu hr => ?_⟩
 ·have hi:=(zA4.1 hu).1
  rw [List.getElem?_take_of_lt (by omega),List.getElem?_drop] at hu
  have hc:=h.1.cell hu
  rw [zQ0] at hc
  rw [qR2]
  exact hc
 ·have hi:=(zA4.1 hu).1
  rw [List.getElem?_take_of_lt (by omega),List.getElem?_drop] at hu hr
  exact h.2.2 _ u r hu hr
def zC4 (T : List (List Int)) (i j : Nat) : Int:=(T.getD i []).getD j 0
theorem yH5 {T : List (List Int)} {i j : Nat} {r : List Int} {z : Int} (hr : T[i]? = some r) (hz : r[j]? = some z) : zC4 T i j = z:=by
 unfold zC4
 rw [zA6,zA6,hr]
 show (r[j]?).getD 0 = z
 rw [hz]; rfl
def zG (T : List (List Int)) : Nat:=(T.getD 0 []).length
def qB (T : List (List Int)) : Prop:=T.length <= 100 /\ ∀ r ∈ T,r.length = zG T /\ r.length <= 100
theorem yH6 {P : Program} {t e : TypeId} (hu : P.underlying t = some (.slice e)) (hs : (P.info? e).map (·.size) = some 2) {g o n c : Nat} (hk : 0 < n) (w : World) : (Instr.indexAt t (.slice (some ⟨g,o,none⟩) n c) (.int .i64 0)).run P w = .ok (.pointer (some ⟨g,o,none⟩)) w:=by
 have h:=zV4 hu hs (g:=g) (o:=o) (c:=c) hk w
 rw [show o + 0 * 2 = o by omega] at h
 exact h
theorem qS (z : Int) : (zJ5 z 0 = 0) ↔ z = 0:=by
 unfold zJ5
 split
 ·constructor <;> intro h <;> omega
 ·split <;> constructor <;> intro h <;> omega
def jC5 (L : List (List Int)) (w : World) (e : Ending) (w' : World) : Prop:=∃ k : Nat,e = .returned (.int .i64 (k : Int)) /\ k <= L.length /\ (∀ i,i < k -> zC4 L i 0 = 0) /\ (k < L.length -> zC4 L k 0 ≠ 0) /\ Below w.heap.size w w'
theorem jC6 (a0 : Value) (L : List (List Int)) (w : World) (h0 : SlW .u64 4294967296 w a0 L) (hl : ∀ r ∈ L,0 < r.length) : Calls Tryz.prog 117 #[a0] w (jC5 L w):=by
 have st0:=h0
 obtain ⟨A0,c0,rfl,hc0,hm0⟩:=h0.shape
 unfold maxLen at hm0
 have HL:=Lib.hid hl
 clear hl
 go_enter Tryz.func117,Tryz.ntmps117
 go_wp2
 go_loopw [6] (fun v6 wr => ∃ k : Nat,k <= L.length /\ Hid (∀ i,i < k -> zC4 L i 0 = 0) /\ Below w.heap.size w wr /\ v6 = .int .i64 (k : Int)) (fun v6 _ => L.length - (intOf v6).toNat)
 case atStart => exact ⟨0,by omega,(by show ∀ i,_; intro i hi; omega),Below.refl _ _,rfl⟩
 case round =>
  obtain ⟨k,hk,HZ,bb,rfl⟩:=hrel
  by_cases hlt : k < L.length
  ·obtain ⟨r,hr⟩ : ∃ r,L[k]? = some r:=⟨_,zA3 hlt⟩
   have hal:=HL.out r (zA5 hr)
   obtain ⟨q,hq⟩ : ∃ q,r[0]? = some q:=⟨_,zA3 hal⟩
   have he : Hid (zC4 L k 0 = q):=yH5 hr hq
   obtain ⟨ad,rfl⟩:=st0.place (List.length_pos_iff.1 (by omega))
   obtain ⟨Ar,cr,hik,ecr,sr⟩:=(st0.below bb).at2 hr
   obtain ⟨gr,or,u,rfl,hia,k0,k1,su⟩:=sr.at_ hq
   rw [show or + 0 * 2 = or by omega] at k0 k1
   obtain ⟨Au,cu,rfl,_⟩:=id su
   have hix:=fun w => yH6 (P:=Tryz.prog) Tryz.underlying48 (by kernel_rfl) (g:=gr) (o:=or) (c:=cr) hia w
   have kq : IsZ wr (.agg #[.bool (ngB q),.slice Au (digs 4294967296 q.natAbs).length cu]) q:=⟨_,rfl,su⟩
   obtain ⟨t,ht⟩ : ∃ t,t = zJ5 q 0:=⟨_,rfl⟩
   have hz : t = 0 ↔ q = 0:=by rw [ht]; exact qS q
   have HT:=Lib.hid ht
   clear hr hq ht sr
   go_wp2_with fail
   refine (zZ9 _ q t _ kq HT.out).mono ?_
   rintro e w4 ⟨rfl,b4⟩
   have bb4:=bb.trans (b4.mono bb.size)
   by_cases hq0 : q = 0
   ·obtain rfl : t = 0:=hz.2 hq0
    have HZ2 : Hid (∀ i,i < k + 1 -> zC4 L i 0 = 0):=by
     show ∀ i,_
     intro i hi
     by_cases e : i = k
     ·subst e; rw [he.out]; exact hq0
     ·exact HZ.out i (by omega)
    clear hz hq0 kq k0 k1
    go_wp2
    go_roundw
    case rel => exact ⟨k + 1,by omega,HZ2,bb4,by go_num⟩
    case measure => simp [intOf]; omega
   ·have hz1 : (t != 0) = true:=by rw [bne_iff_ne]; exact fun e => hq0 (hz.1 e)
    have hz2 : ¬ t = 0:=fun e => hq0 (hz.1 e)
    have HN : Hid (zC4 L k 0 ≠ 0):=by show _ ≠ _; rw [he.out]; exact hq0
    clear hz hq0 kq k0 k1
    go_wp2
    go_ret
    exact ⟨k,rfl,by omega,HZ.out,fun _ => HN.out,bb4⟩
  ·obtain rfl : k = L.length:=by omega
   go_wp2
   go_ret
   exact ⟨_,rfl,zB3 _,HZ.out,fun h => by omega,bb⟩
theorem jC7 {T : List (List Int)} {k : Nat} {r : List Int} (h : ∀ x ∈ T.take k,x.length = zG T /\ x.length <= 100) (hr : T[k]? = some r) (h1 : r.length = zG T) (h2 : r.length <= 100) : ∀ x ∈ T.take (k + 1),x.length = zG T /\ x.length <= 100:=by
 intro x hx
 rw [List.take_add_one,hr] at hx
 rcases List.mem_append.1 hx with hx | hx
 ·exact h x hx
 ·obtain rfl : x = r:=by simpa using hx
  exact ⟨h1,h2⟩
theorem yH7 (a0 : Value) (T : List (List Int)) (w : World) (h0 : SlW .u64 4294967296 w a0 T) : Calls Tryz.prog 71 #[a0] w (fun e w' => (qB T /\ zD8 (.bool true) w e w') \/ (¬ qB T /\ zD8 (.bool false) w e w')):=by
 have st0:=h0
 obtain ⟨A0,c0,rfl,hc0,hm0⟩:=h0.shape
 unfold maxLen at hm0
 go_enter Tryz.func71,Tryz.ntmps71
 by_cases h1 : 100 < T.length
 ·have h1' : (100 : Int) < ((T.length : Nat) : Int):=by omega
  go_wp2
  go_ret
  exact .inr ⟨fun h => by have:=h.1; omega,rfl,Below.refl _ _⟩
 ·have h1' : ¬ (100 : Int) < ((T.length : Nat) : Int):=by omega
  go_wp2
  go_loopw [9] (fun v9 wr => ∃ k : Nat,k <= T.length /\ Hid (∀ x ∈ T.take k,x.length = zG T /\ x.length <= 100) /\ Below w.heap.size w wr /\ v9 = .int .i64 (k : Int)) (fun v9 _ => T.length - (intOf v9).toNat)
  case atStart => exact ⟨0,by omega,(by show ∀ x ∈ _,_; intro x hx; simp at hx),Below.refl _ _,rfl⟩
  case round =>
   obtain ⟨k,hk,HE,bb,rfl⟩:=hrel
   by_cases hlt : k < T.length
   ·obtain ⟨r,hr⟩ : ∃ r,T[k]? = some r:=⟨_,zA3 hlt⟩
    obtain ⟨r0,hr0⟩ : ∃ r0,T[0]? = some r0:=⟨_,zA3 (by omega)⟩
    have HW : Hid (zG T = r0.length):=by show _ = _; unfold zG; rw [zA6,hr0]; rfl
    have HR:=Lib.hid hr
    obtain ⟨ad,rfl⟩:=st0.place (List.length_pos_iff.1 (by omega))
    obtain ⟨Ar,cr,hik,ecr,-⟩:=(st0.below bb).at2 hr
    obtain ⟨A1,c1,hi0,ec0,-⟩:=(st0.below bb).at2 hr0
    have ec0' : wr.cell? ad = some (.slice A1 r0.length c1):=by rw [<- ec0]; congr 1
    clear hr hr0 ec0
    by_cases e1 : r.length = r0.length
    ·by_cases e2 : 100 < r.length
     ·have g1 : (((r.length : Nat) : Int) != ((r0.length : Nat) : Int)) = false:=by rw [bne_eq_false_iff_eq]; omega
      have g2 : (100 : Int) < ((r.length : Nat) : Int):=by omega
      have HN : Hid (¬ qB T):=fun h => by have:=(h.2 r (zA5 HR.out)).2; omega
      go_upto_region 6 with (fail)
      go_quiet (fail)
      go_wp2
      go_ret
      exact .inr ⟨HN.out,rfl,zL9 bb _⟩
     ·have g1 : (((r.length : Nat) : Int) != ((r0.length : Nat) : Int)) = false:=by rw [bne_eq_false_iff_eq]; omega
      have g2 : ¬ (100 : Int) < ((r.length : Nat) : Int):=by omega
      have HE2 : Hid (∀ x ∈ T.take (k + 1),x.length = zG T /\ x.length <= 100):=jC7 HE.out HR.out (by rw [HW.out]; exact e1) (by omega)
      go_upto_region 6 with (fail)
      go_quiet (fail)
      go_wp2
      go_roundw
      case rel => exact ⟨k + 1,by omega,HE2,zL9 bb _,by go_num⟩
      case measure => simp [intOf]; omega
    ·have g1 : (((r.length : Nat) : Int) != ((r0.length : Nat) : Int)) = true:=by rw [bne_iff_ne]; omega
     have HN : Hid (¬ qB T):=fun h => by have:=(h.2 r (zA5 HR.out)).1; have:=HW.out; omega
     go_upto_region 6 with (fail)
     go_quiet (fail)
     go_wp2
     go_ret
     exact .inr ⟨HN.out,rfl,zL9 bb _⟩
   ·obtain rfl : k = T.length:=by omega
    go_wp2
    go_ret
    exact .inl ⟨⟨by omega,by have:=HE.out; rwa [List.take_length] at this⟩,rfl,bb⟩
def zV6 (T : List (List Int)) : Prop:=T.length <= 100 /\ ∀ r ∈ T,r.length = T.length
theorem qL0 (T : List (List Int)) : zV6 T ↔ qB T /\ (T.length = 0 \/ zG T = T.length):=by
 constructor
 ·intro h
  by_cases h0 : T.length = 0
  ·obtain rfl:=List.length_eq_zero_iff.1 h0
   exact ⟨⟨by simp,fun r hr => by cases hr⟩,.inl rfl⟩
  ·have hw : zG T = T.length:=by
    unfold zG
    have e : T[0]? = some (T[0]'(by omega)):=zA3 (by omega)
    rw [zA6,e]
    exact h.2 _ (zA5 e)
   exact ⟨⟨h.1,fun r hr => ⟨by rw [hw]; exact h.2 r hr,by rw [h.2 r hr]; exact h.1⟩⟩,.inr hw⟩
 ·rintro ⟨h1,h2⟩
  refine ⟨h1.1,fun r hr => ?_⟩
  rcases h2 with h2 | h2
  ·obtain rfl:=List.length_eq_zero_iff.1 h2
   cases hr
  ·rw [(h1.2 r hr).1,h2]
theorem jC8 (a0 : Value) (T : List (List Int)) (w : World) (h0 : SlW .u64 4294967296 w a0 T) : Calls Tryz.prog 70 #[a0] w (fun e w' => (zV6 T /\ zD8 (.bool true) w e w') \/ (¬ zV6 T /\ zD8 (.bool false) w e w')):=by
 have st0:=h0
 obtain ⟨A0,c0,rfl,hc0,hm0⟩:=h0.shape
 unfold maxLen at hm0
 go_enter Tryz.func70,Tryz.ntmps70
 go_wp2_with fail
 refine (yH7 _ T _ st0).mono ?_
 rintro e w2 (⟨hE,rfl,b2⟩ | ⟨hE,rfl,b2⟩)
 ·have HE:=Lib.hid hE
  clear hE
  by_cases hn : T.length = 0
  ·have hn' : (((T.length : Nat) : Int) == 0) = true:=by rw [beq_iff_eq]; omega
   have hn2 : ((T.length : Nat) : Int) = 0:=by omega
   have HS : Hid (zV6 T):=(qL0 T).2 ⟨HE.out,.inl hn⟩
   go_wp2
   go_ret
   exact .inl ⟨HS.out,rfl,b2⟩
  ·obtain ⟨r0,hr0⟩ : ∃ r0,T[0]? = some r0:=⟨_,zA3 (by omega)⟩
   have hn' : (((T.length : Nat) : Int) == 0) = false:=by rw [beq_eq_false_iff_ne]; omega
   have hn2 : ¬ ((T.length : Nat) : Int) = 0:=by omega
   have HW : Hid (zG T = r0.length):=by show _ = _; unfold zG; rw [zA6,hr0]; rfl
   obtain ⟨ad,rfl⟩:=st0.place (List.length_pos_iff.1 (by omega))
   obtain ⟨A1,c1,hi0,ec0,-⟩:=(st0.below b2).at2 hr0
   have ec0' : w2.cell? ad = some (.slice A1 r0.length c1):=by rw [<- ec0]; congr 1
   clear hr0 ec0
   by_cases hs : r0.length = T.length
   ·have g1 : (((r0.length : Nat) : Int) == ((T.length : Nat) : Int)) = true:=by rw [beq_iff_eq]; omega
    have HS : Hid (zV6 T):=(qL0 T).2 ⟨HE.out,.inr (by rw [HW.out]; exact hs)⟩
    go_wp2
    go_ret
    exact .inl ⟨HS.out,by simp [g1],b2⟩
   ·have g1 : (((r0.length : Nat) : Int) == ((T.length : Nat) : Int)) = false:=by rw [beq_eq_false_iff_ne]; omega
    have HS : Hid (¬ zV6 T):=fun h => by
     rcases ((qL0 T).1 h).2 with h | h
     ·exact hn h
     ·exact hs (by rw [<- HW.out]; exact h)
    go_wp2
    go_ret
    exact .inr ⟨HS.out,by simp [g1],b2⟩
 ·have HS : Hid (¬ zV6 T):=fun h => hE ((qL0 T).1 h).1
  clear hE
  go_wp2
  go_ret
  exact .inr ⟨HS.out,rfl,b2⟩
theorem qL1 {P : Program} {t : TypeId} {g o : Nat} {x y : Value} {d : TypeDesc} {w : World} (hu : P.underlying t = some d) (hd : d.isRow = true) (hi : (P.info? t).map (·.size) = some 2) (h0 : w.cell? ⟨g,o,none⟩ = some x) (h1 : w.cell? ⟨g,o + 1,none⟩ = some y) : (Instr.loadAt t (.pointer (some ⟨g,o,none⟩))).run P w = .ok (.agg #[x,y]) w :=
 run_loadAt_mid w g o t [x,y] d (fun j v hj => by
  match j,hj with
  | 0,hj => simp at hj; subst hj; exact h0
  | 1,hj => simp at hj; subst hj; exact h1
  | j + 2,hj => simp at hj) hu hd hi
theorem qS0 {P : Program} {t e : TypeId} (hu : P.underlying t = some (.slice e)) (hs : (P.info? e).map (·.size) = some 2) {g n c k : Nat} (hk : k < n) (w : World) : (Instr.indexAt t (.slice (some ⟨g,0,none⟩) n c) (.int .i64 (k : Int))).run P w = .ok (.pointer (some ⟨g,k * 2,none⟩)) w:=by
 have h:=zV4 (P:=P) hu hs (g:=g) (o:=0) (c:=c) hk w
 rw [Nat.zero_add] at h
 exact h
theorem no_ints2 {k : IntKind} {b : Bool} {A : Option Addr} {n c : Nat} : ∀ x ∈ (#[.bool b,.slice A n c] : Array Value),∀ m,x ≠ .int k m:=by
 intro x hx m
 have : x = .bool b \/ x = .slice A n c:=by simpa using hx
 rcases this with rfl | rfl <;> simp
def RetRI (zs : List Int) (w : World) (e : Ending) (w' : World) : Prop:=∃ g,e = .returned (.slice (some ⟨g,0,none⟩) zs.length zs.length) /\ zJ w' g zs.length zs /\ w.heap.size <= g /\ Below w.heap.size w w'
def Crs (p q zs : List Int) (D : Int) : Prop:=∀ j x,zs[j]? = some x -> p.getD (j + 1) 0 * q.getD 0 0 - p.getD 0 0 * q.getD (j + 1) 0 = x * D
theorem qL2 {p : List Int} {j : Nat} {x : Int} (h : p[j]? = some x) : p.getD j 0 = x:=by rw [zA6,h]; rfl
theorem jC9 (a0 a1 a2 : Value) (p q zs : List Int) (D : Int) (m : Nat) (w : World) (h0 : SlZ .u64 4294967296 w a0 p) (h1 : SlZ .u64 4294967296 w a1 q) (h2 : IsZ w a2 D) (hl : p.length = m + 1 /\ q.length = m + 1 /\ zs.length = m /\ m <= 1000) (hc : Hid (D ≠ 0 /\ (∀ z ∈ p,zC1 z <= 5000) /\ (∀ z ∈ q,zC1 z <= 5000) /\ zC1 D <= 5000 /\ Crs p q zs D)) :
  Calls Tryz.prog 118 #[a0,a1,a2] w (RetRI zs w):=by
 obtain ⟨hp,hq,hz,hm⟩:=hl
 have sp:=h0
 have sq:=h1
 obtain ⟨A0,c0,rfl,hc0,hm0⟩:=h0.shape
 obtain ⟨A1,c1,rfl,hc1,hm1⟩:=h1.shape
 obtain ⟨u2,rfl,s2⟩:=h2
 obtain ⟨A2,c2,rfl,_⟩:=id s2
 rw [hp] at sp hc0 |-
 rw [hq] at sq hc1 |-
 have HZ:=Lib.hid hz
 have HP:=Lib.hid (zA hp hq)
 clear h0 h1 hp hq hz hm0 hm1
 obtain ⟨mk,hmk⟩:=Classical.axiomOfChoice (fun w => yH4 (P:=Tryz.prog) (w:=w) Tryz.underlying48 Go.Proofs.YtagaabooccnamaaGreat.whl.info_int m (by omega))
 have hmk1:=fun w => (hmk w).1
 have HMK:=Lib.hid (fun w => (hmk w).2)
 clear hmk
 have ba:=zC8 (w:=w) (zB3 _) (.cells #[.bool (ngB D),.slice A2 (digs 4294967296 D.natAbs).length c2] 60)
 have B2:=Blk.new w 60 #[.bool (ngB D),.slice A2 (digs 4294967296 D.natAbs).length c2]
 have t2:=s2.below ba
 go_enter Tryz.func118,Tryz.ntmps118
 go_upto_region 1 with (fail)
 obtain ⟨wx,hwx⟩ : ∃ wx,wx = w.alloc (.cells #[.bool (ngB D),.slice A2 (digs 4294967296 D.natAbs).length c2] 60):=⟨_,rfl⟩
 rw [<- hwx] at ba B2 t2 |-
 clear hwx
 have hB2:=B2.lt
 obtain ⟨rm,bm⟩:=HMK.out wx
 have hgr : wx.heap.size < (mk wx).heap.size:=rm.lt
 have bb0:=bm
 have hgw : w.heap.size <= wx.heap.size:=ba.size
 have HBA:=Lib.hid ba
 clear ba bm
 go_wp2
 go_loopw [16] (fun v16 wr => ∃ k : Nat,k <= m /\ zJ wr wx.heap.size m (zs.take k) /\ Hid (Below wx.heap.size wx wr) /\ v16 = .int .i64 (k : Int)) (fun v16 _ => m - (intOf v16).toNat)
 case atStart => exact ⟨0,by omega,rm,bb0,rfl⟩
 case round =>
  clear rm bb0
  obtain ⟨k,hk,rk,HB,rfl⟩:=hrel
  obtain ⟨wi,hwi⟩ : ∃ wi,wi = wr:=⟨_,rfl⟩
  subst hwi
  by_cases hlt : k < m
  ·have hzl:=HZ.out
   obtain ⟨z,hz⟩ : ∃ z,zs[k]? = some z:=⟨_,zA3 (by omega)⟩
   obtain ⟨x0,hx0⟩ : ∃ x,p[0]? = some x:=⟨_,zA3 (by have:=HP.out; omega)⟩
   obtain ⟨x1,hx1⟩ : ∃ x,p[k + 1]? = some x:=⟨_,zA3 (by have:=HP.out; omega)⟩
   obtain ⟨y0,hy0⟩ : ∃ x,q[0]? = some x:=⟨_,zA3 (by have:=HP.out; omega)⟩
   obtain ⟨y1,hy1⟩ : ∃ x,q[k + 1]? = some x:=⟨_,zA3 (by have:=HP.out; omega)⟩
   have HX : Hid (x1 * y0 - x0 * y1 = z * D):=by
    have h:=hc.out.2.2.2.2 k z hz
    rw [qL2 hx0,qL2 hx1,qL2 hy0,qL2 hy1] at h
    exact h
   have HT : Hid (zs.take (k + 1) = zs.take k ++ [z]):=by show _ = _; rw [List.take_add_one,hz]; rfl
   have HTL : Hid ((zs.take k).length = k):=by show _ = _; rw [List.length_take]; omega
   have l0:=hc.out.2.1 x0 (zA5 hx0)
   have l1:=hc.out.2.1 x1 (zA5 hx1)
   have l2:=hc.out.2.2.1 y0 (zA5 hy0)
   have l3:=hc.out.2.2.1 y1 (zA5 hy1)
   have hBw : Below w.heap.size w wi:=HBA.out.trans (HB.out.mono HBA.out.size)
   obtain ⟨g0,o0,rfl,-⟩:=sp.place (fun e => by rw [e] at hx0; simp at hx0)
   obtain ⟨g1,o1,rfl,-⟩:=sq.place (fun e => by rw [e] at hy0; simp at hy0)
   obtain ⟨v0,i0,p00,p01,e0⟩:=(sp.below hBw).at2 hx0
   obtain ⟨v1,i1,p10,p11,e1⟩:=(sp.below hBw).at2 hx1
   obtain ⟨v2,i2,p20,p21,e2⟩:=(sq.below hBw).at2 hy0
   obtain ⟨v3,i3,p30,p31,e3⟩:=(sq.below hBw).at2 hy1
   rw [show o0 + 0 * 2 = o0 by omega] at p00 p01
   rw [show o1 + 0 * 2 = o1 by omega] at p20 p21
   obtain ⟨Av0,cv0,rfl,_⟩:=id e0
   obtain ⟨Av1,cv1,rfl,_⟩:=id e1
   obtain ⟨Av2,cv2,rfl,_⟩:=id e2
   obtain ⟨Av3,cv3,rfl,_⟩:=id e3
   have CX : ∀ w a b,IsZ w a x1 -> IsZ w b y0 -> Calls Tryz.prog 56 #[a,b] w (zE2 (x1 * y0) w):=fun w a b h1 h2 => zX2 a b x1 y0 _ w h1 h2 (by omega) (by omega) rfl
   have CY : ∀ w a b,IsZ w a x0 -> IsZ w b y1 -> Calls Tryz.prog 56 #[a,b] w (zE2 (x0 * y1) w):=fun w a b h1 h2 => zX2 a b x0 y1 _ w h1 h2 (by omega) (by omega) rfl
   have m1:=zO1 l1 l2
   have m2:=zO1 l0 l3
   have CS : ∀ w a b,IsZ w a (x1 * y0) -> IsZ w b (x0 * y1) -> Calls Tryz.prog 147 #[a,b] w (zE2 (x1 * y0 - x0 * y1) w):=fun w a b h1 h2 => yR9 a _ b _ w h1 h2 (by omega) (by omega)
   have m3:=qQ6 m1 m2
   have CE : ∀ w a b,IsZ w a (x1 * y0 - x0 * y1) -> IsZ w b D -> Calls Tryz.prog 148 #[a,b] w (qD z 0 w):=fun w a b h1 h2 => yA9 a _ b _ z w h1 h2 (by omega) (by have:=hc.out.2.2.2.1; omega) hc.out.1 HX.out
   obtain ⟨X,hX⟩ : ∃ X,X = x1 * y0:=⟨_,rfl⟩
   obtain ⟨Y,hY⟩ : ∃ Y,Y = x0 * y1:=⟨_,rfl⟩
   rw [<- hX] at CX CS CE
   rw [<- hY] at CY CS CE
   obtain ⟨Z,hZ⟩ : ∃ Z,Z = X - Y:=⟨_,rfl⟩
   rw [<- hZ] at CS CE
   have kx0 : IsZ wi (.agg #[.bool (ngB x0),.slice Av0 (digs 4294967296 x0.natAbs).length cv0]) x0:=⟨_,rfl,e0⟩
   have kx1 : IsZ wi (.agg #[.bool (ngB x1),.slice Av1 (digs 4294967296 x1.natAbs).length cv1]) x1:=⟨_,rfl,e1⟩
   have ky0 : IsZ wi (.agg #[.bool (ngB y0),.slice Av2 (digs 4294967296 y0.natAbs).length cv2]) y0:=⟨_,rfl,e2⟩
   have ky1 : IsZ wi (.agg #[.bool (ngB y1),.slice Av3 (digs 4294967296 y1.natAbs).length cv3]) y1:=⟨_,rfl,e3⟩
   have hk1 : k + 1 < m + 1:=by omega
   have hm0 : 0 < m + 1:=by omega
   have hkn : k + 1 <= 9223372036854775807:=by omega
   clear hz hx0 hx1 hy0 hy1 hX hY hZ l0 l1 l2 l3 m1 m2 m3 e0 e1 e2 e3 hzl hBw
   go_upto_region 5 with (fail)
   go_cut [9] from 19 to 37 (fun s9 wx' => ∃ (g9 : Nat) (u9 : Value),s9 = .pointer (some ⟨g9,0,none⟩) /\ wi.heap.size <= g9 /\ Blk wx' g9 60 #[.bool (ngB Z),u9] /\ IsS wx' .u64 u9 (digs 4294967296 Z.natAbs) /\ Hid (Below wi.heap.size wi wx'))
   case first =>
    refine flow 20 [Pd.eq (.slice (some ⟨g0,o0,none⟩) (m + 1) c0),Pd.eq (.int .i64 (k : Int)),Pd.eq (.int .i64 ((k + 1 : Nat) : Int)),Pd.eq (.pointer (some ⟨g0,o0 + (k + 1) * 2,none⟩)),Pd.eq (.agg #[.bool (ngB x1),.slice Av1 (digs 4294967296 x1.natAbs).length cv1]),Pd.eq (.slice (some ⟨g1,o1,none⟩) (m + 1) c1),Pd.eq (.pointer (some ⟨g1,o1 + 0 * 2,none⟩)),Pd.eq (.agg #[.bool (ngB y0),.slice Av2 (digs 4294967296 y0.natAbs).length cv2]),pz X wi.heap.size,Pd.eq (.slice (some ⟨g0,o0,none⟩) (m + 1) c0),Pd.eq (.pointer (some ⟨g0,o0 + 0 * 2,none⟩)),Pd.eq (.agg #[.bool (ngB x0),.slice Av0 (digs 4294967296 x0.natAbs).length cv0]),Pd.eq (.slice (some ⟨g1,o1,none⟩) (m + 1) c1),Pd.eq (.int .i64 (k : Int)),Pd.eq (.int .i64 ((k + 1 : Nat) : Int)),Pd.eq (.pointer (some ⟨g1,o1 + (k + 1) * 2,none⟩)),Pd.eq (.agg #[.bool (ngB y1),.slice Av3 (digs 4294967296 y1.natAbs).length cv3]),pz Y wi.heap.size,pz Z wi.heap.size,pn 60 #[.bool false,.slice none 0 0] wi.heap.size] (by kernel_rfl) (by kernel_rfl) ?ob1 ?done1
    case ob1 =>
     refine zA (zC2 rfl (zB6 rfl) (zB8 rfl rfl) (fun _ _ h => h)) ?_
     refine zA (zC2 rfl (zB6 rfl) (zB8 rfl rfl) (fun _ _ h => h)) ?_
     refine zA (zG4 rfl (zB6 rfl) (zB7 (j:=1) (by kernel_rfl) rfl rfl) (zH7 _) (fun _ _ _ hx hy => ⟨_,by rw [hx,hy]; exact yD5 _ _ k 1 hkn _,rfl⟩)) ?_
     refine zA (zK5 rfl (zB6 rfl) (zB7 (j:=0) (by kernel_rfl) rfl rfl) (zB7 (j:=2) (by kernel_rfl) rfl rfl) (fun _ _ _ hx hy => ⟨_,by rw [hx,hy]; exact zV4 Tryz.underlying48 (by kernel_rfl) hk1 _,rfl⟩)) ?_
     refine zA (zC rfl (zB6 rfl) (zB7 (j:=3) (by kernel_rfl) rfl rfl) (fun w2 hb => qL1 Tryz.underlying60 rfl (by kernel_rfl) ((hb.cell (World.block_lt_of_cell? wi _ p10)).trans p10) ((hb.cell (World.block_lt_of_cell? wi _ p11)).trans p11)) (fun _ _ => rfl)) ?_
     refine zA (zC2 rfl (zB6 rfl) (zB8 rfl rfl) (fun _ _ h => h)) ?_
     refine zA (zK5 rfl (zB6 rfl) (zB7 (j:=5) (by kernel_rfl) rfl rfl) (zH7 _) (fun _ _ _ hx hy => ⟨_,by rw [hx,hy]; exact zV4 (k:=0) Tryz.underlying48 (by kernel_rfl) hm0 _,rfl⟩)) ?_
     refine zA (zC rfl (zB6 rfl) (zB7 (j:=6) (by kernel_rfl) rfl rfl) (fun w2 hb => qL1 Tryz.underlying60 rfl (by kernel_rfl) ((hb.cell (World.block_lt_of_cell? wi _ p20)).trans p20) ((hb.cell (World.block_lt_of_cell? wi _ p21)).trans p21)) (fun _ _ => rfl)) ?_
     refine zA (zD4 rfl Tryz.func56 (by kernel_rfl) (zB6 rfl) (zB7 (j:=4) (by kernel_rfl) rfl rfl) (zB7 (j:=7) (by kernel_rfl) rfl rfl) (fun w2 u0 u1 hb h0 h1 => by obtain rfl:=h0; obtain rfl:=h1; exact (CX w2 _ _ (kx1.drew.below hb) (ky0.drew.below hb)).mono fun e w3 h => zE2.pd h hb.size)) ?_
     refine zA (zC2 rfl (zB6 rfl) (zB8 rfl rfl) (fun _ _ h => h)) ?_
     refine zA (zK5 rfl (zB6 rfl) (zB7 (j:=9) (by kernel_rfl) rfl rfl) (zH7 _) (fun _ _ _ hx hy => ⟨_,by rw [hx,hy]; exact zV4 (k:=0) Tryz.underlying48 (by kernel_rfl) hm0 _,rfl⟩)) ?_
     refine zA (zC rfl (zB6 rfl) (zB7 (j:=10) (by kernel_rfl) rfl rfl) (fun w2 hb => qL1 Tryz.underlying60 rfl (by kernel_rfl) ((hb.cell (World.block_lt_of_cell? wi _ p00)).trans p00) ((hb.cell (World.block_lt_of_cell? wi _ p01)).trans p01)) (fun _ _ => rfl)) ?_
     refine zA (zC2 rfl (zB6 rfl) (zB8 rfl rfl) (fun _ _ h => h)) ?_
     refine zA (zC2 rfl (zB6 rfl) (zB8 rfl rfl) (fun _ _ h => h)) ?_
     refine zA (zG4 rfl (zB6 rfl) (zB7 (j:=13) (by kernel_rfl) rfl rfl) (zH7 _) (fun _ _ _ hx hy => ⟨_,by rw [hx,hy]; exact yD5 _ _ k 1 hkn _,rfl⟩)) ?_
     refine zA (zK5 rfl (zB6 rfl) (zB7 (j:=12) (by kernel_rfl) rfl rfl) (zB7 (j:=14) (by kernel_rfl) rfl rfl) (fun _ _ _ hx hy => ⟨_,by rw [hx,hy]; exact zV4 Tryz.underlying48 (by kernel_rfl) hk1 _,rfl⟩)) ?_
     refine zA (zC rfl (zB6 rfl) (zB7 (j:=15) (by kernel_rfl) rfl rfl) (fun w2 hb => qL1 Tryz.underlying60 rfl (by kernel_rfl) ((hb.cell (World.block_lt_of_cell? wi _ p30)).trans p30) ((hb.cell (World.block_lt_of_cell? wi _ p31)).trans p31)) (fun _ _ => rfl)) ?_
     refine zA (zD4 rfl Tryz.func56 (by kernel_rfl) (zB6 rfl) (zB7 (j:=11) (by kernel_rfl) rfl rfl) (zB7 (j:=16) (by kernel_rfl) rfl rfl) (fun w2 u0 u1 hb h0 h1 => by obtain rfl:=h0; obtain rfl:=h1; exact (CY w2 _ _ (kx0.drew.below hb) (ky1.drew.below hb)).mono fun e w3 h => zE2.pd h hb.size)) ?_
     refine zA (zD4 rfl Tryz.func147 (by kernel_rfl) (zB6 rfl) (zB7 (j:=8) (by kernel_rfl) rfl rfl) (zB7 (j:=17) (by kernel_rfl) rfl rfl) (fun w2 u0 u1 hb h0 h1 => (CS w2 _ _ h0.1 h1.1).mono fun e w3 h => zE2.pd h hb.size)) ?_
     refine zA (zN6 (z:=.agg #[.bool false,.slice none 0 0]) rfl rfl (fun _ => by kernel_rfl) (fun _ _ hB h => ⟨_,rfl,hB,h⟩)) ?_
     trivial
    case done1 =>
     refine fun w7 hb7 v0 h0 v1 h1 v2 h2 v3 h3 v4 h4 v5 h5 v6 h6 v7 h7 v8 h8 v9 h9 v10 h10 v11 h11 v12 h12 v13 h13 v14 h14 v15 h15 v16 h16 v17 h17 v18 h18 v19 h19 d9 b hbf => ?_
     obtain rfl:=h0; obtain rfl:=h1; obtain rfl:=h2; obtain rfl:=h3; obtain rfl:=h4; obtain rfl:=h5; obtain rfl:=h6; obtain rfl:=h7
     obtain rfl:=h9; obtain rfl:=h10; obtain rfl:=h11; obtain rfl:=h12; obtain rfl:=h13; obtain rfl:=h14; obtain rfl:=h15; obtain rfl:=h16
     obtain ⟨g9,rfl,hg9,B9⟩:=h19
     obtain ⟨k18,f18⟩:=h18
     simp only [Act.put,zA0,zA2,zA1] at hbf
     subst hbf
     have bw7 : Below wi.heap.size wi w7:=(Below.refl wi.heap.size wi).trans (hb7.mono (zB3 _))
     obtain ⟨u8,rfl,s8⟩:=k18
     obtain ⟨A8,c8,rfl,_⟩:=id s8
     refine zK4 (i:=20) (by kernel_rfl) rfl rfl rfl rfl rfl rfl (cells:=[.bool (ngB Z),.slice A8 (digs 4294967296 Z.natAbs).length c8]) rfl B9 rfl (by kernel_rfl) (zH8 rfl rfl) fun w10 hg10 BN => ?_
     have s10:=Go.Proofs.YtagaabooccnamaaGreat.flow.off s8 B9 no_ints2 hg10
     have bw10:=bw7.grown hg10 bw7.size (fun k e => by injection e with e; omega)
     have HC:=Lib.hid (zA bw10 s10)
     clear s8 B9 bw7 bw10 s10 h8 h17 f18 CX CY CS CE kx0 kx1 ky0 ky1 p00 p01 p10 p11 p20 p21 p30 p31
     refine zI2 (by kernel_rfl) ?_
     go_wp2
     go_meet
     exact ⟨g9,_,rfl,hg9,BN,HC.out.2,HC.out.1⟩
   case rest =>
    obtain ⟨g9,u9,rfl,hg9,B9,s9,HB9⟩:=hcut
    obtain ⟨w7,hw7⟩ : ∃ w7,w7 = wc:=⟨_,rfl⟩
    subst hw7
    obtain ⟨A9,c9,rfl,_⟩:=id s9
    have rk7:=rk.below HB9.out
    have HB7 : Hid (Below wx.heap.size wx w7):=HB.out.trans (HB9.out.mono HB.out.size)
    have B27:=B2.below HB7.out
    have t27:=t2.below HB7.out
    obtain ⟨V0,V1,F0,F1⟩:=Blk.two B9
    obtain ⟨U0,U1,G0,G1⟩:=Blk.two B27
    have hix:=fun w => qS0 (P:=Tryz.prog) Tryz.underlying48 (by kernel_rfl) (g:=wx.heap.size) (c:=m) hlt w
    clear B9 B27 HB HB9 CX CY CS kx0 kx1 ky0 ky1 p00 p01 p10 p11 p20 p21 p30 p31 rk
    go_wp2_with fail
    refine (CE _ _ _ ⟨_,rfl,s9⟩ ⟨_,rfl,t27⟩).mono ?_
    rintro e w8 ⟨v8,rfl,k8,-,b8⟩
    obtain ⟨u8,rfl,s8⟩:=k8
    obtain ⟨A8,c8,rfl,_⟩:=id s8
    have rk8:=rk7.below b8
    obtain ⟨X8,Y8,P0,P1,Q0,Q1⟩:=rk8.places hlt
    obtain ⟨G8,R8⟩:=rk8.set2 (by rw [HTL.out]; exact hlt) s8
    rw [HTL.out] at G8 R8
    rw [<- HT.out] at R8
    rw [Nat.zero_add] at P0 P1 Q0 Q1 G8 R8
    have h8:=HB7.out.trans (b8.mono HB7.out.size)
    have h9:=h8.grown G8 h8.size (fun g e => by injection e with e; omega)
    have HB8:=Lib.hid h9
    clear h8 h9
    clear rk7 rk8 G8 HB7 V0 V1 F0 F1 U0 U1 G0 G1 s9 t27 s8 b8 CE
    go_wp2
    go_roundw
    case rel => exact ⟨k + 1,by omega,R8,HB8,by go_num⟩
    case measure => simp [intOf]; omega
  ·obtain rfl : k = m:=by omega
   have hzt : zs.take k = zs:=zA7 (by rw [HZ.out]; exact zB3 _)
   rw [hzt] at rk
   go_wp2
   go_ret
   exact ⟨_,by rw [HZ.out]; rfl,by rw [HZ.out]; exact rk,hgw,HBA.out.trans (HB.out.mono HBA.out.size)⟩
def shI (T : List (List Int)) (n L : Nat) : Prop:=T.length = n /\ ∀ r ∈ T,r.length = L
theorem zT6 {T : List (List Int)} {n L i : Nat} (h : shI T n L) (hi : i < n) : ∃ r,T[i]? = some r /\ r.length = L:=by
 have e : T[i]? = some (T[i]'(by rw [h.1]; exact hi)):=zA3 _
 exact ⟨_,e,h.2 _ (zA5 e)⟩
theorem zJ0 {T : List (List Int)} {i : Nat} {r : List Int} (hr : T[i]? = some r) (j : Nat) : zC4 T i j = r.getD j 0:=by
 have e : T.getD i [] = r:=by rw [zA6,hr]; rfl
 unfold zC4
 rw [e]
def BrT (n C k : Nat) (a : Nat -> Nat -> Int) (T : List (List Int)) (d : Int) : Prop:=BrQ n C k a (fun i j => (zC4 T i (j - k) : Rat)) (d : Rat)
theorem BrQ.congr {n C k : Nat} {a : Nat -> Nat -> Int} {R R' : Nat -> Nat -> Rat} {d : Rat} (h : BrQ n C k a R d) (he : ∀ i j,i < n -> k <= j -> j < C -> R i j = R' i j) : BrQ n C k a R' d :=
 ⟨h.le, h.wide, h.ne, h.det, fun i j hi hj hC => by
  have hk:=h.le
  rw [h.rel i j hi hj hC,zG0 (g:=fun c => (a i c : Rat) * R' c j) (fun c hc => by rw [he c j (by omega) hj hC])]
  split
  ·rw [he i j hi hj hC]
  ·rfl⟩
theorem BrT.start {n C : Nat} {T : List (List Int)} (h : n <= C) : BrT n C 0 (zC4 T) T 1:=(BrQ.start (zC4 T) h).congr fun i j _ _ _ => rfl
def zM4 (p q : List Int) (D : Int) : List Int:=(List.range (p.length - 1)).map fun j => (p.getD (j + 1) 0 * q.getD 0 0 - p.getD 0 0 * q.getD (j + 1) 0) / D
theorem qS1 (p q : List Int) (D : Int) : (zM4 p q D).length = p.length - 1:=by unfold zM4; rw [zA9,List.length_range]
theorem yH8 {p q : List Int} {D : Int} {j : Nat} (hj : j < p.length - 1) : (zM4 p q D)[j]? = some ((p.getD (j + 1) 0 * q.getD 0 0 - p.getD 0 0 * q.getD (j + 1) 0) / D):=by
 unfold zM4
 rw [zB1,List.getElem?_range hj]; rfl
def zQ1 (T : List (List Int)) (k : Nat) (q : List Int) (D : Int) : List (List Int):=(List.range T.length).map fun i => if i = k then q else zM4 (T.getD i []) q D
theorem zX7 (T : List (List Int)) (k : Nat) (q : List Int) (D : Int) : (zQ1 T k q D).length = T.length:=by unfold zQ1; rw [zA9,List.length_range]
theorem qF1 {T : List (List Int)} {k i : Nat} {q r : List Int} {D : Int} (hr : T[i]? = some r) : (zQ1 T k q D)[i]? = some (if i = k then q else zM4 r q D):=by
 unfold zQ1
 rw [zB1,List.getElem?_range (zA4.1 hr).1]
 show some (if i = k then q else zM4 (T.getD i []) q D) = _
 rw [zA6,hr]; rfl
def zF5 (T N : List (List Int)) (i : Nat) : List (List Int):=N.take i ++ T.drop i
theorem zX8 (T N : List (List Int)) : zF5 T N 0 = T:=by simp [zF5]
theorem zX9 {T N : List (List Int)} (h : N.length = T.length) : zF5 T N T.length = N:=by
 unfold zF5
 rw [List.drop_eq_nil_of_le (zB3 _),List.append_nil,zA7 (by omega)]
theorem zV7 {T N : List (List Int)} {i : Nat} (h : N.length = T.length) (hi : i <= T.length) : (zF5 T N i)[i]? = T[i]?:=by
 unfold zF5
 have hl : (N.take i).length = i:=by rw [List.length_take]; omega
 rw [List.getElem?_append_right (by omega),hl,Nat.sub_self,List.getElem?_drop,Nat.add_zero]
theorem jD {T N : List (List Int)} {i : Nat} (h : N.length = T.length) (hi : i <= T.length) : (zF5 T N i).length = T.length:=by
 unfold zF5
 rw [zA8,List.length_take,List.length_drop]; omega
theorem zV8 {T N : List (List Int)} {i : Nat} {r : List Int} (h : N.length = T.length) (hr : N[i]? = some r) : (zF5 T N i).set i r = zF5 T N (i + 1):=by
 have hi:=(zA4.1 hr).1
 unfold zF5
 have hl : (N.take i).length = i:=by rw [List.length_take]; omega
 rw [List.set_append_right _ _ (by omega),hl,Nat.sub_self,List.drop_eq_getElem_cons (show i < T.length by omega),zA2,List.take_add_one,hr]
 simp
theorem jD0 {T N : List (List Int)} {i : Nat} {r : List Int} (h : N.length = T.length) (hr : N[i]? = some r) (hT : T[i]? = some r) : zF5 T N (i + 1) = zF5 T N i:=by
 rw [<- zV8 h hr]
 refine List.ext_getElem? fun j => ?_
 by_cases e : j = i
 ·subst e
  have hi:=(zA4.1 hT).1
  rw [List.getElem?_set_self (by rw [jD h (by omega)]; exact hi),zV7 h (by omega),hT]
 ·rw [List.getElem?_set_ne (fun h => e h.symm)]
theorem jD1 {x y z : Int} (hy : y ≠ 0) (h : (x : Rat) * (y : Rat)⁻¹ = (z : Rat)) : x = z * y /\ x / y = z:=by
 have hy' : (y : Rat) ≠ 0:=by rw [show (0 : Rat) = ((0 : Int) : Rat) by rfl]; exact fun e => hy (Rat.intCast_inj.1 e)
 have h1:=Rat.mul_inv_cancel _ hy'
 have h2 : (x : Rat) = ((z * y : Int) : Rat):=by rw [Rat.intCast_mul]; grind
 have h3:=Rat.intCast_inj.1 h2
 exact ⟨h3,by rw [h3]; exact Int.mul_ediv_cancel z hy⟩
theorem rat0 {z : Int} (h : z ≠ 0) : (z : Rat) ≠ 0:=fun e => h (Rat.intCast_inj.1 (by rw [e]; rfl))
theorem BrT.ne {n C k : Nat} {a : Nat -> Nat -> Int} {T : List (List Int)} {d : Int} (h : BrT n C k a T d) : d ≠ 0:=fun e => BrQ.ne h (by rw [e]; rfl)
section
variable {n C k : Nat} {a : Nat -> Nat -> Int} {T : List (List Int)} {d : Int} {q : List Int}
theorem BrT.stepQ (h : BrT n C k a T d) (hk : k < n) (hq : T[k]? = some q) (hp : q.getD 0 0 ≠ 0) : BrQ n C (k + 1) a (stepQ k (fun i j => (zC4 T i (j - k) : Rat)) (d : Rat)) ((q.getD 0 0 : Int) : Rat):=by
 have e : ((zC4 T k (k - k) : Int) : Rat) = ((q.getD 0 0 : Int) : Rat):=by rw [zJ0 hq,Nat.sub_self]
 have h1:=BrQ.step h hk (by show ((zC4 T k (k - k) : Int) : Rat) ≠ 0; rw [e]; exact rat0 hp)
 rw [<- e]
 exact h1
theorem BrT.num (h : BrT n C k a T d) (hk : k < n) (hq : T[k]? = some q) (hp : q.getD 0 0 ≠ 0) {i j : Nat} {r : List Int} (hi : i < n) (hr : T[i]? = some r) (hik : i ≠ k) (hj : j + 1 < C - k) :
  r.getD (j + 1) 0 * q.getD 0 0 - r.getD 0 0 * q.getD (j + 1) 0 = ((r.getD (j + 1) 0 * q.getD 0 0 - r.getD 0 0 * q.getD (j + 1) 0) / d) * d /\ Go.Proofs.YtagaabooccnamaaGreat.rat.stepQ k (fun i j => (zC4 T i (j - k) : Rat)) (d : Rat) i (j + 1 + k) = (((r.getD (j + 1) 0 * q.getD 0 0 - r.getD 0 0 * q.getD (j + 1) 0) / d : Int) : Rat):=by
 obtain ⟨z,hz⟩:=(h.stepQ hk hq hp).int hi (j:=j + 1 + k) (by omega) (by omega)
 have e : Go.Proofs.YtagaabooccnamaaGreat.rat.stepQ k (fun i j => (zC4 T i (j - k) : Rat)) (d : Rat) i (j + 1 + k) = ((r.getD (j + 1) 0 * q.getD 0 0 - r.getD 0 0 * q.getD (j + 1) 0 : Int) : Rat) * (d : Rat)⁻¹:=by
  unfold Go.Proofs.YtagaabooccnamaaGreat.rat.stepQ
  rw [if_neg hik]
  show (((zC4 T i (j + 1 + k - k) : Int) : Rat) * ((zC4 T k (k - k) : Int) : Rat) - ((zC4 T i (k - k) : Int) : Rat) * ((zC4 T k (j + 1 + k - k) : Int) : Rat)) * (d : Rat)⁻¹ = _
  rw [zJ0 hr,zJ0 hr,zJ0 hq,zJ0 hq,Nat.sub_self,Nat.add_sub_cancel,Rat.intCast_sub,Rat.intCast_mul,Rat.intCast_mul]
 have h2:=jD1 h.ne (e.symm.trans hz)
 exact ⟨by rw [h2.2]; exact h2.1,by rw [hz,h2.2]⟩
theorem BrT.crs (h : BrT n C k a T d) (hs : shI T n (C - k)) (hk : k < n) (hq : T[k]? = some q) (hp : q.getD 0 0 ≠ 0) {i : Nat} {r : List Int} (hr : T[i]? = some r) (hik : i ≠ k) : Crs r q (zM4 r q d) d:=by
 intro j x hx
 have hi : i < n:=by rw [<- hs.1]; exact (zA4.1 hr).1
 have hrl:=hs.2 r (zA5 hr)
 have hj:=(zA4.1 hx).1
 rw [qS1] at hj
 rw [yH8 hj] at hx
 injection hx with hx
 rw [<- hx]
 exact (h.num hk hq hp hi hr hik (by omega)).1
theorem next_sh (hs : shI T n (C - k)) (hq : T[k]? = some q) : shI ((zQ1 T k q d).set k (q.drop 1)) n (C - (k + 1)):=by
 refine ⟨by rw [zB2,zX7,hs.1],fun r hr => ?_⟩
 have hql:=hs.2 q (zA5 hq)
 obtain ⟨i,hi⟩:=List.mem_iff_getElem?.1 hr
 have hil:=(zA4.1 hi).1
 rw [zB2,zX7] at hil
 by_cases e : k = i
 ·subst e
  rw [List.getElem?_set_self (by rw [zX7]; exact hil)] at hi
  injection hi with hi
  rw [<- hi,List.length_drop]; omega
 ·rw [List.getElem?_set_ne e,qF1 (zA3 hil),if_neg (fun h => e h.symm)] at hi
  injection hi with hi
  rw [<- hi,qS1,hs.2 _ (zA5 (zA3 hil))]; omega
theorem BrT.next (h : BrT n C k a T d) (hs : shI T n (C - k)) (hk : k < n) (hq : T[k]? = some q) (hp : q.getD 0 0 ≠ 0) : BrT n C (k + 1) a ((zQ1 T k q d).set k (q.drop 1)) (q.getD 0 0):=by
 refine (h.stepQ hk hq hp).congr fun i j hi hj hC => ?_
 show _ = ((zC4 ((zQ1 T k q d).set k (q.drop 1)) i (j - (k + 1)) : Int) : Rat)
 by_cases e : i = k
 ·subst e
  have h1 : ((zQ1 T i q d).set i (q.drop 1))[i]? = some (q.drop 1):=List.getElem?_set_self (by rw [zX7,hs.1]; exact hi)
  rw [zJ0 h1]
  unfold Go.Proofs.YtagaabooccnamaaGreat.rat.stepQ
  rw [if_pos rfl]
  show ((zC4 T i (j - i) : Int) : Rat) = _
  rw [zJ0 hq,zA6,zA6,List.getElem?_drop,show 1 + (j - (i + 1)) = j - i by omega]
 ·obtain ⟨r,hr,hrl⟩:=zT6 hs hi
  have h1 : ((zQ1 T k q d).set k (q.drop 1))[i]? = some (zM4 r q d):=by
   rw [List.getElem?_set_ne (fun h => e h.symm),qF1 hr,if_neg e]
  obtain ⟨m,rfl⟩ : ∃ m,j = m + 1 + k:=⟨j - 1 - k,by omega⟩
  have hz : (zM4 r q d).getD m 0 = (r.getD (m + 1) 0 * q.getD 0 0 - r.getD 0 0 * q.getD (m + 1) 0) / d:=by
   rw [zA6,yH8 (by omega)]; rfl
  rw [zJ0 h1,(h.num hk hq hp hi hr e (j:=m) (by omega)).2,show m + 1 + k - (k + 1) = m by omega,hz]
theorem BrT.swap (h : BrT n C k a T d) {f : Nat} (hl : T.length = n) (hkf : k < f) (hf : f < n) {rk rf : List Int} (hrk : T[k]? = some rk) (hrf : T[f]? = some rf) : BrT n C k (fun i => if i = k then a f else if i = f then a k else a i) ((T.set k rf).set f rk) d:=by
 refine (BrQ.swap h (Nat.le_of_lt hkf) hf).congr fun i j hi hj hC => ?_
 unfold zE3
 by_cases e1 : i = k
 ·subst e1
  have h1 : ((T.set i rf).set f rk)[i]? = some rf:=by rw [List.getElem?_set_ne (by omega),List.getElem?_set_self (by omega)]
  rw [if_pos rfl,zJ0 h1]
  show ((zC4 T f (j - i) : Int) : Rat) = _
  rw [zJ0 hrf]
 ·by_cases e2 : i = f
  ·subst e2
   have h1 : ((T.set k rf).set i rk)[i]? = some rk:=List.getElem?_set_self (by rw [zB2]; omega)
   rw [if_neg e1,if_pos rfl,zJ0 h1]
   show ((zC4 T k (j - k) : Int) : Rat) = _
   rw [zJ0 hrk]
  ·have h1 : ((T.set k rf).set f rk)[i]? = T[i]?:=by rw [List.getElem?_set_ne (fun h => e2 h.symm),List.getElem?_set_ne (fun h => e1 h.symm)]
   rw [if_neg e1,if_neg e2]
   unfold zC4
   rw [zA6 (l:=(T.set k rf).set f rk),h1,<- zA6]
theorem BrT.none (h : BrT n C k a T d) (hk : k < n) (h0 : ∀ i,k <= i -> i < n -> zC4 T i 0 = 0) : zC6 n (qF a) = 0 :=
 BrQ.none h hk fun i h1 h2 => by
  show ((zC4 T i (k - k) : Int) : Rat) = 0
  rw [Nat.sub_self,h0 i h1 h2]; rfl
end
structure Prm (n C : Nat) (a0 a : Nat -> Nat -> Int) (s : Rat) : Prop where
 one : s = 1 \/ s = -1
 fn : ∀ f,RowFn n C f -> f (qF a0) = s * f (qF a)
 all : ∀ P : (Nat -> Int) -> Prop,(∀ i,i < n -> P (a i)) -> ∀ i,i < n -> P (a0 i)
theorem Prm.refl (n C : Nat) (a : Nat -> Nat -> Int) : Prm n C a a 1:=⟨.inl rfl,fun f _ => by grind,fun P h => h⟩
theorem Prm.swap {n C k f : Nat} {a0 a : Nat -> Nat -> Int} {s : Rat} (h : Prm n C a0 a s) (hk : k < n) (hf : f < n) (hkf : k ≠ f) : Prm n C a0 (fun i => if i = k then a f else if i = f then a k else a i) (-s):=by
 refine ⟨?_,fun F hF => ?_,fun P hP => h.all P fun i hi => ?_⟩
 ·rcases h.one with e | e <;> rw [e]
  ·exact .inr rfl
  ·exact .inl (by grind)
 ·have e : F (qF fun i => if i = k then a f else if i = f then a k else a i) = F (zE3 (qF a) k f):=hF.congr _ _ fun i j _ _ => by
   unfold zE3 qF
   by_cases e1 : i = k
   ·simp only [if_pos e1]
   ·by_cases e2 : i = f
    ·simp only [if_neg e1,if_pos e2]
    ·simp only [if_neg e1,if_neg e2]
  rw [h.fn F hF,e,hF.swap (qF a) hk hf hkf]; grind
 ·by_cases e1 : i = k
  ·have:=hP f hf
   simp only [if_neg (show ¬ f = k from fun h => hkf h.symm),if_true] at this
   rw [e1]; exact this
  ·by_cases e2 : i = f
   ·have:=hP k hk
    simp only [if_true] at this
    rw [e2]; exact this
   ·have:=hP i hi
    simp only [if_neg e1,if_neg e2] at this
    exact this
theorem RowFn.wide {n C : Nat} {f : (Nat -> Nat -> Rat) -> Rat} (h : RowFn n n f) (hC : n <= C) : RowFn n C f:=⟨fun M M' he => h.congr M M' fun i j hi hj => he i j hi (by omega),h.scale,h.add⟩
def zH6 (T : List (List Int)) (S : Nat) : Prop:=∀ r ∈ T,∀ z ∈ r,zC1 z <= S
theorem jD2 {p q : List Int} {D : Int} {S : Nat} (hD : D ≠ 0) (hC : Crs p q (zM4 p q D) D) (hp : ∀ z ∈ p,zC1 z <= S) (hq : ∀ z ∈ q,zC1 z <= S) : ∀ z ∈ zM4 p q D,zC1 z <= 2 * S + 1:=by
 intro z hz
 obtain ⟨j,hj⟩:=List.mem_iff_getElem?.1 hz
 have h1:=hC j z hj
 have g : ∀ (l : List Int) (i : Nat),(∀ z ∈ l,zC1 z <= S) -> zC1 (l.getD i 0) <= S:=fun l i h => by
  rw [zA6]
  cases e : l[i]? with
  | none => show zC1 0 <= S; unfold zC1; rw [Int.natAbs_zero,zH1]; exact Nat.zero_le _
  | some x => exact h x (zA5 e)
 have m1:=zO1 (g p (j + 1) hp) (g q 0 hq)
 have m2:=zO1 (g p 0 hp) (g q (j + 1) hq)
 have m3:=qQ6 m1 m2
 rw [h1] at m3
 have h2 : z.natAbs <= (z * D).natAbs:=by
  rw [Int.natAbs_mul]
  exact Nat.le_mul_of_pos_right _ (by omega)
 have h3 : zC1 z <= zC1 (z * D):=zF7 (by omega) h2
 omega
/-! What is kept in memory. -/
theorem SlZ.off {k : IntKind} {B : Nat} {w w' : World} {v : Value} {zs : List Int} {g : Nat} {e : TypeId} {cs : Array Value} (h : SlZ k B w v zs) (hB : w.heap[g]? = some (.cells cs e (0,0))) (hno : ∀ c ∈ cs,∀ n,c ≠ .int k n) (hg : w.grownBy w' (some g)) (hne : v.ownBlock ≠ some g) : SlZ k B w' v zs:=by
 obtain ⟨A,c,rfl,h2,h3,h4⟩:=h
 refine ⟨A,c,rfl,h2,h3,fun i z hz => ?_⟩
 obtain ⟨g',o,u,rfl,c0,c1,s⟩:=h4 i z hz
 have hne' : some g' ≠ some g:=fun e => hne (by simpa [Value.ownBlock] using e)
 exact ⟨g',o,u,rfl,hg.cell c0 hne',hg.cell c1 hne',Go.Proofs.YtagaabooccnamaaGreat.flow.off s hB hno hg⟩
theorem zD5.offZ {w w' : World} {g gx : Nat} {TS t : TypeId} {us : List Value} {T : List (List Int)} {a b : Value} (h : zD5 .u64 4294967296 w g TS us T) (hB : Blk w gx t #[a,b]) (hno : ∀ x ∈ (#[a,b] : Array Value),∀ n,x ≠ .int .u64 n) (hne : TS ≠ t) (hg : w.grownBy w' (some gx)) (hoff : ∀ u ∈ us,u.ownBlock ≠ some gx) : zD5 .u64 4294967296 w' g TS us T:=by
 have hgx : g ≠ gx:=fun e => by
  have h1:=h.1.1
  unfold Blk at h1 hB
  rw [e,hB] at h1
  injection h1 with h1
  injection h1 with _ h1
  exact hne h1.symm
 exact ⟨h.1.grown hg (fun e => hgx (by injection e with e; exact e.symm)),h.2.1,fun i u r hu hr => (h.2.2 i u r hu hr).off hB hno hg (hoff u (zA5 hu))⟩
theorem SlZ.cut1 {w : World} {g o n c : Nat} {A : Option Addr} {zs : List Int} (h : SlZ .u64 4294967296 w (.slice (some ⟨g,o,none⟩) n c) zs) (hn : 1 <= zs.length) (hA : A = if c = 1 then some ⟨g,o,none⟩ else some ⟨g,o + 2,none⟩) : SlZ .u64 4294967296 w (.slice A (n - 1) (c - 1)) (zs.drop 1):=by
 obtain ⟨A0,c0,e,h1,h2⟩:=h.shape
 injection e with e1 e2 e3
 subst e3
 by_cases hc : c = 1
 ·rw [if_pos hc] at hA
  have hz : zs.drop 1 = []:=List.drop_eq_nil_of_le (by omega)
  rw [hz,show n - 1 = 0 by omega]
  exact qA9 _ _ _ (by omega)
 ·rw [if_neg hc] at hA
  rw [hA]
  exact h.drop hn
theorem zT7 {w : World} {g : Nat} {t : TypeId} {a b : Value} (h : Blk w g t #[a,b]) (x y : Value) : Blk ((w.setCell ⟨g,0,none⟩ x).setCell ⟨g,1,none⟩ y) g t #[x,y]:=zR6 (zR6 h x) y
theorem zV9 (w : World) (g : Nat) (x y : Value) : w.grownBy ((w.setCell ⟨g,0,none⟩ x).setCell ⟨g,1,none⟩ y) (some g):=(zF0 w g 0 x).trans (zF0 _ g 1 y)
def zP1 (w : World) (g : Nat) : Prop:=∃ cs,w.heap[g]? = some (.cells cs 60 (0,0))
theorem zP1.lt {w : World} {g : Nat} (h : zP1 w g) : g < w.heap.size:=by
 obtain ⟨cs,h⟩:=h
 exact (Array.getElem?_eq_some_iff.1 h).1
theorem zP1.frozen {w : World} {g : Nat} (h : zP1 w g) (o : Nat) : w.frozen? ⟨g,o,none⟩ = false:=by
 obtain ⟨cs,h⟩:=h
 exact Blk.frozen (t:=60) (cs:=cs) h o
theorem zJ.bk {w : World} {g n : Nat} {zs : List Int} (h : zJ w g n zs) : zP1 w g:=by
 obtain ⟨ps,_,_,h3,_⟩:=h
 exact ⟨_,h3⟩
def Kp (w w' : World) : Prop:=w.heap.size <= w'.heap.size /\ ∀ g,zP1 w g -> zP1 w' g
theorem Kp.trans {a b c : World} (h : Kp a b) (k : Kp b c) : Kp a c:=⟨zB4 h.1 k.1,fun g hg => k.2 g (h.2 g hg)⟩
theorem zN0 {w w' : World} (hb : Below w.heap.size w w') : Kp w w':=⟨hb.size,fun g hg => by
 obtain ⟨cs,h⟩:=hg
 exact ⟨cs,Blk.below (t:=60) (cs:=cs) h hb⟩⟩
theorem zQ2 (w : World) (g o : Nat) (x : Value) : Kp w (w.setCell ⟨g,o,none⟩ x):=⟨(zF0 w g o x).size,fun g' hg => by
 obtain ⟨cs,h⟩:=hg
 by_cases e : g' = g
 ·subst e
  exact ⟨_,heap_setCell h⟩
 ·exact ⟨cs,Blk.grown (t:=60) (cs:=cs) h (zF0 w g o x) e⟩⟩
theorem yH9 (w : World) (g : Nat) (x y : Value) : Kp w ((w.setCell ⟨g,0,none⟩ x).setCell ⟨g,1,none⟩ y):=(zQ2 w g 0 x).trans (zQ2 _ g 1 y)
def Apt (w : World) (B : Nat) (us : List Value) : Prop:=(∀ u ∈ us,∀ g,u.ownBlock = some g -> B <= g /\ zP1 w g) /\ ∀ (i j : Nat) (u v : Value),i ≠ j -> us[i]? = some u -> us[j]? = some v -> ∀ g,u.ownBlock = some g -> v.ownBlock ≠ some g
theorem Apt.grow {w w' : World} {B : Nat} {us : List Value} (h : Apt w B us) (hk : Kp w w') : Apt w' B us:=⟨fun u hu g e => ⟨(h.1 u hu g e).1,hk.2 g (h.1 u hu g e).2⟩,h.2⟩
theorem Apt.set {w : World} {B k : Nat} {us : List Value} {x : Value} (h : Apt w B us) (hx : ∀ g,x.ownBlock = some g -> B <= g /\ zP1 w g) (hn : ∀ (j : Nat) (v : Value),j ≠ k -> us[j]? = some v -> ∀ g,x.ownBlock = some g -> v.ownBlock ≠ some g) : Apt w B (us.set k x):=by
 refine ⟨fun u hu g e => ?_,fun i j u v hij hu hv g e => ?_⟩
 ·rcases List.mem_or_eq_of_mem_set hu with hu | rfl
  ·exact h.1 u hu g e
  ·exact hx g e
 ·by_cases hi : k = i
  ·subst hi
   have hk:=(zA4.1 hu).1
   rw [zB2] at hk
   rw [List.getElem?_set_self hk] at hu
   injection hu with hu
   subst hu
   rw [List.getElem?_set_ne hij] at hv
   exact hn j v (fun e => hij e.symm) hv g e
  ·rw [List.getElem?_set_ne hi] at hu
   by_cases hj : k = j
   ·subst hj
    have hk:=(zA4.1 hv).1
    rw [zB2] at hk
    rw [List.getElem?_set_self hk] at hv
    injection hv with hv
    subst hv
    exact fun e2 => hn i u (fun e => hi e.symm) hu g e2 e
   ·rw [List.getElem?_set_ne hj] at hv
    exact h.2 i j u v hij hu hv g e
theorem Apt.newR {w : World} {B k : Nat} {us : List Value} {w0 : World} {x : Value} (h0 : Apt w0 B us) (hk : Kp w0 w) (hB : B <= w0.heap.size) (hx : ∀ g,x.ownBlock = some g -> w0.heap.size <= g /\ zP1 w g) : Apt w B (us.set k x):=by
 refine (h0.grow hk).set (fun g e => ⟨zB4 hB (hx g e).1,(hx g e).2⟩) (fun j v hj hv g e e2 => ?_)
 have h1:=(h0.1 v (zA5 hv) g e2).2.lt
 have h2:=(hx g e).1
 omega
theorem Apt.new {w : World} {B k gn n c : Nat} {us : List Value} {w0 : World} (h0 : Apt w0 B us) (hk : Kp w0 w) (hs : w0.heap.size <= gn) (hB : B <= w0.heap.size) (hg : zP1 w gn) : Apt w B (us.set k (.slice (some ⟨gn,0,none⟩) n c)) :=
 h0.newR hk hB fun g e => by
  obtain rfl : gn = g:=by simpa [Value.ownBlock] using e
  exact ⟨hs,hg⟩
theorem Apt.cut {w : World} {B k : Nat} {us : List Value} {x u : Value} (h : Apt w B us) (hu : us[k]? = some u) (hx : ∀ g,x.ownBlock = some g -> u.ownBlock = some g) : Apt w B (us.set k x) :=
 h.set (fun g e => h.1 u (zA5 hu) g (hx g e)) (fun j v hj hv g e => h.2 k j u v (fun e => hj e.symm) hu hv g (hx g e))
theorem Apt.swap {w : World} {B k f : Nat} {us : List Value} {x y : Value} (h : Apt w B us) (hkf : k ≠ f) (hk : us[k]? = some x) (hf : us[f]? = some y) : Apt w B ((us.set k y).set f x):=by
 have hkl:=(zA4.1 hk).1
 have hfl:=(zA4.1 hf).1
 have at_ : ∀ i : Nat,((us.set k y).set f x)[i]? = if i = f then some x else if i = k then some y else us[i]?:=fun i => by
  by_cases e1 : i = f
  ·subst e1
   rw [if_pos rfl,List.getElem?_set_self (by rw [zB2]; exact hfl)]
  ·rw [if_neg e1,List.getElem?_set_ne (fun e => e1 e.symm)]
   by_cases e2 : i = k
   ·subst e2
    rw [if_pos rfl,List.getElem?_set_self hkl]
   ·rw [if_neg e2,List.getElem?_set_ne (fun e => e2 e.symm)]
 have src : ∀ (i : Nat) (u : Value),((us.set k y).set f x)[i]? = some u -> us[if i = f then k else if i = k then f else i]? = some u:=fun i u hu => by
  rw [at_] at hu
  by_cases e1 : i = f
  ·rw [if_pos e1] at hu |-; rw [hk]; exact hu
  ·rw [if_neg e1] at hu |-
   by_cases e2 : i = k
   ·rw [if_pos e2] at hu |-; rw [hf]; exact hu
   ·rw [if_neg e2] at hu |-; exact hu
 refine ⟨fun u hu g e => ?_,fun i j u v hij hu hv g e => ?_⟩
 ·obtain ⟨i,hi⟩:=List.mem_iff_getElem?.1 hu
  exact h.1 u (zA5 (src i u hi)) g e
 ·refine h.2 _ _ u v ?_ (src i u hu) (src j v hv) g e
  intro e2
  split at e2 <;> split at e2 <;> (try split at e2) <;> (try split at e2) <;> omega
def RetWay (g n C : Nat) (us0 : List Value) (T0 : List (List Int)) (w : World) (e : Ending) (w' : World) : Prop:=w.grownBy w' (some g) /\ ((∃ us T d neg v a,e = .returned (.tuple #[v,.bool neg]) /\ IsZ w' v d /\ zD5 .u64 4294967296 w' g 48 us T /\ shI T n (C - n) /\ zH6 T 5000 /\ zC1 d <= 5000 /\ BrT n C n a T d /\ Prm n C (zC4 T0) a (if neg = true then -1 else 1) /\ ∀ B,B <= w.heap.size -> Apt w B us0 -> Apt w' B us) \/ (∃ v,e = .returned (.tuple #[v,.bool false]) /\ IsZ w' v 0 /\ zC6 n (qF (zC4 T0)) = 0))
theorem jD3 {n C k S : Nat} {a : Nat -> Nat -> Int} {T : List (List Int)} {d : Int} {q : List Int} (h : BrT n C k a T d) (hs : shI T n (C - k)) (hk : k < n) (hq : T[k]? = some q) (hp : q.getD 0 0 ≠ 0) (hl : zH6 T S) : zH6 ((zQ1 T k q d).set k (q.drop 1)) (2 * S + 1):=by
 intro r hr
 have hql:=hl q (zA5 hq)
 obtain ⟨i,hi⟩:=List.mem_iff_getElem?.1 hr
 have hil:=(zA4.1 hi).1
 rw [zB2,zX7] at hil
 by_cases e : k = i
 ·subst e
  rw [List.getElem?_set_self (by rw [zX7]; exact hil)] at hi
  injection hi with hi
  intro z hz
  rw [<- hi] at hz
  exact zB4 (hql z (List.mem_of_mem_drop hz)) (by omega)
 ·have hT : T[i]? = some T[i]:=zA3 hil
  rw [List.getElem?_set_ne e,qF1 hT,if_neg (fun h => e h.symm)] at hi
  injection hi with hi
  rw [<- hi]
  exact jD2 h.ne (h.crs hs hk hq hp hT (fun h => e h.symm)) (hl _ (zA5 hT)) hql
theorem yI {S k n : Nat} (hk : k <= n) (h : (S + 1) * 2 ^ n <= 5001) : (S + 1) * 2 ^ k <= 5001:=zB4 (Nat.mul_le_mul_left _ (Nat.pow_le_pow_right (by omega) hk)) h
theorem yI0 : zC1 1 <= 1:=zI0 (by omega) (by decide)
theorem jD4 (g n C S : Nat) (us : List Value) (T0 : List (List Int)) (w : World) (h : zD5 .u64 4294967296 w g 48 us T0) (hc : Hid (shI T0 n C /\ n <= C /\ n <= 100 /\ C <= 200 /\ zH6 T0 S /\ (S + 1) * 2 ^ n <= 5001)) :
    Calls Tryz.prog 73 #[.slice (some ⟨g,0,none⟩) n n] w (RetWay g n C us T0 w):=by
  have hn100:=hc.out.2.2.1
  have hnC:=hc.out.2.1
  obtain ⟨O,hO⟩ : ∃ O : Int,O = 1:=⟨_,rfl⟩
  have CO : ∀ w,Calls Tryz.prog 82 #[.int .i64 1] w (zE2 O w):=fun w => by rw [hO]; exact qD4 1 w (by omega) (by omega)
  obtain ⟨Z,hZ⟩ : ∃ Z : Int,Z = 0:=⟨_,rfl⟩
  have CZ : ∀ w,Calls Tryz.prog 82 #[.int .i64 0] w (zE2 Z w):=fun w => by rw [hZ]; exact qD4 0 w (by omega) (by omega)
  have HO:=Lib.hid hO
  have HZ:=Lib.hid hZ
  clear hO hZ
  go_enter Tryz.func73,Tryz.ntmps73
  go_wp2_with fail
  refine (CO _).mono ?_
  rintro e w2 ⟨v2,rfl,k2,-,b2⟩
  obtain ⟨u2,rfl,s2⟩:=k2
  obtain ⟨A2,c2,rfl,_⟩:=id s2
  have ba:=zC8 (w:=w) (zB3 _) (.cells #[.bool false,.slice none 0 0] 60)
  have hs1 : (w.alloc (.cells #[.bool false,.slice none 0 0] 60)).heap.size = w.heap.size + 1:=by first | rfl | exact Array.size_push _
  have BR0:=(Blk.new w 60 #[.bool false,.slice none 0 0]).below b2
  have ba2:=zC8 (w:=w2) (zB3 _) (.cells #[.bool (ngB O),.slice A2 (digs 4294967296 O.natAbs).length c2] 60)
  have BP0:=Blk.new w2 60 #[.bool (ngB O),.slice A2 (digs 4294967296 O.natAbs).length c2]
  have hgP : w.heap.size < w2.heap.size:=by have:=b2.size; omega
  have hglt : g < w.heap.size:=h.lt
  have bb2:=ba.trans (b2.mono ba.size)
  have TS0:=(h.below bb2).below ba2
  have HA0:=Lib.hid (fun (B : Nat) (hB : B <= w.heap.size) (h : Apt w B us) => h.grow ((zN0 bb2).trans (zN0 ba2)))
  have HG0 : Hid (w.grownBy _ (some g)):=qK4 (bb2.trans (ba2.mono bb2.size)) (some g)
  have s20:=s2.below ba2
  have BR1:=BR0.below ba2
  have HD0 : Hid (BrT n C 0 (zC4 T0) T0 O /\ shI T0 n (C - 0) /\ zH6 T0 ((S + 1) * 2 ^ 0 - 1) /\ zC1 O <= 5000):=by
    refine ⟨?_,hc.out.1,?_,?_⟩
    · rw [HO.out]; exact BrT.start hc.out.2.1
    · rw [show (S + 1) * 2 ^ 0 - 1 = S by simp]; exact hc.out.2.2.2.2.1
    · rw [HO.out]; exact zB4 yI0 (by omega)
  have HP0 : Hid (Prm n C (zC4 T0) (zC4 T0) (if false = true then -1 else 1)):=Prm.refl n C _
  have HO0 : Hid (zL0 us (fun x => x = w.heap.size \/ x = w2.heap.size)):=by
    show zL0 _ _
    intro u hu x hx hG
    obtain ⟨i,hi⟩:=List.mem_iff_getElem?.1 hu
    have hin:=(zA4.1 hi).1
    rw [h.2.1,hc.out.1.1] at hin
    obtain ⟨r,hr,hrl⟩:=zT6 hc.out.1 hin
    have hsl:=h.2.2 i u r hi hr
    obtain ⟨A',c',rfl,_,_⟩:=hsl.shape
    obtain ⟨g',o',rfl,hlt⟩:=hsl.place (List.length_pos_iff.1 (by omega))
    have e1 : g' = x:=by simpa [Value.ownBlock] using hx
    rcases hG with e2 | e2 <;> omega
  clear ba b2 ba2 bb2 s2 BR0 hs1
  go_wp2
  go_loopw [5,13] (fun v5 v13 wr => ∃ (k : Nat) (T : List (List Int)) (us' : List Value) (a : Nat -> Nat -> Int) (d : Int) (u : Value) (neg : Bool),k <= n /\ Hid (BrT n C k a T d /\ shI T n (C - k) /\ zH6 T ((S + 1) * 2 ^ k - 1) /\ zC1 d <= 5000) /\ zD5 .u64 4294967296 wr g 48 us' T /\ Blk wr w2.heap.size 60 #[.bool (ngB d),u] /\ IsS wr .u64 u (digs 4294967296 d.natAbs) /\ Blk wr w.heap.size 60 #[.bool false,.slice none 0 0] /\ Hid (Prm n C (zC4 T0) a (if neg = true then -1 else 1)) /\ Hid (w.grownBy wr (some g)) /\ Hid (zL0 us' (fun x => x = w.heap.size \/ x = w2.heap.size)) /\ Hid (∀ B,B <= w.heap.size -> Apt w B us -> Apt wr B us') /\ v5 = .bool neg /\ v13 = .int .i64 (k : Int)) (fun _ v13 _ => n - (intOf v13).toNat)
  case atStart => exact ⟨0,T0,us,zC4 T0,O,_,false,by omega,HD0,TS0,BP0,s20,BR1,HP0,HG0,HO0,HA0,rfl,rfl⟩
  case round =>
    clear TS0 BP0 s20 BR1 HG0 HD0 HO0 HP0 HA0 CO HO
    obtain ⟨k,T,us',a,d,u,neg,hk,HD,TS,BP,su,BR,HP,HG,HOF,HAP,rfl,rfl⟩:=hrel
    obtain ⟨Au,cu,rfl,_⟩:=id su
    by_cases hlt : k < n
    · have hTl : T.length = n:=HD.out.2.1.1
      have SL:=TS.sub (o:=k) (m:=n - k) (c:=n - k) (by omega) (zB3 _) (by unfold maxLen; omega)
      go_wp2_with fail
      refine (jC6 _ _ _ SL (fun r hr => by rw [HD.out.2.1.2 r (List.mem_of_mem_drop (List.mem_of_mem_take hr))]; omega)).mono ?_
      rintro e w4 ⟨f,rfl,hf,hz,hnz,b4⟩
      have hLl : ((T.drop k).take (n - k)).length = n - k:=by rw [List.length_take,List.length_drop]; omega
      have hent : ∀ i,i < n - k -> zC4 ((T.drop k).take (n - k)) i 0 = zC4 T (k + i) 0:=fun i hi => by
        have e : ((T.drop k).take (n - k)).getD i [] = T.getD (k + i) []:=by rw [zA6,List.getElem?_take_of_lt hi,List.getElem?_drop,zA6]
        unfold zC4
        rw [e]
      rw [hLl] at hf hnz
      have TS4:=TS.below b4
      have BP4:=BP.below b4
      have su4:=su.below b4
      have BR4:=BR.below b4
      have HG4 : Hid (w.grownBy w4 (some g)):=zI9 HG.out b4
      have HAP4:=Lib.hid (fun (B : Nat) (hB : B <= w.heap.size) (h : Apt w B us) => (HAP.out B hB h).grow (zN0 b4))
      clear TS BP su BR HG SL
      by_cases hfl : f < n - k
      · have hne : zC4 T (k + f) 0 ≠ 0:=by rw [<- hent f hfl]; exact hnz hfl
        have HNE:=Lib.hid hne
        clear hz hnz hent hne hLl
        go_upto_if 29 with (fail)
        have hb25 : ((k : Int) + (f : Int) == (n : Int)) = false:=by rw [beq_eq_false_iff_ne]; omega
        obtain ⟨B29,hB⟩ : ∃ B,B = decide ((k : Int) < (k : Int) + (f : Int)):=⟨_,rfl⟩
        rw [hb25,<- hB]
        have HB:=Lib.hid hB
        clear hb25 hB
        go_cut [5] from 30 to 45 (fun s5 wx => ∃ (us2 : List Value) (T2 : List (List Int)) (a2 : Nat -> Nat -> Int) (neg2 : Bool),s5 = .bool neg2 /\ zD5 .u64 4294967296 wx g 48 us2 T2 /\ Hid (BrT n C k a2 T2 d /\ shI T2 n (C - k) /\ zH6 T2 ((S + 1) * 2 ^ k - 1) /\ zC1 d <= 5000) /\ Hid (zC4 T2 k 0 ≠ 0) /\ Hid (Prm n C (zC4 T0) a2 (if neg2 = true then -1 else 1)) /\ Hid (zL0 us2 (fun x => x = w.heap.size \/ x = w2.heap.size)) /\ Blk wx w2.heap.size 60 #[.bool (ngB d),.slice Au (digs 4294967296 d.natAbs).length cu] /\ IsS wx .u64 (.slice Au (digs 4294967296 d.natAbs).length cu) (digs 4294967296 d.natAbs) /\ Blk wx w.heap.size 60 #[.bool false,.slice none 0 0] /\ Hid (w.grownBy wx (some g)) /\ Hid (∀ B,B <= w.heap.size -> Apt w B us -> Apt wx B us2))
        case first =>
          by_cases hf0 : f = 0
          · subst hf0
            have hb : B29 = false:=by rw [HB.out]; exact decide_eq_false (by omega)
            subst hb
            have HN0 : Hid (zC4 T k 0 ≠ 0):=by have:=HNE.out; rwa [Nat.add_zero] at this
            go_wp2_with fail
            go_meet
            exact ⟨us',T,a,neg,rfl,TS4,HD,HN0,HP,HOF,BP4,su4,BR4,HG4,HAP4⟩
          · have hb : B29 = true:=by rw [HB.out]; exact decide_eq_true (by omega)
            subst hb
            obtain ⟨rk,hrk,hrkl⟩:=zT6 HD.out.2.1 (show k < n by omega)
            obtain ⟨rf,hrf,hrfl⟩:=zT6 HD.out.2.1 (show k + f < n by omega)
            obtain ⟨Ak,ck,huk,eck,srk⟩:=TS4.at_ hrk
            obtain ⟨Af,cf,huf,ecf,srf⟩:=TS4.at_ hrf
            have fk:=TS4.1.1.frozen k
            have ff:=TS4.1.1.frozen (k + f)
            have hpos : 0 < n - k:=by omega
            have HD2 : Hid (BrT n C k (fun i => if i = k then a (k + f) else if i = k + f then a k else a i) ((T.set k rf).set (k + f) rk) d /\ shI ((T.set k rf).set (k + f) rk) n (C - k) /\ zH6 ((T.set k rf).set (k + f) rk) ((S + 1) * 2 ^ k - 1) /\ zC1 d <= 5000):=by
              refine ⟨BrT.swap HD.out.1 HD.out.2.1.1 (by omega) (by omega) hrk hrf,⟨by rw [zB2,zB2]; exact HD.out.2.1.1,fun r hr => ?_⟩,fun r hr => ?_,HD.out.2.2.2⟩
              · rcases List.mem_or_eq_of_mem_set hr with hr | rfl
                · rcases List.mem_or_eq_of_mem_set hr with hr | rfl
                  · exact HD.out.2.1.2 r hr
                  · exact hrfl
                · exact hrkl
              · rcases List.mem_or_eq_of_mem_set hr with hr | rfl
                · rcases List.mem_or_eq_of_mem_set hr with hr | rfl
                  · exact HD.out.2.2.1 r hr
                  · exact HD.out.2.2.1 _ (zA5 hrf)
                · exact HD.out.2.2.1 _ (zA5 hrk)
            have HN2 : Hid (zC4 ((T.set k rf).set (k + f) rk) k 0 ≠ 0):=by
              have h1 : ((T.set k rf).set (k + f) rk)[k]? = some rf:=by rw [List.getElem?_set_ne (by omega),List.getElem?_set_self (by rw [HD.out.2.1.1]; omega)]
              show _ ≠ _
              rw [zJ0 h1,<- zJ0 hrf]
              exact HNE.out
            have HP2 : Hid (Prm n C (zC4 T0) (fun i => if i = k then a (k + f) else if i = k + f then a k else a i) (if (!neg) = true then -1 else 1)):=by
              have h1:=HP.out.swap (k:=k) (f:=k + f) (by omega) (by omega) (by omega)
              have e : (if (!neg) = true then (-1 : Rat) else 1) = -(if neg = true then -1 else 1):=by cases neg <;> decide
              show Prm _ _ _ _ _
              rw [e]; exact h1
            clear hrkl hrfl
            go_upto_region 9 with (fail)
            go_region
            all_goals
              have TS5:=TS4.stored k srf
              have srk5:=TS4.1.keepZ (zF0 w4 g k (.slice Af rf.length cf)) srk
              have TS6:=TS5.stored (k + f) srk5
              have G8:=zI9 ((zF0 w4 g k (.slice Af rf.length cf)).trans (zF0 _ g (k + f) (.slice Ak rk.length ck))) (Below.refl _ ((w4.setCell ⟨g,k,none⟩ (.slice Af rf.length cf)).setCell ⟨g,k + f,none⟩ (.slice Ak rk.length ck))).drew
              have TS8:=TS6.below (Below.refl _ _).drew
              have HO8 : Hid (zL0 ((us'.set k (.slice Af rf.length cf)).set (k + f) (.slice Ak rk.length ck)) (fun x => x = w.heap.size \/ x = w2.heap.size)):=(HOF.out.set (fun x hx => HOF.out _ (zA5 huf) x hx) k).set (fun x hx => HOF.out _ (zA5 huk) x hx) (k + f)
              have BP8:=Blk.grown BP4 G8 (by omega)
              have BR8:=Blk.grown BR4 G8 (by omega)
              have su8:=TS4.1.keep G8 su4
              have HG8:=Lib.hid (HG4.out.trans G8)
              have HA8:=Lib.hid (fun (B : Nat) (hB : B <= w.heap.size) (h : Apt w B us) => ((HAP4.out B hB h).swap (show k ≠ k + f by omega) huk huf).grow ((zQ2 w4 g k (.slice Af rf.length cf)).trans ((zQ2 _ g (k + f) (.slice Ak rk.length ck)).trans (zN0 (Below.refl _ _).drew))))
              clear TS5 TS6 srk5 G8 TS4 BP4 BR4 su4 HG4 srk srf eck ecf fk ff
              go_wp2
              go_meet
              exact ⟨_,_,_,_,rfl,TS8,HD2,HN2,HP2,HO8,BP8,su8,BR8,HG8.out,HA8.out⟩
        case rest =>
          obtain ⟨us2,T2,a2,neg2,rfl,TS5,HD5,HNE5,HP5,HO5,BP5,su5,BR5,HG5,HA5⟩:=hcut
          obtain ⟨w5,hw5⟩ : ∃ w5,w5 = wc:=⟨_,rfl⟩
          subst hw5
          clear TS4 BP4 su4 BR4 HG4 HOF HB HD HP HNE HAP HAP4 hTl
          obtain ⟨q,hq,hql⟩:=zT6 HD5.out.2.1 hlt
          obtain ⟨Aq,cq,huq,ecq,sq⟩:=TS5.at_ hq
          obtain ⟨gq,oq,rfl,hgq⟩:=sq.place (List.length_pos_iff.1 (by omega))
          have hq0 : q.getD 0 0 ≠ 0:=by have:=HNE5.out; rwa [zJ0 hq] at this
          obtain ⟨m,hm⟩ : ∃ m,C - k = m + 1:=⟨C - k - 1,by omega⟩
          have HM:=Lib.hid hm
          obtain ⟨N,hN⟩ : ∃ N,N = zQ1 T2 k q d:=⟨_,rfl⟩
          have HNL : Hid (N.length = T2.length /\ T2.length = n):=⟨by rw [hN]; exact zX7 _ _ _ _,HD5.out.2.1.1⟩
          have HNK : Hid (N[k]? = some q /\ T2[k]? = some q):=⟨by rw [hN,qF1 hq,if_pos rfl],hq⟩
          have HNI : Hid (∀ i r,T2[i]? = some r -> i ≠ k -> N[i]? = some (zM4 r q d) /\ Crs r q (zM4 r q d) d /\ r.length = m + 1):=by
            show ∀ i r,_
            intro i r hr hik
            exact ⟨by rw [hN,qF1 hr,if_neg hik],BrT.crs HD5.out.1 HD5.out.2.1 hlt hq hq0 hr hik,by rw [HD5.out.2.1.2 r (zA5 hr)]; exact hm⟩
          have HNX : Hid (BrT n C (k + 1) a2 (N.set k (q.drop 1)) (q.getD 0 0) /\ shI (N.set k (q.drop 1)) n (C - (k + 1)) /\ zH6 (N.set k (q.drop 1)) ((S + 1) * 2 ^ (k + 1) - 1) /\ zC1 (q.getD 0 0) <= 5000):=by
            have h1:=jD3 HD5.out.1 HD5.out.2.1 hlt hq hq0 HD5.out.2.2.1
            have h3:=yI (k:=k) (by omega) hc.out.2.2.2.2.2
            have h4 : 1 <= (S + 1) * 2 ^ k:=Nat.mul_pos (by omega) (Nat.two_pow_pos k)
            have h2 : 2 * ((S + 1) * 2 ^ k - 1) + 1 = (S + 1) * 2 ^ (k + 1) - 1:=by
              have : (S + 1) * 2 ^ (k + 1) = 2 * ((S + 1) * 2 ^ k):=by rw [Nat.pow_succ]; simp [Nat.mul_comm,Nat.mul_left_comm]
              omega
            rw [h2] at h1
            rw [hN]
            refine ⟨BrT.next HD5.out.1 HD5.out.2.1 hlt hq hq0,next_sh HD5.out.2.1 hq,h1,?_⟩
            have e : q[0]? = some (q.getD 0 0):=by
              rw [zA3 (show 0 < q.length by omega),zA6,zA3 (show 0 < q.length by omega)]; rfl
            exact zB4 (HD5.out.2.2.1 q (zA5 hq) _ (zA5 e)) (by omega)
          have HLQ : Hid (∀ r ∈ T2,∀ z ∈ r,zC1 z <= 5000):=by
            have h3:=yI (k:=k) (by omega) hc.out.2.2.2.2.2
            exact fun r hr z hz => zB4 (HD5.out.2.2.1 r hr z hz) (by omega)
          have HDN:=Lib.hid (zA (BrT.ne HD5.out.1) HD5.out.2.2.2)
          have HQL : Hid (q.length = m + 1 /\ m <= 1000):=⟨by rw [hql]; exact hm,by have:=hc.out.2.2.2.1; omega⟩
          have hOQ:=HO5.out _ (zA5 huq)
          have HOQ:=Lib.hid hOQ
          have HU0:=Lib.hid huq
          have TM0 : zD5 .u64 4294967296 w5 g 48 us2 (zF5 T2 N 0):=by rw [zX8]; exact TS5
          clear hq hm hN hq0 hql huq HNE5 hOQ
          have HTB:=Lib.hid TS5.1
          have hgs : g ≠ w2.heap.size:=by omega
          go_wp2
          go_loopw [52] (fun v52 wr => ∃ (i : Nat) (us3 : List Value),i <= n /\ zD5 .u64 4294967296 wr g 48 us3 (zF5 T2 N i) /\ Hid (w5.grownBy wr (some g)) /\ Hid (zL0 us3 (fun x => x = w.heap.size \/ x = w2.heap.size)) /\ Hid (us3[k]? = some (.slice (some ⟨gq,oq,none⟩) q.length cq)) /\ Hid (∀ B,B <= w.heap.size -> Apt w B us -> Apt wr B us3) /\ v52 = .int .i64 (i : Int)) (fun v52 _ => n - (intOf v52).toNat)
          case atStart => exact ⟨0,us2,by omega,TM0,qK6 _ _,HO5,HU0,HA5,rfl⟩
          case round =>
            clear TM0 ecq
            obtain ⟨i,us3,hi,TM,HGi,HOi,HUi,HAi,rfl⟩:=hrel
            obtain ⟨wi,hwi⟩ : ∃ wi,wi = wr:=⟨_,rfl⟩
            subst hwi
            by_cases hin : i < n
            · by_cases hik : i = k
              · have hneq : ((i : Int) != (k : Int)) = false:=by rw [bne_eq_false_iff_eq]; omega
                have TM2 : zD5 .u64 4294967296 wi g 48 us3 (zF5 T2 N (i + 1)):=by
                  rw [jD0 HNL.out.1 (by rw [hik]; exact HNK.out.1) (by rw [hik]; exact HNK.out.2)]
                  exact TM
                clear hik TM
                go_wp2
                go_roundw
                case rel => exact ⟨i + 1,us3,by omega,TM2,HGi,HOi,HUi,HAi,by go_num⟩
                case measure => simp [intOf]; omega
              · have hneq : ((i : Int) != (k : Int)) = true:=by rw [bne_iff_ne]; omega
                obtain ⟨r,hr,-⟩:=zT6 HD5.out.2.1 hin
                have hr2 : (zF5 T2 N i)[i]? = some r:=by rw [zV7 HNL.out.1 (by rw [HNL.out.2]; omega)]; exact hr
                have HIK:=Lib.hid hik
                have HR:=Lib.hid (zA hr (zA hr2 (HNI.out i r hr hik)))
                have bd:=(Below.refl wi.heap.size wi).drew
                have TMd:=TM.below bd
                obtain ⟨Ar,cr,hur,ecr,srd⟩:=TMd.at_ hr2
                have sqd:=(HTB.out.keepZ HGi.out sq).below bd
                have BPd:=(Blk.grown BP5 HGi.out (fun e => hgs e.symm)).below bd
                have sud:=(HTB.out.keep HGi.out su5).below bd
                obtain ⟨V0,V1,F0,F1⟩:=Blk.two BPd
                have HGd : Hid (w5.grownBy wi.drew (some g)):=zI9 HGi.out bd
                have HC : Hid (d ≠ 0 /\ (∀ z ∈ r,zC1 z <= 5000) /\ (∀ z ∈ q,zC1 z <= 5000) /\ zC1 d <= 5000 /\ Crs r q (zM4 r q d) d):=⟨HDN.out.1,HLQ.out r (zA5 hr),HLQ.out q (zA5 HNK.out.2),HDN.out.2,HR.out.2.2.2.1⟩
                obtain ⟨zs,hzs⟩ : ∃ zs,zs = zM4 r q d:=⟨_,rfl⟩
                rw [<- hzs] at HC HR
                have hzl : zs.length = m:=by rw [hzs,qS1,HR.out.2.2.2.2]; omega
                have HLL : Hid (r.length = m + 1 /\ q.length = m + 1 /\ zs.length = m /\ m <= 1000):=⟨HR.out.2.2.2.2,HQL.out.1,hzl,HQL.out.2⟩
                have HSET : Hid ((zF5 T2 N i).set i zs = zF5 T2 N (i + 1)):=zV8 HNL.out.1 HR.out.2.2.1
                have fi:=TMd.1.1.frozen i
                clear hik hr hr2 hzs hzl TM HGi
                go_upto_region 16 with (fail)
                go_region_law (go_simp; go_at_call 118; refine (jC9 _ _ _ r q zs d m _ (by exact srd) (by exact sqd) ⟨_,rfl,sud⟩ HLL.out HC).mono ?_; rintro e w6 ⟨gn,rfl,RN,hgn,b6⟩; have sR:=RN.sl rfl (by have:=HLL.out; omega); have TM6:=TMd.below b6; obtain ⟨A6',c6',hu6,ec6,-⟩:=TM6.at_ HR.out.2.1; have f6:=TM6.1.1.frozen i)
                all_goals
                  have TM7:=TM6.stored i sR
                  rw [HSET.out] at TM7
                  have HG7:=Lib.hid ((zI9 HGd.out b6).trans (zF0 w6 g i (.slice (some ⟨gn,0,none⟩) zs.length zs.length)))
                  have hlt2:=BPd.lt
                  have HU7 : Hid ((us3.set i (.slice (some ⟨gn,0,none⟩) zs.length zs.length))[k]? = some (.slice (some ⟨gq,oq,none⟩) q.length cq)):=by show _ = _; rw [List.getElem?_set_ne HIK.out]; exact HUi.out
                  have HA7:=Lib.hid (fun (B : Nat) (hB : B <= w.heap.size) (h : Apt w B us) => Apt.new (w:=w6.setCell ⟨g,i,none⟩ (.slice (some ⟨gn,0,none⟩) zs.length zs.length)) (k:=i) (n:=zs.length) (c:=zs.length) ((HAi.out B hB h).grow (w':=wi.drew) (zN0 bd)) ((zN0 b6).trans (zQ2 w6 g i _)) hgn (zB4 hB (zB4 HG5.out.size HGd.out.size)) ((zQ2 w6 g i _).2 gn RN.bk))
                  have HO7:=Lib.hid (HOi.out.set (u:=.slice (some ⟨gn,0,none⟩) zs.length zs.length) (fun x hx hG => by
                    have e1 : gn = x:=by simpa [Value.ownBlock] using hx
                    rcases hG with e2 | e2 <;> omega) i)
                  clear TM6 sR RN TMd BPd srd sqd sud V0 V1 F0 F1 ecr ec6 f6 fi HGd HOi bd b6
                  go_wp2
                  go_roundw
                  case rel => exact ⟨i + 1,_,by omega,TM7,HG7,HO7,HU7,HA7,by go_num⟩
                  case measure => simp [intOf]; omega
            · have TMn : zD5 .u64 4294967296 wi g 48 us3 N:=by
                have h1:=zX9 HNL.out.1
                rw [HNL.out.2] at h1
                rw [show i = n by omega,h1] at TM
                exact TM
              have sqn:=HTB.out.keepZ HGi.out sq
              have BPn:=Blk.grown BP5 HGi.out (fun e => hgs e.symm)
              have sun:=HTB.out.keep HGi.out su5
              have BRn:=Blk.grown BR5 HGi.out (show w.heap.size ≠ g by omega)
              have hql1 : 1 <= q.length:=by have:=HQL.out.1; omega
              obtain ⟨Q0,hQ0⟩ : ∃ Q0,Q0 = q.getD 0 0:=⟨_,rfl⟩
              have hq0 : q[0]? = some Q0:=by
                rw [hQ0,zA3 (show 0 < q.length by omega),zA6,zA3 (show 0 < q.length by omega)]; rfl
              rw [<- hQ0] at HNX
              obtain ⟨u0,hi0,p0,p1,e0⟩:=sqn.at2 hq0
              rw [show oq + 0 * 2 = oq by omega] at p0 p1
              obtain ⟨Au0,cu0,rfl,_⟩:=id e0
              obtain ⟨A1,hA1⟩ : ∃ A1 : Option Addr,A1 = if cq = 1 then some ⟨gq,oq,none⟩ else some ⟨gq,oq + 2,none⟩:=⟨_,rfl⟩
              have sV:=sqn.cut1 hql1 hA1
              obtain ⟨rN,hrN⟩ : ∃ rN,N[k]? = some rN:=⟨_,HNK.out.1⟩
              obtain ⟨AN,cN,huN,ecN,-⟩:=TMn.at_ hrN
              have fN:=TMn.1.1.frozen k
              have hcq : q.length <= cq:=by obtain ⟨A',c',e,h1,h2⟩:=sqn.shape; injection e with _ _ e; omega
              have hix:=fun w => yH6 (P:=Tryz.prog) Tryz.underlying48 (by kernel_rfl) (g:=gq) (o:=oq) (c:=cq) hi0 w
              obtain ⟨V0,V1,F0,F1⟩:=Blk.two BPn
              have HQ0:=Lib.hid (zA hQ0 hq0)
              have HA1:=Lib.hid hA1
              clear hQ0 hq0 hA1
              go_upto_region 18 with (fail)
              go_region
              all_goals
                rw [<- HA1.out]
                have G1:=zF0 wi g k (.slice A1 (q.length - 1) (cq - 1))
                have TM1:=TMn.stored k sV
                have e1:=TMn.1.keep G1 e0
                have BP1:=Blk.grown BPn G1 (fun e => hgs e.symm)
                have HO1:=Lib.hid (HOi.out.set (u:=.slice A1 (q.length - 1) (cq - 1)) (fun x hx => HOQ.out x (by
                  rw [HA1.out] at hx
                  split at hx <;> simpa [Value.ownBlock] using hx)) k)
                have G2:=zV9 (wi.setCell ⟨g,k,none⟩ (.slice A1 (q.length - 1) (cq - 1))) w2.heap.size (.bool (ngB Q0)) (.slice Au0 (digs 4294967296 Q0.natAbs).length cu0)
                have TM2:=TM1.offZ BP1 no_ints2 (by decide) G2 (fun u hu e => HO1.out u hu _ e (.inr rfl))
                have BP2:=zT7 BP1 (.bool (ngB Q0)) (.slice Au0 (digs 4294967296 Q0.natAbs).length cu0)
                have e2:=Go.Proofs.YtagaabooccnamaaGreat.flow.off e1 BP1 no_ints2 G2
                have BR2:=Blk.grown (Blk.grown BRn G1 (show w.heap.size ≠ g by omega)) G2 (by omega)
                have TMf:=TM2.drew
                have BPf : Blk _ _ _ _:=BP2.drew
                have ef:=e2.drew
                have BRf : Blk _ _ _ _:=BR2.drew
                have HAf:=Lib.hid (fun (B : Nat) (hB : B <= w.heap.size) (h : Apt w B us) => ((HAi.out B hB h).cut (x:=.slice A1 (q.length - 1) (cq - 1)) HUi.out (fun x hx => by
                  rw [HA1.out] at hx
                  split at hx <;> simpa [Value.ownBlock] using hx)).grow ((zQ2 wi g k (.slice A1 (q.length - 1) (cq - 1))).trans (yH9 _ w2.heap.size (.bool (ngB Q0)) (.slice Au0 (digs 4294967296 Q0.natAbs).length cu0))))
                have HGf:=Lib.hid (zI9 (zT5 ((HG5.out.trans HGi.out).trans G1) G2 (Nat.le_of_lt hgP)) (Below.drew (Below.refl _ _)))
                clear G1 TM1 e1 BP1 G2 TM2 BP2 e2 BR2 TMn sqn BPn sun BRn e0 sV ecN fN V0 V1 F0 F1 p0 p1 hix TM HGi HOi sq TS5 BP5 su5 BR5 HG5
                go_wp2
                go_roundw
                case rel => exact ⟨k + 1,_,_,a2,Q0,_,neg2,by omega,HNX,TMf,BPf,ef,BRf,HP5,HGf,HO1,HAf,rfl,by go_num⟩
                case measure => simp [intOf]; omega
      · have hfe : f = n - k:=by omega
        have HDET : Hid (zC6 n (qF (zC4 T0)) = 0):=by
          have h1:=BrT.none HD.out.1 hlt fun i h1 h2 => by
            have h3:=hent (i - k) (by omega)
            rw [show k + (i - k) = i by omega] at h3
            rw [<- h3]
            exact hz _ (by omega)
          have h2:=HP.out.fn _ ((zR3 n).wide hnC)
          show _ = _
          rw [h2,h1]; grind
        clear hz hnz hent hLl
        have hb25 : ((k : Int) + (f : Int) == (n : Int)) = true:=by rw [beq_iff_eq]; omega
        have hb26 : (k : Int) + (f : Int) = (n : Int):=by omega
        go_wp2_with fail
        refine (CZ _).mono ?_
        rintro e w6 ⟨v6,rfl,k6,-,b6⟩
        obtain ⟨u6,rfl,s6⟩:=k6
        obtain ⟨A6,c6,rfl,_⟩:=id s6
        have BR6:=BR4.below b6
        obtain ⟨V0,V1,F0,F1⟩:=Blk.two BR6
        have G8:=zV9 w6 w.heap.size (.bool (ngB Z)) (.slice A6 (digs 4294967296 Z.natAbs).length c6)
        have s8:=Go.Proofs.YtagaabooccnamaaGreat.flow.off s6 BR6 no_ints2 G8
        have HG8:=Lib.hid (zT5 (zI9 HG4.out b6) G8 (zB3 _))
        have B8:=zT7 BR6 (.bool (ngB Z)) (.slice A6 (digs 4294967296 Z.natAbs).length c6)
        obtain ⟨C0,C1,-,-⟩:=Blk.two B8
        clear G8 TS4 BP4 su4 BR4 HG4 s6 BR6 b6 B8
        go_wp2
        refine bodyPost_ret (v:=.tuple #[.agg #[.bool (ngB Z),.slice A6 (digs 4294967296 Z.natAbs).length c6],.bool false]) (by simp [results,Tryz.results73,go_sem,C0,C1]) rfl ?_
        exact ⟨HG8.out,.inr ⟨_,rfl,by rw [<- HZ.out]; exact ⟨_,rfl,s8⟩,HDET.out⟩⟩
    · obtain rfl : k = n:=by omega
      obtain ⟨V0,V1,F0,F1⟩:=Blk.two BP
      obtain ⟨U0,U1,G0,G1⟩:=Blk.two BR
      have G8:=zV9 wr w.heap.size (.bool (ngB d)) (.slice Au (digs 4294967296 d.natAbs).length cu)
      have s8:=Go.Proofs.YtagaabooccnamaaGreat.flow.off su BR no_ints2 G8
      have TS8:=TS.offZ BR no_ints2 (by decide) G8 (fun u hu e => HOF.out u hu _ e (.inl rfl))
      have HG8:=Lib.hid (zT5 HG.out G8 (zB3 _))
      have HAZ:=Lib.hid (fun (B : Nat) (hB : B <= w.heap.size) (h : Apt w B us) => (HAP.out B hB h).grow (yH9 wr w.heap.size (.bool (ngB d)) (.slice Au (digs 4294967296 d.natAbs).length cu)))
      have HLI : Hid (zH6 T 5000):=by
        have h3:=hc.out.2.2.2.2.2
        exact fun r hr z hz => zB4 (HD.out.2.2.1 r hr z hz) (by omega)
      have B8:=zT7 BR (.bool (ngB d)) (.slice Au (digs 4294967296 d.natAbs).length cu)
      obtain ⟨C0,C1,-,-⟩:=Blk.two B8
      clear G8 TS BP su BR HG B8
      go_wp2
      refine bodyPost_ret (v:=.tuple #[.agg #[.bool (ngB d),.slice Au (digs 4294967296 d.natAbs).length cu],.bool neg]) (by simp [results,Tryz.results73,go_sem,C0,C1]) rfl ?_
      exact ⟨HG8.out,.inl ⟨us',T,d,neg,_,a,rfl,⟨_,rfl,s8⟩,TS8,HD.out.2.1,HLI.out,HD.out.2.2.2,HD.out.1,HP.out,HAZ.out⟩⟩
def sgn (b : Bool) (x : Int) : Int:=if b = true then -x else x
theorem sgn_sg (b : Bool) (x : Int) : sg (!(ngB x == b)) x.natAbs = sgn b x:=by
 cases b
 ·have e : (!(ngB x == false)) = ngB x:=by cases ngB x <;> rfl
  rw [e]; exact zU5 x
 ·have e : (!(ngB x == true)) = !(ngB x):=by cases ngB x <;> rfl
  rw [e]; exact qO5 x
theorem yI1 (b0 : Bool) (a0 : Value) (x : Int) (w : World) (h0 : IsZ w a0 x) (hl : zC1 x <= 100000) :
  Calls Tryz.prog 75 #[.bool b0,a0] w (zE2 (sgn b0 x) w):=by
 obtain ⟨u0,rfl,s0⟩:=h0
 obtain ⟨A0,c0,rfl,_⟩:=id s0
 obtain ⟨X,hX⟩ : ∃ X,X = sgn b0 x:=⟨_,rfl⟩
 rw [<- hX]
 have HZ : Hid (sg (!(ngB x == b0)) x.natAbs = X):=by show _ = _; rw [hX]; exact sgn_sg b0 x
 have HL : Hid ((digs 4294967296 x.natAbs).length <= 1000000):=by show _ <= _; unfold zC1 at hl; omega
 clear hX
 go_enter Tryz.func75,Tryz.ntmps75
 go_upto_region 1 with (fail)
 obtain ⟨wx,hwx,bb,B0,B1,hsz⟩:=zI8 w 60 60 #[.bool (ngB x),.slice A0 (digs 4294967296 (x).natAbs).length c0] #[.bool false,.slice none 0 0]
 rw [hwx]
 clear hwx
 have k0s:=s0.below bb
 have hszb:=bb.size
 refine zC9 7 [Pd.eq (.pointer (some ⟨w.heap.size,0,none⟩)),Pd.eq (.bool (ngB x)),Pd.eq (.bool b0),Pd.eq (.bool (!(ngB x == b0))),Pd.eq (.pointer (some ⟨w.heap.size,1,none⟩)),Pd.eq (.slice A0 (digs 4294967296 (x).natAbs).length c0),pz X wx.heap.size] (by kernel_rfl) ?ob1 ?done1
 case ob1 =>
  refine zA (zC3 rfl (zB6 rfl) (zB8 rfl rfl) (fun _ => by kernel_rfl) (fun _ => rfl)) ?_
  refine zA (zC rfl (zB6 rfl) (zB7 (j:=0) (by kernel_rfl) rfl rfl) (fun w2 hb => zC5 Tryz.underlying4 rfl ((B0.below hb).cell 0)) (fun _ _ => rfl)) ?_
  refine zA (zC2 rfl (zB6 rfl) (zB8 rfl rfl) (fun _ _ h => h)) ?_
  refine zA (zG4 rfl (zB6 rfl) (zB7 (j:=1) (by kernel_rfl) rfl rfl) (zB7 (j:=2) (by kernel_rfl) rfl rfl) (fun _ _ _ hx hy => ⟨_,by rw [hx,hy]; exact qH6 _ _ _ _ Tryz.underlying4 _,rfl⟩)) ?_
  refine zA (zC3 rfl (zB6 rfl) (zB8 rfl rfl) (fun _ => by kernel_rfl) (fun _ => rfl)) ?_
  refine zA (zC rfl (zB6 rfl) (zB7 (j:=4) (by kernel_rfl) rfl rfl) (fun w2 hb => zC5 Tryz.underlying50 rfl ((B0.below hb).cell 1)) (fun _ _ => rfl)) ?_
  refine zA (zD4 rfl Tryz.func57 (by kernel_rfl) (zB6 rfl) (zB7 (j:=3) (by kernel_rfl) rfl rfl) (zB7 (j:=5) (by kernel_rfl) rfl rfl) (fun w2 u0 u1 hb h0 h1 => by obtain rfl:=h0; obtain rfl:=h1; exact (Go.Proofs.YtagaabooccnamaaGreat.whl.made_any _ _ _ X _ (k0s.below hb) HL.out HZ.out.symm).mono fun e w3 h => zE2.pd h hb.size)) ?_
  trivial
 case done1 =>
  refine fun w1 hb1 v0 h0 v1 h1 v2 h2 v3 h3 v4 h4 v5 h5 v6 h6 b hbf => ?_
  obtain rfl:=h0; obtain rfl:=h1; obtain rfl:=h2; obtain rfl:=h3; obtain rfl:=h4; obtain rfl:=h5
  obtain ⟨q5,f5⟩:=h6
  simp only [Act.put,zA0,zA2,zA1] at hbf
  subst hbf
  obtain ⟨u5,rfl,q5⟩:=q5
  obtain ⟨A9,c9,rfl,_⟩:=id q5
  have B9:=B1.below hb1
  refine zG8 (i:=7) rfl rfl rfl rfl rfl rfl (cells:=[.bool (ngB X),.slice A9 (digs 4294967296 X.natAbs).length c9]) rfl B9 rfl (by kernel_rfl) (zH8 rfl rfl) fun w9 hg9 BB9 => ?_
  have k9:=Go.Proofs.YtagaabooccnamaaGreat.flow.off q5 B9 no_ints2 hg9
  have f9:=(f5 _ _ rfl).mono (show w.heap.size <= wx.heap.size from bb.size)
  have bb9:=((bb.trans (hb1.mono bb.size)).trans ((Below.refl _ _).grown hg9 (zB4 bb.size hb1.size) (fun g hg => by injection hg with hg; omega)))
  obtain ⟨c0,c1,_,_⟩:=Blk.two BB9
  refine zD ?_
  go_wp2
  exact bodyPost_ret (v:=.agg #[.bool (ngB X),.slice A9 (digs 4294967296 X.natAbs).length c9]) (by simp [results,Tryz.results75,go_sem,c0,c1]) rfl ⟨_,rfl,zF4 k9 rfl rfl,zL1 f9,bb9⟩
theorem yI2 : ∃ i,Tryz.prog.info? 48 = some i /\ i.zero = some (.slice none 0 0) /\ i.size = 1 /\ i.bytes = 24:=info_parts (P:=Tryz.prog) (e:=48) (z:=.slice none 0 0) (size:=1) (bytes:=24) (by kernel_rfl)
theorem yI3 {b : Bool} {x : Int} {m : Nat} (h : zC1 x <= m) : zC1 (sgn b x) <= m:=by
 unfold sgn
 split
 ·exact yB0 h
 ·exact h
/-! Mathematics. -/
def zF1 (qs : List Rat) : Nat:=qs.foldl (fun m q => Nat.lcm m q.den) 1
theorem jD5 (qs : List Rat) (q : Rat) : zF1 (qs ++ [q]) = Nat.lcm (zF1 qs) q.den:=by unfold zF1; rw [List.foldl_append]; rfl
theorem jD6 : zF1 [] = 1:=rfl
theorem qS2 {qs : List Rat} {k : Nat} {q : Rat} (h : qs[k]? = some q) : zF1 (qs.take (k + 1)) = Nat.lcm (zF1 (qs.take k)) q.den:=by rw [List.take_add_one,h]; exact jD5 _ _
theorem qS3 (qs : List Rat) : 0 < zF1 qs:=by
 have key : ∀ (l : List Rat) (m : Nat),0 < m -> 0 < l.foldl (fun m q => Nat.lcm m q.den) m:=by
  intro l
  induction l with
  | nil => exact fun m h => h
  | cons q l ih => exact fun m h => ih _ (Nat.lcm_pos h q.den_pos)
 exact key qs 1 (by omega)
theorem qS4 {qs : List Rat} : ∀ q ∈ qs,q.den ∣ zF1 qs:=by
  have key : ∀ (l : List Rat) (m : Nat),m ∣ l.foldl (fun m q => Nat.lcm m q.den) m /\ ∀ q ∈ l,q.den ∣ l.foldl (fun m q => Nat.lcm m q.den) m:=by
    intro l
    induction l with
    | nil => exact fun m => ⟨Nat.dvd_refl _,fun q hq => by simp at hq⟩
    | cons q l ih =>
      intro m
      obtain ⟨h1,h2⟩:=ih (Nat.lcm m q.den)
      refine ⟨Nat.dvd_trans (Nat.dvd_lcm_left m q.den) h1,fun x hx => ?_⟩
      rcases List.mem_cons.1 hx with rfl | hx
      · exact Nat.dvd_trans (Nat.dvd_lcm_right m x.den) h1
      · exact h2 x hx
  exact (key qs 1).2
theorem lcm_len {x y m n : Nat} (hx : (digs 4294967296 x).length <= m) (hy : (digs 4294967296 y).length <= n) (h0 : 0 < x) (h1 : 0 < y) : (digs 4294967296 (Nat.lcm x y)).length <= m + n:=by
 have h2 : Nat.lcm x y <= x * y:=Nat.div_le_self _ _
 have h3:=zF7 (B:=4294967296) (by omega) h2
 have h4:=zT9 x y
 omega
theorem qL3 {S : Nat} : ∀ (qs : List Rat),(∀ q ∈ qs,zC7 q S) -> ∀ k,(digs 4294967296 (zF1 (qs.take k))).length <= 1 + S * k:=by
  intro qs h k
  induction k with
  | zero => rw [List.take_zero,jD6]; exact zB4 (zI0 (k:=1) (by omega) (by decide)) (by omega)
  | succ k ih =>
    cases hq : qs[k]? with
    | none => rw [List.take_add_one,hq,Nat.mul_succ]; simp; omega
    | some q =>
      rw [qS2 hq,Nat.mul_succ]
      have h2:=lcm_len ih (h q (zA5 hq)).2 (qS3 _) q.den_pos
      omega
def zI (qs : List Rat) : List Int:=qs.map fun q => q.num * ((zF1 qs / q.den : Nat) : Int)
theorem yI4 {qs : List Rat} {k : Nat} {q : Rat} (h : qs[k]? = some q) : (zI qs)[k]? = some (q.num * ((zF1 qs / q.den : Nat) : Int)):=by unfold zI; rw [zB1,h]; rfl
theorem zR9 (qs : List Rat) : (zI qs).length = qs.length:=by unfold zI; rw [zA9]
theorem yI5 {q : Rat} {m : Nat} (h : q.den ∣ m) : ((q.num * ((m / q.den : Nat) : Int) : Int) : Rat) = q * (m : Rat):=by
 obtain ⟨c,rfl⟩:=h
 have hd : (q.den : Rat) ≠ 0:=by
  intro e
  have h2:=q.den_pos
  have h3 : ((q.den : Nat) : Rat) = ((0 : Nat) : Rat):=e
  have:=Rat.natCast_inj.1 h3
  omega
 rw [Nat.mul_div_cancel_left c q.den_pos,Rat.intCast_mul]
 have e1 : q = (q.num : Rat) / (q.den : Rat):=(Rat.mkRat_self q).symm.trans (Rat.mkRat_eq_div q.num q.den)
 have e0 : (q.num : Rat) / (q.den : Rat) * (q.den : Rat) = (q.num : Rat):=by rw [Rat.div_def,Rat.mul_assoc,Rat.mul_comm (q.den : Rat)⁻¹,Rat.mul_inv_cancel _ hd,Rat.mul_one]
 have e : (q.num : Rat) = q * (q.den : Rat):=by rw [<- e1] at e0; exact e0.symm
 rw [e]
 have e2 : (((q.den * c : Nat) : Nat) : Rat) = (q.den : Rat) * (c : Rat):=Rat.natCast_mul _ _
 rw [e2]
 show q * (q.den : Rat) * ((c : Int) : Rat) = q * ((q.den : Rat) * (c : Rat))
 rw [show ((c : Int) : Rat) = (c : Rat) from rfl]
 grind
theorem qS5 (a0 : Value) (qs : List Rat) (S : Nat) (w : World) (h0 : SlF .u64 4294967296 w a0 qs) (hc : Hid (qs.length <= 100 /\ S <= 100 /\ ∀ q ∈ qs,zC7 q S)) :
  Calls Tryz.prog 20 #[a0] w (fun e w' => ∃ g v,e = .returned (.tuple #[.slice (some ⟨g,0,none⟩) qs.length qs.length,v]) /\ w.heap.size <= g /\ zJ w' g qs.length (zI qs) /\ IsS w' .u64 v (digs 4294967296 (zF1 qs)) /\ Below w.heap.size w w'):=by
 obtain ⟨n,hn⟩ : ∃ n,n = qs.length:=⟨_,rfl⟩
 obtain ⟨A0,c0,rfl,hc0,hm0⟩:=h0.shape
 rw [<- hn] at h0 hc0 |-
 have hn100 : n <= 100:=by rw [hn]; exact hc.out.1
 have HN:=Lib.hid hn
 have HS0:=Lib.hid h0
 have HLL : Hid (∀ k,k <= n -> (digs 4294967296 (zF1 (qs.take k))).length <= 10001):=fun k hk => by
  have h1:=qL3 qs hc.out.2.2 k
  have h2 : S * k <= 100 * 100:=Nat.mul_le_mul hc.out.2.1 (by omega)
  omega
 unfold maxLen at hm0
 clear h0 hn
 go_enter Tryz.func20,Tryz.ntmps20
 go_wp2_with fail
 refine (qB8 _ 1 _ rfl (by omega)).mono ?_
 rintro e w1 ⟨v1,rfl,k1,-,b1⟩
 have k10 : IsS w1 .u64 v1 (digs 4294967296 (zF1 (qs.take 0))):=by rw [List.take_zero]; exact k1
 have HB1:=Lib.hid b1
 clear k1 b1
 go_wp2
 go_loopw [4,13] (fun v4 v13 wr => ∃ k : Nat,k <= n /\ IsS wr .u64 v4 (digs 4294967296 (zF1 (qs.take k))) /\ Hid (Below w.heap.size w wr) /\ v13 = .int .i64 (k : Int)) (fun _ v13 _ => n - (intOf v13).toNat)
 case atStart => exact ⟨0,by omega,k10,HB1,rfl⟩
 case round =>
  clear k10 HB1
  obtain ⟨k,hk,km,HB,rfl⟩:=hrel
  obtain ⟨wo,hwo⟩ : ∃ wo,wo = wr:=⟨_,rfl⟩
  subst hwo
  obtain ⟨Am,cm,rfl,_⟩:=id km
  by_cases hlt : k < n
  ·obtain ⟨q,hq⟩ : ∃ q,qs[k]? = some q:=⟨_,zA3 (by rw [<- HN.out]; exact hlt)⟩
   obtain ⟨g,o,u,t,rfl,hkn,p0,p1,p2,su,st⟩:=(HS0.out.below HB.out).at_ hq
   obtain ⟨At,ct,rfl,_⟩:=id st
   have hix:=fun w => zK (P:=Tryz.prog) Tryz.underlying44 (by kernel_rfl) (g:=g) (o:=o) (c:=c0) hkn w
   have hlq:=(hc.out.2.2 q (zA5 hq)).2
   have hS:=hc.out.2.1
   have hl1 : (digs 4294967296 (zF1 (qs.take k))).length <= 90000:=by have:=HLL.out k (by omega); omega
   obtain ⟨M,hM⟩ : ∃ M,M = zF1 (qs.take k):=⟨_,rfl⟩
   obtain ⟨M2,hM2⟩ : ∃ M2,M2 = Nat.lcm M q.den:=⟨_,rfl⟩
   have HM2 : Hid (zF1 (qs.take (k + 1)) = M2):=by show _ = _; rw [qS2 hq,hM2,hM]
   have hMp : 0 < M:=by rw [hM]; exact qS3 _
   rw [<- hM] at km hl1 |-
   have CL : ∀ w v u,IsS w .u64 v (digs 4294967296 M) -> IsS w .u64 u (digs 4294967296 q.den) -> Calls Tryz.prog 54 #[v,u] w (zD1 .u64 (digs 4294967296 M2) w):=fun w v u h1 h2 => by rw [hM2]; exact jC2 v u M q.den w h1 h2 hl1 (by omega) hMp
   clear hq hM hM2 hlq hl1 hMp
   go_wp2_with fail
   refine (CL _ _ _ km st).mono ?_
   rintro e w2 ⟨v2,rfl,k2,-,b2⟩
   have k3 : IsS w2 .u64 v2 (digs 4294967296 (zF1 (qs.take (k + 1)))):=by rw [HM2.out]; exact k2
   have HB2 : Hid (Below w.heap.size w w2):=HB.out.trans (b2.mono HB.out.size)
   clear k2 b2 km st su p0 p1 p2 CL HB hix
   go_wp2
   go_roundw
   case rel => exact ⟨k + 1,by omega,k3,HB2,by go_num⟩
   case measure => simp [intOf]; omega
  ·have km2 : IsS wo .u64 (.slice Am (digs 4294967296 (zF1 (qs.take k))).length cm) (digs 4294967296 (zF1 qs)):=by
    have h:=km
    rw [show qs.take k = qs from zA7 (by have:=HN.out; omega)] at h |-
    exact h
   obtain ⟨lm,hlm⟩ : ∃ lm,lm = (digs 4294967296 (zF1 (qs.take k))).length:=⟨_,rfl⟩
   rw [<- hlm] at km2 |-
   obtain ⟨M,hM⟩ : ∃ M,M = zF1 qs:=⟨_,rfl⟩
   rw [<- hM] at km2
   have HM:=Lib.hid hM
   have hlM : (digs 4294967296 M).length <= 10001:=by
    have h:=HLL.out n (zB3 n)
    rw [show qs.take n = qs from zA7 (by have:=HN.out; omega)] at h
    rw [hM]; exact h
   obtain ⟨mk,hmk⟩:=Classical.axiomOfChoice (fun w => yH4 (P:=Tryz.prog) (w:=w) Tryz.underlying48 Go.Proofs.YtagaabooccnamaaGreat.whl.info_int n (by omega))
   have hmk1:=fun w => (hmk w).1
   have HMK:=Lib.hid (fun w => (hmk w).2)
   clear hmk hM hlm km
   obtain ⟨ri,bm⟩:=HMK.out wo
   have RI0 : zJ (mk wo) wo.heap.size n ((zI qs).take 0):=by rw [List.take_zero]; exact ri
   have HKM:=Lib.hid km2
   have HBo:=Lib.hid HB.out
   have HB0 : Hid (Below wo.heap.size wo (mk wo)):=bm
   have hwo2:=HB.out.size
   clear ri bm km2 HB
   go_wp2
   go_loopw [29] (fun v29 wr => ∃ k : Nat,k <= n /\ zJ wr wo.heap.size n ((zI qs).take k) /\ Hid (Below wo.heap.size wo wr) /\ v29 = .int .i64 (k : Int)) (fun v29 _ => n - (intOf v29).toNat)
   case atStart => exact ⟨0,by omega,RI0,HB0,rfl⟩
   case round =>
    clear RI0 HB0
    obtain ⟨k,hk,RI,HBi,rfl⟩:=hrel
    obtain ⟨wi,hwi⟩ : ∃ wi,wi = wr:=⟨_,rfl⟩
    subst hwi
    have HBx : Hid (Below w.heap.size w wi):=HBo.out.trans (HBi.out.mono hwo2)
    by_cases hlt : k < n
    ·obtain ⟨q,hq⟩ : ∃ q,qs[k]? = some q:=⟨_,zA3 (by rw [<- HN.out]; exact hlt)⟩
     obtain ⟨g,o,u,t,rfl,hkn,p0,p1,p2,su,st⟩:=(HS0.out.below HBx.out).at_ hq
     obtain ⟨Au,cu,rfl,_⟩:=id su
     obtain ⟨At,ct,rfl,_⟩:=id st
     have hix:=fun w => zK (P:=Tryz.prog) Tryz.underlying44 (by kernel_rfl) (g:=g) (o:=o) (c:=c0) hkn w
     have hq2:=hc.out.2.2 q (zA5 hq)
     have hS:=hc.out.2.1
     have hdv:=qS4 q (zA5 hq)
     obtain ⟨t2,ht2⟩ : ∃ t2,t2 = M / q.den:=⟨_,rfl⟩
     have hm0' : M % q.den = 0:=by rw [HM.out]; exact Nat.mod_eq_zero_of_dvd hdv
     have hlt2 : (digs 4294967296 t2).length <= 10001:=by rw [ht2]; exact zB4 (zF7 (by omega) (Nat.div_le_self _ _)) hlM
     have HDP : Hid (0 < q.den):=q.den_pos
     have HMD:=Lib.hid hm0'
     have HT2:=Lib.hid ht2
     obtain ⟨Z,hZ⟩ : ∃ Z,Z = q.num * (t2 : Int):=⟨_,rfl⟩
     have HZ : Hid ((zI qs).take (k + 1) = (zI qs).take k ++ [Z]):=by
      show _ = _
      rw [List.take_add_one,yI4 hq,hZ,ht2,HM.out]; rfl
     have hl0 : zC1 q.num <= 100:=zB4 hq2.1 hS
     have hl1 : (digs 4294967296 q.den).length <= 90000:=by have:=hq2.2; omega
     have hl2 : zC1 ((t2 : Nat) : Int) <= 100000:=by unfold zC1; rw [Int.natAbs_natCast]; omega
     have km:=HKM.out.below HBi.out
     clear hq hq2 hdv hm0' ht2
     go_wp2_with fail
     refine (zZ0 _ _ M q.den _ km st (by omega) hl1 HDP.out t2 HMD.out HT2.out).mono ?_
     rintro e w3 ⟨v3,rfl,k3,-,b3⟩
     obtain ⟨A3,c3,rfl,_⟩:=id k3
     have CMd : ∀ w v,IsS w .u64 v (digs 4294967296 t2) -> Calls Tryz.prog 57 #[.bool false,v] w (zE2 ((t2 : Nat) : Int) w):=fun w v h => Go.Proofs.YtagaabooccnamaaGreat.whl.made_any false v t2 _ w h (by omega) rfl
     obtain ⟨T2,hT2⟩ : ∃ T2 : Int,T2 = ((t2 : Nat) : Int):=⟨_,rfl⟩
     rw [<- hT2] at CMd hl2 hZ
     have CMl : ∀ w a b,IsZ w a q.num -> IsZ w b T2 -> Calls Tryz.prog 56 #[a,b] w (zE2 Z w):=fun w a b h1 h2 => zX2 a b q.num T2 Z w h1 h2 (by omega) hl2 hZ
     have b3d:=b3.trans ((Below.refl w3.heap.size w3).drew.mono b3.size)
     have RId:=RI.below b3d
     have kx : IsZ w3.drew (.agg #[.bool (ngB q.num),.slice Au (digs 4294967296 q.num.natAbs).length cu]) q.num:=⟨_,rfl,su.below b3d⟩
     have k3d:=k3.below (Below.refl _ w3).drew
     have x0:=(b3d.cell (World.block_lt_of_cell? wi _ p0)).trans p0
     have x1:=(b3d.cell (World.block_lt_of_cell? wi _ p1)).trans p1
     have HBd : Hid (Below wo.heap.size wo w3.drew):=HBi.out.trans (b3d.mono HBi.out.size)
     have hrl : ((zI qs).take k).length = k:=by rw [List.length_take,zR9,<- HN.out]; omega
     have HRL:=Lib.hid hrl
     have hixI:=fun w => qS0 (P:=Tryz.prog) Tryz.underlying48 (by kernel_rfl) (g:=wo.heap.size) (c:=n) hlt w
     have hszd:=HBd.out.size
     clear hT2 hl0 hl1 hl2 hlt2 hZ km st su p0 p1 p2 RI b3 k3 hrl HBi
     go_upto_region 12 with (fail)
     go_region_law (first | (go_simp; go_at_call 57; refine (CMd _ _ (by exact k3d)).mono ?_; rintro e w4 ⟨v4,rfl,k4,-,b4⟩; obtain ⟨u4,rfl,s4⟩:=k4; obtain ⟨A4,c4,rfl,_⟩:=id s4; have x04:=(b4.cell (World.block_lt_of_cell? w3.drew _ x0)).trans x0; have x14:=(b4.cell (World.block_lt_of_cell? w3.drew _ x1)).trans x1; have kx4:=kx.below b4) | (go_simp; go_at_call 56; refine (CMl _ _ _ (by exact kx4) ⟨_,rfl,(by exact s4)⟩).mono ?_; rintro e w5 ⟨v5,rfl,k5,-,b5⟩; obtain ⟨u5,rfl,s5⟩:=k5; obtain ⟨A5,c5,rfl,_⟩:=id s5; have RI5:=(RId.below b4).below b5; obtain ⟨X8,Y8,P0,P1,Q0,Q1⟩:=RI5.places hlt; rw [Nat.zero_add] at P0 P1 Q0 Q1))
     all_goals
      obtain ⟨G8,R8⟩:=RI5.set2 (z:=Z) (by rw [HRL.out]; exact hlt) s5
      rw [HRL.out,Nat.zero_add] at G8 R8
      rw [<- HZ.out] at R8
      have HB8:=Lib.hid (((HBd.out.trans (b4.mono hszd)).trans (b5.mono (zB4 hszd b4.size))).grown G8 (zB4 (zB4 hszd b4.size) b5.size) (fun g e => by injection e with e; omega))
      clear RId RI5 G8 kx kx4 k3d x0 x1 x04 x14 s4 s5 P0 P1 Q0 Q1 CMd CMl b4 b5 HBd hix hixI
      go_wp2
      go_roundw
      case rel => exact ⟨k + 1,by omega,R8,HB8,by go_num⟩
      case measure => simp [intOf]; omega
    ·have HR : Hid (zJ wi wo.heap.size n (zI qs)):=by
      have h:=RI
      rw [zA7 (by rw [zR9,<- HN.out]; omega)] at h
      exact h
     have HKf : Hid (IsS wi .u64 (.slice Am lm cm) (digs 4294967296 M)):=HKM.out.below HBi.out
     clear RI
     go_wp2
     go_ret2
     exact ⟨_,_,rfl,hwo2,HR.out,by rw [<- HM.out]; exact HKf.out,HBx.out⟩
def zP2 (qs : List Rat) : List Rat:=qs.map fun q => q * ((zF1 qs : Nat) : Rat)
theorem yI6 (qs : List Rat) : (zP2 qs).length = qs.length:=by unfold zP2; rw [zA9]
theorem jD7 {qs : List Rat} : zP2 qs = (zI qs).map fun z => ((z : Int) : Rat):=by
 unfold zP2 zI
 rw [List.map_map]
 refine List.map_congr_left fun q hq => ?_
 exact (yI5 (qS4 q hq)).symm
theorem lcm_mul (x y : Nat) : x * (y / Nat.gcd x y) = Nat.lcm x y:=by
 show _ = x * y / Nat.gcd x y
 rw [Nat.mul_div_assoc _ (Nat.gcd_dvd_right x y)]
theorem ng_nat (M : Nat) : ngB (((M : Nat) : Rat)).num = false:=by
 rw [show (((M : Nat) : Rat)).num = (M : Int) from rfl]
 unfold ngB
 simp
def RetCl (qs : List Rat) (w : World) (e : Ending) (w' : World) : Prop:=∃ V v,e = .returned (.tuple #[V,v]) /\ SlF .i64 10000 w' V (zP2 qs) /\ IsS w' .i64 v (digs 10000 (zF1 qs)) /\ Below w.heap.size w w'
theorem jD8 (a0 : Value) (qs : List Rat) (S : Nat) (w : World) (h0 : SlF .i64 10000 w a0 qs) (hc : Hid (qs.length <= 100 /\ S <= 90 /\ ∀ q ∈ qs,zC7 q S)) :
  Calls Tryz.prog 21 #[a0] w (RetCl qs w):=by
 have HS0:=Lib.hid h0
 obtain ⟨A0,c0,rfl,hc0,hm0⟩:=h0.shape
 unfold maxLen at hm0
 obtain ⟨n,hn⟩ : ∃ n,n = qs.length:=⟨_,rfl⟩
 rw [<- hn] at hc0 HS0 |-
 have hn100 : n <= 100:=by rw [hn]; exact hc.out.1
 have HN:=Lib.hid hn
 have HLL : Hid (∀ k,k <= n -> (digs 4294967296 (zF1 (qs.take k))).length <= 9001):=fun k hk => by
  have h1:=qL3 qs hc.out.2.2 k
  have h2 : S * k <= 90 * 100:=Nat.mul_le_mul hc.out.2.1 (by omega)
  omega
 obtain ⟨Z,hZ⟩ : ∃ Z : Rat,Z = 1:=⟨_,rfl⟩
 have CN : ∀ w,Calls Tryz.prog 61 #[.int .i64 1,.int .i64 1] w (zR1 Z w):=fun w => by
  have h:=yT5 1 1 w 1 rfl (by omega) (by omega) (by omega) (by omega)
  rwa [show mkRat 1 1 = Z by rw [hZ]; decide +kernel] at h
 have HZ:=Lib.hid hZ
 clear h0 hn hZ
 go_enter Tryz.func21,Tryz.ntmps21
 go_wp2_with fail
 refine (qI6 1 1 _ rfl (by omega)).mono ?_
 rintro e w1 ⟨v1,rfl,k1,-,b1⟩
 have k10 : IsS w1 .i64 v1 (digs 10000 (zF1 (qs.take 0))):=by rw [List.take_zero]; exact k1
 have HB1:=Lib.hid b1
 clear k1 b1
 go_wp2
 go_loopw [4,5] (fun v4 v5 wr => ∃ k : Nat,k <= n /\ IsS wr .i64 v4 (digs 10000 (zF1 (qs.take k))) /\ Hid (Below w.heap.size w wr) /\ v5 = .int .i64 (k : Int)) (fun _ v5 _ => n - (intOf v5).toNat)
 case atStart => exact ⟨0,by omega,k10,HB1,rfl⟩
 case round =>
  clear k10 HB1
  obtain ⟨k,hk,km,HB,rfl⟩:=hrel
  obtain ⟨wo,hwo⟩ : ∃ wo,wo = wr:=⟨_,rfl⟩
  subst hwo
  obtain ⟨Am,cm,rfl,_⟩:=id km
  by_cases hlt : k < n
  ·obtain ⟨q,hq⟩ : ∃ q,qs[k]? = some q:=⟨_,zA3 (by rw [<- HN.out]; exact hlt)⟩
   obtain ⟨g,o,u,t,rfl,hkn,p0,p1,p2,su,st⟩:=(HS0.out.below HB.out).at_ hq
   obtain ⟨At,ct,rfl,_⟩:=id st
   have hix:=fun w => zK (P:=Tryz.prog) Tryz.underlying45 (by kernel_rfl) (g:=g) (o:=o) (c:=c0) hkn w
   have hlq:=(hc.out.2.2 q (zA5 hq)).2
   have hS:=hc.out.2.1
   obtain ⟨M,hM⟩ : ∃ M,M = zF1 (qs.take k):=⟨_,rfl⟩
   have HM2 : Hid (zF1 (qs.take (k + 1)) = M * (q.den / Nat.gcd M q.den)):=by show _ = _; rw [qS2 hq,hM,lcm_mul]
   have hlM : (digs 10000 M).length <= 27003:=by have h1:=HLL.out k (by omega); have h2:=zU0 M; rw [hM] at h2 |-; omega
   have hld : (digs 10000 q.den).length <= 270:=by have h2:=zU0 q.den; omega
   have hgp : 0 < Nat.gcd M q.den:=Nat.gcd_pos_of_pos_right _ q.den_pos
   have hlg : (digs 10000 (Nat.gcd M q.den)).length <= 270:=zB4 (zF7 (by omega) (Nat.le_of_dvd q.den_pos (Nat.gcd_dvd_right _ _))) hld
   have hl2 : (digs 10000 (q.den / Nat.gcd M q.den)).length <= 270:=zB4 (zF7 (by omega) (Nat.div_le_self _ _)) hld
   rw [<- hM] at km |-
   obtain ⟨G,hG⟩ : ∃ G,G = Nat.gcd M q.den:=⟨_,rfl⟩
   have CG : ∀ w v u,IsS w .i64 v (digs 10000 M) -> IsS w .i64 u (digs 10000 q.den) -> Calls Tryz.prog 59 #[v,u] w (RetSs .i64 (digs 10000 G) w):=fun w v u h1 h2 => by rw [hG]; exact qO6 v u M q.den w h1 h2 (by omega) (by omega)
   rw [<- hG] at HM2 hgp hlg hl2
   have CD : ∀ w v u,IsS w .i64 v (digs 10000 q.den) -> IsS w .i64 u (digs 10000 G) -> Calls Tryz.prog 58 #[v,u] w (zQ6 .i64 (digs 10000 (q.den / G)) (digs 10000 (q.den % G)) w):=fun w v u h1 h2 => zY7 v u q.den G w h1 h2 (by omega) (by omega) hgp
   have CM : ∀ w v u,IsS w .i64 v (digs 10000 M) -> IsS w .i64 u (digs 10000 (q.den / G)) -> Calls Tryz.prog 60 #[v,u] w (zD1 .i64 (digs 10000 (M * (q.den / G))) w):=fun w v u h1 h2 => qM4 v u M (q.den / G) w h1 h2 (by omega) (by omega)
   have kmd:=km.below (Below.refl _ wo).drew
   have std:=st.below (Below.refl _ wo).drew
   have x2 : (wo.drew).cell? ⟨g,o + k * 3 + 2,none⟩ = _:=p2
   have HBd : Hid (Below w.heap.size w wo.drew):=HB.out.trans ((Below.refl _ wo).drew.mono HB.out.size)
   have hszd:=HBd.out.size
   clear hq hM hG hlq hlM hld hgp hlg hl2 km st su p0 p1 p2 HB
   go_upto_region 5 with (fail)
   go_region_law (first
    | (go_simp; go_at_call 59; refine (CG _ _ _ (by exact kmd) (by exact std)).mono ?_; rintro e w4 ⟨v4,rfl,k4,b4⟩; obtain ⟨A4,c4,rfl,_⟩:=id k4; have x24:=(b4.cell (World.block_lt_of_cell? wo.drew _ x2)).trans x2; have st4:=std.below b4)
    | (go_simp; go_at_call 58; refine (CD _ _ _ (by exact st4) (by exact k4)).mono ?_; rintro e w5 ⟨v5,r5,rfl,k5,-,-,-,b5⟩; obtain ⟨A5,c5,rfl,_⟩:=id k5))
   all_goals
    have km5:=(kmd.below b4).below b5
    have HB5 : Hid (Below w.heap.size w w5):=(HBd.out.trans (b4.mono hszd)).trans (b5.mono (zB4 hszd b4.size))
    clear x2 x24 kmd std st4 k4 CG CD b4 b5 HBd hix
    go_wp2_with fail
    refine (CM _ _ _ (by exact km5) (by exact k5)).mono ?_
    rintro e w6 ⟨v6,rfl,k6,-,b6⟩
    have k7 : IsS w6 .i64 v6 (digs 10000 (zF1 (qs.take (k + 1)))):=by rw [HM2.out]; exact k6
    have HB6 : Hid (Below w.heap.size w w6):=HB5.out.trans (b6.mono HB5.out.size)
    clear k6 b6 km5 k5 HB5 CM
    go_wp2
    go_roundw
    case rel => exact ⟨k + 1,by omega,k7,HB6,by go_num⟩
    case measure => simp [intOf]; omega
  ·have km2 : IsS wo .i64 (.slice Am (digs 10000 (zF1 (qs.take k))).length cm) (digs 10000 (zF1 qs)):=by
    have h:=km
    rw [show qs.take k = qs from zA7 (by have:=HN.out; omega)] at h |-
    exact h
   obtain ⟨lm,hlm⟩ : ∃ lm,lm = (digs 10000 (zF1 (qs.take k))).length:=⟨_,rfl⟩
   rw [<- hlm] at km2 |-
   obtain ⟨M,hM⟩ : ∃ M,M = zF1 qs:=⟨_,rfl⟩
   rw [<- hM] at km2
   have HM:=Lib.hid hM
   have hlM : (digs 4294967296 M).length <= 9001:=by
    have h:=HLL.out n (zB3 n)
    rw [show qs.take n = qs from zA7 (by have:=HN.out; omega)] at h
    rw [hM]; exact h
   obtain ⟨K,hK⟩ : ∃ K : Rat,K = ((M : Nat) : Rat):=⟨_,rfl⟩
   have HKn : Hid (ngB K.num = false /\ K.num.natAbs = M /\ K.den = 1):=by show _ /\ _; rw [hK]; exact ⟨ng_nat M,rfl,rfl⟩
   have HlK : Hid (zC7 K 10000):=by
    show _ /\ _
    rw [hK]
    refine ⟨?_,?_⟩
    ·show zC1 ((M : Nat) : Int) <= _
     unfold zC1; rw [Int.natAbs_natCast]; omega
    ·show (digs 4294967296 1).length <= _
     exact zB4 (zI0 (k:=1) (by omega) (by decide)) (by omega)
   have HKQ : Hid (zP2 qs = qs.map (· * K)):=by show _ = _; unfold zP2; rw [hK,hM]
   have HKM:=Lib.hid km2
   have HBo:=Lib.hid HB.out
   have hwo2:=HB.out.size
   clear hM hK hlM hlm km km2 HB
   go_wp2
   go_loopw [8,9] (fun v8 v9 wr => ∃ (k : Nat) (ps : List Elt),k <= n /\ Hid (ps.map (·.1) = (zP2 qs).take k) /\ zD2 65 wr wo.heap.size v8 ps /\ zG5 .i64 10000 wr v8 ps /\ Hid (Below wo.heap.size wo wr) /\ v9 = .int .i64 (k : Int)) (fun _ v9 _ => n - (intOf v9).toNat)
   case atStart => exact ⟨0,[],by omega,rfl,qO9 _ _ _ (zB3 _),zG5.nil _ _ _ _,zC8 (zB3 _) _,rfl⟩
   case round =>
    obtain ⟨k,ps,hk,HP,hR,hF,HBi,rfl⟩:=hrel
    obtain ⟨wi,hwi⟩ : ∃ wi,wi = wr:=⟨_,rfl⟩
    subst hwi
    obtain ⟨AR,cR,hAR,_⟩:=(hR.sl hF).shape
    subst hAR
    rw [zA9] at hR hF |-
    by_cases hlt : k < n
    ·obtain ⟨x,hq⟩ : ∃ x,qs[k]? = some x:=⟨_,zA3 (by rw [<- HN.out]; exact hlt)⟩
     have HQ0:=Lib.hid hq
     clear hq
     have hz1 : ngB Z.num = ngB K.num:=by rw [HKn.out.1,HZ.out]; decide
     have hz2 : Z.den = K.den:=by rw [HKn.out.2.2,HZ.out]; rfl
     go_wp2_with fail
     refine (CN _).mono ?_
     rintro e w2 ⟨v2,rfl,k2,-,b2⟩
     obtain ⟨u2,t2,rfl,s2,d2⟩:=k2
     obtain ⟨A2,c2,rfl,_⟩:=id s2
     rw [hz2] at d2
     rw [hz1]
     obtain ⟨D2,e2,rfl,_⟩:=id d2
     obtain ⟨wW,hW,bA,B1,hsz⟩:=zN8 w2 65 #[.bool (ngB K.num),.slice Am lm cm,.slice D2 (digs 10000 K.den).length e2]
     have d8:=d2.below bA
     have bW:=b2.trans (bA.mono b2.size)
     clear s2 d2 bA hz1 hz2 b2
     go_upto_region 13 with (fail)
     clear hW
     have hby : Below wo.heap.size wo wW:=HBi.out.trans (bW.mono HBi.out.size)
     have hszy:=hby.size
     have s8 : IsS wW .i64 (.slice Am lm cm) (digs 10000 M):=HKM.out.below hby
     have k1 : IsP wW (.agg #[.bool (ngB K.num),.slice Am lm cm,.slice D2 (digs 10000 K.den).length e2]) K:=⟨_,_,rfl,by rw [HKn.out.2.1]; exact s8,d8⟩
     obtain ⟨g0_,o0_,ue0,te0,hA0_,_,e00,e01,e02,es0,ed0⟩:=(HS0.out.below (HBo.out.trans (hby.mono hwo2))).at_ HQ0.out
     subst hA0_
     obtain ⟨Ae0,ce0,rfl,_⟩:=id es0
     obtain ⟨De0,ee0,rfl,_⟩:=id ed0
     have ke0 : IsP wW (.agg #[.bool (ngB x.num),.slice Ae0 (digs 10000 x.num.natAbs).length ce0,.slice De0 (digs 10000 x.den).length ee0]) x:=⟨_,_,rfl,es0,ed0⟩
     have lx : zC7 x 10000:=by
      have h:=hc.out.2.2 x (zA5 HQ0.out)
      have h2:=hc.out.2.1
      exact ⟨zB4 h.1 (by omega),zB4 h.2 (by omega)⟩
     have lK : zC7 K 10000:=HlK.out
     replace hR:=hR.below bW
     replace hF:=hF.below bW
     have nR:=hR.under
     have HL8 : Hid (ps.length <= 1000000000):=by
      have h1:=congrArg List.length HP.out
      rw [zA9,List.length_take] at h1
      show _ <= _
      omega
     refine flow 8 [Pd.eq (.slice AR ps.length cR),Pd.eq (.slice (some ⟨g0_,o0_,none⟩) n c0),Pd.eq (.int .i64 (k : Int)),Pd.eq (.pointer (some ⟨g0_,o0_ + k * 3,none⟩)),Pd.eq (.agg #[.bool (ngB x.num),.slice Ae0 (digs 10000 x.num.natAbs).length ce0,.slice De0 (digs 10000 x.den).length ee0]),Pd.eq (.agg #[.bool (ngB K.num),.slice Am lm cm,.slice D2 (digs 10000 K.den).length e2]),ppf (x * K) wW.heap.size,pone (ppf (x * K) wW.heap.size)] (by kernel_rfl) (by kernel_rfl) ?ob1 ?done1
     case ob1 =>
      refine zA (zC2 rfl (zB6 rfl) (zB8 rfl rfl) (fun _ _ h => h)) ?_
      refine zA (zC2 rfl (zB6 rfl) (zB8 rfl rfl) (fun _ _ h => h)) ?_
      refine zA (zC2 rfl (zB6 rfl) (zB8 rfl rfl) (fun _ _ h => h)) ?_
      refine zA (zK5 rfl (zB6 rfl) (zB7 (j:=1) (by kernel_rfl) rfl rfl) (zB7 (j:=2) (by kernel_rfl) rfl rfl) (fun _ _ _ hx hy => ⟨_,by rw [hx,hy]; exact zK Tryz.underlying45 (by kernel_rfl) hlt _,rfl⟩)) ?_
      refine zA (zC rfl (zB6 rfl) (zB7 (j:=3) (by kernel_rfl) rfl rfl) (fun w2 hb => zT0 Tryz.underlying65 rfl (by kernel_rfl) ((hb.cell (World.block_lt_of_cell? wW _ e00)).trans e00) ((hb.cell (World.block_lt_of_cell? wW _ e01)).trans e01) ((hb.cell (World.block_lt_of_cell? wW _ e02)).trans e02)) (fun _ _ => rfl)) ?_
      refine zA (zC rfl (zB6 rfl) (zB8 rfl rfl) (fun w2 hb => zF8 Tryz.underlying65 rfl (by kernel_rfl) (B1.drew.below hb)) (fun _ _ => rfl)) ?_
      refine zA (zD4 rfl Tryz.func62 (by kernel_rfl) (zB6 rfl) (zB7 (j:=4) (by kernel_rfl) rfl rfl) (zB7 (j:=5) (by kernel_rfl) rfl rfl) (fun w2 u0 u1 hb h0 h1 => by obtain rfl:=h0; obtain rfl:=h1; exact (yT3 _ x _ K _ (ke0.drew.below hb) (k1.drew.below hb) lx lK).mono fun e w3 h => zR1.pdf h hb.size)) ?_
      refine zA (yD4 (φ:=ppf (x * K) wW.heap.size) rfl rfl (zB7 (j:=6) (by kernel_rfl) rfl rfl) Tryz.underlying45 qP (fun w v h => ⟨h,by obtain ⟨⟨u,t,rfl,hu,ht⟩,_⟩:=h; obtain ⟨_,_,rfl,_⟩:=id hu; obtain ⟨_,_,rfl,_⟩:=id ht; exact ⟨_,_,_,rfl,rfl,rfl,rfl⟩⟩) (fun _ _ h => h)) ?_
      trivial
     case done1 =>
      refine fun w2 hb2 v0 h0 v1 h1 v2 h2 v3 h3 v4 h4 v5 h5 v6 h6 v7 h7 b hbf => ?_
      obtain rfl:=h0; obtain rfl:=h1; obtain rfl:=h2; obtain rfl:=h3; obtain rfl:=h4; obtain rfl:=h5
      obtain ⟨q6,f6⟩:=h6
      obtain ⟨g7_,x7,y7,z7,rfl,c70,c71,c72,K7⟩:=h7
      simp only [Act.put,zA0,zA2,zA1] at hbf
      subst hbf
      replace hR:=hR.below hb2
      replace hF:=hF.below hb2
      replace hby:=hby.trans (hb2.mono hby.size)
      have hszB:=hby.size
      obtain ⟨⟨uE,tE,eE,sE,dE⟩,fE⟩:=K7
      obtain ⟨rfl,rfl,rfl⟩ : x7 = .bool (ngB (x * K).num) /\ y7 = uE /\ z7 = tE:=by injection eE with eE; simpa using eE
      clear eE
      obtain ⟨AE,cE,rfl,_⟩:=id sE
      obtain ⟨DE,rE,rfl,_⟩:=id dE
      refine yW7 (i:=8) (.tmp 48) (.tmp 55) (by kernel_rfl) rfl rfl rfl Tryz.underlying45 qP (p:=(x * K,.slice AE (digs 10000 (x * K).num.natAbs).length cE,.slice DE (digs 10000 (x * K).den).length rE)) (ps:=ps) rfl hR rfl c70 c71 c72 rfl rfl HL8.out hszB fun v8 w8 b8 row8 bb8 HK8 hb8 => ?_
      simp only [Act.put,zA0,zA2,zA1] at hb8
      subst hb8
      have EC : IsE .i64 10000 w2 ((x * K,.slice AE (digs 10000 (x * K).num.natAbs).length cE,.slice DE (digs 10000 (x * K).den).length rE) : Elt):=⟨sE,dE⟩
      have F8:=hF.snoc HK8.out.1 EC ((fE _ _ _ rfl).1.far nR) ((fE _ _ _ rfl).2.far nR)
      clear HK8 EC fE
      refine qH8 (i:=9) (v8) (by kernel_rfl) rfl rfl rfl rfl rfl fun b hbf => ?_
      simp only [Act.put,zA0,zA2,zA1] at hbf
      subst hbf
      refine zI2 (by kernel_rfl) ?_
      have HP8 : Hid ((ps ++ [((x * K,.slice AE (digs 10000 (x * K).num.natAbs).length cE,.slice DE (digs 10000 (x * K).den).length rE) : Elt)]).map (·.1) = (zP2 qs).take (k + 1)):=by
       show _ = _
       rw [List.map_append,HP.out,qA3 (show (zP2 qs)[k]? = some (x * K) from by rw [HKQ.out,zB1,HQ0.out]; rfl)]
       rfl
      have b8 : Hid (Below wo.heap.size wo _):=hby.trans bb8
      clear hR hF HP
      go_wp2
      go_roundw
      case rel => exact ⟨k + 1,_,by omega,HP8,row8,F8,b8,by go_num⟩
      case measure => simp [intOf]; omega
    ·have HPE : Hid (SlF .i64 10000 wi (.slice AR ps.length cR) (zP2 qs)):=by
      have h:=hR.sl hF
      rw [HP.out,zA7 (by rw [yI6,<- HN.out]; omega)] at h
      exact h
     have HKf : Hid (IsS wi .i64 (.slice Am lm cm) (digs 10000 M)):=HKM.out.below HBi.out
     have HBf : Hid (Below w.heap.size w wi):=HBo.out.trans (HBi.out.mono hwo2)
     clear hR hF HP
     go_wp2
     go_ret2
     exact ⟨_,_,rfl,HPE.out,by rw [<- HM.out]; exact HKf.out,HBf.out⟩
theorem jD9 (a0 a1 : Value) (T U : List (List Rat)) (b : Bool) (w : World) (h0 : SlT .u64 4294967296 w a0 T) (h1 : SlT .u64 4294967296 w a1 U) (hb : b = true ↔ zH2 T /\ zH2 U /\ T.length = U.length) :
  Calls Tryz.prog 46 #[a0,a1] w (zD8 (.bool b) w):=by
 have st0:=h0
 have st1:=h1
 obtain ⟨A0,c0,rfl,hc0,hm0⟩:=h0.shape
 obtain ⟨A1,c1,rfl,hc1,hm1⟩:=h1.shape
 unfold maxLen at hm0 hm1
 have HB:=Lib.hid hb
 clear hb h0 h1
 go_enter Tryz.func46,Tryz.ntmps46
 by_cases hT : zH2 T
 ·have CT:=qK2 _ T 0 _ st0 (by rw [if_pos hT])
  have HT:=Lib.hid hT
  clear hT
  go_wp2_with fail
  refine CT.mono ?_
  rintro e w1 ⟨rfl,b1⟩
  have st2:=st1.below b1
  by_cases hU : zH2 U
  ·have CU:=qK2 _ U 0 _ st2 (by rw [if_pos hU])
   have HU:=Lib.hid hU
   clear hU
   go_wp2_with fail
   refine CU.mono ?_
   rintro e w2 ⟨rfl,b2⟩
   have bb:=b1.trans (b2.mono b1.size)
   have hv : (((T.length : Nat) : Int) == ((U.length : Nat) : Int)) = b:=by
    rw [Bool.eq_iff_iff,beq_iff_eq,HB.out]
    exact ⟨fun h => ⟨HT.out,HU.out,by omega⟩,fun h => by have:=h.2.2; omega⟩
   go_wp2
   go_ret
   exact ⟨rfl,bb⟩
  ·have CU:=qK2 _ U 8 _ st2 (by rw [if_neg hU])
   have hv : b = false:=Bool.eq_false_iff.2 fun h => hU (HB.out.1 h).2.1
   subst hv
   clear hU
   go_wp2_with fail
   refine CU.mono ?_
   rintro e w2 ⟨rfl,b2⟩
   have bb:=b1.trans (b2.mono b1.size)
   go_wp2
   go_ret
   exact ⟨rfl,bb⟩
 ·have CT:=qK2 _ T 8 _ st0 (by rw [if_neg hT])
  have hv : b = false:=Bool.eq_false_iff.2 fun h => hT (HB.out.1 h).1
  subst hv
  clear hT
  go_wp2_with fail
  refine CT.mono ?_
  rintro e w1 ⟨rfl,b1⟩
  go_wp2
  go_ret
  exact ⟨rfl,b1⟩
theorem qL4 (a0 a1 : Value) (T U : List (List Rat)) (b : Bool) (w : World) (h0 : SlT .u64 4294967296 w a0 T) (h1 : SlT .u64 4294967296 w a1 U) (hb : b = true ↔ T.length = zD3 T /\ zH2 T /\ zH2 U /\ T.length = U.length) :
  Calls Tryz.prog 31 #[a0,a1] w (zD8 (.bool b) w):=by
 have st0:=h0
 have st1:=h1
 obtain ⟨A0,c0,rfl,hc0,hm0⟩:=h0.shape
 obtain ⟨A1,c1,rfl,hc1,hm1⟩:=h1.shape
 unfold maxLen at hm0 hm1
 have HB:=Lib.hid hb
 clear hb h0 h1
 go_enter Tryz.func31,Tryz.ntmps31
 go_wp2_with fail
 refine (qE8 _ T _ st0).mono ?_
 rintro e w1 ⟨rfl,b1⟩
 obtain ⟨C,hC⟩ : ∃ C,C = zD3 T:=⟨_,rfl⟩
 have HC:=Lib.hid hC
 rw [<- hC]
 clear hC
 by_cases he : T.length = C
 ·have hv : (((T.length : Nat) : Int) == ((C : Nat) : Int)) = true:=by rw [beq_iff_eq]; omega
  have CP:=jD9 _ _ T U b _ (st0.below b1) (st1.below b1) (by rw [HB.out]; exact ⟨fun h => h.2,fun h => ⟨by rw [<- HC.out]; exact he,h⟩⟩)
  clear he
  go_wp2_with fail
  refine CP.mono ?_
  rintro e w2 ⟨rfl,b2⟩
  have bb:=b1.trans (b2.mono b1.size)
  go_wp2
  go_ret
  exact ⟨rfl,bb⟩
 ·have hv : (((T.length : Nat) : Int) == ((C : Nat) : Int)) = false:=by rw [Bool.eq_false_iff]; intro h; rw [beq_iff_eq] at h; omega
  have hb : b = false:=Bool.eq_false_iff.2 fun h => he (by rw [HC.out]; exact (HB.out.1 h).1)
  subst hb
  clear he
  go_wp2
  go_ret
  exact ⟨rfl,b1⟩
end Go.Proofs.YtagaabooccnamaaGreat.rat
namespace Go.Proofs.YtagaabooccnamaaGreat.rat
open Go.RowKit Go.Shelf num mem nat txt str flow whl
def okq (A B : List (List Rat)) : Prop:=A.length = zD3 A /\ zH2 A /\ zH2 B /\ A.length = B.length
theorem okq.sa {A B : List (List Rat)} (h : okq A B) : shp A A.length A.length:=⟨rfl,fun r hr => by rw [h.2.1.2.2 r hr]; exact h.1.symm⟩
theorem okq.sb {A B : List (List Rat)} (h : okq A B) : shp B A.length (zD3 B):=⟨h.2.2.2.symm,fun r hr => h.2.2.1.2.2 r hr⟩
theorem okq.wj {A B : List (List Rat)} (h : okq A B) : zD3 (zE4 A B) = A.length + zD3 B \/ A.length = 0:=by
 by_cases h0 : A.length = 0
 ·exact .inr h0
 ·exact .inl (jB5 (zV2 h.sa h.sb) (fun e => absurd e h0))
theorem okq.wj_le {A B : List (List Rat)} (h : okq A B) : zD3 (zE4 A B) <= A.length + zD3 B:=by
 rcases h.wj with e | e
 ·omega
 ·have h1:=zV2 h.sa h.sb
  have h2 : zE4 A B = []:=List.length_eq_zero_iff.1 (by rw [h1.1,e])
  rw [h2]
  exact Nat.zero_le _
theorem okq.may {A B : List (List Rat)} (h : okq A B) (hw : A.length + zD3 B <= 200) : zH2 (zE4 A B):=by
 have h1:=zV2 h.sa h.sb
 refine ⟨by rw [h1.1]; have:=h.2.1.1; omega,zB4 h.wj_le hw,fun r hr => ?_⟩
 rcases h.wj with e | e
 ·rw [e]; exact h1.2 r hr
 ·have h2 : zE4 A B = []:=List.length_eq_zero_iff.1 (by rw [h1.1,e])
  rw [h2] at hr
  cases hr
theorem jE (A B : List (List Rat)) : zN9 A.length [A,B] = zE4 A B:=by
 show zE4 (zE4 (zB A.length []) A) B = zE4 A B
 rw [yC]
theorem okq.stp {A B : List (List Rat)} {S : Nat} (h : okq A B) (ok : qF0 (zE4 A B) S) : StpIn A B A.length (zD3 B) S:=⟨rfl,h.sa,h.sb,rfl,h.wj,ok⟩
def qS6 (A B : List (List Rat)) (L : Nat) (w : World) (e : Ending) (w' : World) : Prop:=(okq A B /\ yH2 A B L w e w') \/ (¬ okq A B /\ e = .returned (.tuple #[.slice none 0 0,.int .i64 8]) /\ Below w.heap.size w w')
theorem jE0 {w : World} {a0 a1 : Value} {A B : List (List Rat)} (T : TypeId) (h0 : SlT .u64 4294967296 w a0 A) (h1 : SlT .u64 4294967296 w a1 B) : zN (w.alloc (.cells #[a0,a1] T)) (.slice (some ⟨w.heap.size,0,none⟩) 2 2) [A,B]:=by
 have hb:=zC8 (w:=w) (zB3 _) (.cells #[a0,a1] T)
 refine ⟨[a0,a1],rfl,zQ7 w T [a0,a1],by simp,fun i u t hu ht => ?_⟩
 rcases i with _ | _ | i
 ·obtain rfl : a0 = u:=by simpa using hu
  obtain rfl : A = t:=by simpa using ht
  exact h0.below hb
 ·obtain rfl : a1 = u:=by simpa using hu
  obtain rfl : B = t:=by simpa using ht
  exact h1.below hb
 ·simp at hu
structure SolIn (A B : List (List Rat)) (S : Nat) : Prop where
 len : A.length <= 200
 wide : zD3 A + zD3 B <= 200
 la : zI6 A 100000
 lb : zI6 B 100000
 ok : okq A B -> qF0 (zE4 A B) S
theorem jE1 (a0 a1 : Value) (A B : List (List Rat)) (S : Nat) (w : World) (h0 : SlT .u64 4294967296 w a0 A) (h1 : SlT .u64 4294967296 w a1 B) (hc : Hid (SolIn A B S)) :
  Calls Tryz.prog 8 #[a0,a1] w (qS6 A B 2450 w):=by
 have st0:=h0
 have st1:=h1
 obtain ⟨A0,c0,rfl,hc0,hm0⟩:=h0.shape
 obtain ⟨A1,c1,rfl,hc1,hm1⟩:=h1.shape
 unfold maxLen at hm0 hm1
 have HS0:=Lib.hid st0
 have HS1:=Lib.hid st1
 clear h0 h1 st0 st1
 go_enter Tryz.func8,Tryz.ntmps8
 by_cases ho : okq A B
 ·have CF:=qL4 _ _ A B true _ HS0.out HS1.out ⟨fun _ => ho,fun _ => rfl⟩
  have HO:=Lib.hid ho
  clear ho
  go_wp2_with fail
  refine CF.mono ?_
  rintro e w1 ⟨rfl,b1⟩
  have k0:=HS0.out.below b1
  have k1:=HS1.out.below b1
  obtain ⟨w2,hw2⟩ : ∃ w2,w2 = w1.alloc (.cells #[.slice A0 A.length c0,.slice A1 B.length c1] 22):=⟨_,rfl⟩
  have hL:=jE0 22 k0 k1
  have hb2:=zC8 (w:=w1) (zB3 _) (.cells #[.slice A0 A.length c0,.slice A1 B.length c1] 22)
  have hsz2 : w1.heap.size = w1.heap.size:=rfl
  rw [<- hw2] at hL hb2
  have HB2 : Hid (Below w.heap.size w w2):=b1.trans (hb2.mono b1.size)
  have HL:=Lib.hid hL
  clear hL hb2 k0 k1
  go_wp2_with fail
  rw [<- hw2]
  clear hw2 b1
  refine (yZ7 _ [A,B] A _ HL.out rfl ⟨by simp,by simpa using hc.out.wide,fun t ht => by
   rcases List.mem_cons.1 ht with rfl | ht
   ·exact hc.out.la
   ·rw [List.mem_singleton.1 ht]; exact hc.out.lb,hc.out.len⟩).mono ?_
  rintro e w3 (⟨-,V,rfl,hV,b3⟩ | ⟨hn,_⟩)
  ·rw [if_pos rfl,jE] at hV
   have HB3 : Hid (Below w.heap.size w w3):=HB2.out.trans (b3.mono HB2.out.size)
   obtain ⟨AV,cV,rfl,-,-⟩:=id hV.shape
   have HW : Hid (zH2 (zE4 A B)):=HO.out.may (by have:=hc.out.wide; have:=HO.out.1; omega)
   have CB:=fun w (h : SlT .u64 4294967296 w (.slice AV (zE4 A B).length cV) (zE4 A B)) => jC1 _ A B A.length (zD3 B) S w h HW.out (HO.out.stp (hc.out.ok HO.out))
   clear b3
   go_wp2_with fail
   refine (CB _ hV).mono ?_
   rintro e w4 ⟨b4,(⟨h5,V4,X,rfl,hX⟩ | ⟨h5,rfl⟩)⟩
   ·have HF:=Lib.hid (zA h5 hX)
    have HB4 : Hid (Below w.heap.size w w4):=HB3.out.trans (b4.mono HB3.out.size)
    clear h5 hX b4 hV
    go_wp2
    go_ret2
    exact .inl ⟨HO.out,HB4.out,.inl ⟨HF.out.1,_,X,rfl,HF.out.2⟩⟩
   ·have HF:=Lib.hid h5
    have HB4 : Hid (Below w.heap.size w w4):=HB3.out.trans (b4.mono HB3.out.size)
    clear h5 b4 hV
    go_wp2
    go_ret2
    exact .inl ⟨HO.out,HB4.out,.inr ⟨HF.out,rfl⟩⟩
  ·exact absurd (fun t ht => by
    rcases List.mem_cons.1 ht with rfl | ht
    ·exact ⟨HO.out.2.1,rfl⟩
    ·rw [List.mem_singleton.1 ht]; exact ⟨HO.out.2.2.1,HO.out.2.2.2.symm⟩) hn
 ·have CF:=qL4 _ _ A B false _ HS0.out HS1.out ⟨fun h => Bool.noConfusion h,fun h => absurd h ho⟩
  have HO:=Lib.hid ho
  clear ho
  go_wp2_with fail
  refine CF.mono ?_
  rintro e w1 ⟨rfl,b1⟩
  go_wp2
  go_ret2
  exact .inr ⟨HO.out,rfl,b1⟩
end Go.Proofs.YtagaabooccnamaaGreat.rat
namespace Go.Proofs.YtagaabooccnamaaGreat.rat
open Go.RowKit num mem nat txt str flow whl
def zS (C g : Nat) : Value:=.slice (some ⟨g,0,none⟩) C C
def zP3 (C n : Nat) (gs : List Nat) : List Value:=gs.map (zS C) ++ zB n (.slice none 0 0)
theorem yI7 (C n : Nat) (gs : List Nat) : (zP3 C n gs).length = gs.length + n:=by simp [zP3]
theorem jE2 {C n i g : Nat} {gs : List Nat} (h : gs[i]? = some g) : (zP3 C n gs)[i]? = some (zS C g):=by
 unfold zP3
 rw [zB0 (by rw [zA9]; exact (zA4.1 h).1),zB1,h]; rfl
theorem yI8 (C n : Nat) (gs : List Nat) (g : Nat) : (zP3 C (n + 1) gs).set gs.length (zS C g) = zP3 C n (gs ++ [g]):=by
 unfold zP3
 rw [List.set_append_right _ _ (by rw [zA9]; exact zB3 _),zA9,Nat.sub_self,List.replicate_succ,zA2,List.map_append]
 simp
structure TabZ (w : World) (gT C base n : Nat) (gs : List Nat) (T : List (List Rat)) : Prop where
 blk : zF9 w gT 44 (zP3 C n gs)
 len : gs.length = T.length
 row : ∀ (i g : Nat) (r : List Rat),gs[i]? = some g -> T[i]? = some r -> r.length = C /\ zD0 w g C r /\ base <= g
 apart : ∀ (i j g : Nat),gs[i]? = some g -> gs[j]? = some g -> i = j
theorem TabZ.below {w w' : World} {gT C base n : Nat} {gs : List Nat} {T : List (List Rat)} (h : TabZ w gT C base n gs T) (hb : Below w.heap.size w w') : TabZ w' gT C base n gs T :=
 ⟨h.blk.below hb,h.len,fun i g r h1 h2 => ⟨(h.row i g r h1 h2).1,(h.row i g r h1 h2).2.1.below hb,(h.row i g r h1 h2).2.2⟩,h.apart⟩
theorem zD0.notTab {w : World} {g n gT : Nat} {qs : List Rat} {us : List Value} (h : zD0 w g n qs) (ht : zF9 w gT 44 us) : g ≠ gT:=fun e => by
 obtain ⟨ps,_,_,h3,_⟩:=h
 have h4:=ht.1
 unfold Blk at h3 h4
 rw [e,h4] at h3
 injection h3 with h3
 injection h3 with _ h3
 exact absurd h3 (by decide)
theorem zD0.offT {w w' : World} {g n gT : Nat} {qs : List Rat} {us : List Value} (h : zD0 w g n qs) (ht : zF9 w gT 44 us) (hg : w.grownBy w' (some gT)) : zD0 w' g n qs :=
 h.offb ht.1 (fun c hc n e => by
  obtain ⟨A,m,d,e1⟩:=ht.2 c (List.mem_toArray.1 hc)
  rw [e1] at e
  cases e) hg (h.notTab ht)
theorem TabZ.rowAt {w : World} {gT C base n i : Nat} {gs : List Nat} {T : List (List Rat)} {r : List Rat} (h : TabZ w gT C base n gs T) (hr : T[i]? = some r) : ∃ g,gs[i]? = some g /\ r.length = C /\ zD0 w g C r /\ base <= g:=by
 have h1 : gs[i]? = some (gs[i]'(by rw [h.len]; exact (zA4.1 hr).1)):=zA3 _
 exact ⟨_,h1,h.row i _ r h1 hr⟩
theorem TabZ.add {w : World} {gT C base n g : Nat} {gs : List Nat} {T : List (List Rat)} {r : List Rat} (h : TabZ w gT C base (n + 1) gs T) (hr : zD0 w g C r) (hl : r.length = C) (hb : base <= g) (hn : ∀ i : Nat,gs[i]? ≠ some g) : TabZ (w.setCell ⟨gT,gs.length,none⟩ (zS C g)) gT C base n (gs ++ [g]) (T ++ [r]):=by
 have hg:=zF0 w gT gs.length (zS C g)
 refine ⟨?_,by rw [zA8,zA8,h.len]; rfl,fun i g' r' h1 h2 => ?_,fun i j g' h1 h2 => ?_⟩
 ·rw [<- yI8]
  exact h.blk.put (heap_setCell h.blk.1) ⟨_,_,_,rfl⟩
 ·by_cases hi : i < gs.length
  ·rw [zB0 hi] at h1
   rw [zB0 (by rw [<- h.len]; exact hi)] at h2
   obtain ⟨k1,k2,k3⟩:=h.row i g' r' h1 h2
   exact ⟨k1,k2.offT h.blk hg,k3⟩
  ·have hi2:=(zA4.1 h1).1
   rw [zA8,List.length_singleton] at hi2
   obtain rfl : i = gs.length:=by omega
   rw [List.getElem?_concat_length] at h1
   rw [h.len,List.getElem?_concat_length] at h2
   injection h1 with h1
   injection h2 with h2
   subst h1; subst h2
   exact ⟨hl,hr.offT h.blk hg,hb⟩
 ·have key : ∀ i,(gs ++ [g])[i]? = some g' -> (i < gs.length /\ gs[i]? = some g') \/ (i = gs.length /\ g = g'):=fun i h1 => by
   by_cases hi : i < gs.length
   ·rw [zB0 hi] at h1
    exact .inl ⟨hi,h1⟩
   ·have hi2:=(zA4.1 h1).1
    rw [zA8,List.length_singleton] at hi2
    obtain rfl : i = gs.length:=by omega
    rw [List.getElem?_concat_length] at h1
    injection h1 with h1
    exact .inr ⟨rfl,h1⟩
  rcases key i h1 with ⟨_,k1⟩ | ⟨e1,k1⟩ <;> rcases key j h2 with ⟨_,k2⟩ | ⟨e2,k2⟩
  ·exact h.apart i j g' k1 k2
  ·subst k2; exact absurd k1 (hn i)
  ·subst k1; exact absurd k2 (hn j)
  ·omega
theorem TabZ.put {w w' : World} {gT C base i j g : Nat} {gs : List Nat} {T : List (List Rat)} {r : List Rat} {q : Rat} (h : TabZ w gT C base 0 gs T) (hg : gs[i]? = some g) (hr : T[i]? = some r) (hgr : w.grownBy w' (some g)) (hrow : zD0 w' g C (r.set j q)) : TabZ w' gT C base 0 gs (setq T i j q):=by
 obtain ⟨k1,k2,k3⟩:=h.row i g r hg hr
 have hne:=k2.notTab h.blk
 rw [setq_at q hr]
 refine ⟨h.blk.grown hgr (fun e => hne (by injection e)),by rw [zB2]; exact h.len,fun i' g' r' h1 h2 => ?_,h.apart⟩
 rcases zR5 h2 with ⟨rfl,rfl⟩ | ⟨hne',h2⟩
 ·rw [hg] at h1
  injection h1 with h1
  subst h1
  exact ⟨by rw [zB2]; exact k1,hrow,k3⟩
 ·obtain ⟨m1,m2,m3⟩:=h.row i' g' r' h1 h2
  exact ⟨m1,m2.away k2 hgr (fun e => hne' (h.apart i i' g hg (by rw [h1,e]))),m3⟩
theorem TabZ.slT {w : World} {gT C base R : Nat} {gs : List Nat} {T : List (List Rat)} (h : TabZ w gT C base 0 gs T) (hR : T.length = R) (hm : R <= 1000000000) (hc : C <= 1000000000) : SlT .u64 4294967296 w (.slice (some ⟨gT,0,none⟩) R R) T:=by
 have hT : zE0 .u64 4294967296 w gT 44 (zP3 C 0 gs) T:=⟨h.blk,by rw [yI7,h.len]; rfl,fun i u r hu hr => by
  obtain ⟨g,h1,h2,h3,_⟩:=h.rowAt hr
  rw [jE2 h1] at hu
  injection hu with hu
  subst hu
  exact h3.sl h2 hc⟩
 exact hT.slT hR hm
def zW (w : World) (r : Nat) : Prop:=∀ cs e f,w.heap[r]? ≠ some (.cells cs e f)
theorem zW.cell {w : World} {r : Nat} (h : zW w r) {p : Addr} {v : Value} (hp : w.cell? p = some v) : some p.block ≠ some r:=by
  intro e
  injection e with e
  unfold World.cell? at hp
  rw [e] at hp
  cases hh : w.heap[r]? with
  | none => rw [hh] at hp; cases hp
  | some o =>
    rw [hh] at hp
    cases o with
    | cells cs t f => exact h cs t f hh
    | _ => cases hp
theorem zW.off {w w' : World} {r : Nat} (h : zW w r) (hg : w.grownBy w' (some r)) {k : IntKind} {v : Value} {l : List Nat} (hs : IsS w k v l) : IsS w' k v l:=by
 obtain ⟨A,c,rfl,h1,h2,h3⟩:=hs
 refine ⟨A,c,rfl,h1,h2,fun i d hd => ?_⟩
 obtain ⟨ad,rfl,hc⟩:=h3 i d hd
 exact ⟨ad,rfl,hg.cell hc (h.cell hc)⟩
theorem zW.blk {w w' : World} {r : Nat} (h : zW w r) (hg : w.grownBy w' (some r)) {g : Nat} {t : TypeId} {cs : Array Value} (hb : Blk w g t cs) : Blk w' g t cs:=hb.grown hg fun e => by
 unfold Blk at hb
 rw [e] at hb
 exact h _ _ _ hb
theorem zW.row {w w' : World} {r : Nat} (h : zW w r) (hg : w.grownBy w' (some r)) {g n : Nat} {qs : List Rat} (hr : zD0 w g n qs) : zD0 w' g n qs:=by
 obtain ⟨ps,h1,h2,h3,h4,h5⟩:=hr
 refine ⟨ps,h1,h2,h.blk hg h3,h4,fun i q hq => ?_⟩
 obtain ⟨p,k1,k2,k3⟩:=h5 i q hq
 exact ⟨p,k1,k2,h.off hg k3.1,h.off hg k3.2⟩
structure TabP (w : World) (gT C base n : Nat) (gs : List Nat) (T : List (List Rat)) (g : Nat) (r : List Rat) : Prop where
 blk : zF9 w gT 44 (zP3 C n (gs ++ [g]))
 len : gs.length = T.length
 row : ∀ (i g : Nat) (r : List Rat),gs[i]? = some g -> T[i]? = some r -> r.length = C /\ zD0 w g C r /\ base <= g
 apart : ∀ (i j g' : Nat),(gs ++ [g])[i]? = some g' -> (gs ++ [g])[j]? = some g' -> i = j
 cur : zD0 w g C r
 low : base <= g
theorem TabP.below {w w' : World} {gT C base n g : Nat} {gs : List Nat} {T : List (List Rat)} {r : List Rat} (h : TabP w gT C base n gs T g r) (hb : Below w.heap.size w w') : TabP w' gT C base n gs T g r :=
 ⟨h.blk.below hb,h.len,fun i g r h1 h2 => ⟨(h.row i g r h1 h2).1,(h.row i g r h1 h2).2.1.below hb,(h.row i g r h1 h2).2.2⟩,h.apart,h.cur.below hb,h.low⟩
theorem TabP.drew {w : World} {gT C base n g : Nat} {gs : List Nat} {T : List (List Rat)} {r : List Rat} (h : TabP w gT C base n gs T g r) : TabP w.drew gT C base n gs T g r:=h.below (Below.refl _ w).drew
theorem TabP.start {w : World} {gT C base n g : Nat} {gs : List Nat} {T : List (List Rat)} (h : TabZ w gT C base (n + 1) gs T) (hr : zD0 w g C []) (hb : base <= g) (hn : ∀ i : Nat,gs[i]? ≠ some g) : TabP (w.setCell ⟨gT,gs.length,none⟩ (zS C g)) gT C base n gs T g []:=by
 have hg:=zF0 w gT gs.length (zS C g)
 refine ⟨?_,h.len,fun i g' r' h1 h2 => ?_,fun i j g' h1 h2 => ?_,hr.offT h.blk hg,hb⟩
 ·rw [<- yI8]
  exact h.blk.put (heap_setCell h.blk.1) ⟨_,_,_,rfl⟩
 ·obtain ⟨k1,k2,k3⟩:=h.row i g' r' h1 h2
  exact ⟨k1,k2.offT h.blk hg,k3⟩
 ·have key : ∀ i,(gs ++ [g])[i]? = some g' -> (i < gs.length /\ gs[i]? = some g') \/ (i = gs.length /\ g = g'):=fun i h1 => by
   by_cases hi : i < gs.length
   ·rw [zB0 hi] at h1
    exact .inl ⟨hi,h1⟩
   ·have hi2:=(zA4.1 h1).1
    rw [zA8,List.length_singleton] at hi2
    obtain rfl : i = gs.length:=by omega
    rw [List.getElem?_concat_length] at h1
    injection h1 with h1
    exact .inr ⟨rfl,h1⟩
  rcases key i h1 with ⟨_,k1⟩ | ⟨e1,k1⟩ <;> rcases key j h2 with ⟨_,k2⟩ | ⟨e2,k2⟩
  ·exact h.apart i j g' k1 k2
  ·rw [<- k2] at k1; exact absurd k1 (hn i)
  ·rw [<- k1] at k2; exact absurd k2 (hn j)
  ·omega
theorem TabP.ne {w : World} {gT C base n g : Nat} {gs : List Nat} {T : List (List Rat)} {r : List Rat} (h : TabP w gT C base n gs T g r) {i g' : Nat} (hi : gs[i]? = some g') : g' ≠ g:=fun e => by
 have h1:=(zA4.1 hi).1
 have h2:=h.apart i gs.length g (by rw [zB0 h1,hi,e]) (List.getElem?_concat_length)
 omega
theorem TabP.set {w w' : World} {gT C base n g : Nat} {gs : List Nat} {T : List (List Rat)} {r r' : List Rat} (h : TabP w gT C base n gs T g r) (hg : w.grownBy w' (some g)) (hr : zD0 w' g C r') : TabP w' gT C base n gs T g r' :=
 ⟨h.blk.grown hg (fun e => h.cur.notTab h.blk (by injection e)), h.len, fun i g' r0 h1 h2 => by
  obtain ⟨k1,k2,k3⟩:=h.row i g' r0 h1 h2
  exact ⟨k1,k2.away h.cur hg (h.ne h1),k3⟩,h.apart,hr,h.low⟩
theorem TabP.done {w : World} {gT C base n g : Nat} {gs : List Nat} {T : List (List Rat)} {r : List Rat} (h : TabP w gT C base n gs T g r) (hl : r.length = C) : TabZ w gT C base n (gs ++ [g]) (T ++ [r]):=by
 refine ⟨h.blk,by rw [zA8,zA8,h.len]; rfl,fun i g' r' h1 h2 => ?_,h.apart⟩
 by_cases hi : i < gs.length
 ·rw [zB0 hi] at h1
  rw [zB0 (by rw [<- h.len]; exact hi)] at h2
  exact h.row i g' r' h1 h2
 ·have hi2:=(zA4.1 h1).1
  rw [zA8,List.length_singleton] at hi2
  obtain rfl : i = gs.length:=by omega
  rw [List.getElem?_concat_length] at h1
  rw [h.len,List.getElem?_concat_length] at h2
  injection h1 with h1
  injection h2 with h2
  subst h1; subst h2
  exact ⟨hl,h.cur,h.low⟩
theorem TabP.cellAt {w : World} {gT C base n g : Nat} {gs : List Nat} {T : List (List Rat)} {r : List Rat} (h : TabP w gT C base n gs T g r) : w.cell? ⟨gT,gs.length,none⟩ = some (zS C g):=by
 rw [h.blk.1.cell]
 unfold zP3
 simp
def zL5 (d : Int) (r : List Int) : List Rat:=r.map fun z => Rat.divInt z d
def zJ1 (d : Int) (T : List (List Int)) : List (List Rat):=T.map (zL5 d)
theorem qL5 (d : Int) (r : List Int) : (zL5 d r).length = r.length:=by unfold zL5; rw [zA9]
theorem qL6 (d : Int) (T : List (List Int)) : (zJ1 d T).length = T.length:=by unfold zJ1; rw [zA9]
theorem jE3 {d : Int} {r : List Int} {k : Nat} {z : Int} (h : r[k]? = some z) : (zL5 d r).take (k + 1) = (zL5 d r).take k ++ [Rat.divInt z d]:=by
 rw [List.take_add_one,zL5,zB1,h]; rfl
theorem jE4 {d : Int} {T : List (List Int)} {k : Nat} {r : List Int} (h : T[k]? = some r) : (zJ1 d T).take (k + 1) = (zJ1 d T).take k ++ [zL5 d r]:=by
 rw [List.take_add_one,zJ1,zB1,h]; rfl
def RetOv (T : List (List Rat)) (w : World) (e : Ending) (w' : World) : Prop:=∃ v,e = .returned v /\ SlT .u64 4294967296 w' v T /\ Below w.heap.size w w'
theorem jE5 (a0 a1 : Value) (T : List (List Int)) (d : Int) (n m : Nat) (w : World) (h0 : SlW .u64 4294967296 w a0 T) (h1 : IsZ w a1 d) (hd : d ≠ 0) (hc : Hid (T.length = n /\ (∀ r ∈ T,r.length = m) /\ n <= 200 /\ m <= 200 /\ zC1 d <= 1000 /\ ∀ r ∈ T,∀ z ∈ r,zC1 z <= 1000)) :
  Calls Tryz.prog 37 #[a0,a1] w (RetOv (zJ1 d T) w):=by
 have HS0:=Lib.hid h0
 obtain ⟨A0,c0,rfl,hc0,hm0⟩:=h0.shape
 rw [hc.out.1] at HS0 hc0 |-
 obtain ⟨u1,rfl,s1⟩:=h1
 obtain ⟨A1,c1,rfl,_⟩:=id s1
 unfold maxLen at hm0
 have hn:=hc.out.2.2.1
 have HD:=Lib.hid hd
 clear h0 hd
 go_enter Tryz.func37,Tryz.ntmps37
 go_upto_region 1 with (fail)
 obtain ⟨wx,hwx,bb,B1,hsz⟩:=zN8 w 60 #[.bool (ngB d),.slice A1 (digs 4294967296 d.natAbs).length c1]
 rw [hwx]
 clear hwx
 have HX:=Lib.hid bb
 have HB1:=Lib.hid B1
 have HS1:=Lib.hid (s1.below bb)
 have HSX : Hid (SlW .u64 4294967296 wx (.slice A0 n c0) T):=HS0.out.below bb
 clear bb B1 s1 HS0
 obtain ⟨mk,hmk⟩:=Classical.axiomOfChoice (fun w => qK0 (P:=Tryz.prog) (w:=w) Tryz.underlying22 yF n (by omega))
 have hmk1:=fun w => (hmk w).1
 have HMK:=Lib.hid (fun w => (hmk w).2)
 clear hmk
 obtain ⟨tb,bm⟩:=HMK.out wx
 have hgx : wx.heap.size < (mk wx).heap.size:=tb.lt
 have TZ0 : TabZ (mk wx) wx.heap.size m wx.heap.size (n - 0) [] ((zJ1 d T).take 0):=by
  rw [List.take_zero]
  exact ⟨tb,rfl,fun i g r h => by simp at h,fun i j g h => by simp at h⟩
 have HB0 : Hid (Below wx.heap.size wx (mk wx)):=bm
 clear tb bm HMK
 go_wp2
 go_loopw [13] (fun v13 wr => ∃ (k : Nat) (gs : List Nat),k <= n /\ TabZ wr wx.heap.size m wx.heap.size (n - k) gs ((zJ1 d T).take k) /\ Hid (Below wx.heap.size wx wr) /\ v13 = .int .i64 (k : Int)) (fun v13 _ => n - (intOf v13).toNat)
 case atStart => exact ⟨0,[],by omega,TZ0,HB0,rfl⟩
 case round =>
  clear TZ0 HB0 hmk1
  obtain ⟨k,gs,hk,TZ,HB,rfl⟩:=hrel
  obtain ⟨wo,hwo⟩ : ∃ wo,wo = wr:=⟨_,rfl⟩
  subst hwo
  by_cases hlt : k < n
  ·obtain ⟨r,hr⟩ : ∃ r,T[k]? = some r:=⟨_,zA3 (by rw [hc.out.1]; exact hlt)⟩
   have hrm : r.length = m:=hc.out.2.1 r (zA5 hr)
   have hm:=hc.out.2.2.2.1
   obtain ⟨ad,rfl⟩:=HSX.out.place (fun e => by rw [e] at hr; simp at hr)
   obtain ⟨Ar,cr,hkn,ecr,sr⟩:=HSX.out.at2 hr
   rw [hrm] at ecr sr
   have HE:=Lib.hid ecr
   have HSR:=Lib.hid sr
   have HRZ : Hid (∀ z ∈ r,zC1 z <= 1000):=hc.out.2.2.2.2.2 r (zA5 hr)
   have HTS : Hid ((zJ1 d T).take (k + 1) = (zJ1 d T).take k ++ [zL5 d r]):=jE4 hr
   have HRM:=Lib.hid hrm
   have e0:=(HB.out.cell (World.block_lt_of_cell? wx _ ecr)).trans ecr
   obtain ⟨mkq,hmkq⟩:=Classical.axiomOfChoice (fun w => yE0 (P:=Tryz.prog) (w:=w) Tryz.underlying44 zU8 m (by omega))
   have hmk1:=fun w => (hmkq w).1
   obtain ⟨RN0,bm⟩:=(hmkq wo).2
   clear hmkq ecr sr hr hrm
   obtain ⟨n',hn'⟩ : ∃ n',n - k = n' + 1:=⟨n - k - 1,by omega⟩
   rw [hn'] at TZ
   have HN' : Hid (n' = n - (k + 1)):=by show _ = _; omega
   clear hn'
   have hgl : gs.length = k:=by rw [TZ.len,List.length_take,qL6,hc.out.1]; omega
   have HGL:=Lib.hid hgl
   have hgo : wx.heap.size <= wo.heap.size:=HB.out.size
   have TB:=TZ.below bm
   have TP:=TabP.start TB RN0 hgo (fun i hi => by
    have hi2:=(zA4.1 hi).1
    obtain ⟨r2,hr2⟩ : ∃ r2,((zJ1 d T).take k)[i]? = some r2:=⟨_,zA3 (by rw [<- TZ.len]; exact hi2)⟩
    have:=(TZ.row i _ r2 hi hr2).2.1.lt
    omega)
   rw [hgl] at TP
   unfold zS at TP
   obtain ⟨u4,hu4⟩ : ∃ u,(zP3 m (n' + 1) gs)[k]? = some u:=⟨_,zA3 (by rw [yI7]; omega)⟩
   have c4 : (mkq wo).cell? ⟨wx.heap.size,k,none⟩ = some u4:=by rw [TB.blk.1.cell,List.getElem?_toArray]; exact hu4
   have f4:=TB.blk.1.frozen k
   have e1:=(bm.cell (World.block_lt_of_cell? wo _ e0)).trans e0
   have HBW : Hid (Below wx.heap.size wx _):=(HB.out.trans (bm.mono hgo)).setCell (p:=⟨wx.heap.size,k,none⟩) (zB3 _) (.slice (some ⟨wo.heap.size,0,none⟩) m m)
   have e2:=(HBW.out.cell (World.block_lt_of_cell? wx _ HE.out)).trans HE.out
   have ez : ([] : List Rat) = (zL5 d r).take 0:=List.take_zero.symm
   have TP0:=TP
   rw [ez] at TP0
   clear ez
   clear TP TB TZ RN0 bm HB hu4 hgl
   go_wp2
   go_loopw [30] (fun v30 wr => ∃ j : Nat,j <= m /\ TabP wr wx.heap.size m wx.heap.size n' gs ((zJ1 d T).take k) wo.heap.size ((zL5 d r).take j) /\ Hid (Below wx.heap.size wx wr) /\ v30 = .int .i64 (j : Int)) (fun v30 _ => m - (intOf v30).toNat)
   case atStart => exact ⟨0,by omega,TP0,HBW,rfl⟩
   case round =>
    clear TP0 HBW e0 e1 e2 c4 f4 hmk1
    obtain ⟨j,hj,TP,HB,rfl⟩:=hrel
    obtain ⟨wi,hwi⟩ : ∃ wi,wi = wr:=⟨_,rfl⟩
    subst hwi
    by_cases hjl : j < m
    ·obtain ⟨z,hz⟩ : ∃ z,r[j]? = some z:=⟨_,zA3 (by rw [HRM.out]; exact hjl)⟩
     have hbd : Below wx.heap.size wx wi.drew:=HB.out.trans ((Below.refl _ wi).drew.mono HB.out.size)
     have e0 : wi.drew.cell? _ = _:=(hbd.cell (World.block_lt_of_cell? wx _ HE.out)).trans HE.out
     obtain ⟨g2,o2,uz,rfl,hjm,p0,p1,sz⟩:=HSR.out.at_ hz
     obtain ⟨Az,cz,rfl,_⟩:=id sz
     have hix:=fun w => zV4 (P:=Tryz.prog) Tryz.underlying48 (by kernel_rfl) (g:=g2) (o:=o2) (c:=cr) hjl w
     have hixq:=fun w => indexN (P:=Tryz.prog) Tryz.underlying44 (by kernel_rfl) (g:=wo.heap.size) (c:=m) hjl w
     have x0:=(hbd.cell (World.block_lt_of_cell? wx _ p0)).trans p0
     have x1:=(hbd.cell (World.block_lt_of_cell? wx _ p1)).trans p1
     have kz : IsZ wi.drew (.agg #[.bool (ngB z),.slice Az (digs 4294967296 z.natAbs).length cz]) z:=⟨_,rfl,sz.below hbd⟩
     have BD:=HB1.out.below hbd
     obtain ⟨y0,y1,_,_⟩:=Blk.two BD
     have kd : IsZ wi.drew (.agg #[.bool (ngB d),.slice A1 (digs 4294967296 d.natAbs).length c1]) d:=⟨_,rfl,HS1.out.below hbd⟩
     have TPd:=TP.drew
     have q0:=TPd.cellAt
     rw [HGL.out] at q0
     unfold zS at q0
     obtain ⟨Q,hQ⟩ : ∃ Q,Q = Rat.divInt z d:=⟨_,rfl⟩
     have HRS : Hid ((zL5 d r).take (j + 1) = (zL5 d r).take j ++ [Q]):=by rw [hQ]; exact jE3 hz
     have CM : ∀ w a b,IsZ w a z -> IsZ w b d -> Calls Tryz.prog 77 #[a,b] w (qD1 Q 0 w):=fun w a b h1 h2 => by rw [hQ]; exact yX4 a z b d w h1 h2 (HRZ.out z (zA5 hz)) hc.out.2.2.2.2.1 HD.out
     have HBd:=Lib.hid hbd
     have hszd:=hbd.size
     have hjq : j = ((zL5 d r).take j).length:=by rw [List.length_take,qL5,HRM.out]; omega
     have HJQ:=Lib.hid hjq
     clear hz hQ hbd p0 p1 sz TP HB BD hjq hjm
     go_upto_region 9 with (fail)
     go_region_law (first | (go_simp; go_at_call 77; refine (CM _ _ _ (by exact kz) (by exact kd)).mono ?_; rintro e w3 ⟨v3,rfl,k3,b3⟩; obtain ⟨u3,t3,rfl,s3,d3⟩:=k3; obtain ⟨A3,c3,rfl,_⟩:=id s3; obtain ⟨D3,e3,rfl,_⟩:=id d3; have TP3:=TPd.below b3; have q3:=(b3.cell (World.block_lt_of_cell? wi.drew _ q0)).trans q0; have z0:=(b3.cell (World.block_lt_of_cell? wi.drew _ e0)).trans e0; obtain ⟨p5,q5,t5,P0,P1,P2,F0,F1,F2⟩:=TP3.cur.place hjl))
     all_goals
      obtain ⟨G8,R8,-⟩:=yZ9 TP3.cur hjl s3 d3
      have TP8:=TP3.set G8 (R8 HJQ.out)
      rw [<- HRS.out] at TP8
      have HB8:=Lib.hid ((HBd.out.trans (b3.mono hszd)).grown G8 (zB4 hszd b3.size) (fun q e => by injection e with e; omega))
      clear R8 G8 TP3 TPd q0 q3 z0 e0 x0 x1 y0 y1 kz kd s3 d3 b3 CM HBd HRS P0 P1 P2 F0 F1 F2
      go_wp2
      go_roundw
      case rel => exact ⟨j + 1,by omega,TP8,HB8,by go_num⟩
      case measure => simp [intOf]; omega
    ·have TZ2 : TabZ wi wx.heap.size m wx.heap.size (n - (k + 1)) (gs ++ [wo.heap.size]) ((zJ1 d T).take (k + 1)):=by
      have h:=TP
      rw [show (zL5 d r).take j = zL5 d r from zA7 (by rw [qL5,HRM.out]; omega)] at h
      rw [HTS.out,<- HN'.out]
      exact h.done (by rw [qL5,HRM.out])
     clear TP
     go_wp2
     go_roundw
     case rel => exact ⟨k + 1,_,by omega,TZ2,HB,by go_num⟩
     case measure => simp [intOf]; omega
  ·have HT : Hid (SlT .u64 4294967296 wo (.slice (some ⟨wx.heap.size,0,none⟩) n n) (zJ1 d T)):=by
    have h:=TZ
    rw [zA7 (by rw [qL6,hc.out.1]; omega),show n - k = 0 by omega] at h
    exact h.slT (by rw [qL6,hc.out.1]) (by omega) (by have:=hc.out.2.2.2.1; omega)
   have HBf : Hid (Below w.heap.size w wo):=HX.out.trans (HB.out.mono HX.out.size)
   clear TZ
   go_wp2
   go_ret
   exact ⟨_,rfl,HT.out,HBf.out⟩
theorem digs_one : digs 4294967296 1 = [1]:=by decide +kernel
def isB (v : Value) : Prop:=(∃ b,v = .bool b) \/ ∃ A n c,v = .slice A n c
def zF2 (e : TypeId) (w : World) (base : Nat) (v : Value) (ps : List (Int × Value)) : Prop:=w.ownsRow base e 2 v ps.length (zE5 ps) /\ ∀ g,v.ownBlock = some g -> ∃ cs,w.heap[g]? = some (.cells cs e (0,0)) /\ ∀ c ∈ cs,isB c
def qB0 (ps : List (Int × Value)) : Prop:=∀ p ∈ ps,∃ A n c,p.2 = .slice A n c
theorem jE6 {ps : List (Int × Value)} (h : qB0 ps) : ∀ c ∈ zE5 ps,isB c:=fun c hc => by
 obtain ⟨p,hp,hc⟩:=List.mem_flatMap.1 hc
 obtain ⟨A,n,d,e⟩:=h p hp
 simp only [e,List.mem_cons,List.not_mem_nil,or_false] at hc
 rcases hc with rfl | rfl
 ·exact .inl ⟨_,rfl⟩
 ·exact .inr ⟨_,_,_,rfl⟩
theorem isB_one {c : Value} (h : isB c) : c.oneCell' = true:=by
 rcases h with ⟨b,rfl⟩ | ⟨A,n,d,rfl⟩ <;> rfl
theorem zF2.grown {e : TypeId} {w w' : World} {base : Nat} {v : Value} {ps : List (Int × Value)} {row : Option Nat} (h : zF2 e w base v ps) (hg : w.grownBy w' row) (hne : ∀ g,v.ownBlock = some g -> row ≠ some g) : zF2 e w' base v ps:=by
 refine ⟨World.ownsRow.kept (row:=row) h.1 hg (by
  cases hv : v.ownBlock with
  | none => exact .inl rfl
  | some g => exact .inr fun e => hne g hv e.symm),fun g hv => ?_⟩
 obtain ⟨cs,h1,h2⟩:=h.2 g hv
 exact ⟨cs,(hg.block g (World.ownsRow.lt h.1 g hv).2 (fun e => hne g hv e.symm)).trans h1,h2⟩
theorem zF2.below {e : TypeId} {w w' : World} {base : Nat} {v : Value} {ps : List (Int × Value)} (h : zF2 e w base v ps) (hb : Below w.heap.size w w') : zF2 e w' base v ps:=h.grown (qK4 hb none) (fun g _ e => by cases e)
theorem jE7 (e : TypeId) (w : World) (base : Nat) : zF2 e w base (.slice none 0 0) []:=⟨World.ownsRow_nil w base e 2,fun g h => by cases h⟩
section
variable {P : Program}
theorem jE8 {w : World} {base : Nat} {t ty e : TypeId} (hT : P.underlying t = some (.slice e)) (hI : ∃ i,P.info? e = some i /\ i.zero = some (.agg #[.bool false,.slice none 0 0]) /\ i.size = 2 /\ i.bytes = 32) {v : Value} {ps news : List (Int × Value)} (hown : zF2 e w base v ps) {ad : Addr} {m c : Nat} (hm : m = news.length) (hm0 : 0 < m)
  (hr : ∀ (i : Nat) (u : Value),(zE5 news)[i]? = some u -> w.cell? (ad.add i) = some u) (h1 : qB0 news) (hlen : ps.length + m <= 1000000000) (hbase : base <= w.heap.size) :
  ∃ v' w',(Builtin.append_ #[t,t] ty #[v,.slice (some ad) m c]).run P w = .ok v' w' /\ zF2 e w' base v' (ps ++ news) /\ w.grownBy w' v.ownBlock /\ (v'.ownBlock = v.ownBlock \/ v'.ownBlock = some w.heap.size):=by
 obtain ⟨i,hi,hz,hs,hby⟩:=hI
 subst hm
 have hB:=jE6 h1
 have one : ∀ u ∈ zE5 news,u.oneCell' = true:=fun u hu => isB_one (hB u hu)
 have hl : (zE5 news).length = news.length * i.size:=by rw [hs,qL]
 have zs : ∀ n,∀ c ∈ Builtin.zeroCells (Value.agg #[.bool false,.slice none 0 0]).cells n,isB c:=by
  intro n c hc
  unfold Builtin.zeroCells at hc
  rw [show (Value.agg #[.bool false,.slice none 0 0]).cells = #[.bool false,.slice none 0 0] from rfl] at hc
  simp at hc
  obtain ⟨j,_,rfl⟩:=hc
  rcases (show j % 2 = 0 \/ j % 2 = 1 by omega) with e | e
  ·simp [e]; exact .inl ⟨_,rfl⟩
  ·simp [e]; exact .inr ⟨_,_,_,rfl⟩
 obtain ⟨v',w',g1,g2,g3,_,g5⟩:=run_append_own_at (P:=P) w base t ty e i (.agg #[.bool false,.slice none 0 0]) 2 32 hT hi hz hs hby rfl (by decide) v ps.length (zE5 ps) hown.1 ad news.length c (zE5 news) (by rw [qL]) (fun j u hu => hr j u hu) one (by unfold maxLen; omega) (by omega) hbase
 refine ⟨v',w',g1,⟨by rw [zA8,show zE5 (ps ++ news) = zE5 ps ++ zE5 news by simp [zE5]]; exact g2,fun g hg => ?_⟩,g3,g5⟩
 rcases hown.1.2 with ⟨rfl,h0⟩ | ⟨g',cap,cur,rfl,hbg,hgg,hnc,hcm,hcs,htake⟩
 ·have hx : ps = []:=List.eq_nil_of_length_eq_zero h0
  subst hx
  have hr2:=run_append_nil (P:=P) w t ty e i (.agg #[.bool false,.slice none 0 0]) hT hi hz ad news.length c (zE5 news) hl hr hm0 (by omega) (by rw [hby]; simp at hlen; omega)
  rw [hr2] at g1
  injection g1 with g1 g1'
  subst g1; subst g1'
  obtain rfl : w.heap.size = g:=by simpa [Value.ownBlock] using hg
  refine ⟨_,heap_alloc_new w.drew _,fun c hc => ?_⟩
  rcases Array.mem_append.1 hc with hc | hc
  ·exact hB c (by simpa using hc)
  ·exact zs _ c hc
 ·obtain ⟨cs,hcs1,hcs2⟩:=hown.2 g' rfl
  rw [hgg] at hcs1
  injection hcs1 with hcs1
  injection hcs1 with hcs1 _ _
  subst hcs1
  by_cases hroom : ps.length + news.length <= cap
  ·have hfit : ps.length * i.size + (zE5 news).length <= cur.size:=by rw [hcs,hs,qL]; omega
   have hr2:=run_append_room (P:=P) w t ty e i hT hi g' ps.length cap cur hgg ad news.length c (zE5 news) hl hr one hroom hfit
   rw [hr2] at g1
   injection g1 with g1 g1'
   subst g1; subst g1'
   obtain rfl : g' = g:=by simpa [Value.ownBlock] using hg
   refine ⟨_,setRow_heap w g' cur _ e _ hgg,fun c hc => ?_⟩
   have hc2 : c ∈ cur.toList.take (ps.length * i.size) ++ zE5 news ++ cur.toList.drop (ps.length * i.size + (zE5 news).length):=by simpa using hc
   rcases List.mem_append.1 hc2 with hc2 | hc2
   ·rcases List.mem_append.1 hc2 with hc2 | hc2
    ·exact hcs2 c (by simpa using List.mem_of_mem_take hc2)
    ·exact hB c hc2
   ·exact hcs2 c (by simpa using List.mem_of_mem_drop hc2)
  ·have holds : ∀ j u,(zE5 ps)[j]? = some u -> w.cell? ((⟨g',0,none⟩ : Addr).add j) = some u:=World.ownsRow.cells hown.1 (g:=g') rfl
   have hr2:=run_append_grow (P:=P) w t ty e i (.agg #[.bool false,.slice none 0 0]) hT hi hz ⟨g',0,none⟩ ps.length cap (zE5 ps) (by rw [hs,qL]) holds ad news.length c (zE5 news) hl hr (by omega) (by omega) (growslice_fits (by omega) (by rw [hby]; omega))
   rw [hr2] at g1
   injection g1 with g1 g1'
   subst g1; subst g1'
   obtain rfl : w.heap.size = g:=by simpa [Value.ownBlock] using hg
   refine ⟨_,heap_alloc_new w.drew _,fun c hc => ?_⟩
   rcases Array.mem_append.1 hc with hc | hc
   ·rcases Array.mem_append.1 hc with hc | hc
    ·have hcv : c ∈ zE5 ps:=by simpa using hc
     rw [<- htake] at hcv
     exact hcs2 c (by simpa using List.mem_of_mem_take hcv)
    ·exact hB c (by simpa using hc)
   ·exact zs _ c hc
end
section
variable {P : Program}
end
theorem zF2.under {e : TypeId} {w : World} {base : Nat} {v : Value} {ps : List (Int × Value)} (h : zF2 e w base v ps) : ∀ g,v.ownBlock = some g -> base <= g /\ g < w.heap.size:=fun g hg => World.ownsRow.lt h.1 g hg
theorem zF2.slice {e : TypeId} {w : World} {base : Nat} {v : Value} {ps : List (Int × Value)} (h : zF2 e w base v ps) : ∃ A c,v = .slice A ps.length c:=by
 rcases h.1.2 with ⟨e1,h0⟩ | ⟨g,cap,cur,e1,_⟩
 ·exact ⟨none,0,by rw [e1,h0]⟩
 ·exact ⟨_,_,e1⟩
theorem zF2.bel {e : TypeId} {w w' : World} {base : Nat} {v : Value} {ps : List (Int × Value)} (h : zF2 e w base v ps) (hg : w.grownBy w' v.ownBlock) (hb : base <= w.heap.size) : Below base w w':=(Below.refl base w).grown hg hb (fun g e => (h.under g e).1)
theorem zF2.keepS {e : TypeId} {w w' : World} {base : Nat} {V : Value} {ps : List (Int × Value)} {k : IntKind} {v : Value} {l : List Nat} (h : zF2 e w base V ps) (hg : w.grownBy w' V.ownBlock) (hs : IsS w k v l) : IsS w' k v l:=by
  cases ho : V.ownBlock with
  | none => rw [ho] at hg; exact hs.below ⟨hg.os,hg.tape,hg.output,hg.size,fun k hk => hg.block k hk (by simp)⟩
  | some g =>
    rw [ho] at hg
    obtain ⟨cs,h1,h2⟩:=h.2 g ho
    exact Go.Proofs.YtagaabooccnamaaGreat.flow.off hs h1 (fun c hc n => by rcases h2 c hc with ⟨b,rfl⟩ | ⟨A,m,d,rfl⟩ <;> simp) hg
theorem zF2.sl {T : TypeId} {k : IntKind} {B : Nat} {w : World} {base : Nat} {v : Value} {ps : List (Int × Value)} (h : zF2 T w base v ps) (hs : ∀ p ∈ ps,IsS w k p.2 (digs B p.1.natAbs)) : SlZ k B w v (ps.map (·.1)):=by
  rcases h.1.2 with ⟨rfl,h0⟩ | ⟨g,cap,cur,rfl,_,hg,hn,hm,_,_⟩
  · obtain rfl : ps = []:=List.length_eq_zero_iff.1 h0
    exact qA9 _ _ _ (Nat.zero_le _)
  · refine ⟨some ⟨g,0,none⟩,cap,by rw [zA9],by rw [zA9]; exact hn,hm,fun i z hz => ?_⟩
    rw [zB1] at hz
    cases hp : ps[i]? with
    | none => rw [hp] at hz; cases hz
    | some p =>
      rw [hp] at hz
      obtain rfl : p.1 = z:=by simpa using hz
      obtain ⟨f0,f1⟩:=qD7 ps i p hp
      have k0:=World.ownsRow.cells h.1 (g:=g) rfl _ _ f0
      have k1:=World.ownsRow.cells h.1 (g:=g) rfl _ _ f1
      rw [zQ0] at k0 k1
      exact ⟨g,0,p.2,rfl,by rw [Nat.zero_add]; exact k0,by rw [Nat.zero_add]; exact k1,hs p (zA5 hp)⟩
def qF2 (w : World) (v : Value) : Prop:=∃ A n c,v = .slice A n c /\ n <= c /\ c <= maxLen /\ ∀ i,i < n -> ∃ ad u,A = some ad /\ w.cell? (ad.add i) = some u /\ qD6 w u
theorem qD6.below {w w' : World} {v : Value} (h : qD6 w v) (hb : Below w.heap.size w w') : qD6 w' v:=by
 obtain ⟨A,n,c,e,h1,h2,h3⟩:=h
 refine ⟨A,n,c,e,h1,h2,fun i hi => ?_⟩
 obtain ⟨ad,b,u,l,e2,c0,c1,s,lt⟩:=h3 i hi
 exact ⟨ad,b,u,l,e2,(hb.cell (World.block_lt_of_cell? w _ c0)).trans c0,(hb.cell (World.block_lt_of_cell? w _ c1)).trans c1,s.below hb,lt⟩
theorem qF2.below {w w' : World} {v : Value} (h : qF2 w v) (hb : Below w.heap.size w w') : qF2 w' v:=by
 obtain ⟨A,n,c,e,h1,h2,h3⟩:=h
 refine ⟨A,n,c,e,h1,h2,fun i hi => ?_⟩
 obtain ⟨ad,u,e2,c0,hz⟩:=h3 i hi
 exact ⟨ad,u,e2,(hb.cell (World.block_lt_of_cell? w _ c0)).trans c0,qD6.below hz hb⟩
theorem qF2.shape {w : World} {v : Value} (h : qF2 w v) : ∃ A n c,v = .slice A n c /\ n <= c /\ c <= maxLen:=by
 obtain ⟨A,n,c,e,h1,h2,_⟩:=h
 exact ⟨A,n,c,e,h1,h2⟩
def SlP (w : World) (v : Value) (ps : List (Int × Value)) : Prop:=∃ A c,v = .slice A ps.length c /\ ps.length <= c /\ c <= maxLen /\ ∀ (i : Nat) (p : Int × Value),ps[i]? = some p -> ∃ g o,A = some ⟨g,o,none⟩ /\ w.cell? ⟨g,o + i * 2,none⟩ = some (.bool (ngB p.1)) /\ w.cell? ⟨g,o + i * 2 + 1,none⟩ = some p.2
def zG3 (k : IntKind) (B : Nat) (w : World) (ps : List (Int × Value)) : Prop:=∀ p ∈ ps,IsS w k p.2 (digs B p.1.natAbs)
theorem SlZ.pairs {k : IntKind} {B : Nat} {w : World} {v : Value} {zs : List Int} (h : SlZ k B w v zs) : ∃ ps : List (Int × Value),ps.map (·.1) = zs /\ SlP w v ps /\ zG3 k B w ps:=by
  obtain ⟨A,c,rfl,h2,h3,h4⟩:=h
  have h5 : ∀ i : Nat,∃ u : Value,∀ z,zs[i]? = some z -> ∃ g o,A = some ⟨g,o,none⟩ /\ w.cell? ⟨g,o + i * 2,none⟩ = some (.bool (ngB z)) /\ w.cell? ⟨g,o + i * 2 + 1,none⟩ = some u /\ IsS w k u (digs B z.natAbs):=fun i => by
    cases hz : zs[i]? with
    | none => exact ⟨.bool false,fun z h => by cases h⟩
    | some z =>
      obtain ⟨g,o,u,h⟩:=h4 i z hz
      exact ⟨u,fun z' h' => by injection h' with h'; subst h'; exact ⟨g,o,h⟩⟩
  obtain ⟨f,hf⟩:=Classical.axiomOfChoice h5
  obtain ⟨ps,hps⟩ : ∃ ps : List (Int × Value),ps = (List.range zs.length).map fun i => (zs.getD i 0,f i):=⟨_,rfl⟩
  have hl : ps.length = zs.length:=by rw [hps]; simp
  have at_ : ∀ (i : Nat) (p : Int × Value),ps[i]? = some p -> zs[i]? = some p.1 /\ p.2 = f i:=fun i p hp => by
    have hi:=(zA4.1 hp).1
    rw [hl] at hi
    rw [hps,zB1,List.getElem?_range hi] at hp
    injection hp with hp
    subst hp
    refine ⟨?_,rfl⟩
    show zs[i]? = some (zs.getD i 0)
    rw [zA6,zA3 hi]; rfl
  refine ⟨ps,?_,⟨A,c,by rw [hl],by rw [hl]; exact h2,h3,fun i p hp => ?_⟩,fun p hp => ?_⟩
  · refine List.ext_getElem? fun i => ?_
    rw [zB1]
    cases hp : ps[i]? with
    | none =>
      have h6 : ¬ i < ps.length:=fun h => by rw [zA3 h] at hp; cases hp
      rw [List.getElem?_eq_none (by omega)]; rfl
    | some p => rw [(at_ i p hp).1]; rfl
  · obtain ⟨h6,h7⟩:=at_ i p hp
    obtain ⟨g,o,e,c0,c1,_⟩:=hf i _ h6
    exact ⟨g,o,e,c0,by rw [h7]; exact c1⟩
  · obtain ⟨i,hi⟩:=List.mem_iff_getElem?.1 hp
    obtain ⟨h6,h7⟩:=at_ i p hi
    obtain ⟨g,o,e,c0,c1,s⟩:=hf i _ h6
    rw [h7]; exact s
theorem zG3.sl {k : IntKind} {B : Nat} {w : World} {ps : List (Int × Value)} (h : zG3 k B w ps) : qB0 ps:=fun p hp => by
 obtain ⟨A,c,e,_⟩:=h p hp
 exact ⟨A,_,c,e⟩
theorem zG3.below {k : IntKind} {B : Nat} {w w' : World} {ps : List (Int × Value)} (h : zG3 k B w ps) (hb : Below w.heap.size w w') : zG3 k B w' ps:=fun p hp => (h p hp).below hb
theorem zG3.append {k : IntKind} {B : Nat} {w : World} {ps qs : List (Int × Value)} (h : zG3 k B w ps) (h' : zG3 k B w qs) : zG3 k B w (ps ++ qs):=fun p hp => by
 rcases List.mem_append.1 hp with hp | hp
 ·exact h p hp
 ·exact h' p hp
theorem zG3.nil {k : IntKind} {B : Nat} {w : World} : zG3 k B w []:=fun p hp => by simp at hp
theorem zG3.take {k : IntKind} {B : Nat} {w : World} {ps : List (Int × Value)} (h : zG3 k B w ps) (n : Nat) : zG3 k B w (ps.take n):=fun p hp => h p (List.mem_of_mem_take hp)
theorem zG3.drop {k : IntKind} {B : Nat} {w : World} {ps : List (Int × Value)} (h : zG3 k B w ps) (n : Nat) : zG3 k B w (ps.drop n):=fun p hp => h p (List.mem_of_mem_drop hp)
theorem SlP.below {w w' : World} {v : Value} {ps : List (Int × Value)} (h : SlP w v ps) (hb : Below w.heap.size w w') : SlP w' v ps:=by
 obtain ⟨A,c,e,h1,h2,h3⟩:=h
 refine ⟨A,c,e,h1,h2,fun i p hp => ?_⟩
 obtain ⟨g,o,e2,c0,c1⟩:=h3 i p hp
 exact ⟨g,o,e2,(hb.cell (World.block_lt_of_cell? w _ c0)).trans c0,(hb.cell (World.block_lt_of_cell? w _ c1)).trans c1⟩
theorem SlP.sl {k : IntKind} {B : Nat} {w : World} {v : Value} {ps : List (Int × Value)} (h : SlP w v ps) (hs : zG3 k B w ps) : SlZ k B w v (ps.map (·.1)):=by
  obtain ⟨A,c,e,h1,h2,h3⟩:=h
  refine ⟨A,c,by rw [zA9]; exact e,by rw [zA9]; exact h1,h2,fun i z hz => ?_⟩
  rw [zB1] at hz
  cases hp : ps[i]? with
  | none => rw [hp] at hz; cases hz
  | some p =>
    rw [hp] at hz
    obtain rfl : p.1 = z:=by simpa using hz
    obtain ⟨g,o,e2,c0,c1⟩:=h3 i p hp
    exact ⟨g,o,_,e2,c0,c1,hs p (zA5 hp)⟩
theorem yI9 : ∀ (ps : List (Int × Value)) (j : Nat) (u : Value),(zE5 ps)[j]? = some u -> ∃ i p,ps[i]? = some p /\ ((j = i * 2 /\ u = .bool (ngB p.1)) \/ (j = i * 2 + 1 /\ u = p.2))
  | [],j,u,h => by simp [zE5] at h
  | p :: ps,0,u,h => ⟨0,p,rfl,.inl ⟨rfl,by simpa [zV5] using h.symm⟩⟩
  | p :: ps,1,u,h => ⟨0,p,rfl,.inr ⟨rfl,by simpa [zV5] using h.symm⟩⟩
  | p :: ps, j + 2, u, h => by
    have e : (zE5 (p :: ps))[j + 2]? = (zE5 ps)[j]?:=by rw [zV5]; simp
    rw [e] at h
    obtain ⟨i,q,hq,h2⟩:=yI9 ps j u h
    refine ⟨i + 1,q,by simpa using hq,?_⟩
    rcases h2 with ⟨a,b⟩ | ⟨a,b⟩
    · exact .inl ⟨by omega,b⟩
    · exact .inr ⟨by omega,b⟩
theorem SlP.flatAt {w : World} {A : Option Addr} {n c : Nat} {ps : List (Int × Value)} (h : SlP w (.slice A n c) ps) (hne : ps ≠ []) : ∃ ad,A = some ad /\ ∀ (i : Nat) (u : Value),(zE5 ps)[i]? = some u -> w.cell? (ad.add i) = some u:=by
 obtain ⟨A',c',e,h1,h2,h3⟩:=h
 injection e with e1 e2 e3
 subst e1; subst e2; subst e3
 obtain ⟨p0,hp0⟩ : ∃ p0,ps[0]? = some p0:=⟨_,zA3 (List.length_pos_iff.2 hne)⟩
 obtain ⟨g0,o0,rfl,_⟩:=h3 0 p0 hp0
 refine ⟨_,rfl,fun j a ha => ?_⟩
 obtain ⟨k,p,hp,h⟩:=yI9 ps j a ha
 obtain ⟨g',o',e,c0,c1⟩:=h3 k p hp
 injection e with e
 injection e with e1 e2
 subst e1; subst e2
 rw [qR2]
 rcases h with ⟨rfl,rfl⟩ | ⟨rfl,rfl⟩
 ·exact c0
 ·rw [<- Nat.add_assoc]; exact c1
section
variable {P : Program}
theorem jE9 {w : World} {base : Nat} {t ty e : TypeId} (hT : P.underlying t = some (.slice e)) (hI : ∃ i,P.info? e = some i /\ i.zero = some (.agg #[.bool false,.slice none 0 0]) /\ i.size = 2 /\ i.bytes = 32) {v u : Value} {ps qs : List (Int × Value)} (hown : zF2 e w base v ps) (hu : SlP w u qs) (h1 : qB0 qs) (hlen : ps.length + qs.length <= 1000000000) (hbase : base <= w.heap.size) :
  ∃ v' w',(Builtin.append_ #[t,t] ty #[v,u]).run P w = .ok v' w' /\ zF2 e w' base v' (ps ++ qs) /\ w.grownBy w' v.ownBlock /\ (v'.ownBlock = v.ownBlock \/ v'.ownBlock = some w.heap.size):=by
 obtain ⟨A,c,rfl,hc,hm⟩:=id hu
 by_cases hq : qs = []
 ·subst hq
  obtain ⟨i,hi,hz,hs,hb⟩:=hI
  have hcv : ∃ Av cv,v = .slice Av ps.length cv /\ ps.length <= cv:=by
   rcases hown.1.2 with ⟨e1,h0⟩ | ⟨g,cap,cur,e1,_,_,hn,_⟩
   ·exact ⟨none,0,by rw [e1,h0],by omega⟩
   ·exact ⟨_,cap,e1,hn⟩
  obtain ⟨Av,cv,rfl,hcv⟩:=hcv
  refine ⟨_,w,?_,by rw [List.append_nil]; exact hown,qK6 _ _,.inl rfl⟩
  cases A <;> cases Av <;> simp [Builtin.append_,go_sem,run_underlying hT,sizeOf,typeInfo,hi,Builtin.lenOf,Builtin.firstCells,hcv,storeCells]
 ·obtain ⟨ad,rfl,hr⟩:=hu.flatAt hq
  exact jE8 hT hI hown rfl (List.length_pos_iff.2 hq) hr h1 hlen hbase
theorem jF {w : World} {o : Oper} {a : Act} {K : Act -> World -> Prop} {Q : Exit -> Act -> World -> Prop} (s x : Operand) {t : TypeId}
  (ho : o.op = .call { callee:=.builtin .append,args:=#[s,x],argTypes:=#[t,t] })
  {base : Nat} {e : TypeId} (hT : P.underlying t = some (.slice e)) (hI : ∃ i,P.info? e = some i /\ i.zero = some (.agg #[.bool false,.slice none 0 0]) /\ i.size = 2 /\ i.bytes = 32) {v u : Value} {ps qs : List (Int × Value)} (hs : a.eval s = v) (hown : zF2 e w base v ps) (hx : a.eval x = u) (hu : SlP w u qs) (h1 : qB0 qs) (hlen : ps.length + qs.length <= 1000000000) (hbase : base <= w.heap.size)
  (h : ∀ v' w',zF2 e w' base v' (ps ++ qs) -> Hid (w.grownBy w' v.ownBlock) -> Hid (v'.ownBlock = v.ownBlock \/ v'.ownBlock = some w.heap.size) -> K (a.put o.dst v') w') : o.wp P a w K Q:=by
 obtain ⟨v',w',hrun,h2,h3,h4⟩:=jE9 (P:=P) (ty:=o.type) hT hI hown hu h1 hlen hbase
 unfold Oper.wp execOp
 simp only [ho,resolve,invoke,builtin,Sem.run_bind,Sem.run_pure,Result.andThen_ok,List.map_toArray,List.map_cons,List.map_nil,hs,hx,hrun]
 exact h v' w' h2 h3 h4
theorem jF0 {w : World} {ops : Array Oper} {rest : List Oper} {o : Oper} {a : Act} {Q : Exit -> Act -> World -> Prop} (hgd : o.guard = none) (s x : Operand) {t : TypeId}
  (ho : o.op = .call { callee:=.builtin .append,args:=#[s,x],argTypes:=#[t,t] })
  {base : Nat} {e : TypeId} (hT : P.underlying t = some (.slice e)) (hI : ∃ i,P.info? e = some i /\ i.zero = some (.agg #[.bool false,.slice none 0 0]) /\ i.size = 2 /\ i.bytes = 32) {v u : Value} {ps qs : List (Int × Value)} (hs : a.eval s = v) (hown : zF2 e w base v ps) (hx : a.eval x = u) (hu : SlP w u qs) (h1 : qB0 qs) (hlen : ps.length + qs.length <= 1000000000) (hbase : base <= w.heap.size)
  (h : ∀ v' w',zF2 e w' base v' (ps ++ qs) -> Hid (w.grownBy w' v.ownBlock) -> Hid (v'.ownBlock = v.ownBlock \/ v'.ownBlock = some w.heap.size) -> wpList P ops Q rest (a.put o.dst v') w') : wpList P ops Q (o :: rest) a w :=
 wpList_plain hgd fun _ hK => jF s x ho hT hI hs hown hx hu h1 hlen hbase fun v' w' h2 h3 h4 => hK _ _ (h v' w' h2 h3 h4)
end
theorem zF2.slP {e : TypeId} {w : World} {base : Nat} {v : Value} {ps : List (Int × Value)} (h : zF2 e w base v ps) : SlP w v ps:=by
 rcases h.1.2 with ⟨rfl,h0⟩ | ⟨g,cap,cur,rfl,_,hg,hn,hm,_,_⟩
 ·obtain rfl : ps = []:=List.length_eq_zero_iff.1 h0
  exact ⟨none,0,rfl,zB3 _,Nat.zero_le _,fun i p hp => by simp at hp⟩
 ·refine ⟨some ⟨g,0,none⟩,cap,rfl,hn,hm,fun i p hp => ?_⟩
  obtain ⟨f0,f1⟩:=qD7 ps i p hp
  have k0:=World.ownsRow.cells h.1 (g:=g) rfl _ _ f0
  have k1:=World.ownsRow.cells h.1 (g:=g) rfl _ _ f1
  rw [zQ0] at k0 k1
  exact ⟨g,0,rfl,by rw [Nat.zero_add]; exact k0,by rw [Nat.zero_add]; exact k1⟩
theorem zF2.keepN {e : TypeId} {w w' : World} {base : Nat} {V : Value} {ps qs : List (Int × Value)} {k : IntKind} {B : Nat} (h : zF2 e w base V ps) (hg : w.grownBy w' V.ownBlock) (hs : zG3 k B w qs) : zG3 k B w' qs:=fun p hp => h.keepS hg (hs p hp)
/-! A number written in place. -/
theorem cell_ne {w : World} {a b : Addr} {c d : Value} (ha : w.cell? a = some c) (hb : w.cell? b = some d) (hn : c ≠ d) : a ≠ b:=fun e => by
 subst e
 rw [ha] at hb
 injection hb with hb
 exact hn hb
theorem zW0 {w : World} {a b : Addr} {x : Value} (h : a ≠ b) : (w.setCell a x).cell? b = w.cell? b:=by
 rw [World.cell?_setCell_other]
 exact h
theorem yJ {w : World} {a : Addr} {x u : Value} (h : w.cell? a = some u) : (w.setCell a x).cell? a = some x:=by
 apply World.cell?_setCell_same
 exact h
theorem IsS.put {w : World} {k : IntKind} {v : Value} {l : List Nat} {a : Addr} {x c : Value} (h : IsS w k v l) (hc : w.cell? a = some c) (hn : ∀ n,c ≠ .int k n) : IsS (w.setCell a x) k v l:=by
 obtain ⟨A,cc,rfl,h1,h2,h3⟩:=h
 refine ⟨A,cc,rfl,h1,h2,fun i d hd => ?_⟩
 obtain ⟨ad,rfl,hq⟩:=h3 i d hd
 refine ⟨ad,rfl,?_⟩
 rw [zW0 (cell_ne hc hq (hn _))]
 exact hq
section
variable {w : World} {g o : Nat} {b0 : Bool} {A0 : Option Addr} {n0 c0 : Nat} {x y : Value}
theorem off1 (g o : Nat) : (⟨g,o,none⟩ : Addr) ≠ ⟨g,o + 1,none⟩:=fun e => by injection e with _ e; omega
theorem IsS.put2 {k : IntKind} {v : Value} {l : List Nat} (h : IsS w k v l) (k0 : w.cell? ⟨g,o,none⟩ = some (.bool b0)) (k1 : w.cell? ⟨g,o + 1,none⟩ = some (.slice A0 n0 c0)) : IsS ((w.setCell ⟨g,o,none⟩ x).setCell ⟨g,o + 1,none⟩ y) k v l :=
 Go.Proofs.YtagaabooccnamaaGreat.rat.IsS.put (Go.Proofs.YtagaabooccnamaaGreat.rat.IsS.put h k0 (fun n => by simp)) (c:=.slice A0 n0 c0) (by rw [zW0 (off1 g o)]; exact k1) (fun n => by simp)
theorem qS7 (w : World) (g o : Nat) (x y : Value) : w.grownBy ((w.setCell ⟨g,o,none⟩ x).setCell ⟨g,o + 1,none⟩ y) (some g):=(zF0 w g o x).trans (zF0 _ g (o + 1) y)
theorem SlZ.put2 {k : IntKind} {B : Nat} {v : Value} {zs : List Int} (h : SlZ k B w v zs) (hne : v.ownBlock ≠ some g) (k0 : w.cell? ⟨g,o,none⟩ = some (.bool b0)) (k1 : w.cell? ⟨g,o + 1,none⟩ = some (.slice A0 n0 c0)) : SlZ k B ((w.setCell ⟨g,o,none⟩ x).setCell ⟨g,o + 1,none⟩ y) v zs:=by
 obtain ⟨A,c,rfl,h2,h3,h4⟩:=h
 refine ⟨A,c,rfl,h2,h3,fun i z hz => ?_⟩
 obtain ⟨g',o',u,rfl,c0',c1',s⟩:=h4 i z hz
 have hne' : some g' ≠ some g:=fun e => hne (by simpa [Value.ownBlock] using e)
 have hg:=qS7 w g o x y
 exact ⟨g',o',u,rfl,hg.cell c0' hne',hg.cell c1' hne',Go.Proofs.YtagaabooccnamaaGreat.rat.IsS.put2 s k0 k1⟩
theorem SlZ.setZ {k : IntKind} {B : Nat} {zs : List Int} {n c j : Nat} {z : Int} {u : Value} (h : SlZ k B w (.slice (some ⟨g,o,none⟩) n c) zs) (hj : j < zs.length) (hu : IsS w k u (digs B z.natAbs)) : SlZ k B ((w.setCell ⟨g,o + j * 2,none⟩ (.bool (ngB z))).setCell ⟨g,o + j * 2 + 1,none⟩ u) (.slice (some ⟨g,o,none⟩) n c) (zs.set j z):=by
 obtain ⟨u0,hjn,p0,p1,s0⟩:=h.at2 (zA3 hj)
 obtain ⟨As,cs,rfl,_⟩:=id s0
 obtain ⟨A,c',e,h2,h3,h4⟩:=h
 injection e with e1 e2 e3
 subst e1; subst e2; subst e3
 refine ⟨_,_,by rw [zB2],by rw [zB2]; exact h2,h3,fun i z' hz => ?_⟩
 by_cases hi : j = i
 ·subst hi
  rw [List.getElem?_set_self hj] at hz
  injection hz with hz
  subst hz
  refine ⟨g,o,u,rfl,?_,?_,Go.Proofs.YtagaabooccnamaaGreat.rat.IsS.put2 hu p0 p1⟩
  ·rw [zW0 (fun e => off1 g (o + j * 2) e.symm),yJ p0]
  ·exact yJ (u:=.slice As (digs B (zs[j]).natAbs).length cs) (by rw [zW0 (off1 g (o + j * 2))]; exact p1)
 ·rw [List.getElem?_set_ne hi] at hz
  obtain ⟨g',o',u',e,c0',c1',s⟩:=h4 i z' hz
  injection e with e
  injection e with e4 e5
  subst e4; subst e5
  have d : ∀ p q : Nat,p ≠ q -> (⟨g,p,none⟩ : Addr) ≠ ⟨g,q,none⟩:=fun p q hn e => by injection e with _ e; exact hn e
  refine ⟨g,o,u',rfl,?_,?_,Go.Proofs.YtagaabooccnamaaGreat.rat.IsS.put2 s p0 p1⟩
  ·rw [zW0 (d _ _ (by omega)),zW0 (d _ _ (by omega))]; exact c0'
  ·rw [zW0 (d _ _ (by omega)),zW0 (d _ _ (by omega))]; exact c1'
end
theorem zD5.setZ {B B0 : Nat} {w : World} {g gr o n c i j : Nat} {TS : TypeId} {us : List Value} {T : List (List Int)} {r : List Int} {z : Int} {u : Value} (h : zD5 .u64 B w g TS us T) (ha : Apt w B0 us) (hu : us[i]? = some (.slice (some ⟨gr,o,none⟩) n c)) (hr : T[i]? = some r) (hj : j < r.length) (hs : IsS w .u64 u (digs B z.natAbs)) :
  zD5 .u64 B ((w.setCell ⟨gr,o + j * 2,none⟩ (.bool (ngB z))).setCell ⟨gr,o + j * 2 + 1,none⟩ u) g TS us (T.set i (r.set j z)) /\ gr ≠ g:=by
 have sr:=h.2.2 i _ r hu hr
 obtain ⟨u0,hjn,p0,p1,s0⟩:=sr.at2 (zA3 hj)
 obtain ⟨As,cs,rfl,_⟩:=id s0
 have hne : gr ≠ g:=by
  intro e
  subst e
  rw [h.1.1.cell,List.getElem?_toArray] at p0
  obtain ⟨A',m,d,e4⟩:=h.1.2 _ (zA5 p0)
  cases e4
 refine ⟨⟨⟨Blk.grown h.1.1 (qS7 w gr (o + j * 2) _ _) (fun e => hne e.symm),h.1.2⟩,by rw [zB2]; exact h.2.1,fun l x y hx hy => ?_⟩,hne⟩
 by_cases hl : i = l
 ·subst hl
  rw [List.getElem?_set_self (zA4.1 hr).1] at hy
  injection hy with hy
  subst hy
  rw [hu] at hx
  injection hx with hx
  subst hx
  exact sr.setZ hj hs
 ·rw [List.getElem?_set_ne hl] at hy
  exact (h.2.2 l x y hx hy).put2 (fun e => ha.2 i l _ x hl hu hx gr rfl e) p0 p1
theorem zF2.mono {e : TypeId} {w : World} {base base' : Nat} {v : Value} {ps : List (Int × Value)} (h : zF2 e w base v ps) (hb : base' <= base) : zF2 e w base' v ps:=by
 refine ⟨⟨h.1.1,?_⟩,h.2⟩
 rcases h.1.2 with h1 | ⟨g,cap,cur,h1,h2,h3⟩
 ·exact .inl h1
 ·exact .inr ⟨g,cap,cur,h1,zB4 hb h2,h3⟩
theorem yJ0 (n : Nat) : ∀ c ∈ Builtin.zeroCells (Value.agg #[.bool false,.slice none 0 0]).cells n,isB c:=by
 intro c hc
 unfold Builtin.zeroCells at hc
 rw [show (Value.agg #[.bool false,.slice none 0 0]).cells = #[.bool false,.slice none 0 0] from rfl] at hc
 simp at hc
 obtain ⟨j,_,rfl⟩:=hc
 rcases (show j % 2 = 0 \/ j % 2 = 1 by omega) with e | e
 ·simp [e]; exact .inl ⟨_,rfl⟩
 ·simp [e]; exact .inr ⟨_,_,_,rfl⟩
theorem yJ1 (n : Nat) : (Builtin.zeroCells (Value.agg #[.bool false,.slice none 0 0]).cells n).size = n * 2:=by
 unfold Builtin.zeroCells
 rw [show (Value.agg #[.bool false,.slice none 0 0]).cells = #[.bool false,.slice none 0 0] from rfl]
 simp
section
variable {P : Program}
theorem jF1 {w : World} {t tn ty e : TypeId} {kn : IntKind} (hT : P.underlying t = some (.slice e)) (htn : P.underlying tn = some (.int kn)) (hI : ∃ i,P.info? e = some i /\ i.zero = some (.agg #[.bool false,.slice none 0 0]) /\ i.size = 2 /\ i.bytes = 32) {k : Nat} (h0 : 0 < k) (hk : k <= 1000000) :
  ∃ cap w',(Builtin.append_ #[t,tn] ty #[.slice none 0 0,.int .i64 (k : Int)]).run P w = .ok (.slice (some ⟨w.heap.size,0,none⟩) k cap) w' /\ k <= cap /\ zF2 e w' w.heap.size (.slice (some ⟨w.heap.size,0,none⟩) 0 cap) [] /\ Below w.heap.size w w':=by
 obtain ⟨i,hi,hz,hs,hb⟩:=hI
 have h:=Go.Lib.run_append_grow_zeros (P:=P) w t tn ty e i (.agg #[.bool false,.slice none 0 0]) .i64 kn hT htn hi hz none 0 0 [] (by exact run_firstCells_none w.drew i.size 0 0 0) k h0 (by omega) (by omega) (by omega) (by rw [hb]; omega) (growslice_fits (by omega) (by rw [hb]; omega))
 obtain ⟨C,hC⟩ : ∃ C,C = grownCap w (0 + k) 0 e:=⟨_,rfl⟩
 have hC1 : k <= C:=by rw [hC]; have:=grownCap_ge w (0 + k) 0 e; omega
 have hC2 : C <= maxLen:=by rw [hC]; exact grownCap_le_maxLen w (0 + k) 0 e (by unfold maxLen; omega)
 rw [<- hC,Nat.zero_add] at h
 refine ⟨C,_,h,hC1,⟨⟨rfl,.inr ⟨w.heap.size,C,_,rfl,zB3 _,heap_alloc_new w.drew _,Nat.zero_le _,hC2,?_,by simp [zE5]⟩⟩,fun g hg => ?_⟩,((Below.refl w.heap.size w).drew).trans (zC8 (w:=w.drew) (zB3 _) _)⟩
 ·rw [Array.size_append,Array.size_append,yJ1,yJ1]
  simp
  omega
 ·obtain rfl : w.heap.size = g:=by simpa [Value.ownBlock] using hg
  refine ⟨_,heap_alloc_new w.drew _,fun c hc => ?_⟩
  rcases Array.mem_append.1 hc with hc | hc
  ·rcases Array.mem_append.1 hc with hc | hc
   ·simp at hc
   ·exact yJ0 _ c hc
  ·exact yJ0 _ c hc
theorem jF2 {w : World} {ops : Array Oper} {rest : List Oper} {o : Oper} {a : Act} {Q : Exit -> Act -> World -> Prop} (hgd : o.guard = none) (s x : Operand) {t tn : TypeId} {kn : IntKind}
  (ho : o.op = .call { callee:=.builtin .append,args:=#[s,x],argTypes:=#[t,tn] })
  {e : TypeId} (hT : P.underlying t = some (.slice e)) (htn : P.underlying tn = some (.int kn)) (hI : ∃ i,P.info? e = some i /\ i.zero = some (.agg #[.bool false,.slice none 0 0]) /\ i.size = 2 /\ i.bytes = 32) {k : Nat} (hs : a.eval s = .slice none 0 0) (hx : a.eval x = .int .i64 (k : Int)) (h0 : 0 < k) (hk : k <= 1000000)
  (h : ∀ cap w',k <= cap -> zF2 e w' w.heap.size (.slice (some ⟨w.heap.size,0,none⟩) 0 cap) [] -> Below w.heap.size w w' -> wpList P ops Q rest (a.put o.dst (.slice (some ⟨w.heap.size,0,none⟩) k cap)) w') : wpList P ops Q (o :: rest) a w :=
 wpList_plain hgd fun _ hK => by
  obtain ⟨cap,w',hrun,h2,h3,h4⟩:=jF1 (P:=P) (w:=w) (ty:=o.type) hT htn hI h0 hk
  unfold Oper.wp execOp
  simp only [ho,resolve,invoke,builtin,Sem.run_bind,Sem.run_pure,Result.andThen_ok,List.map_toArray,List.map_cons,List.map_nil,hs,hx,hrun]
  exact hK _ _ (h cap w' h2 h3 h4)
end
theorem jF3 (n : Nat) (w : World) (hn : n <= 1000000) : Calls Tryz.prog 116 #[.slice none 0 0,.int .i64 (n : Int)] w (fun e w' => ∃ V,e = .returned V /\ zF2 60 w' w.heap.size V [] /\ Below w.heap.size w w'):=by
 by_cases h0 : 0 < n
 ·go_enter Tryz.func116,Tryz.ntmps116
  go_wp2_with (at_builtin; refine jF2 rfl (.tmp 20) (.tmp 21) rfl Tryz.underlying48 Tryz.underlying3 Go.Proofs.YtagaabooccnamaaGreat.whl.info_int (k:=n) rfl (by first | rfl | simp) h0 hn ?_; intro cap w2 hcap R2 b2)
  go_wp2
  go_ret
  exact ⟨_,rfl,R2,b2⟩
 ·obtain rfl : n = 0:=by omega
  go_enter Tryz.func116,Tryz.ntmps116
  go_wp2
  go_ret
  exact ⟨_,rfl,jE7 _ _ _,Below.refl _ _⟩
theorem qS8 {α : Type} {l : List (List α)} {k : Nat} {x : List α} (h : l[k]? = some x) : (l.take (k + 1)).flatten = (l.take k).flatten ++ x:=by rw [List.take_add_one,h]; simp
theorem zY {α : Type} {l : List (List α)} {k : Nat} {x : List α} (h : l[k]? = some x) : ((l.take (k + 1)).flatten).length = ((l.take k).flatten).length + x.length:=by rw [qS8 h,zA8]
theorem yJ2 {α : Type} {l : List (List α)} {m : Nat} (h : ∀ x ∈ l,x.length <= m) : ∀ k,((l.take k).flatten).length <= k * m:=by
  intro k
  induction k with
  | zero => simp
  | succ k ih =>
    cases hk : l[k]? with
    | none => rw [List.take_add_one,hk]; simp; rw [Nat.succ_mul]; have:=ih; simp at this; omega
    | some x => rw [zY hk,Nat.succ_mul]; have:=h x (zA5 hk); omega
theorem jF4 (V : Value) (vs : List Value) (pss : List (List (Int × Value))) (w : World) (hV : IsV w V vs) (hl : vs.length = pss.length) (hp : ∀ (i : Nat) (v : Value) (ps : List (Int × Value)),vs[i]? = some v -> pss[i]? = some ps -> SlP w v ps /\ zG3 .u64 4294967296 w ps) (hn : pss.length <= 10) (hs : ∀ ps ∈ pss,ps.length <= 1000) :
  Calls Tryz.prog 72 #[V] w (fun e w' => ∃ V',e = .returned V' /\ zF2 60 w' w.heap.size V' pss.flatten /\ zG3 .u64 4294967296 w' pss.flatten /\ Below w.heap.size w w'):=by
 obtain ⟨A,c,rfl,hc,hcells⟩:=hV
 have HC:=Lib.hid hcells
 have HP:=Lib.hid hp
 have HL:=Lib.hid hl
 obtain ⟨n,hnv⟩ : ∃ n,n = vs.length:=⟨_,rfl⟩
 rw [<- hnv] at hl hc |-
 have HN : Hid (n = vs.length /\ n = pss.length /\ n <= 10):=⟨hnv,by omega,by omega⟩
 have HB:=Lib.hid (yJ2 hs)
 have hn10 : n <= 10:=HN.out.2.2
 clear hcells hp hs hnv hl hn
 go_enter Tryz.func72,Tryz.ntmps72
 go_wp2
 go_loopw [3,11] (fun v3 v11 wr => ∃ k s : Nat,k <= n /\ Hid (s = ((pss.take k).flatten).length) /\ Hid (Below w.heap.size w wr) /\ v3 = .int .i64 (s : Int) /\ v11 = .int .i64 (k : Int)) (fun _ v11 _ => n - (intOf v11).toNat)
 case atStart =>
  have H0 : Hid (0 = ((pss.take 0).flatten).length):=by show _ = _; simp
  exact ⟨0,0,by omega,H0,Below.refl _ _,rfl,rfl⟩
 case round =>
  obtain ⟨k,s,hk,HS,HBw,rfl,rfl⟩:=hrel
  obtain ⟨wo,hwo⟩ : ∃ wo,wo = wr:=⟨_,rfl⟩
  subst hwo
  have hsb : s <= 10000:=by have h1:=HB.out k; have h2:=HS.out; have h3:=HN.out; have : k * 1000 <= 10 * 1000:=Nat.mul_le_mul_right _ (by omega); omega
  by_cases hlt : k < n
  ·obtain ⟨v,hv⟩ : ∃ v,vs[k]? = some v:=⟨_,zA3 (by have:=HN.out.1; omega)⟩
   obtain ⟨ps,hps⟩ : ∃ ps,pss[k]? = some ps:=⟨_,zA3 (by have:=HN.out.2.1; omega)⟩
   obtain ⟨ad,rfl,ec0⟩:=HC.out k v hv
   have ec:=(HBw.out.cell (World.block_lt_of_cell? w _ ec0)).trans ec0
   obtain ⟨Av,cv,rfl,hcv,hcm,-⟩:=(HP.out k v ps hv hps).1
   have hpl : ps.length <= 11000:=by have h1:=HB.out (k + 1); rw [zY hps] at h1; have h3:=HN.out; have : (k + 1) * 1000 <= 11 * 1000:=Nat.mul_le_mul_right _ (by omega); omega
   have HS2 : Hid (s + ps.length = ((pss.take (k + 1)).flatten).length):=by show _ = _; rw [zY hps,<- HS.out]
   clear hv hps ec0
   go_wp2
   go_roundw
   case rel => exact ⟨k + 1,s + ps.length,by omega,HS2,HBw,by go_num,by go_num⟩
   case measure => simp [intOf]; omega
  ·obtain rfl : n = k:=by omega
   go_wp2_with fail
   refine (jF3 s _ (by omega)).mono ?_
   rintro e w2 ⟨V2,rfl,R2,b2⟩
   have hbo:=HBw.out.size
   have R2m:=R2.mono hbo
   have HB2 : Hid (Below w.heap.size w w2):=HBw.out.trans (b2.mono hbo)
   obtain ⟨Ar,cr,rfl⟩:=R2.slice
   clear R2 b2
   go_wp2
   go_loopw [6,27] (fun v6 v27 wr => ∃ k : Nat,k <= n /\ zF2 60 wr w.heap.size v6 (pss.take k).flatten /\ Hid (zG3 .u64 4294967296 wr (pss.take k).flatten) /\ Hid (Below w.heap.size w wr) /\ v27 = .int .i64 (k : Int)) (fun _ v27 _ => n - (intOf v27).toNat)
   case atStart =>
    have HN0 : Hid (zG3 .u64 4294967296 w2 (pss.take 0).flatten):=by show zG3 _ _ _ _; simp; exact zG3.nil
    exact ⟨0,by omega,by simpa using R2m,HN0,HB2,rfl⟩
   case round =>
    clear R2m HB2
    obtain ⟨k,hk,R,HNP,HBr,rfl⟩:=hrel
    obtain ⟨wi,hwi⟩ : ∃ wi,wi = wr:=⟨_,rfl⟩
    subst hwi
    obtain ⟨A6,c6,rfl⟩:=R.slice
    obtain ⟨m6,hm6⟩ : ∃ m6,m6 = ((pss.take k).flatten).length:=⟨_,rfl⟩
    rw [<- hm6] at R |-
    have HM6:=Lib.hid hm6
    have hm6b : m6 <= 10000:=by have h1:=HB.out k; have h3:=HN.out; have : k * 1000 <= 10 * 1000:=Nat.mul_le_mul_right _ (by omega); omega
    clear hm6
    by_cases hlt : k < n
    ·obtain ⟨v,hv⟩ : ∃ v,vs[k]? = some v:=⟨_,zA3 (by have:=HN.out.1; omega)⟩
     obtain ⟨ps,hps⟩ : ∃ ps,pss[k]? = some ps:=⟨_,zA3 (by have:=HN.out.2.1; omega)⟩
     obtain ⟨ad,rfl,ec0⟩:=HC.out k v hv
     have ec:=(HBr.out.cell (World.block_lt_of_cell? w _ ec0)).trans ec0
     obtain ⟨sp0,np0⟩:=HP.out k v ps hv hps
     have sp:=sp0.below HBr.out
     have np:=np0.below HBr.out
     obtain ⟨Av,cv,rfl,hcv,hcm,-⟩:=id sp
     have hlen : ((pss.take k).flatten).length + ps.length <= 1000000000:=by have h1:=HB.out (k + 1); rw [zY hps] at h1; have h3:=HN.out; have : (k + 1) * 1000 <= 11 * 1000:=Nat.mul_le_mul_right _ (by omega); omega
     have hbase:=HBr.out.size
     have HF : Hid ((pss.take (k + 1)).flatten = (pss.take k).flatten ++ ps):=qS8 hps
     have hall:=np.sl
     clear hv hps ec0 sp0 np0
     go_wp2_with (at_builtin; refine jF0 rfl (.tmp 31) (.tmp 32) rfl Tryz.underlying48 Go.Proofs.YtagaabooccnamaaGreat.whl.info_int rfl R rfl sp hall hlen hbase ?_; intro V3 w3 R3 G3 O3)
     have R4 : zF2 60 w3 w.heap.size V3 (pss.take (k + 1)).flatten:=by rw [HF.out]; exact R3
     have HNP3 : Hid (zG3 .u64 4294967296 w3 (pss.take (k + 1)).flatten):=by show zG3 _ _ _ _; rw [HF.out]; exact (R.keepN G3.out HNP.out).append (R.keepN G3.out np)
     have HB3 : Hid (Below w.heap.size w w3):=HBr.out.trans (R.bel G3.out hbase)
     clear R3 R sp np HNP HBr G3 O3 ec
     go_wp2
     go_roundw
     case rel => exact ⟨k + 1,by omega,R4,HNP3,HB3,by go_num⟩
     case measure => simp [intOf]; omega
    ·obtain rfl : k = n:=by omega
     have HT : Hid (pss.take k = pss):=zA7 (by have:=HN.out.2.1; omega)
     go_wp2
     go_ret
     exact ⟨_,rfl,by have:=R; rwa [HT.out] at this,by have:=HNP.out; rwa [HT.out] at this,HBr.out⟩
theorem zD2.mono {e : TypeId} {w : World} {base base' : Nat} {v : Value} {ps : List Elt} (h : zD2 e w base v ps) (hb : base' <= base) : zD2 e w base' v ps:=by
 refine ⟨h.1,?_⟩
 rcases h.2 with h1 | ⟨g,cap,cur,h1,h2,h3⟩
 ·exact .inl h1
 ·exact .inr ⟨g,cap,cur,h1,zB4 hb h2,h3⟩
theorem zD2.slice {e : TypeId} {w : World} {base : Nat} {v : Value} {ps : List Elt} (h : zD2 e w base v ps) : ∃ A c,v = .slice A ps.length c:=by
 rcases h.2 with ⟨e1,h0⟩ | ⟨g,cap,cur,e1,_⟩
 ·exact ⟨none,0,by rw [e1,h0]⟩
 ·exact ⟨_,_,e1⟩
theorem yJ3 (n : Nat) : (Builtin.zeroCells (Value.agg #[.bool false,.slice none 0 0,.slice none 0 0]).cells n).size = n * 3:=by
 unfold Builtin.zeroCells
 rw [show (Value.agg #[.bool false,.slice none 0 0,.slice none 0 0]).cells = #[.bool false,.slice none 0 0,.slice none 0 0] from rfl]
 simp
section
variable {P : Program}
theorem jF5 {w : World} {ops : Array Oper} {rest : List Oper} {o : Oper} {a : Act} {Q : Exit -> Act -> World -> Prop} (hgd : o.guard = none) (s x : Operand) {t : TypeId}
  (ho : o.op = .call { callee:=.builtin .append,args:=#[s,x],argTypes:=#[t,t] })
  {base : Nat} {T : TypeId} (hT : P.underlying t = some (.slice T)) (hI : ∃ i,P.info? T = some i /\ i.zero = some (.agg #[.bool false,.slice none 0 0,.slice none 0 0]) /\ i.size = 3 /\ i.bytes = 56) {v u : Value} {ps qs : List Elt} (hs : a.eval s = v) (hown : zD2 T w base v ps) (hx : a.eval x = u) (hu : zM2 w u qs) (hone : ∀ p ∈ qs,p.2.1.oneCell' = true /\ p.2.2.oneCell' = true) (hlen : ps.length <= 1000000000) (hlen2 : qs.length <= 1000000000) (hbase : base <= w.heap.size)
  (h : ∀ v' w',zD2 T w' base v' (ps ++ qs) -> Below base w w' -> Hid (zI5 w w' v v') -> wpList P ops Q rest (a.put o.dst v') w') : wpList P ops Q (o :: rest) a w :=
 wpList_plain hgd fun _ hK => by
  obtain ⟨v',w',hrun,g2,g3⟩:=jA0 (P:=P) (ty:=o.type) hT hI hown hu hone hlen hlen2 hbase
  unfold Oper.wp execOp
  simp only [ho,resolve,invoke,builtin,Sem.run_bind,Sem.run_pure,Result.andThen_ok,List.map_toArray,List.map_cons,List.map_nil,hs,hx,hrun]
  exact hK _ _ (h v' w' g2 ((Below.refl base w).grown g3.2.1 hbase hown.base_le) g3)
theorem jF6 {w : World} {t tn ty e : TypeId} {kn : IntKind} (hT : P.underlying t = some (.slice e)) (htn : P.underlying tn = some (.int kn)) (hI : ∃ i,P.info? e = some i /\ i.zero = some (.agg #[.bool false,.slice none 0 0,.slice none 0 0]) /\ i.size = 3 /\ i.bytes = 56) {k : Nat} (h0 : 0 < k) (hk : k <= 1000000) :
  ∃ cap w',(Builtin.append_ #[t,tn] ty #[.slice none 0 0,.int .i64 (k : Int)]).run P w = .ok (.slice (some ⟨w.heap.size,0,none⟩) k cap) w' /\ k <= cap /\ zD2 e w' w.heap.size (.slice (some ⟨w.heap.size,0,none⟩) 0 cap) [] /\ Below w.heap.size w w':=by
 obtain ⟨i,hi,hz,hs,hb⟩:=hI
 have h:=Go.Lib.run_append_grow_zeros (P:=P) w t tn ty e i (.agg #[.bool false,.slice none 0 0,.slice none 0 0]) .i64 kn hT htn hi hz none 0 0 [] (by exact run_firstCells_none w.drew i.size 0 0 0) k h0 (by omega) (by omega) (by omega) (by rw [hb]; omega) (growslice_fits (by omega) (by rw [hb]; omega))
 obtain ⟨C,hC⟩ : ∃ C,C = grownCap w (0 + k) 0 e:=⟨_,rfl⟩
 have hC1 : k <= C:=by rw [hC]; have:=grownCap_ge w (0 + k) 0 e; omega
 have hC2 : C <= maxLen:=by rw [hC]; exact grownCap_le_maxLen w (0 + k) 0 e (by unfold maxLen; omega)
 rw [<- hC,Nat.zero_add] at h
 refine ⟨C,_,h,hC1,⟨rfl,.inr ⟨w.heap.size,C,_,rfl,zB3 _,heap_alloc_new w.drew _,Nat.zero_le _,hC2,?_,by simp [zE6]⟩⟩,((Below.refl w.heap.size w).drew).trans (zC8 (w:=w.drew) (zB3 _) _)⟩
 rw [Array.size_append,Array.size_append,yJ3,yJ3]
 simp
 omega
theorem jF7 {w : World} {ops : Array Oper} {rest : List Oper} {o : Oper} {a : Act} {Q : Exit -> Act -> World -> Prop} (hgd : o.guard = none) (s x : Operand) {t tn : TypeId} {kn : IntKind}
  (ho : o.op = .call { callee:=.builtin .append,args:=#[s,x],argTypes:=#[t,tn] })
  {e : TypeId} (hT : P.underlying t = some (.slice e)) (htn : P.underlying tn = some (.int kn)) (hI : ∃ i,P.info? e = some i /\ i.zero = some (.agg #[.bool false,.slice none 0 0,.slice none 0 0]) /\ i.size = 3 /\ i.bytes = 56) {k : Nat} (hs : a.eval s = .slice none 0 0) (hx : a.eval x = .int .i64 (k : Int)) (h0 : 0 < k) (hk : k <= 1000000)
  (h : ∀ cap w',k <= cap -> zD2 e w' w.heap.size (.slice (some ⟨w.heap.size,0,none⟩) 0 cap) [] -> Below w.heap.size w w' -> wpList P ops Q rest (a.put o.dst (.slice (some ⟨w.heap.size,0,none⟩) k cap)) w') : wpList P ops Q (o :: rest) a w :=
 wpList_plain hgd fun _ hK => by
  obtain ⟨cap,w',hrun,h2,h3,h4⟩:=jF6 (P:=P) (w:=w) (ty:=o.type) hT htn hI h0 hk
  unfold Oper.wp execOp
  simp only [ho,resolve,invoke,builtin,Sem.run_bind,Sem.run_pure,Result.andThen_ok,List.map_toArray,List.map_cons,List.map_nil,hs,hx,hrun]
  exact hK _ _ (h cap w' h2 h3 h4)
end
theorem jF8 (n : Nat) (w : World) (hn : n <= 1000000) : Calls Tryz.prog 119 #[.slice none 0 0,.int .i64 (n : Int)] w (fun e w' => ∃ V,e = .returned V /\ zD2 83 w' w.heap.size V [] /\ Below w.heap.size w w'):=by
 by_cases h0 : 0 < n
 ·go_enter Tryz.func119,Tryz.ntmps119
  go_wp2_with (at_builtin; refine jF7 rfl (.tmp 20) (.tmp 21) rfl Tryz.underlying44 Tryz.underlying3 zU8 (k:=n) rfl (by first | rfl | simp) h0 hn ?_; intro cap w2 hcap R2 b2)
  go_wp2
  go_ret
  exact ⟨_,rfl,R2,b2⟩
 ·obtain rfl : n = 0:=by omega
  go_enter Tryz.func119,Tryz.ntmps119
  go_wp2
  go_ret
  exact ⟨_,rfl,yB3 _ _ _,Below.refl _ _⟩
theorem IsE.one {k : IntKind} {B : Nat} {w : World} {p : Elt} (h : IsE k B w p) : p.2.1.oneCell' = true /\ p.2.2.oneCell' = true:=by
 obtain ⟨⟨A,c,e,_⟩,B',d,e',_⟩:=h
 rw [e,e']
 exact ⟨rfl,rfl⟩
theorem jF9 (V : Value) (vs : List Value) (pss : List (List Elt)) (w : World) (hV : IsV w V vs) (hl : vs.length = pss.length) (hp : ∀ (i : Nat) (v : Value) (ps : List Elt),vs[i]? = some v -> pss[i]? = some ps -> zM2 w v ps /\ ∀ p ∈ ps,p.2.1.oneCell' = true /\ p.2.2.oneCell' = true) (hn : pss.length <= 10) (hs : ∀ ps ∈ pss,ps.length <= 1000) :
  Calls Tryz.prog 76 #[V] w (fun e w' => ∃ V',e = .returned V' /\ zD2 83 w' w.heap.size V' pss.flatten /\ Below w.heap.size w w'):=by
 obtain ⟨A,c,rfl,hc,hcells⟩:=hV
 have HC:=Lib.hid hcells
 have HP:=Lib.hid hp
 have HL:=Lib.hid hl
 obtain ⟨n,hnv⟩ : ∃ n,n = vs.length:=⟨_,rfl⟩
 rw [<- hnv] at hl hc |-
 have HN : Hid (n = vs.length /\ n = pss.length /\ n <= 10):=⟨hnv,by omega,by omega⟩
 have HB:=Lib.hid (yJ2 hs)
 have hn10 : n <= 10:=HN.out.2.2
 clear hcells hp hs hnv hl hn
 go_enter Tryz.func76,Tryz.ntmps76
 go_wp2
 go_loopw [3,11] (fun v3 v11 wr => ∃ k s : Nat,k <= n /\ Hid (s = ((pss.take k).flatten).length) /\ Hid (Below w.heap.size w wr) /\ v3 = .int .i64 (s : Int) /\ v11 = .int .i64 (k : Int)) (fun _ v11 _ => n - (intOf v11).toNat)
 case atStart =>
  have H0 : Hid (0 = ((pss.take 0).flatten).length):=by show _ = _; simp
  exact ⟨0,0,by omega,H0,Below.refl _ _,rfl,rfl⟩
 case round =>
  obtain ⟨k,s,hk,HS,HBw,rfl,rfl⟩:=hrel
  obtain ⟨wo,hwo⟩ : ∃ wo,wo = wr:=⟨_,rfl⟩
  subst hwo
  have hsb : s <= 10000:=by have h1:=HB.out k; have h2:=HS.out; have h3:=HN.out; have : k * 1000 <= 10 * 1000:=Nat.mul_le_mul_right _ (by omega); omega
  by_cases hlt : k < n
  ·obtain ⟨v,hv⟩ : ∃ v,vs[k]? = some v:=⟨_,zA3 (by have:=HN.out.1; omega)⟩
   obtain ⟨ps,hps⟩ : ∃ ps,pss[k]? = some ps:=⟨_,zA3 (by have:=HN.out.2.1; omega)⟩
   obtain ⟨ad,rfl,ec0⟩:=HC.out k v hv
   have ec:=(HBw.out.cell (World.block_lt_of_cell? w _ ec0)).trans ec0
   obtain ⟨Av,cv,rfl,hcv,hcm,-⟩:=(HP.out k v ps hv hps).1
   have hpl : ps.length <= 11000:=by have h1:=HB.out (k + 1); rw [zY hps] at h1; have h3:=HN.out; have : (k + 1) * 1000 <= 11 * 1000:=Nat.mul_le_mul_right _ (by omega); omega
   have HS2 : Hid (s + ps.length = ((pss.take (k + 1)).flatten).length):=by show _ = _; rw [zY hps,<- HS.out]
   clear hv hps ec0
   go_wp2
   go_roundw
   case rel => exact ⟨k + 1,s + ps.length,by omega,HS2,HBw,by go_num,by go_num⟩
   case measure => simp [intOf]; omega
  ·obtain rfl : n = k:=by omega
   go_wp2_with fail
   refine (jF8 s _ (by omega)).mono ?_
   rintro e w2 ⟨V2,rfl,R2,b2⟩
   have hbo:=HBw.out.size
   have R2m:=R2.mono hbo
   have HB2 : Hid (Below w.heap.size w w2):=HBw.out.trans (b2.mono hbo)
   obtain ⟨Ar,cr,rfl⟩:=R2.slice
   clear R2 b2
   go_wp2
   go_loopw [6,27] (fun v6 v27 wr => ∃ k : Nat,k <= n /\ zD2 83 wr w.heap.size v6 (pss.take k).flatten /\ Hid (Below w.heap.size w wr) /\ v27 = .int .i64 (k : Int)) (fun _ v27 _ => n - (intOf v27).toNat)
   case atStart => exact ⟨0,by omega,by simpa using R2m,HB2,rfl⟩
   case round =>
    clear R2m HB2
    obtain ⟨k,hk,R,HBr,rfl⟩:=hrel
    obtain ⟨wi,hwi⟩ : ∃ wi,wi = wr:=⟨_,rfl⟩
    subst hwi
    obtain ⟨A6,c6,rfl⟩:=R.slice
    obtain ⟨m6,hm6⟩ : ∃ m6,m6 = ((pss.take k).flatten).length:=⟨_,rfl⟩
    rw [<- hm6] at R |-
    have HM6:=Lib.hid hm6
    have hm6b : ((pss.take k).flatten).length <= 1000000000:=by have h1:=HB.out k; have h3:=HN.out; have : k * 1000 <= 10 * 1000:=Nat.mul_le_mul_right _ (by omega); omega
    clear hm6
    by_cases hlt : k < n
    ·obtain ⟨v,hv⟩ : ∃ v,vs[k]? = some v:=⟨_,zA3 (by have:=HN.out.1; omega)⟩
     obtain ⟨ps,hps⟩ : ∃ ps,pss[k]? = some ps:=⟨_,zA3 (by have:=HN.out.2.1; omega)⟩
     obtain ⟨ad,rfl,ec0⟩:=HC.out k v hv
     have ec:=(HBr.out.cell (World.block_lt_of_cell? w _ ec0)).trans ec0
     obtain ⟨sp0,hone⟩:=HP.out k v ps hv hps
     have sp:=sp0.below HBr.out
     obtain ⟨Av,cv,rfl,hcv,hcm,-⟩:=id sp
     have hlen : ps.length <= 1000000000:=by have h1:=HB.out (k + 1); rw [zY hps] at h1; have h3:=HN.out; have : (k + 1) * 1000 <= 11 * 1000:=Nat.mul_le_mul_right _ (by omega); omega
     have hbase:=HBr.out.size
     have HF : Hid ((pss.take (k + 1)).flatten = (pss.take k).flatten ++ ps):=qS8 hps
     clear hv hps ec0 sp0
     go_wp2_with (at_builtin; refine jF5 rfl (.tmp 31) (.tmp 32) rfl Tryz.underlying44 zU8 rfl R rfl sp hone hm6b hlen hbase ?_; intro V3 w3 R3 b3 G3)
     have R4 : zD2 83 w3 w.heap.size V3 (pss.take (k + 1)).flatten:=by rw [HF.out]; exact R3
     have HB3 : Hid (Below w.heap.size w w3):=HBr.out.trans b3
     clear R3 R sp HBr G3 b3 ec
     go_wp2
     go_roundw
     case rel => exact ⟨k + 1,by omega,R4,HB3,by go_num⟩
     case measure => simp [intOf]; omega
    ·obtain rfl : k = n:=by omega
     have HT : Hid (pss.take k = pss):=zA7 (by have:=HN.out.2.1; omega)
     go_wp2
     go_ret
     exact ⟨_,rfl,by have:=R; rwa [HT.out] at this,HBr.out⟩
theorem yJ4 (V x y : Value) (ps qs : List Rat) (w : World) (hV : IsV w V [x,y]) (h0 : SlF .u64 4294967296 w x ps) (h1 : SlF .u64 4294967296 w y qs) (l0 : ps.length <= 1000) (l1 : qs.length <= 1000) :
  Calls Tryz.prog 76 #[V] w (fun e w' => ∃ V',e = .returned V' /\ SlF .u64 4294967296 w' V' (ps ++ qs) /\ Below w.heap.size w w'):=by
 obtain ⟨pa,hpa,va,ea⟩:=h0
 obtain ⟨pb,hpb,vb,eb⟩:=h1
 have la : pa.length = ps.length:=by rw [<- hpa,zA9]
 have lb : pb.length = qs.length:=by rw [<- hpb,zA9]
 refine (jF9 V [x,y] [pa,pb] w hV rfl (fun i v p hv hp => by
  rcases i with _ | _ | i
  ·obtain rfl : x = v:=by simpa using hv
   obtain rfl : pa = p:=by simpa using hp
   exact ⟨va,fun p hp => (ea p hp).one⟩
  ·obtain rfl : y = v:=by simpa using hv
   obtain rfl : pb = p:=by simpa using hp
   exact ⟨vb,fun p hp => (eb p hp).one⟩
  ·simp at hv) (by simp) (fun p hp => by simp at hp; rcases hp with rfl | rfl <;> omega)).mono ?_
 rintro e w' ⟨V',rfl,R,b⟩
 refine ⟨V',rfl,⟨[pa,pb].flatten,by simp [hpa,hpb],R.isVF,fun p hp => ?_⟩,b⟩
 simp at hp
 rcases hp with hp | hp
 ·exact (ea p hp).below b
 ·exact (eb p hp).below b
theorem col_row (n C c j : Nat) (hn : n <= C) (hj : j < C) : RowFn n C (fun M => zC6 n (zG2 M c (fun r => M r j))):=by
 have hd:=zR3 n
 refine ⟨fun M M' h => hd.congr _ _ fun i l hi hl => ?_,fun M a t ha => ?_,fun M a b t ha hb hab => ?_⟩
 ·unfold zG2
  by_cases e : l = c
  ·rw [if_pos e,if_pos e]; exact h i j hi hj
  ·rw [if_neg e,if_neg e]; exact h i l hi (by omega)
 ·rw [<- hd.scale _ a t ha]
  refine hd.congr _ _ fun i l hi hl => ?_
  unfold zG2 zF6
  by_cases e : l = c
  ·simp only [if_pos e]
  ·simp only [if_neg e]
 ·rw [<- hd.add (zG2 M c (fun r => M r j)) a b t ha hb hab]
  refine hd.congr _ _ fun i l hi hl => ?_
  unfold zG2 zK8
  by_cases e : l = c
  ·simp only [if_pos e]
  ·simp only [if_neg e]
theorem qL7 (neg : Bool) (x : Int) : ((sgn neg x : Int) : Rat) = (if neg = true then -1 else 1) * (x : Rat):=by
 unfold sgn
 cases neg
 ·simp
 ·simp [Rat.intCast_neg]; grind
theorem jG {n C : Nat} {T0 T : List (List Int)} {a : Nat -> Nat -> Int} {d : Int} {neg : Bool} (hB : BrT n C n a T d) (hP : Prm n C (zC4 T0) a (if neg = true then -1 else 1)) :
  ((sgn neg d : Int) : Rat) = zC6 n (qF (zC4 T0)) /\ (∀ i j,i < n -> n + j < C -> zC0 n (fun c => (zC4 T0 i c : Rat) * ((sgn neg (zC4 T c j) : Int) : Rat)) = ((sgn neg d : Int) : Rat) * (zC4 T0 i (n + j) : Rat)) /\ ∀ c j,c < n -> n + j < C -> ((sgn neg (zC4 T c j) : Int) : Rat) = zC6 n (zG2 (qF (zC4 T0)) c (fun r => qF (zC4 T0) r (n + j))):=by
 have hn:=hB.wide
 refine ⟨?_,fun i j hi hj => ?_,fun c j hc hj => ?_⟩
 ·rw [hP.fn _ ((zR3 n).wide hn),BrQ.det hB,qL7]
 ·have h1:=hP.all (fun row => (d : Rat) * (row (n + j) : Rat) = zC0 n (fun c => (row c : Rat) * (zC4 T c j : Rat))) (fun i hi => by
   have h:=BrQ.rel hB i (n + j) hi (by omega) hj
   rw [if_neg (by omega)] at h
   rw [h]
   have e : zC0 n (fun c => (a i c : Rat) * ((zC4 T c (n + j - n) : Int) : Rat)) = zC0 n (fun c => (a i c : Rat) * (zC4 T c j : Rat)):=zG0 fun c _ => by rw [Nat.add_sub_cancel_left]
   rw [<- e]
   grind) i hi
  rw [qL7 neg d,zG0 (g:=fun c => (if neg = true then (-1 : Rat) else 1) * ((zC4 T0 i c : Rat) * (zC4 T c j : Rat))) (fun c _ => by rw [qL7]; grind),zK6,<- h1]
  grind
 ·have h1:=hP.fn _ (col_row n C c (n + j) hn hj)
  have h2:=BrQ.cramer hB hc (j:=n + j) (by omega) hj
  rw [qL7]
  have h3 : zC6 n (zG2 (qF a) c (fun r => qF a r (n + j))) = (zC4 T c j : Rat):=by
   rw [h2,Nat.add_sub_cancel_left]
  rw [h1,h3]
def qB1 : Nat -> (Nat -> Int) -> Int
 | 0,_ => 0
 | n + 1,f => qB1 n f + f n
theorem yJ5 : ∀ (n : Nat) (f : Nat -> Int),((qB1 n f : Int) : Rat) = zC0 n (fun i => (f i : Rat))
  | 0,f => rfl
  | n + 1, f => by
    show ((qB1 n f + f n : Int) : Rat) = zC0 n _ + (f n : Rat)
    rw [Rat.intCast_add,yJ5 n f]
theorem yJ6 {L : Nat} {f : Nat -> Int} : ∀ j : Nat,(∀ c,c < j -> zC1 (f c) <= L) -> zC1 (qB1 j f) <= L + j
  | 0,_ => by show zC1 0 <= _; rw [qZ1]; omega
  | j + 1, h => by
    have h1:=yJ6 j (fun c hc => h c (by omega))
    have h2:=h j (by omega)
    exact yT7 (m:=L + j) h1 (by omega)
def sgI (j : Nat) : Int:=if j % 2 = 0 then 1 else -1
theorem jG0 (j : Nat) : ((sgI j : Int) : Rat) = sgN j:=by
 unfold sgI sgN
 split
 ·rfl
 ·rfl
theorem jG1 {x : Int} {m : Nat} (j : Nat) (h : zC1 x <= m) : zC1 (sgI j * x) <= m:=by
 unfold sgI
 split
 ·rw [Int.one_mul]; exact h
 ·rw [show (-1 : Int) * x = -x by omega]; exact yB0 h
def minJ (M : Nat -> Nat -> Int) (j : Nat) : Nat -> Nat -> Int:=fun i c => M (i + 1) (zG6 j c)
def detI : Nat -> (Nat -> Nat -> Int) -> Int
 | 0,_ => 1
 | n + 1,M => qB1 (n + 1) (fun j => sgI j * M 0 j * detI n (minJ M j))
theorem qS9 : ∀ (n : Nat) (M : Nat -> Nat -> Int),((detI n M : Int) : Rat) = zC6 n (qF M)
  | 0,M => rfl
  | n + 1, M => by
    show ((qB1 (n + 1) _ : Int) : Rat) = zC0 (n + 1) _
    rw [yJ5]
    refine zG0 fun j hj => ?_
    rw [Rat.intCast_mul,Rat.intCast_mul,jG0,qS9 n (minJ M j)]
    rfl
def dZ (S : Nat) : Nat -> Nat
 | 0 => 1
 | n + 1 => S + dZ S n + (n + 1)
theorem qT {S : Nat} : ∀ (n : Nat) {M : Nat -> Nat -> Int},(∀ i j,i < n -> j < n -> zC1 (M i j) <= S) -> zC1 (detI n M) <= dZ S n
  | 0,_,_ => yI0
  | n + 1, M, h => by
    refine yJ6 (n + 1) (fun c hc => ?_)
    rw [Int.mul_assoc]
    exact jG1 c (zO1 (h 0 c (by omega) hc) (qT n (fun i j hi hj => h _ _ (by omega) (zX4 hj))))
/-! What is left without the first row and one place. -/
theorem qT0 {T : List (List Int)} {n C i j : Nat} (h : shI T n C) (hi : i < n) (hj : j < C) : ∃ r,T[i]? = some r /\ r.length = C /\ r[j]? = some (zC4 T i j):=by
 obtain ⟨r,hr,hl⟩:=zT6 h hi
 refine ⟨r,hr,hl,?_⟩
 rw [zJ0 hr,zA6,zA3 (by omega)]; rfl
/-! A table times another one. -/
/-! A place put in another's stead. -/
def zN1 (A B : List (List Int)) : List (List Int):=List.zipWith (fun p q => p ++ q) A B
def okS (A B : List (List Int)) : Prop:=zV6 A /\ qB B /\ A.length = B.length
theorem qT1 {A B : List (List Int)} (h : A.length = B.length) : (zN1 A B).length = A.length:=by unfold zN1; rw [List.length_zipWith]; omega
theorem qL8 {A B : List (List Int)} {i : Nat} {p q : List Int} (ha : A[i]? = some p) (hb : B[i]? = some q) : (zN1 A B)[i]? = some (p ++ q):=by
 unfold zN1
 rw [List.getElem?_zipWith,ha,hb]
theorem yJ7 {A B : List (List Int)} {r : List Int} (h : A.length = B.length) (hr : r ∈ zN1 A B) : ∃ p q,p ∈ A /\ q ∈ B /\ r = p ++ q:=by
 obtain ⟨i,hi⟩:=List.mem_iff_getElem?.1 hr
 have hl:=(zA4.1 hi).1
 rw [qT1 h] at hl
 have e1 : A[i]? = some A[i]:=zA3 hl
 have e2 : B[i]? = some (B[i]'(by omega)):=zA3 _
 rw [qL8 e1 e2] at hi
 injection hi with hi
 exact ⟨_,_,zA5 e1,zA5 e2,hi.symm⟩
theorem besI_sh {A B : List (List Int)} (h : okS A B) : shI (zN1 A B) A.length (A.length + zG B):=by
 refine ⟨qT1 h.2.2,fun r hr => ?_⟩
 obtain ⟨p,q,hp,hq,rfl⟩:=yJ7 h.2.2 hr
 rw [zA8,h.1.2 p hp,(h.2.1.2 q hq).1]
theorem qT2 {A B : List (List Int)} (h : okS A B) {i j : Nat} (hi : i < A.length) (hj : j < A.length) : zC4 (zN1 A B) i j = zC4 A i j:=by
 have e1 : A[i]? = some A[i]:=zA3 hi
 have e2 : B[i]? = some (B[i]'(by rw [<- h.2.2]; exact hi)):=zA3 _
 have hl:=h.1.2 _ (zA5 e1)
 rw [zJ0 (qL8 e1 e2),zJ0 e1,zA6,zA6,zB0 (by omega)]
theorem yJ8 {A B : List (List Int)} (h : okS A B) {i j : Nat} (hi : i < A.length) : zC4 (zN1 A B) i (A.length + j) = zC4 B i j:=by
 have e1 : A[i]? = some A[i]:=zA3 hi
 have e2 : B[i]? = some (B[i]'(by rw [<- h.2.2]; exact hi)):=zA3 _
 have hl:=h.1.2 _ (zA5 e1)
 rw [zJ0 (qL8 e1 e2),zJ0 e2,zA6,zA6,List.getElem?_append_right (by omega),hl,Nat.add_sub_cancel_left]
theorem jG2 {A B : List (List Int)} {S : Nat} (h : A.length = B.length) (ha : zH6 A S) (hb : zH6 B S) : zH6 (zN1 A B) S:=by
 intro r hr z hz
 obtain ⟨p,q,hp,hq,rfl⟩:=yJ7 h hr
 rcases List.mem_append.1 hz with hz | hz
 ·exact ha p hp z hz
 ·exact hb q hq z hz
theorem sgn_ne {b : Bool} {x : Int} (h : x ≠ 0) : sgn b x ≠ 0:=by
 unfold sgn
 split <;> omega
theorem yJ9 (b : Bool) : sgn b 0 = 0:=by
 unfold sgn
 split <;> omega
def sgR (neg : Bool) (r : List Int) : List Int:=r.map (sgn neg)
def sgT (neg : Bool) (T : List (List Int)) : List (List Int):=T.map (sgR neg)
theorem yK (neg : Bool) (T : List (List Int)) : (sgT neg T).length = T.length:=by unfold sgT; rw [zA9]
theorem yK0 {neg : Bool} {T : List (List Int)} {i : Nat} {r : List Int} (h : T[i]? = some r) : (sgT neg T)[i]? = some (sgR neg r):=by unfold sgT; rw [zB1,h]; rfl
theorem sgR_at {neg : Bool} {r : List Int} {j : Nat} {z : Int} (h : r[j]? = some z) : (sgR neg r)[j]? = some (sgn neg z):=by unfold sgR; rw [zB1,h]; rfl
theorem yK1 (neg : Bool) (r : List Int) : (sgR neg r).length = r.length:=by unfold sgR; rw [zA9]
theorem yK2 (neg : Bool) (T : List (List Int)) (i j : Nat) : zC4 (sgT neg T) i j = sgn neg (zC4 T i j):=by
  cases hr : T[i]? with
  | none =>
    have h1 : (sgT neg T)[i]? = none:=by unfold sgT; rw [zB1,hr]; rfl
    unfold zC4
    rw [zA6 (l:=sgT neg T),h1,zA6 (l:=T),hr]
    show ([] : List Int).getD j 0 = sgn neg (([] : List Int).getD j 0)
    rw [show ([] : List Int).getD j 0 = 0 by simp,yJ9]
  | some r =>
    rw [zJ0 (yK0 hr),zJ0 hr,zA6,zA6]
    unfold sgR
    rw [zB1]
    cases hz : r[j]? with
    | none => show (0 : Int) = sgn neg 0; rw [yJ9]
    | some z => rfl
theorem sgT_sh {neg : Bool} {T : List (List Int)} {n L : Nat} (h : shI T n L) : shI (sgT neg T) n L:=by
 refine ⟨by rw [yK,h.1],fun r hr => ?_⟩
 unfold sgT at hr
 obtain ⟨x,hx,rfl⟩:=List.mem_map.1 hr
 rw [yK1]; exact h.2 x hx
theorem jG3 {neg : Bool} {T : List (List Int)} {S : Nat} (h : zH6 T S) : zH6 (sgT neg T) S:=by
 intro r hr z hz
 unfold sgT at hr
 obtain ⟨x,hx,rfl⟩:=List.mem_map.1 hr
 unfold sgR at hz
 obtain ⟨y,hy,rfl⟩:=List.mem_map.1 hz
 exact yI3 (h x hx y hy)
structure SolvedI (A B X : List (List Int)) (d : Int) : Prop where
 sh : shI X A.length (zG B)
 len : zH6 X 5000
 dl : zC1 d <= 5000
 ne : d ≠ 0
 det : (d : Rat) = zC6 A.length (qF (zC4 A))
 sol : ∀ i j,i < A.length -> j < zG B -> zC0 A.length (fun c => (zC4 A i c : Rat) * (zC4 X c j : Rat)) = (d : Rat) * (zC4 B i j : Rat)
 cra : ∀ c j,c < A.length -> j < zG B -> (zC4 X c j : Rat) = zC6 A.length (zG2 (qF (zC4 A)) c (fun r => qF (zC4 B) r j))
theorem yK3 {A B : List (List Int)} (h : okS A B) : zC6 A.length (qF (zC4 (zN1 A B))) = zC6 A.length (qF (zC4 A)):=zK1 _ fun i j hi hj => by
 show ((zC4 (zN1 A B) i j : Int) : Rat) = ((zC4 A i j : Int) : Rat)
 rw [qT2 h hi hj]
theorem jG4 {A B T : List (List Int)} {a : Nat -> Nat -> Int} {d : Int} {neg : Bool} (h : okS A B) (hB : BrT A.length (A.length + zG B) A.length a T d) (hP : Prm A.length (A.length + zG B) (zC4 (zN1 A B)) a (if neg = true then -1 else 1)) (hs : shI T A.length (zG B)) (hl : zH6 T 5000) (hd : zC1 d <= 5000) : SolvedI A B (sgT neg T) (sgn neg d):=by
 obtain ⟨h1,h2,h3⟩:=jG hB hP
 refine ⟨sgT_sh hs,jG3 hl,yI3 hd,sgn_ne hB.ne,h1.trans (yK3 h),fun i j hi hj => ?_,fun c j hc hj => ?_⟩
 ·have h4:=h2 i j hi (by omega)
  rw [yJ8 h hi] at h4
  rw [<- h4]
  exact zG0 fun c hc => by rw [qT2 h hi hc,yK2]
 ·rw [yK2,h3 c j hc (by omega)]
  refine zK1 _ fun i l hi hl => ?_
  unfold zG2
  by_cases e : l = c
  ·rw [if_pos e,if_pos e]
   show ((zC4 (zN1 A B) i (A.length + j) : Int) : Rat) = ((zC4 B i j : Int) : Rat)
   rw [yJ8 h hi]
  ·rw [if_neg e,if_neg e]
   show ((zC4 (zN1 A B) i l : Int) : Rat) = ((zC4 A i l : Int) : Rat)
   rw [qT2 h hi hl]
def RetSol (A B : List (List Int)) (w : World) (e : Ending) (w' : World) : Prop:=Below w.heap.size w w' /\ ((okS A B /\ ∃ V v d X,e = .returned (.tuple #[V,v,.int .i64 0]) /\ SlW .u64 4294967296 w' V X /\ IsZ w' v d /\ SolvedI A B X d) \/ (okS A B /\ zC6 A.length (qF (zC4 A)) = 0 /\ e = .returned (.tuple #[.slice none 0 0,.agg #[.bool false,.slice none 0 0],.int .i64 7])) \/ (¬ okS A B /\ e = .returned (.tuple #[.slice none 0 0,.agg #[.bool false,.slice none 0 0],.int .i64 8])))
def zM5 (r s : List Int) (j : Nat) : List Int:=s.take j ++ r.drop j
theorem jG5 (r s : List Int) : zM5 r s 0 = r:=by simp [zM5]
theorem jG6 {r s : List Int} (h : s.length = r.length) : zM5 r s r.length = s:=by
 unfold zM5
 rw [List.drop_eq_nil_of_le (zB3 _),List.append_nil,zA7 (by omega)]
theorem mixR_at {r s : List Int} {j : Nat} (h : s.length = r.length) (hj : j <= r.length) : (zM5 r s j)[j]? = r[j]?:=by
 unfold zM5
 have hl : (s.take j).length = j:=by rw [List.length_take]; omega
 rw [List.getElem?_append_right (by omega),hl,Nat.sub_self,List.getElem?_drop,Nat.add_zero]
theorem jG7 {r s : List Int} {j : Nat} {z : Int} (h : s.length = r.length) (hz : s[j]? = some z) : (zM5 r s j).set j z = zM5 r s (j + 1):=by
 have hj:=(zA4.1 hz).1
 unfold zM5
 have hl : (s.take j).length = j:=by rw [List.length_take]; omega
 rw [List.set_append_right _ _ (by omega),hl,Nat.sub_self,List.drop_eq_getElem_cons (show j < r.length by omega),zA2,List.take_add_one,hz]
 simp
theorem jG8 {α : Type} {T : List α} {i : Nat} {r : α} (h : T[i]? = some r) : T.set i r = T:=by
 refine List.ext_getElem? fun j => ?_
 by_cases e : i = j
 ·subst e
  rw [List.getElem?_set_self (zA4.1 h).1,h]
 ·rw [List.getElem?_set_ne e]
theorem zF2.bk {w : World} {base : Nat} {v : Value} {ps : List (Int × Value)} (h : zF2 60 w base v ps) {g : Nat} (hg : v.ownBlock = some g) : base <= g /\ zP1 w g:=by
 obtain ⟨cs,h1,_⟩:=h.2 g hg
 exact ⟨(h.under g hg).1,cs,h1⟩
theorem jG9 (V x y : Value) (pa pb : List (Int × Value)) (w : World) (hV : IsV w V [x,y]) (h0 : SlP w x pa) (n0 : zG3 .u64 4294967296 w pa) (h1 : SlP w y pb) (n1 : zG3 .u64 4294967296 w pb) (l0 : pa.length <= 1000) (l1 : pb.length <= 1000) :
  Calls Tryz.prog 72 #[V] w (fun e w' => ∃ V',e = .returned V' /\ zF2 60 w' w.heap.size V' (pa ++ pb) /\ zG3 .u64 4294967296 w' (pa ++ pb) /\ Below w.heap.size w w'):=by
 have h:=jF4 V [x,y] [pa,pb] w hV rfl (fun i v ps hv hp => by
  rcases i with _ | _ | i
  ·obtain rfl : x = v:=by simpa using hv
   obtain rfl : pa = ps:=by simpa using hp
   exact ⟨h0,n0⟩
  ·obtain rfl : y = v:=by simpa using hv
   obtain rfl : pb = ps:=by simpa using hp
   exact ⟨h1,n1⟩
  ·simp at hv) (by simp) (fun ps hps => by simp at hps; rcases hps with rfl | rfl; exact l0; exact l1)
 simpa using h
def zJ4 (A B : List (List Rat)) : List (List Int):=(zE4 A B).map fun r => (zI r).take A.length
def zJ7 (A B : List (List Rat)) : List (List Int):=(zE4 A B).map fun r => (zI r).drop A.length
theorem zD5.other {k : IntKind} {B : Nat} {w w' : World} {g g' : Nat} {TS : TypeId} {us us' : List Value} {T : List (List Int)} (h : zD5 k B w g TS us T) (h' : zF9 w g' TS us') (hne : g ≠ g') (hg : w.grownBy w' (some g')) : zD5 k B w' g TS us T :=
 ⟨h.1.grown hg (fun e => hne (by injection e with e; exact e.symm)),h.2.1,fun i u r hu hr => h'.keepZ hg (h.2.2 i u r hu hr)⟩
theorem zD5.blank {k : IntKind} {B : Nat} {w : World} {g n : Nat} {TS : TypeId} (h : zF9 w g TS (zB n (.slice none 0 0))) : zD5 k B w g TS (zB n (.slice none 0 0)) (zB n []):=by
 refine ⟨h,by rw [List.length_replicate,List.length_replicate],fun i u r hu hr => ?_⟩
 obtain rfl:=(List.mem_replicate.1 (zA5 hu)).2
 obtain rfl:=(List.mem_replicate.1 (zA5 hr)).2
 exact qA9 _ _ _ (Nat.zero_le _)
theorem yK4 {B : Nat} {w : World} {gL gR k : Nat} {TS : TypeId} {us vs : List Value} {T1 T2 : List (List Int)} {uL uR : Value} {rL rR : List Int} (TL : zD5 .u64 B w gL TS us T1) (TR : zD5 .u64 B w gR TS vs T2) (hne : gL ≠ gR) (sL : SlZ .u64 B w uL rL) (sR : SlZ .u64 B w uR rR) :
  zD5 .u64 B ((w.setCell ⟨gL,k,none⟩ uL).setCell ⟨gR,k,none⟩ uR) gL TS (us.set k uL) (T1.set k rL) /\ zD5 .u64 B ((w.setCell ⟨gL,k,none⟩ uL).setCell ⟨gR,k,none⟩ uR) gR TS (vs.set k uR) (T2.set k rR):=by
 have L1:=TL.stored k sL
 have R1:=TR.other TL.1 (fun e => hne e.symm) (zF0 w gL k uL)
 have sR1:=TL.1.keepZ (zF0 w gL k uL) sR
 exact ⟨L1.other R1.1 hne (zF0 _ gR k uR),R1.stored k sR1⟩
structure ClrIn (A B : List (List Rat)) (S : Nat) : Prop where
 ok : okq A B
 wide : A.length + zD3 B <= 100
 la : zI6 A S
 lb : zI6 B S
 small : S <= 100
theorem jH (a0 a1 : Value) (A B : List (List Rat)) (S : Nat) (w : World) (h0 : SlT .u64 4294967296 w a0 A) (h1 : SlT .u64 4294967296 w a1 B) (hc : Hid (ClrIn A B S)) :
    Calls Tryz.prog 36 #[a0,a1] w (fun e w' => ∃ V U,e = .returned (.tuple #[V,U]) /\ SlW .u64 4294967296 w' V (zJ4 A B) /\ SlW .u64 4294967296 w' U (zJ7 A B) /\ Below w.heap.size w w'):=by
  obtain ⟨n,hn⟩ : ∃ n,n = A.length:=⟨_,rfl⟩
  obtain ⟨m,hm⟩ : ∃ m,m = zD3 B:=⟨_,rfl⟩
  obtain ⟨A0,c0,rfl,hc0,hm0⟩:=h0.shape
  obtain ⟨A1,c1,rfl,hc1,hm1⟩:=h1.shape
  unfold maxLen at hm0 hm1
  have hnm : n + m <= 100:=by rw [hn,hm]; exact hc.out.wide
  have hSA : shp A n n:=by rw [hn]; exact hc.out.ok.sa
  have hSB : shp B n m:=by rw [hn,hm]; exact hc.out.ok.sb
  have HSA:=Lib.hid hSA
  have HSB:=Lib.hid hSB
  have HS0:=Lib.hid h0
  have HS1:=Lib.hid h1
  have hBl : B.length = n:=hSB.1
  have HNA:=Lib.hid hn
  have HM:=Lib.hid hm
  obtain ⟨M1,hM1⟩ : ∃ M1,M1 = zJ4 A B:=⟨_,rfl⟩
  obtain ⟨M2,hM2⟩ : ∃ M2,M2 = zJ7 A B:=⟨_,rfl⟩
  obtain ⟨T0,hT0⟩ : ∃ T0,T0 = zB n ([] : List Int):=⟨_,rfl⟩
  have hJ : (zE4 A B).length = n:=(zV2 hSA hSB).1
  have HML : Hid ((M1.length = T0.length /\ M2.length = T0.length) /\ T0.length = n):=⟨⟨by rw [hM1,hT0,List.length_replicate]; unfold zJ4; rw [zA9,hJ],by rw [hM2,hT0,List.length_replicate]; unfold zJ7; rw [zA9,hJ]⟩,by rw [hT0,List.length_replicate]⟩
  have HMM:=Lib.hid (zA hM1 hM2)
  obtain ⟨mk,hmk⟩:=Classical.axiomOfChoice (fun w => qK0 (P:=Tryz.prog) (w:=w) Tryz.underlying73 yI2 n (by omega))
  have hmk1:=fun w => (hmk w).1
  have HMK:=Lib.hid (fun w => (hmk w).2)
  have HT0:=Lib.hid hT0
  rw [<- hn] at hc0
  rw [hBl] at hc1
  clear hmk hM1 hM2 hT0 h0 h1 hSA hSB hJ
  go_enter Tryz.func36,Tryz.ntmps36
  rw [<- hn,hBl]
  clear hn hm hBl
  go_upto_region 2 with (fail)
  obtain ⟨t1,m1⟩:=HMK.out w.drew
  obtain ⟨t2,m2⟩:=HMK.out (mk w.drew)
  obtain ⟨x1,hx1⟩ : ∃ x1,x1 = w.heap.size:=⟨_,rfl⟩
  obtain ⟨x2,hx2⟩ : ∃ x2,x2 = (mk w.drew).heap.size:=⟨_,rfl⟩
  obtain ⟨w3,hw3⟩ : ∃ w3,w3 = mk (mk w.drew):=⟨_,rfl⟩
  have hxx : w.heap.size <= x1 /\ x1 < x2:=⟨by omega,by rw [hx1,hx2]; exact t1.lt⟩
  have hbd:=(Below.refl w.heap.size w).drew
  have HB3 : Hid (Below w.heap.size w w3):=by
    rw [hw3]
    exact (hbd.trans (m1.mono hbd.size)).trans (m2.mono (zB4 hbd.size m1.size))
  have TWx1 : zD5 .u64 4294967296 w3 x1 48 (zB n (.slice none 0 0)) T0:=by
    rw [HT0.out,hw3,hx1]
    exact zD5.blank (t1.below m2)
  have TWx2 : zD5 .u64 4294967296 w3 x2 48 (zB n (.slice none 0 0)) T0:=by
    rw [HT0.out,hw3,hx2]
    exact zD5.blank t2
  clear t1 m1 t2 m2 hbd
  go_region
  · rw [<- hx1, <- hx2, <- hw3]
    clear hx1 hx2 hw3
    have TL:=TWx1
    have TR:=TWx2
    have hLR : x1 ≠ x2:=by omega
    clear TWx1 TWx2
    go_wp2
    go_loopw [19] (fun v19 wr => ∃ (k : Nat) (us vs : List Value),k <= n /\ zD5 .u64 4294967296 wr x1 48 us (zF5 T0 M1 k) /\ zD5 .u64 4294967296 wr x2 48 vs (zF5 T0 M2 k) /\ Hid (Below w.heap.size w wr) /\ v19 = .int .i64 (k : Int)) (fun v19 _ => n - (intOf v19).toNat)
    case atStart => exact ⟨0,_,_,by omega,by rw [zX8]; exact TL,by rw [zX8]; exact TR,HB3,rfl⟩
    case round =>
      clear TL TR HB3
      obtain ⟨k,us,vs,hk,TL,TR,HB,rfl⟩:=hrel
      obtain ⟨wi,hwi⟩ : ∃ wi,wi = wr:=⟨_,rfl⟩
      subst hwi
      by_cases hkn : k < n
      · obtain ⟨p,hp,hpl⟩:=zH3 HSA.out hkn
        obtain ⟨q,hq,hql⟩:=zH3 HSB.out hkn
        have k0:=HS0.out.below HB.out
        have k1:=HS1.out.below HB.out
        obtain ⟨ad0,rfl⟩:=k0.place (fun e => by rw [e] at hp; cases hp)
        obtain ⟨ad1,rfl⟩:=k1.place (fun e => by rw [e] at hq; cases hq)
        obtain ⟨Ap,cp,hip,ecp,sp⟩:=k0.at2 hp
        obtain ⟨Aq,cq,hiq,ecq,sq⟩:=k1.at2 hq
        rw [hpl] at ecp sp
        rw [hql] at ecq sq
        have HP:=Lib.hid (zA hp (zA hpl (zA hq hql)))
        obtain ⟨PQ,hPQ⟩ : ∃ PQ,PQ = p ++ q:=⟨_,rfl⟩
        obtain ⟨N,hN⟩ : ∃ N,N = n + m:=⟨_,rfl⟩
        obtain ⟨Z,hZ⟩ : ∃ Z,Z = zI (p ++ q):=⟨_,rfl⟩
        have HZ:=Lib.hid hZ
        have HZL : Hid (Z.length = N):=by show _ = _; rw [hN,hZ,zR9,zA8,hpl,hql]
        have CC : ∀ W,Below wi.heap.size wi W -> Calls Tryz.prog 76 #[.slice (some ⟨W.heap.size,0,none⟩) 2 2] (W.alloc (.cells #[.slice Ap n cp,.slice Aq m cq] 44)) (fun e w' => ∃ V,e = .returned V /\ SlF .u64 4294967296 w' V PQ /\ Below W.heap.size W w'):=fun W hb => by
          have ba:=zC8 (w:=W) (zB3 _) (.cells #[.slice Ap n cp,.slice Aq m cq] 44)
          refine (yJ4 _ (.slice Ap n cp) (.slice Aq m cq) p q _ (zQ7 W 44 [.slice Ap n cp,.slice Aq m cq]) ((sp.below hb).below ba) ((sq.below hb).below ba) (by omega) (by omega)).mono ?_
          rintro e w' ⟨V,rfl,h2,h3⟩
          exact ⟨V,rfl,by rw [hPQ]; exact h2,ba.trans (h3.mono ba.size)⟩
        have CZ : ∀ W V,SlF .u64 4294967296 W V PQ -> Calls Tryz.prog 20 #[V] W (fun e w' => ∃ (g o : Nat) (v : Value),e = .returned (.tuple #[.slice (some ⟨g,o,none⟩) N N,v]) /\ W.heap.size <= g /\ SlZ .u64 4294967296 w' (.slice (some ⟨g,o,none⟩) N N) Z /\ Below W.heap.size W w'):=fun W V h => by
          have hl : (p ++ q).length = N:=by rw [zA8,hpl,hql,hN]
          rw [hPQ] at h
          refine (qS5 V (p ++ q) S W h ⟨by omega,hc.out.small,fun x hx => ?_⟩).mono ?_
          · rcases List.mem_append.1 hx with hx | hx
            · exact hc.out.la p (zA5 hp) x hx
            · exact hc.out.lb q (zA5 hq) x hx
          · rintro e w' ⟨g,v,rfl,h1,h2,-,h4⟩
            rw [hl] at h2 |-
            exact ⟨g,0,v,rfl,h1,by rw [hZ]; exact h2.sl (by rw [zR9,hl]) (by omega),h4⟩
        have HRK : Hid (M1[k]? = some (Z.take n) /\ M2[k]? = some (Z.drop n)):=by
          show _ /\ _
          rw [HMM.out.1,HMM.out.2]
          unfold zJ4 zJ7
          rw [zB1,zB1,qK8 hp hq,HNA.out,hZ]
          exact ⟨rfl,rfl⟩
        have hNn : n <= N:=by omega
        have hN100 : N <= 100:=by omega
        clear hp hq hpl hql sp sq hZ k0 k1 hPQ hN
        have hbd:=(Below.refl wi.heap.size wi).drew
        go_upto_region 6 with (fail)
        go_region_law (first | (go_simp; go_at_call 76; refine (CC _ (by exact hbd)).mono ?_; rintro e w4 ⟨V4,rfl,s4,b4⟩; obtain ⟨A4,c4,rfl,-,-⟩:=id s4.shape) | (go_simp; go_at_call 20; refine (CZ _ _ (by exact s4)).mono ?_; rintro e w5 ⟨gx,ox,v5,rfl,hgx,s5,b5⟩))
        all_goals
          have b45 : Below wi.heap.size wi w5:=(hbd.trans (b4.mono hbd.size)).trans (b5.mono (zB4 hbd.size b4.size))
          have TL5:=TL.below b45
          have TR5:=TR.below b45
          have HB5 : Hid (Below w.heap.size w w5):=HB.out.trans (b45.mono HB.out.size)
          obtain ⟨A2,hA2⟩ : ∃ A2 : Option Addr,A2 = if N = n then some ⟨gx,ox,none⟩ else some ⟨gx,ox + n * 2,none⟩:=⟨_,rfl⟩
          have sL : SlZ .u64 4294967296 w5 (.slice (some ⟨gx,ox,none⟩) n N) (Z.take n):=s5.take (by rw [HZL.out]; exact hNn)
          have sR : SlZ .u64 4294967296 w5 (.slice A2 (N - n) (N - n)) (Z.drop n):=by
            by_cases e : N = n
            · rw [hA2,if_pos e,List.drop_eq_nil_of_le (by rw [HZL.out]; omega),show N - n = 0 by omega]
              exact qA9 _ _ _ (Nat.zero_le _)
            · rw [hA2,if_neg e]
              exact s5.drop (by rw [HZL.out]; exact hNn)
          obtain ⟨x,hx⟩ : ∃ x,T0[k]? = some x:=⟨_,zA3 (by rw [HML.out.2]; exact hkn)⟩
          have hm1 : (zF5 T0 M1 k)[k]? = some x:=by rw [zV7 HML.out.1.1 (by rw [HML.out.2]; omega)]; exact hx
          have hm2 : (zF5 T0 M2 k)[k]? = some x:=by rw [zV7 HML.out.1.2 (by rw [HML.out.2]; omega)]; exact hx
          obtain ⟨AL,cL,-,ecL,-⟩:=TL5.at_ hm1
          obtain ⟨AR,cR,-,ecR,-⟩:=TR5.at_ hm2
          have fL:=TL5.1.1.frozen k
          have fR:=TR5.1.1.frozen k
          have hA3:=hA2.symm
          have hjc2 : ¬ N < n:=by omega
          have HX:=Lib.hid (zA TL5 (zA TR5 (zA sL sR)))
          have hRL : x2 ≠ x1:=fun e => hLR e.symm
          clear TL TR TL5 TR5 sL sR hx hm1 hm2 s5 b45 b4 b5 s4 HB CC CZ hA2 hgx hbd ecp ecq
          go_upto_region 7 with (fail)
          go_region
          all_goals
            obtain ⟨TL6,TR6⟩:=yK4 (k:=k) HX.out.1 HX.out.2.1 hLR HX.out.2.2.1 HX.out.2.2.2
            rw [zV8 HML.out.1.1 HRK.out.1] at TL6
            rw [zV8 HML.out.1.2 HRK.out.2] at TR6
            have TL7:=TL6.drew
            have TR7:=TR6.drew
            have G7:=(zF0 w5 x1 k (.slice (some ⟨gx,ox,none⟩) n N))
            have HB6 : Hid (Below w.heap.size w _):=((HB5.out.setCell (p:=⟨x1,k,none⟩) (show w.heap.size <= x1 by omega) (.slice (some ⟨gx,ox,none⟩) n N)).setCell (p:=⟨x2,k,none⟩) (show w.heap.size <= x2 by omega) (.slice A2 (N - n) (N - n))).drew
            clear TL6 TR6 HX HB5 G7 ecL ecR fL fR
            go_wp2
            go_roundw
            case rel => exact ⟨k + 1,_,_,by omega,TL7,TR7,HB6,by go_num⟩
            case measure => simp [intOf]; omega
      · have TLn : zD5 .u64 4294967296 wi x1 48 us M1:=by
          have h1:=zX9 HML.out.1.1
          rw [HML.out.2] at h1
          rw [show k = n by omega,h1] at TL
          exact TL
        have TRn : zD5 .u64 4294967296 wi x2 48 vs M2:=by
          have h1:=zX9 HML.out.1.2
          rw [HML.out.2] at h1
          rw [show k = n by omega,h1] at TR
          exact TR
        have hV:=TLn.sub (o:=0) (m:=n) (c:=n) (by rw [HML.out.1.1,HML.out.2]; omega) (zB3 n) (by unfold maxLen; omega)
        have hU:=TRn.sub (o:=0) (m:=n) (c:=n) (by rw [HML.out.1.2,HML.out.2]; omega) (zB3 n) (by unfold maxLen; omega)
        rw [List.drop_zero,zA7 (by rw [HML.out.1.1,HML.out.2]; exact zB3 n)] at hV
        rw [List.drop_zero,zA7 (by rw [HML.out.1.2,HML.out.2]; exact zB3 n)] at hU
        have HVU:=Lib.hid (zA hV hU)
        clear TL TR TLn TRn hV hU
        go_wp2
        go_ret2
        exact ⟨_,_,rfl,by rw [<- HMM.out.1]; exact HVU.out.1,by rw [<- HMM.out.2]; exact HVU.out.2,HB.out⟩
  · rw [<- hx1, <- hx2, <- hw3]
    clear hx1 hx2 hw3
    have TL:=TWx2
    have TR:=TWx1
    have hLR : x2 ≠ x1:=by omega
    clear TWx1 TWx2
    go_wp2
    go_loopw [19] (fun v19 wr => ∃ (k : Nat) (us vs : List Value),k <= n /\ zD5 .u64 4294967296 wr x2 48 us (zF5 T0 M1 k) /\ zD5 .u64 4294967296 wr x1 48 vs (zF5 T0 M2 k) /\ Hid (Below w.heap.size w wr) /\ v19 = .int .i64 (k : Int)) (fun v19 _ => n - (intOf v19).toNat)
    case atStart => exact ⟨0,_,_,by omega,by rw [zX8]; exact TL,by rw [zX8]; exact TR,HB3,rfl⟩
    case round =>
      clear TL TR HB3
      obtain ⟨k,us,vs,hk,TL,TR,HB,rfl⟩:=hrel
      obtain ⟨wi,hwi⟩ : ∃ wi,wi = wr:=⟨_,rfl⟩
      subst hwi
      by_cases hkn : k < n
      · obtain ⟨p,hp,hpl⟩:=zH3 HSA.out hkn
        obtain ⟨q,hq,hql⟩:=zH3 HSB.out hkn
        have k0:=HS0.out.below HB.out
        have k1:=HS1.out.below HB.out
        obtain ⟨ad0,rfl⟩:=k0.place (fun e => by rw [e] at hp; cases hp)
        obtain ⟨ad1,rfl⟩:=k1.place (fun e => by rw [e] at hq; cases hq)
        obtain ⟨Ap,cp,hip,ecp,sp⟩:=k0.at2 hp
        obtain ⟨Aq,cq,hiq,ecq,sq⟩:=k1.at2 hq
        rw [hpl] at ecp sp
        rw [hql] at ecq sq
        have HP:=Lib.hid (zA hp (zA hpl (zA hq hql)))
        obtain ⟨PQ,hPQ⟩ : ∃ PQ,PQ = p ++ q:=⟨_,rfl⟩
        obtain ⟨N,hN⟩ : ∃ N,N = n + m:=⟨_,rfl⟩
        obtain ⟨Z,hZ⟩ : ∃ Z,Z = zI (p ++ q):=⟨_,rfl⟩
        have HZ:=Lib.hid hZ
        have HZL : Hid (Z.length = N):=by show _ = _; rw [hN,hZ,zR9,zA8,hpl,hql]
        have CC : ∀ W,Below wi.heap.size wi W -> Calls Tryz.prog 76 #[.slice (some ⟨W.heap.size,0,none⟩) 2 2] (W.alloc (.cells #[.slice Ap n cp,.slice Aq m cq] 44)) (fun e w' => ∃ V,e = .returned V /\ SlF .u64 4294967296 w' V PQ /\ Below W.heap.size W w'):=fun W hb => by
          have ba:=zC8 (w:=W) (zB3 _) (.cells #[.slice Ap n cp,.slice Aq m cq] 44)
          refine (yJ4 _ (.slice Ap n cp) (.slice Aq m cq) p q _ (zQ7 W 44 [.slice Ap n cp,.slice Aq m cq]) ((sp.below hb).below ba) ((sq.below hb).below ba) (by omega) (by omega)).mono ?_
          rintro e w' ⟨V,rfl,h2,h3⟩
          exact ⟨V,rfl,by rw [hPQ]; exact h2,ba.trans (h3.mono ba.size)⟩
        have CZ : ∀ W V,SlF .u64 4294967296 W V PQ -> Calls Tryz.prog 20 #[V] W (fun e w' => ∃ (g o : Nat) (v : Value),e = .returned (.tuple #[.slice (some ⟨g,o,none⟩) N N,v]) /\ W.heap.size <= g /\ SlZ .u64 4294967296 w' (.slice (some ⟨g,o,none⟩) N N) Z /\ Below W.heap.size W w'):=fun W V h => by
          have hl : (p ++ q).length = N:=by rw [zA8,hpl,hql,hN]
          rw [hPQ] at h
          refine (qS5 V (p ++ q) S W h ⟨by omega,hc.out.small,fun x hx => ?_⟩).mono ?_
          · rcases List.mem_append.1 hx with hx | hx
            · exact hc.out.la p (zA5 hp) x hx
            · exact hc.out.lb q (zA5 hq) x hx
          · rintro e w' ⟨g,v,rfl,h1,h2,-,h4⟩
            rw [hl] at h2 |-
            exact ⟨g,0,v,rfl,h1,by rw [hZ]; exact h2.sl (by rw [zR9,hl]) (by omega),h4⟩
        have HRK : Hid (M1[k]? = some (Z.take n) /\ M2[k]? = some (Z.drop n)):=by
          show _ /\ _
          rw [HMM.out.1,HMM.out.2]
          unfold zJ4 zJ7
          rw [zB1,zB1,qK8 hp hq,HNA.out,hZ]
          exact ⟨rfl,rfl⟩
        have hNn : n <= N:=by omega
        have hN100 : N <= 100:=by omega
        clear hp hq hpl hql sp sq hZ k0 k1 hPQ hN
        have hbd:=(Below.refl wi.heap.size wi).drew
        go_upto_region 6 with (fail)
        go_region_law (first | (go_simp; go_at_call 76; refine (CC _ (by exact hbd)).mono ?_; rintro e w4 ⟨V4,rfl,s4,b4⟩; obtain ⟨A4,c4,rfl,-,-⟩:=id s4.shape) | (go_simp; go_at_call 20; refine (CZ _ _ (by exact s4)).mono ?_; rintro e w5 ⟨gx,ox,v5,rfl,hgx,s5,b5⟩))
        all_goals
          have b45 : Below wi.heap.size wi w5:=(hbd.trans (b4.mono hbd.size)).trans (b5.mono (zB4 hbd.size b4.size))
          have TL5:=TL.below b45
          have TR5:=TR.below b45
          have HB5 : Hid (Below w.heap.size w w5):=HB.out.trans (b45.mono HB.out.size)
          obtain ⟨A2,hA2⟩ : ∃ A2 : Option Addr,A2 = if N = n then some ⟨gx,ox,none⟩ else some ⟨gx,ox + n * 2,none⟩:=⟨_,rfl⟩
          have sL : SlZ .u64 4294967296 w5 (.slice (some ⟨gx,ox,none⟩) n N) (Z.take n):=s5.take (by rw [HZL.out]; exact hNn)
          have sR : SlZ .u64 4294967296 w5 (.slice A2 (N - n) (N - n)) (Z.drop n):=by
            by_cases e : N = n
            · rw [hA2,if_pos e,List.drop_eq_nil_of_le (by rw [HZL.out]; omega),show N - n = 0 by omega]
              exact qA9 _ _ _ (Nat.zero_le _)
            · rw [hA2,if_neg e]
              exact s5.drop (by rw [HZL.out]; exact hNn)
          obtain ⟨x,hx⟩ : ∃ x,T0[k]? = some x:=⟨_,zA3 (by rw [HML.out.2]; exact hkn)⟩
          have hm1 : (zF5 T0 M1 k)[k]? = some x:=by rw [zV7 HML.out.1.1 (by rw [HML.out.2]; omega)]; exact hx
          have hm2 : (zF5 T0 M2 k)[k]? = some x:=by rw [zV7 HML.out.1.2 (by rw [HML.out.2]; omega)]; exact hx
          obtain ⟨AL,cL,-,ecL,-⟩:=TL5.at_ hm1
          obtain ⟨AR,cR,-,ecR,-⟩:=TR5.at_ hm2
          have fL:=TL5.1.1.frozen k
          have fR:=TR5.1.1.frozen k
          have hA3:=hA2.symm
          have hjc2 : ¬ N < n:=by omega
          have HX:=Lib.hid (zA TL5 (zA TR5 (zA sL sR)))
          have hRL : x1 ≠ x2:=fun e => hLR e.symm
          clear TL TR TL5 TR5 sL sR hx hm1 hm2 s5 b45 b4 b5 s4 HB CC CZ hA2 hgx hbd ecp ecq
          go_upto_region 7 with (fail)
          go_region
          all_goals
            obtain ⟨TL6,TR6⟩:=yK4 (k:=k) HX.out.1 HX.out.2.1 hLR HX.out.2.2.1 HX.out.2.2.2
            rw [zV8 HML.out.1.1 HRK.out.1] at TL6
            rw [zV8 HML.out.1.2 HRK.out.2] at TR6
            have TL7:=TL6.drew
            have TR7:=TR6.drew
            have G7:=(zF0 w5 x2 k (.slice (some ⟨gx,ox,none⟩) n N))
            have HB6 : Hid (Below w.heap.size w _):=((HB5.out.setCell (p:=⟨x2,k,none⟩) (show w.heap.size <= x2 by omega) (.slice (some ⟨gx,ox,none⟩) n N)).setCell (p:=⟨x1,k,none⟩) (show w.heap.size <= x1 by omega) (.slice A2 (N - n) (N - n))).drew
            clear TL6 TR6 HX HB5 G7 ecL ecR fL fR
            go_wp2
            go_roundw
            case rel => exact ⟨k + 1,_,_,by omega,TL7,TR7,HB6,by go_num⟩
            case measure => simp [intOf]; omega
      · have TLn : zD5 .u64 4294967296 wi x2 48 us M1:=by
          have h1:=zX9 HML.out.1.1
          rw [HML.out.2] at h1
          rw [show k = n by omega,h1] at TL
          exact TL
        have TRn : zD5 .u64 4294967296 wi x1 48 vs M2:=by
          have h1:=zX9 HML.out.1.2
          rw [HML.out.2] at h1
          rw [show k = n by omega,h1] at TR
          exact TR
        have hV:=TLn.sub (o:=0) (m:=n) (c:=n) (by rw [HML.out.1.1,HML.out.2]; omega) (zB3 n) (by unfold maxLen; omega)
        have hU:=TRn.sub (o:=0) (m:=n) (c:=n) (by rw [HML.out.1.2,HML.out.2]; omega) (zB3 n) (by unfold maxLen; omega)
        rw [List.drop_zero,zA7 (by rw [HML.out.1.1,HML.out.2]; exact zB3 n)] at hV
        rw [List.drop_zero,zA7 (by rw [HML.out.1.2,HML.out.2]; exact zB3 n)] at hU
        have HVU:=Lib.hid (zA hV hU)
        clear TL TR TLn TRn hV hU
        go_wp2
        go_ret2
        exact ⟨_,_,rfl,by rw [<- HMM.out.1]; exact HVU.out.1,by rw [<- HMM.out.2]; exact HVU.out.2,HB.out⟩
theorem yK5 {n : Nat} {M : Nat -> Nat -> Rat} : zC6 n M ≠ 0 ↔ ∀ x,zV1 n n M x -> ∀ c,c < n -> x c = 0 :=
 ⟨fun h x hx c hc => Classical.byContradiction fun hne => h (yG8 hc hx hne),yG9⟩
theorem jH0 {n : Nat} {A B : Nat -> Nat -> Rat} {μ : Nat -> Rat} (hμ : ∀ i,i < n -> μ i ≠ 0) (h : ∀ i j,i < n -> j < n -> B i j = A i j * μ i) : zC6 n B ≠ 0 ↔ zC6 n A ≠ 0:=by
 have key : ∀ x,zV1 n n B x ↔ zV1 n n A x:=fun x => by
  have e : ∀ i,i < n -> zC0 n (fun j => B i j * x j) = μ i * zC0 n (fun j => A i j * x j):=fun i hi => by
   rw [<- zK6]
   exact zG0 fun j hj => by rw [h i j hi hj]; grind
  constructor
  ·intro k i hi
   have h1:=k i hi
   rw [e i hi] at h1
   rcases Rat.mul_eq_zero.1 h1 with h2 | h2
   ·exact absurd h2 (hμ i hi)
   ·exact h2
  ·intro k i hi
   rw [e i hi,k i hi,Rat.mul_zero]
 rw [yK5,yK5]
 exact ⟨fun h x hx => h x ((key x).2 hx),fun h x hx => h x ((key x).1 hx)⟩
theorem jH1 {c x y : Rat} (hc : c ≠ 0) (h : c * x = c * y) : x = y:=by
 have h1:=Rat.mul_inv_cancel _ hc
 have h2 : c⁻¹ * (c * x) = c⁻¹ * (c * y):=by rw [h]
 rw [<- Rat.mul_assoc,<- Rat.mul_assoc,Rat.mul_comm c⁻¹ c,h1,Rat.one_mul,Rat.one_mul] at h2
 exact h2
theorem jH2 {z d : Int} (hd : d ≠ 0) : Rat.divInt z d * (d : Rat) = (z : Rat):=by
 have h : (d : Rat) ≠ 0:=fun e => hd (Rat.intCast_eq_zero_iff.1 e)
 rw [Rat.divInt_eq_div,Rat.div_def,Rat.mul_assoc,Rat.mul_comm (d : Rat)⁻¹,Rat.mul_inv_cancel _ h,Rat.mul_one]
theorem jH3 {z d : Int} {m : Nat} (hd : d ≠ 0) (hz : zC1 z <= m) (hl : zC1 d <= m) : zC7 (Rat.divInt z d) m:=by
 rcases Int.lt_or_gt_of_ne hd with h | h
 ·rw [qZ4 h]; exact zR (by omega) (by rw [qC9]; exact hz) hl
 ·rw [qZ5 h]; exact zR (by omega) hz hl
theorem yK6 {r : List Rat} {l : Nat} {x : Rat} (h : r[l]? = some x) : (((zI r).getD l 0 : Int) : Rat) = x * (zF1 r : Rat):=by
 rw [zA6,yI4 h]
 exact yI5 (qS4 x (zA5 h))
theorem yK7 {qs : List Rat} {S : Nat} (h : ∀ q ∈ qs,zC7 q S) : ∀ z ∈ zI qs,zC1 z <= S + (1 + S * qs.length):=by
 intro z hz
 unfold zI at hz
 obtain ⟨q,hq,rfl⟩:=List.mem_map.1 hz
 have h1:=qL3 qs h qs.length
 rw [List.take_length] at h1
 have h2 : zC1 ((zF1 qs / q.den : Nat) : Int) <= 1 + S * qs.length:=by
  unfold zC1
  rw [Int.natAbs_natCast]
  exact zB4 (zF7 (by omega) (Nat.div_le_self _ _)) h1
 exact zO1 (h q hq).1 h2
theorem lcmL_ne (qs : List Rat) : (zF1 qs : Rat) ≠ 0:=by
 intro e
 have h:=qS3 qs
 have h3 : ((zF1 qs : Nat) : Rat) = ((0 : Nat) : Rat):=e
 have:=Rat.natCast_inj.1 h3
 omega
def zW1 (A B : List (List Rat)) (i : Nat) : Rat:=(zF1 ((zE4 A B).getD i []) : Rat)
theorem yK8 (A B : List (List Rat)) (i : Nat) : zW1 A B i ≠ 0:=lcmL_ne _
section
variable {A B : List (List Rat)}
theorem yK9 (ok : okq A B) {i : Nat} (hi : i < A.length) : ∃ p q,A[i]? = some p /\ p.length = A.length /\ B[i]? = some q /\ q.length = zD3 B /\ (zE4 A B)[i]? = some (p ++ q):=by
 obtain ⟨p,hp,hpl⟩:=zH3 ok.sa hi
 obtain ⟨q,hq,hql⟩:=zH3 ok.sb hi
 exact ⟨p,q,hp,hpl,hq,hql,qK8 hp hq⟩
theorem yL (ok : okq A B) {i j : Nat} (hi : i < A.length) (hj : j < A.length) : ((zC4 (zJ4 A B) i j : Int) : Rat) = zB9 A i j * zW1 A B i:=by
 obtain ⟨p,q,hp,hpl,hq,hql,hr⟩:=yK9 ok hi
 have h1 : (zJ4 A B)[i]? = some ((zI (p ++ q)).take A.length):=by unfold zJ4; rw [zB1,hr]; rfl
 have hx : (p ++ q)[j]? = some (zB9 A i j):=by
  rw [zB0 (by omega),zO4 hp,zA6,zA3 (by omega : j < p.length)]
  rfl
 have e : zC4 (zJ4 A B) i j = (zI (p ++ q)).getD j 0:=by
  rw [zJ0 h1,zA6,zA6,List.getElem?_take,if_pos hj]
 rw [e,yK6 hx]
 unfold zW1
 rw [zJ6 hr]
theorem jH4 (ok : okq A B) {i j : Nat} (hi : i < A.length) (hj : j < zD3 B) : ((zC4 (zJ7 A B) i j : Int) : Rat) = zB9 B i j * zW1 A B i:=by
 obtain ⟨p,q,hp,hpl,hq,hql,hr⟩:=yK9 ok hi
 have h1 : (zJ7 A B)[i]? = some ((zI (p ++ q)).drop A.length):=by unfold zJ7; rw [zB1,hr]; rfl
 have hx : (p ++ q)[A.length + j]? = some (zB9 B i j):=by
  rw [List.getElem?_append_right (by omega),hpl,Nat.add_sub_cancel_left,zO4 hq,zA6,zA3 (by omega : j < q.length)]
  rfl
 have e : zC4 (zJ7 A B) i j = (zI (p ++ q)).getD (A.length + j) 0:=by
  rw [zJ0 h1,zA6,zA6,List.getElem?_drop]
 rw [e,yK6 hx]
 unfold zW1
 rw [zJ6 hr]
theorem qL9 (ok : okq A B) : shI (zJ4 A B) A.length A.length:=by
 have hJ:=zV2 ok.sa ok.sb
 refine ⟨by unfold zJ4; rw [zA9,hJ.1],fun r hr => ?_⟩
 unfold zJ4 at hr
 obtain ⟨x,hx,rfl⟩:=List.mem_map.1 hr
 rw [List.length_take,zR9,hJ.2 x hx]
 omega
theorem qT3 (ok : okq A B) : shI (zJ7 A B) A.length (zD3 B):=by
 have hJ:=zV2 ok.sa ok.sb
 refine ⟨by unfold zJ7; rw [zA9,hJ.1],fun r hr => ?_⟩
 unfold zJ7 at hr
 obtain ⟨x,hx,rfl⟩:=List.mem_map.1 hr
 rw [List.length_drop,zR9,hJ.2 x hx]
 omega
theorem qF3 (ok : okq A B) : zG (zJ7 A B) = zD3 B:=by
 have h:=qT3 ok
 unfold zG
 by_cases h0 : A.length = 0
 ·have e1 : zJ7 A B = []:=List.length_eq_zero_iff.1 (by rw [h.1,h0])
  have e2 : B = []:=List.length_eq_zero_iff.1 (by rw [<- ok.2.2.2,h0])
  rw [e1,e2]
  rfl
 ·obtain ⟨r,hr,hl⟩:=zT6 h (show 0 < A.length by omega)
  rw [zA6,hr]
  exact hl
theorem jH5 (ok : okq A B) (hw : A.length + zD3 B <= 100) : okS (zJ4 A B) (zJ7 A B):=by
 have h1:=qL9 ok
 have h2:=qT3 ok
 refine ⟨⟨by rw [h1.1]; omega,fun r hr => by rw [h1.1]; exact h1.2 r hr⟩,⟨by rw [h2.1]; omega,fun r hr => ?_⟩,by rw [h1.1,h2.1]⟩
 rw [qF3 ok]
 exact ⟨h2.2 r hr,by rw [h2.2 r hr]; omega⟩
theorem yL0 (ok : okq A B) : zC6 A.length (qF (zC4 (zJ4 A B))) ≠ 0 ↔ zC6 A.length (zB9 A) ≠ 0 :=
 jH0 (μ:=zW1 A B) (fun i _ => yK8 A B i) fun i j hi hj => yL ok hi hj
theorem jH6 {S : Nat} (ok : okq A B) (la : zI6 A S) (lb : zI6 B S) : zH6 (zJ4 A B) (S + (1 + S * (A.length + zD3 B))) /\ zH6 (zJ7 A B) (S + (1 + S * (A.length + zD3 B))):=by
 have key : ∀ r ∈ zE4 A B,∀ z ∈ zI r,zC1 z <= S + (1 + S * (A.length + zD3 B)):=fun r hr z hz => by
  have hl:=(zV2 ok.sa ok.sb).2 r hr
  have h:=yK7 (S:=S) (qs:=r) (fun x hx => by
   obtain ⟨p,hp,q,hq,rfl⟩:=yF2 hr
   rcases List.mem_append.1 hx with hx | hx
   ·exact la p hp x hx
   ·exact lb q hq x hx) z hz
  rwa [hl] at h
 constructor
 ·intro r hr z hz
  unfold zJ4 at hr
  obtain ⟨x,hx,rfl⟩:=List.mem_map.1 hr
  exact key x hx z (List.mem_of_mem_take hz)
 ·intro r hr z hz
  unfold zJ7 at hr
  obtain ⟨x,hx,rfl⟩:=List.mem_map.1 hr
  exact key x hx z (List.mem_of_mem_drop hz)
theorem jH7 {X : List (List Int)} {n m i j : Nat} {d : Int} (h : shI X n m) (hi : i < n) (hj : j < m) : zB9 (zJ1 d X) i j = Rat.divInt (zC4 X i j) d:=by
 obtain ⟨r,hr,hl,hz⟩:=qT0 h hi hj
 have h1 : (zJ1 d X)[i]? = some (zL5 d r):=by unfold zJ1; rw [zB1,hr]; rfl
 rw [zO4 h1,zA6]
 unfold zL5
 rw [zB1,hz]
 rfl
theorem jH8 {X : List (List Int)} {d : Int} (ok : okq A B) (h : SolvedI (zJ4 A B) (zJ7 A B) X d) : SolQ A B (zJ1 d X):=by
 have hla:=(qL9 ok).1
 have hsh:=h.sh
 rw [hla,qF3 ok] at hsh
 refine ⟨⟨by rw [qL6,hsh.1],fun r hr => ?_⟩,fun i j hi hj => ?_⟩
 ·unfold zJ1 at hr
  obtain ⟨x,hx,rfl⟩:=List.mem_map.1 hr
  rw [qL5]; exact hsh.2 x hx
 ·have h1:=h.sol i j (by rw [hla]; exact hi) (by rw [qF3 ok]; exact hj)
  rw [hla,jH4 ok hi hj] at h1
  have hd : (d : Rat) ≠ 0:=fun e => h.ne (Rat.intCast_eq_zero_iff.1 e)
  have h2 : zC0 A.length (fun c => (zC4 (zJ4 A B) i c : Rat) * (zC4 X c j : Rat)) = (zW1 A B i * (d : Rat)) * zO3 A.length (zB9 A) (zB9 (zJ1 d X)) i j:=by
   unfold zO3
   rw [<- zK6]
   refine zG0 fun c hc => ?_
   rw [yL ok hi hc,jH7 hsh hc hj,<- jH2 (z:=zC4 X c j) h.ne]
   grind
  rw [h2] at h1
  have hx : zW1 A B i * (d : Rat) ≠ 0:=fun e => by
   rcases Rat.mul_eq_zero.1 e with e | e
   ·exact yK8 A B i e
   ·exact hd e
  exact jH1 hx (by rw [h1]; grind)
theorem jH9 {X P Q : List (List Int)} {d : Int} {S : Nat} (h : SolvedI P Q X d) (lp : zH6 P S) (lq : zH6 Q S) (hp : shI P P.length P.length) (hq : shI Q P.length (zG Q)) : zC1 d <= dZ S P.length /\ zH6 X (dZ S P.length):=by
 have ep : ∀ i j,i < P.length -> j < P.length -> zC1 (zC4 P i j) <= S:=fun i j hi hj => by
  obtain ⟨r,hr,hl,hz⟩:=qT0 hp hi hj
  exact lp r (zA5 hr) _ (zA5 hz)
 constructor
 ·have h1:=h.det
  rw [<- qS9] at h1
  rw [Rat.intCast_inj.1 h1]
  exact qT _ ep
 ·intro r hr z hz
  obtain ⟨c,hc⟩:=List.mem_iff_getElem?.1 hr
  obtain ⟨j,hj⟩:=List.mem_iff_getElem?.1 hz
  have hcl : c < P.length:=by rw [<- h.sh.1]; exact (zA4.1 hc).1
  have hjl : j < zG Q:=by rw [<- h.sh.2 r hr]; exact (zA4.1 hj).1
  have h1:=h.cra c j hcl hjl
  have e : zC6 P.length (zG2 (qF (zC4 P)) c (fun r => qF (zC4 Q) r j)) = zC6 P.length (qF (fun i l => if l = c then zC4 Q i j else zC4 P i l)):=zK1 _ fun i l hi hl => by
   unfold zG2
   by_cases e : l = c
   ·show _ = (((if l = c then zC4 Q i j else zC4 P i l : Int)) : Rat)
    rw [if_pos e,if_pos e]
    rfl
   ·show _ = (((if l = c then zC4 Q i j else zC4 P i l : Int)) : Rat)
    rw [if_neg e,if_neg e]
    rfl
  rw [e,<- qS9] at h1
  have h2:=Rat.intCast_inj.1 h1
  rw [yH5 hc hj] at h2
  rw [h2]
  refine qT _ fun i l hi hl => ?_
  by_cases e2 : l = c
  ·rw [if_pos e2]
   obtain ⟨r',hr',hl',hz'⟩:=qT0 hq hi hjl
   exact lq r' (zA5 hr') _ (zA5 hz')
  ·rw [if_neg e2]
   exact ep i l hi hl
end
end Go.Proofs.YtagaabooccnamaaGreat.rat
