/- Package matrix: what only reads: Size, fit, alike, Same; the document's Wide; the statements' even, Is. Condition: as each says.
Package matrix: whether a table may be (a function's value with a captured variable), Check. Condition: as each says.
Rows of one fraction written out in a region; a table's place; what the types of rows and tables are. Condition: as each says.
Package matrix: copied, bare, dots, Column. Condition: as each says.
Rows of the call's own that grow within a table of its own: how what was there stays. Condition: as each says.
Package matrix: appended. Condition: as each says.
Package matrix: joined, turned: rows of the call's own that grow within a table. Condition: as each says.
Package matrix: product, Ident, Add, Apply, Turn. Condition: as each says.
Package matrix: Add, Mul. Condition: as each says.
Package matrix: Beside. Condition: as each says.
Maps of fractions by row and place: a block that holds, by arrays of two numbers, what of a table is no nought; looked up, stored, struck. Condition: as each says.
Package sparse: copied, Get. Condition: as each says.
Package sparse: Put, More. Condition: as each says.
Rows of cells (a number, and a fraction: four cells each): a row of the call's own that grows by append. Condition: as each says.
Package sparse: fits, dot, Apply. Condition: as each says.
An argument as a slice of slices of fractions. Condition: it can be read as data.
Few: two rows of fractions of the call's own out of an argument; tables of such rows. Condition: as each says.
Few of a table: two tables of the call's own out of an argument. Condition: as it says.
An append of a whole row of fractions to a row of the call's own. Condition: as each says.
Even: two tables of the call's own whose rows grow and are cut in place. Condition: as each says.
Package gauss: tables that a call changes row by row; first, own, square. Condition: as each says.
Package gauss: clearPlace. Condition: as each says.
Rows of one-cell elements that a call makes by append, all of whose cells, also those behind the last element, are of one sort; what of fractions stays when such a row is written. Condition: as each says.
Package gauss: down. Condition: as each says.
Package gauss: up: a range over slices.Backward. Condition: as each says.
Package gauss: Reduce, Rank. Condition: as each says.
Package gauss: square, Det; ints compared. Condition: as each says.
Determinants of products; how small the tables of a statement are. Condition: as each says.
Mathematics of the inverse: beside the table that changes nothing. Condition: as each says.
Bareiss' way: mathematics. Determinants of products, of tables with a place put in another's stead, and at an edge; what stands in the rows after each step, that it is whole, and what it is. No program stands here.
Mathematics of equations: where the determinant is not 0 there is one solution, which steps find; where it is 0, a place has no pivot. No program stands here.
Package gauss: Kernel. Condition: as each says.
The document's Reduce. Condition: as each says.
The document's Det. Condition: as each says.
Rows of noughts and of one 1, the table that changes nothing: their limbs lie in new memory. Condition: as each says.
Package gauss: Inverse. Condition: as each says.
Package solve: bySteps. Condition: as it says.
Package gcd: Lcm. Condition: as it says.
Bareiss' way: what stands in the rows after so many steps ('BrQ'), that it is whole, the step, the end. Mathematics: no program stands here. -/
import Derived.Test.YtagaabooccnamaaGreatKA4
import Derived.Deep.RegionHeld3
import Derived.Maps.RangeWalk
import Derived.Maps.OwnSet
import Derived.WideKeyPair
import Derived.BigRegion
import Derived.Deep.CutRange
import Derived.RangeFuncFrom
import Derived.RangeFuncCalls
import Derived.RangeFuncLeaves
import Derived.Shelf.Abstract
import Derived.Shelf.RegionOpen
import Derived.WalkKit
import Derived.OwnWalkIn
import Derived.TacticsInMore
import Derived.LoopNIn
import Derived.LoopIn
import Derived.OwnWalk
import Derived.Deep.RegionHeld
set_option linter.unusedVariables false
set_option linter.unusedSimpArgs false
set_option maxRecDepth 100000
set_option maxHeartbeats 6400000
open And renaming intro -> zA
open List renaming setIfInBounds_toArray -> zA0, set_cons_succ -> zA1, set_cons_zero -> zA2, getElem?_eq_getElem -> zA3, getElem?_eq_some_iff -> zA4, mem_of_getElem? -> zA5, getD_eq_getElem?_getD -> zA6, take_of_length_le -> zA7, length_append -> zA8, length_map -> zA9, replicate -> zB, getElem?_append_left -> zB0, getElem?_map -> zB1, length_set -> zB2
open Nat renaming le_refl -> zB3, le_trans -> zB4
namespace Go.Proofs.YtagaabooccnamaaGreat.rat
open Go.RowKit num mem nat txt str flow whl
theorem yE9 {t : List (List Rat)} {r : List Rat} (h : t[0]? = some r) : zD3 t = r.length:=by
  cases t with
  | nil => simp at h
  | cons s t =>
    obtain rfl : s = r:=by simpa using h
    rfl
theorem qE8 (a0 : Value) (t : List (List Rat)) (w : World) (h0 : SlT .u64 4294967296 w a0 t) :
  Calls Tryz.prog 29 #[a0] w (zD8 (.tuple #[.int .i64 ((t.length : Nat) : Int),.int .i64 ((zD3 t : Nat) : Int)]) w):=by
 have bb : Below w.heap.size w w:=Below.refl _ _
 have st0:=h0
 obtain ⟨A0,c0,rfl,hc0,hm0⟩:=h0.shape
 unfold maxLen at hm0
 go_enter Tryz.func29,Tryz.ntmps29
 go_upto_region 1 with (fail)
 have hsz0:=bb.size
 by_cases hn : t = []
 ·subst hn
  have HE : Hid ((((([] : List (List Rat)).length : Nat) : Int) == 0) = true):=rfl
  have sB:=bb.size
  refine zC9 3 [Pd.eq (.slice A0 ([] : List (List Rat)).length c0),Pd.eq (.int .i64 ((([] : List (List Rat)).length : Nat) : Int)),Pd.eq (.bool true)] (by kernel_rfl) ?ob1 ?done1
  case ob1 =>
   refine zA (zC2 rfl (zB6 rfl) (zB8 rfl rfl) (fun _ _ h => h)) ?_
   refine zA (zM0 rfl (zB6 rfl) (zB7 (j:=0) (by kernel_rfl) rfl rfl) (fun _ _ hx => ⟨_,by rw [hx]; exact zM1 Tryz.underlying22 _ _ _ _,rfl⟩)) ?_
   refine zA (zG4 rfl (zB6 rfl) (zB7 (j:=1) (by kernel_rfl) rfl rfl) (zH7 _) (fun _ _ _ hx hy => ⟨.bool true,by rw [hx,hy,zP6,HE.out],rfl⟩)) ?_
   trivial
  case done1 =>
   refine fun w12 hb12 v0 h0 v1 h1 v2 h2 b hbf => ?_
   obtain rfl:=h0; obtain rfl:=h1; obtain rfl:=h2
   simp only [Act.put,zA0,zA2,zA1] at hbf
   subst hbf
   replace bb:=bb.trans (hb12.mono bb.size)
   have hsz12:=bb.size
   refine zD ?_
   go_wp2
   go_ret2
   exact ⟨rfl,bb⟩
 ·have hl0 : 0 < t.length:=List.length_pos_iff.2 hn
  obtain ⟨r,hr⟩ : ∃ r,t[0]? = some r:=⟨_,zA3 hl0⟩
  have HE : Hid ((((t.length : Nat) : Int) == 0) = false):=by show _ = _; rw [beq_eq_false_iff_ne]; omega
  have HW : Hid (r.length = zD3 t):=(yE9 hr).symm
  obtain ⟨ad0,rfl⟩:=st0.place hn
  obtain ⟨Arr,crr,hir,ewr,srr⟩:=st0.at2 hr
  clear hr
  have sB:=bb.size
  refine zC9 3 [Pd.eq (.slice (some ad0) t.length c0),Pd.eq (.int .i64 ((t.length : Nat) : Int)),Pd.eq (.bool false)] (by kernel_rfl) ?ob2 ?done2
  case ob2 =>
   refine zA (zC2 rfl (zB6 rfl) (zB8 rfl rfl) (fun _ _ h => h)) ?_
   refine zA (zM0 rfl (zB6 rfl) (zB7 (j:=0) (by kernel_rfl) rfl rfl) (fun _ _ hx => ⟨_,by rw [hx]; exact zM1 Tryz.underlying22 _ _ _ _,rfl⟩)) ?_
   refine zA (zG4 rfl (zB6 rfl) (zB7 (j:=1) (by kernel_rfl) rfl rfl) (zH7 _) (fun _ _ _ hx hy => ⟨.bool false,by rw [hx,hy,zP6,HE.out],rfl⟩)) ?_
   trivial
  case done2 =>
   refine fun w12 hb12 v0 h0 v1 h1 v2 h2 b hbf => ?_
   obtain rfl:=h0; obtain rfl:=h1; obtain rfl:=h2
   simp only [Act.put,zA0,zA2,zA1] at hbf
   subst hbf
   replace bb:=bb.trans (hb12.mono bb.size)
   have hsz12:=bb.size
   refine zD ?_
   have ecr:=(bb.cell (World.block_lt_of_cell? w _ ewr)).trans ewr
   have sB:=bb.size
   go_upto_region 3 with (fail)
   refine flow 8 [Pd.eq (.slice (some ad0) t.length c0),Pd.eq (.int .i64 ((t.length : Nat) : Int)),Pd.eq (.slice (some ad0) t.length c0),Pd.eq (.pointer (some (ad0.add 0))),Pd.eq (.slice Arr r.length crr),Pd.eq (.int .i64 ((r.length : Nat) : Int)),Pd.eq (.int .i64 ((t.length : Nat) : Int)),Pd.eq (.int .i64 ((r.length : Nat) : Int))] (by kernel_rfl) (by kernel_rfl) ?ob3 ?done3
   case ob3 =>
    refine zA (zC2 rfl (zB6 rfl) (zB8 rfl rfl) (fun _ _ h => h)) ?_
    refine zA (zM0 rfl (zB6 rfl) (zB7 (j:=0) (by kernel_rfl) rfl rfl) (fun _ _ hx => ⟨_,by rw [hx]; exact zM1 Tryz.underlying22 _ _ _ _,rfl⟩)) ?_
    refine zA (zC2 rfl (zB6 rfl) (zB8 rfl rfl) (fun _ _ h => h)) ?_
    refine zA (zK5 rfl (zB6 rfl) (zB7 (j:=2) (by kernel_rfl) rfl rfl) (zH7 _) (fun _ _ _ hx hy => ⟨_,by rw [hx,hy]; exact qP5 (k:=0) Tryz.underlying22 (by kernel_rfl) ad0 hir _,rfl⟩)) ?_
    refine zA (zC rfl (zB6 rfl) (zB7 (j:=3) (by kernel_rfl) rfl rfl) (fun w2 hb => zC5 Tryz.underlying44 rfl ((hb.cell (World.block_lt_of_cell? w12 _ ecr)).trans ecr)) (fun _ _ => rfl)) ?_
    refine zA (zM0 rfl (zB6 rfl) (zB7 (j:=4) (by kernel_rfl) rfl rfl) (fun _ _ hx => ⟨_,by rw [hx]; exact zM1 Tryz.underlying44 _ _ _ _,rfl⟩)) ?_
    refine zA (zE8 rfl (zB6 rfl) (zB7 (j:=1) (by kernel_rfl) rfl rfl) (fun _ _ h => h)) ?_
    refine zA (zE8 rfl (zB6 rfl) (zB7 (j:=5) (by kernel_rfl) rfl rfl) (fun _ _ h => h)) ?_
    trivial
   case done3 =>
    refine fun w13 hb13 v0 h0 v1 h1 v2 h2 v3 h3 v4 h4 v5 h5 v6 h6 v7 h7 b hbf => ?_
    obtain rfl:=h0; obtain rfl:=h1; obtain rfl:=h2; obtain rfl:=h3; obtain rfl:=h4; obtain rfl:=h5; obtain rfl:=h6; obtain rfl:=h7
    simp only [Act.put,zA0,zA2,zA1] at hbf
    subst hbf
    replace bb:=bb.trans (hb13.mono bb.size)
    have hsz13:=bb.size
    refine zI2 (by kernel_rfl) ?_
    go_wp2
    go_ret2
    exact ⟨by rw [HW.out]; rfl,bb⟩
theorem eqt_any (a0 a1 : Value) (p q : List (List Rat)) (b : Bool) (w : World) (h0 : SlT .u64 4294967296 w a0 p) (h1 : SlT .u64 4294967296 w a1 q) (hb : b = decide (p = q)) :
  Calls Tryz.prog 38 #[a0,a1,.func (.func 39) #[] #[]] w (zD8 (.bool b) w):=by
 have bb : Below w.heap.size w w:=Below.refl _ _
 have st0:=h0
 obtain ⟨A0,c0,rfl,hc0,hm0⟩:=h0.shape
 unfold maxLen at hm0
 have st1:=h1
 obtain ⟨A1,c1,rfl,hc1,hm1⟩:=h1.shape
 unfold maxLen at hm1
 have HB:=Lib.hid hb
 clear hb
 go_enter Tryz.func38,Tryz.ntmps38
 go_upto_region 1 with (fail)
 have hsz0:=bb.size
 by_cases he : p.length = q.length
 ·have HNE : Hid ((((p.length : Nat) : Int) != ((q.length : Nat) : Int)) = false):=by show _ = _; rw [bne_eq_false_iff_eq]; omega
  have HE:=Lib.hid he
  clear he
  have sB:=bb.size
  refine zC9 5 [Pd.eq (.slice A0 p.length c0),Pd.eq (.int .i64 ((p.length : Nat) : Int)),Pd.eq (.slice A1 q.length c1),Pd.eq (.int .i64 ((q.length : Nat) : Int)),Pd.eq (.bool false)] (by kernel_rfl) ?ob15 ?done15
  case ob15 =>
   refine zA (zC2 rfl (zB6 rfl) (zB8 rfl rfl) (fun _ _ h => h)) ?_
   refine zA (zM0 rfl (zB6 rfl) (zB7 (j:=0) (by kernel_rfl) rfl rfl) (fun _ _ hx => ⟨_,by rw [hx]; exact zM1 Tryz.underlying22 _ _ _ _,rfl⟩)) ?_
   refine zA (zC2 rfl (zB6 rfl) (zB8 rfl rfl) (fun _ _ h => h)) ?_
   refine zA (zM0 rfl (zB6 rfl) (zB7 (j:=2) (by kernel_rfl) rfl rfl) (fun _ _ hx => ⟨_,by rw [hx]; exact zM1 Tryz.underlying22 _ _ _ _,rfl⟩)) ?_
   refine zA (zG4 rfl (zB6 rfl) (zB7 (j:=1) (by kernel_rfl) rfl rfl) (zB7 (j:=3) (by kernel_rfl) rfl rfl) (fun _ _ _ hx hy => ⟨.bool false,by rw [hx,hy,qC6,HNE.out],rfl⟩)) ?_
   trivial
  case done15 =>
   refine fun w12 hb12 v0 h0 v1 h1 v2 h2 v3 h3 v4 h4 b hbf => ?_
   obtain rfl:=h0; obtain rfl:=h1; obtain rfl:=h2; obtain rfl:=h3; obtain rfl:=h4
   simp only [Act.put,zA0,zA2,zA1] at hbf
   subst hbf
   replace bb:=bb.trans (hb12.mono bb.size)
   have hsz12:=bb.size
   refine zD ?_
   go_wp2
   go_loopw [17] (fun v17 wr => ∃ k : Nat,k <= p.length /\ Hid (p.take k = q.take k) /\ Below w.heap.size w wr /\ v17 = .int .i64 (k : Int)) (fun v17 _ => p.length - (intOf v17).toNat)
   case atStart => exact ⟨0,by omega,rfl,bb,rfl⟩
   case round =>
    obtain ⟨k,hk,HA,hbw,rfl⟩:=hrel
    clear bb
    have bb:=hbw
    clear hbw
    have hszr:=bb.size
    by_cases hlt : k < p.length
    ·have hlt2 : k < q.length:=by have:=HE.out; omega
     have hnp : p ≠ []:=List.length_pos_iff.1 (by omega)
     have hnq : q ≠ []:=List.length_pos_iff.1 (by omega)
     obtain ⟨x,hx⟩ : ∃ x,p[k]? = some x:=⟨_,zA3 hlt⟩
     obtain ⟨y,hy⟩ : ∃ y,q[k]? = some y:=⟨_,zA3 hlt2⟩
     have HX:=Lib.hid hx
     have HY:=Lib.hid hy
     obtain ⟨ad0,rfl⟩:=st0.place hnp
     obtain ⟨ad1,rfl⟩:=st1.place hnq
     obtain ⟨Arx,crx,hix,ewx,srx⟩:=st0.at2 hx
     obtain ⟨Ary,cry,hiy,ewy,sry⟩:=st1.at2 hy
     clear hx hy
     have ecx:=(bb.cell (World.block_lt_of_cell? w _ ewx)).trans ewx
     have ecy:=(bb.cell (World.block_lt_of_cell? w _ ewy)).trans ewy
     have sB:=bb.size
     go_upto_region 5 with (fail)
     refine zC9 5 [Pd.eq (.int .i64 (k : Int)),Pd.eq (.pointer (some (ad0.add k))),Pd.eq (.slice Arx x.length crx),Pd.eq (.int .i64 (k : Int)),Pd.eq (.slice Arx x.length crx)] (by kernel_rfl) ?ob16 ?done16
     case ob16 =>
      refine zA (zC2 rfl (zB6 rfl) (zB8 rfl rfl) (fun _ _ h => h)) ?_
      refine zA (zK5 rfl (zB6 rfl) (zB8 rfl rfl) (zB8 rfl rfl) (fun _ _ _ hx hy => ⟨_,by rw [hx,hy]; exact qP5 (k:=k) Tryz.underlying22 (by kernel_rfl) ad0 hlt _,rfl⟩)) ?_
      refine zA (zC rfl (zB6 rfl) (zB7 (j:=1) (by kernel_rfl) rfl rfl) (fun w2 hb => zC5 Tryz.underlying44 rfl ((hb.cell (World.block_lt_of_cell? wr _ ecx)).trans ecx)) (fun _ _ => rfl)) ?_
      refine zA (zE8 rfl (zB6 rfl) (zB7 (j:=0) (by kernel_rfl) rfl rfl) (fun _ _ h => h)) ?_
      refine zA (zE8 rfl (zB6 rfl) (zB7 (j:=2) (by kernel_rfl) rfl rfl) (fun _ _ h => h)) ?_
      trivial
     case done16 =>
      refine fun w14 hb14 v0 h0 v1 h1 v2 h2 v3 h3 v4 h4 b hbf => ?_
      obtain rfl:=h0; obtain rfl:=h1; obtain rfl:=h2; obtain rfl:=h3; obtain rfl:=h4
      simp only [Act.put,zA0,zA2,zA1] at hbf
      subst hbf
      replace bb:=bb.trans (hb14.mono bb.size)
      have hsz14:=bb.size
      refine zD ?_
      clear ecx ecy
      have ecy:=(bb.cell (World.block_lt_of_cell? w _ ewy)).trans ewy
      have sB:=bb.size
      go_upto_region 6 with (fail)
      refine zC9 5 [Pd.eq (.slice (some ad1) q.length c1),Pd.eq (.int .i64 (k : Int)),Pd.eq (.pointer (some (ad1.add k))),Pd.eq (.slice Ary y.length cry),Pd.eq (.slice Ary y.length cry)] (by kernel_rfl) ?ob17 ?done17
      case ob17 =>
       refine zA (zC2 rfl (zB6 rfl) (zB8 rfl rfl) (fun _ _ h => h)) ?_
       refine zA (zC2 rfl (zB6 rfl) (zB8 rfl rfl) (fun _ _ h => h)) ?_
       refine zA (zK5 rfl (zB6 rfl) (zB7 (j:=0) (by kernel_rfl) rfl rfl) (zB7 (j:=1) (by kernel_rfl) rfl rfl) (fun _ _ _ hx hy => ⟨_,by rw [hx,hy]; exact qP5 (k:=k) Tryz.underlying22 (by kernel_rfl) ad1 hlt2 _,rfl⟩)) ?_
       refine zA (zC rfl (zB6 rfl) (zB7 (j:=2) (by kernel_rfl) rfl rfl) (fun w2 hb => zC5 Tryz.underlying44 rfl ((hb.cell (World.block_lt_of_cell? w14 _ ecy)).trans ecy)) (fun _ _ => rfl)) ?_
       refine zA (zE8 rfl (zB6 rfl) (zB7 (j:=3) (by kernel_rfl) rfl rfl) (fun _ _ h => h)) ?_
       trivial
      case done17 =>
       refine fun w15 hb15 v0 h0 v1 h1 v2 h2 v3 h3 v4 h4 b hbf => ?_
       obtain rfl:=h0; obtain rfl:=h1; obtain rfl:=h2; obtain rfl:=h3; obtain rfl:=h4
       simp only [Act.put,zA0,zA2,zA1] at hbf
       subst hbf
       replace bb:=bb.trans (hb15.mono bb.size)
       have hsz15:=bb.size
       refine zD ?_
       obtain ⟨u,hu⟩ : ∃ u,u = decide (x = y):=⟨_,rfl⟩
       have HU:=Lib.hid hu
       by_cases hxy : x = y
       ·have HA2 : Hid (p.take (k + 1) = q.take (k + 1)):=by show _ = _; rw [List.take_add_one,List.take_add_one,HX.out,HY.out,HA.out,hxy]
        rw [decide_eq_true hxy] at hu
        subst hu
        clear hxy
        have sB:=bb.size
        go_upto_region 7 with (fail)
        refine zC9 5 [Pd.eq (.func (.func 39) #[] #[]),Pd.eq (.slice Arx x.length crx),Pd.eq (.slice Ary y.length cry),Pd.eq (.bool true),Pd.eq (.bool false)] (by kernel_rfl) ?ob18 ?done18
        case ob18 =>
         refine zA (zC2 rfl (zB6 rfl) (zB8 rfl rfl) (fun _ _ h => h)) ?_
         refine zA (zC2 rfl (zB6 rfl) (zB8 rfl rfl) (fun _ _ h => h)) ?_
         refine zA (zC2 rfl (zB6 rfl) (zB8 rfl rfl) (fun _ _ h => h)) ?_
         refine zA (qK rfl (zB7 (j:=0) (by kernel_rfl) rfl rfl) Tryz.func39 (by kernel_rfl) (zB6 rfl) (zB7 (j:=1) (by kernel_rfl) rfl rfl) (zB7 (j:=2) (by kernel_rfl) rfl rfl) (fun w2 u0 u1 hb h0 h1 => by obtain rfl:=h0; obtain rfl:=h1; exact (yE8 _ _ x y true _ ((srx.below bb).below hb) ((sry.below bb).below hb) HU.out).mono fun e w3 h => zD8.pd h)) ?_
         refine zA (zW9 rfl (zB6 rfl) (zB7 (j:=3) (by kernel_rfl) rfl rfl) (fun _ => zZ2 _ _) (fun _ => rfl)) ?_
         trivial
        case done18 =>
         refine fun w17 hb17 v0 h0 v1 h1 v2 h2 v3 h3 v4 h4 b hbf => ?_
         obtain rfl:=h0; obtain rfl:=h1; obtain rfl:=h2; obtain rfl:=h3; obtain rfl:=h4
         simp only [Act.put,zA0,zA2,zA1] at hbf
         subst hbf
         replace bb:=bb.trans (hb17.mono bb.size)
         have hsz17:=bb.size
         refine zD ?_
         have hsk : p.length - (k + 1) < p.length - k:=by omega
         go_wp2
         go_roundw
         case rel => exact ⟨k + 1,by omega,HA2,bb,by go_num⟩
         case measure => simp [intOf]; omega
       ·have HW : Hid (b = false):=by
         show _ = _
         rw [HB.out]
         refine decide_eq_false fun e => ?_
         have h0:=HX.out
         rw [e,HY.out] at h0
         exact hxy (Option.some.inj h0).symm
        rw [decide_eq_false hxy] at hu
        subst hu
        clear hxy
        have sB:=bb.size
        go_upto_region 7 with (fail)
        refine zC9 5 [Pd.eq (.func (.func 39) #[] #[]),Pd.eq (.slice Arx x.length crx),Pd.eq (.slice Ary y.length cry),Pd.eq (.bool false),Pd.eq (.bool true)] (by kernel_rfl) ?ob19 ?done19
        case ob19 =>
         refine zA (zC2 rfl (zB6 rfl) (zB8 rfl rfl) (fun _ _ h => h)) ?_
         refine zA (zC2 rfl (zB6 rfl) (zB8 rfl rfl) (fun _ _ h => h)) ?_
         refine zA (zC2 rfl (zB6 rfl) (zB8 rfl rfl) (fun _ _ h => h)) ?_
         refine zA (qK rfl (zB7 (j:=0) (by kernel_rfl) rfl rfl) Tryz.func39 (by kernel_rfl) (zB6 rfl) (zB7 (j:=1) (by kernel_rfl) rfl rfl) (zB7 (j:=2) (by kernel_rfl) rfl rfl) (fun w2 u0 u1 hb h0 h1 => by obtain rfl:=h0; obtain rfl:=h1; exact (yE8 _ _ x y false _ ((srx.below bb).below hb) ((sry.below bb).below hb) HU.out).mono fun e w3 h => zD8.pd h)) ?_
         refine zA (zW9 rfl (zB6 rfl) (zB7 (j:=3) (by kernel_rfl) rfl rfl) (fun _ => zZ2 _ _) (fun _ => rfl)) ?_
         trivial
        case done19 =>
         refine fun w17 hb17 v0 h0 v1 h1 v2 h2 v3 h3 v4 h4 b hbf => ?_
         obtain rfl:=h0; obtain rfl:=h1; obtain rfl:=h2; obtain rfl:=h3; obtain rfl:=h4
         simp only [Act.put,zA0,zA2,zA1] at hbf
         subst hbf
         replace bb:=bb.trans (hb17.mono bb.size)
         have hsz17:=bb.size
         refine zD ?_
         go_wp2
         go_ret
         exact ⟨by rw [HW.out]; rfl,bb⟩
    ·have HW : Hid (b = true):=by
      show _ = _
      rw [HB.out]
      have:=HA.out
      rw [zA7 (by omega),zA7 (by have:=HE.out; omega)] at this
      exact decide_eq_true this
     go_wp2
     go_ret
     exact ⟨by rw [HW.out]; rfl,bb⟩
 ·have HNE : Hid ((((p.length : Nat) : Int) != ((q.length : Nat) : Int)) = true):=by show _ = _; rw [bne_iff_ne]; omega
  have HW : Hid (b = false):=by show _ = _; rw [HB.out]; exact decide_eq_false fun e => he (by rw [e])
  clear he
  have sB:=bb.size
  refine zC9 5 [Pd.eq (.slice A0 p.length c0),Pd.eq (.int .i64 ((p.length : Nat) : Int)),Pd.eq (.slice A1 q.length c1),Pd.eq (.int .i64 ((q.length : Nat) : Int)),Pd.eq (.bool true)] (by kernel_rfl) ?ob14 ?done14
  case ob14 =>
   refine zA (zC2 rfl (zB6 rfl) (zB8 rfl rfl) (fun _ _ h => h)) ?_
   refine zA (zM0 rfl (zB6 rfl) (zB7 (j:=0) (by kernel_rfl) rfl rfl) (fun _ _ hx => ⟨_,by rw [hx]; exact zM1 Tryz.underlying22 _ _ _ _,rfl⟩)) ?_
   refine zA (zC2 rfl (zB6 rfl) (zB8 rfl rfl) (fun _ _ h => h)) ?_
   refine zA (zM0 rfl (zB6 rfl) (zB7 (j:=2) (by kernel_rfl) rfl rfl) (fun _ _ hx => ⟨_,by rw [hx]; exact zM1 Tryz.underlying22 _ _ _ _,rfl⟩)) ?_
   refine zA (zG4 rfl (zB6 rfl) (zB7 (j:=1) (by kernel_rfl) rfl rfl) (zB7 (j:=3) (by kernel_rfl) rfl rfl) (fun _ _ _ hx hy => ⟨.bool true,by rw [hx,hy,qC6,HNE.out],rfl⟩)) ?_
   trivial
  case done14 =>
   refine fun w12 hb12 v0 h0 v1 h1 v2 h2 v3 h3 v4 h4 b hbf => ?_
   obtain rfl:=h0; obtain rfl:=h1; obtain rfl:=h2; obtain rfl:=h3; obtain rfl:=h4
   simp only [Act.put,zA0,zA2,zA1] at hbf
   subst hbf
   replace bb:=bb.trans (hb12.mono bb.size)
   have hsz12:=bb.size
   refine zD ?_
   go_wp2
   go_ret
   exact ⟨by rw [HW.out]; rfl,bb⟩
theorem yY6 (a0 a1 : Value) (p q : List (List Rat)) (b : Bool) (w : World) (h0 : SlT .u64 4294967296 w a0 p) (h1 : SlT .u64 4294967296 w a1 q) (hb : b = decide (p = q)) :
  Calls Tryz.prog 10 #[a0,a1] w (zD8 (.bool b) w):=by
 have bb : Below w.heap.size w w:=Below.refl _ _
 have st0:=h0
 obtain ⟨A0,c0,rfl,hc0,hm0⟩:=h0.shape
 unfold maxLen at hm0
 have st1:=h1
 obtain ⟨A1,c1,rfl,hc1,hm1⟩:=h1.shape
 unfold maxLen at hm1
 have HB:=Lib.hid hb
 clear hb
 go_enter Tryz.func10,Tryz.ntmps10
 go_upto_region 1 with (fail)
 have hsz0:=bb.size
 have sB:=bb.size
 refine zC9 4 [Pd.eq (.slice A0 p.length c0),Pd.eq (.slice A1 q.length c1),Pd.eq (.bool b),Pd.eq (.bool b)] (by kernel_rfl) ?ob20 ?done20
 case ob20 =>
  refine zA (zC2 rfl (zB6 rfl) (zB8 rfl rfl) (fun _ _ h => h)) ?_
  refine zA (zC2 rfl (zB6 rfl) (zB8 rfl rfl) (fun _ _ h => h)) ?_
  refine zA (qY8 rfl Tryz.func38 (by kernel_rfl) (zB6 rfl) (zB7 (j:=0) (by kernel_rfl) rfl rfl) (zB7 (j:=1) (by kernel_rfl) rfl rfl) (yE5 _) (fun w2 u0 u1 u2 hb h0 h1 h2 => by obtain rfl:=h0; obtain rfl:=h1; obtain rfl:=h2; exact (eqt_any _ _ p q b _ ((st0.below bb).below hb) ((st1.below bb).below hb) HB.out).mono fun e w3 h => zD8.pd h)) ?_
  refine zA (zE8 rfl (zB6 rfl) (zB7 (j:=2) (by kernel_rfl) rfl rfl) (fun _ _ h => h)) ?_
  trivial
 case done20 =>
  refine fun w11 hb11 v0 h0 v1 h1 v2 h2 v3 h3 b hbf => ?_
  obtain rfl:=h0; obtain rfl:=h1; obtain rfl:=h2; obtain rfl:=h3
  simp only [Act.put,zA0,zA2,zA1] at hbf
  subst hbf
  replace bb:=bb.trans (hb11.mono bb.size)
  have hsz11:=bb.size
  refine zD ?_
  go_wp2
  go_ret
  exact ⟨rfl,bb⟩
theorem yY7 (a0 : Value) (g n : Nat) (r : List Rat) (b : Bool) (w : World) (h0 : SlF .u64 4294967296 w a0 r) (hB : Blk w g 3 #[.int .i64 (n : Int)]) (hb : b = decide (r.length ≠ n)) :
  Calls Tryz.prog 81 #[a0,.pointer (some ⟨g,0,none⟩)] w (zD8 (.bool b) w):=by
 obtain ⟨A,c,rfl,_⟩:=h0.shape
 have c0:=hB.cell 0
 have HB : Hid ((((r.length : Nat) : Int) != (n : Int)) = b):=by
  show _ = _
  rw [hb]
  by_cases h : r.length = n
  ·rw [decide_eq_false (fun k => k h),h]; exact bne_self_eq_false _
  ·rw [decide_eq_true h,bne_iff_ne]; omega
 clear hb
 go_enter Tryz.func81,Tryz.ntmps81
 go_wp2
 go_ret
 exact ⟨by rw [<- HB.out]; rfl,Below.refl _ _⟩
def RetIdx (b : Bool) (w : World) (e : Ending) (w' : World) : Prop:=∃ n : Int,e = .returned (.int .i64 n) /\ decide (0 <= n) = b /\ Below w.heap.size w w'
theorem yY8 (a0 : Value) (g n : Nat) (t : List (List Rat)) (b : Bool) (w : World) (h0 : SlT .u64 4294967296 w a0 t) (hB : Blk w g 3 #[.int .i64 (n : Int)]) (hb : b = decide (∃ r ∈ t,r.length ≠ n)) :
  Calls Tryz.prog 123 #[a0,.func (.func 81) #[] #[.pointer (some ⟨g,0,none⟩)]] w (RetIdx b w):=by
 have st0:=h0
 obtain ⟨A,c,rfl,hc,hm⟩:=h0.shape
 unfold maxLen at hm
 have HB:=Lib.hid hb
 clear hb
 go_enter Tryz.func123,Tryz.ntmps123
 go_wp2
 go_loopw [8] (fun v8 wr => ∃ k : Nat,k <= t.length /\ Hid (∀ r ∈ t.take k,r.length = n) /\ Below w.heap.size w wr /\ v8 = .int .i64 (k : Int)) (fun v8 _ => t.length - (intOf v8).toNat)
 case atStart => exact ⟨0,by omega,(by show ∀ r ∈ _,_; intro r hr; simp at hr),Below.refl _ _,rfl⟩
 case round =>
  obtain ⟨k,hk,HA,bb,rfl⟩:=hrel
  by_cases hlt : k < t.length
  ·have hnt : t ≠ []:=List.length_pos_iff.1 (by omega)
   obtain ⟨x,hx⟩ : ∃ x,t[k]? = some x:=⟨_,zA3 hlt⟩
   have HX:=Lib.hid hx
   obtain ⟨ad,rfl⟩:=st0.place hnt
   obtain ⟨Ar,cr,hi,ec,sr⟩:=(st0.below bb).at2 hx
   have hBr:=hB.below bb
   clear hx
   obtain ⟨u,hu⟩ : ∃ u,u = decide (x.length ≠ n):=⟨_,rfl⟩
   go_wp2_with fail
   refine (yY7 _ g n x u _ sr hBr hu).mono ?_
   rintro e w2 ⟨rfl,b2⟩
   have bb2:=bb.trans (b2.mono bb.size)
   by_cases hxn : x.length = n
   ·obtain rfl : u = false:=by rw [hu]; exact decide_eq_false fun k => k hxn
    have HA2 : Hid (∀ r ∈ t.take (k + 1),r.length = n):=by
     show ∀ r ∈ _,_
     intro r hr
     rw [List.take_add_one,HX.out] at hr
     rcases List.mem_append.1 hr with hr | hr
     ·exact HA.out r hr
     ·obtain rfl : r = x:=by simpa using hr
      exact hxn
    have hsk : t.length - (k + 1) < t.length - k:=by omega
    clear hu ec sr hBr
    go_wp2
    go_roundw
    case rel => exact ⟨k + 1,by omega,HA2,bb2,by go_num⟩
    case measure => simp [intOf]; omega
   ·obtain rfl : u = true:=by rw [hu]; exact decide_eq_true hxn
    have HW : Hid (b = true):=by
     show _ = _
     rw [HB.out]
     exact decide_eq_true ⟨x,zA5 HX.out,hxn⟩
    clear hu ec sr hBr
    go_wp2
    go_ret
    exact ⟨(k : Int),rfl,by rw [HW.out]; exact decide_eq_true (by omega),bb2⟩
  ·have HW : Hid (b = false):=by
    show _ = _
    rw [HB.out]
    refine decide_eq_false fun h => ?_
    obtain ⟨r,hr,hn⟩:=h
    have h1:=HA.out
    rw [zA7 (by omega)] at h1
    exact hn (h1 r hr)
   go_wp2
   go_ret
   exact ⟨-1,rfl,by rw [HW.out]; rfl,bb⟩
theorem yY9 (a0 : Value) (g n : Nat) (t : List (List Rat)) (b : Bool) (w : World) (h0 : SlT .u64 4294967296 w a0 t) (hB : Blk w g 3 #[.int .i64 (n : Int)]) (hb : b = decide (∃ r ∈ t,r.length ≠ n)) :
  Calls Tryz.prog 80 #[a0,.func (.func 81) #[] #[.pointer (some ⟨g,0,none⟩)]] w (zD8 (.bool b) w):=by
 have st0:=h0
 obtain ⟨A,c,rfl,hc,hm⟩:=h0.shape
 unfold maxLen at hm
 go_enter Tryz.func80,Tryz.ntmps80
 go_wp2_with fail
 refine (yY8 _ g n t b _ st0 hB hb).mono ?_
 rintro e w2 ⟨m,rfl,hm2,b2⟩
 have HM:=Lib.hid hm2
 clear hm2 hb
 go_wp2
 go_ret
 exact ⟨by rw [<- HM.out]; rfl,b2⟩
theorem qK1 (a0 : Value) (t : List (List Rat)) (b : Bool) (w : World) (h0 : SlT .u64 4294967296 w a0 t) (hb : b = decide (zH2 t)) :
  Calls Tryz.prog 40 #[a0] w (zD8 (.bool b) w):=by
 have st0:=h0
 obtain ⟨A,c,rfl,hc,hm⟩:=h0.shape
 unfold maxLen at hm
 have hwl : zD3 t <= 9223372036854775807:=by
  by_cases hn : t = []
  ·rw [hn]; show 0 <= _; omega
  ·obtain ⟨r,hr⟩ : ∃ r,t[0]? = some r:=⟨_,zA3 (List.length_pos_iff.2 hn)⟩
   obtain ⟨ad,Ar,cr,_,_,_,sr⟩:=st0.at_ hr
   obtain ⟨_,_,e,h1,h2⟩:=sr.shape
   unfold maxLen at h2
   rw [yE9 hr]; omega
 have HB:=Lib.hid hb
 clear hb
 go_enter Tryz.func40,Tryz.ntmps40
 go_wp2_with fail
 refine (qE8 _ t _ st0).mono ?_
 rintro e w2 ⟨rfl,b2⟩
 have st2:=st0.below b2
 go_upto_region 2 with (fail)
 have bn:=Blk.new w2 3 #[.int .i64 ((zD3 t : Nat) : Int)]
 have ba:=zC8 (w:=w2) (zB3 _) (.cells #[.int .i64 ((zD3 t : Nat) : Int)] 3)
 obtain ⟨g,hg⟩ : ∃ g,g = w2.heap.size:=⟨_,rfl⟩
 obtain ⟨w3,hw3⟩ : ∃ w3,w3 = w2.alloc (.cells #[.int .i64 ((zD3 t : Nat) : Int)] 3):=⟨_,rfl⟩
 rw [<- hw3] at bn ba |-
 rw [<- hg] at bn |-
 have bb : Below w.heap.size w w3:=b2.trans (ba.mono b2.size)
 have st3:=st0.below bb
 clear hw3 hg ba b2 st2
 have c0:=bn.cell 0
 have z0:=bn.frozen 0
 by_cases h1 : 200 < t.length
 ·have h1' : (200 : Int) < ((t.length : Nat) : Int):=by omega
  have HW : Hid (b = false):=by show _ = _; rw [HB.out]; exact decide_eq_false fun h => by have:=h.1; omega
  go_wp2
  go_ret
  exact ⟨by rw [HW.out]; rfl,bb⟩
 ·have h1' : ¬ (200 : Int) < ((t.length : Nat) : Int):=by omega
  by_cases h2 : 200 < zD3 t
  ·have h2' : (200 : Int) < ((zD3 t : Nat) : Int):=by omega
   have HW : Hid (b = false):=by show _ = _; rw [HB.out]; exact decide_eq_false fun h => by have:=h.2.1; omega
   go_wp2
   go_ret
   exact ⟨by rw [HW.out]; rfl,bb⟩
  ·have h2' : ¬ (200 : Int) < ((zD3 t : Nat) : Int):=by omega
   obtain ⟨u,hu⟩ : ∃ u,u = decide (∃ r ∈ t,r.length ≠ zD3 t):=⟨_,rfl⟩
   have HW : Hid ((!u) = b):=by
    show _ = _
    rw [HB.out,hu]
    by_cases he : qP7 t
    ·rw [decide_eq_true (show zH2 t from ⟨by omega,by omega,he⟩),decide_eq_false fun h => by obtain ⟨r,hr,hn⟩:=h; exact hn (he r hr)]; rfl
    ·have e1 : decide (zH2 t) = false:=decide_eq_false fun h => he h.2.2
     have e2 : decide (∃ r ∈ t,r.length ≠ zD3 t) = true:=decide_eq_true (Classical.byContradiction fun h => he fun r hr => Classical.byContradiction fun hn => h ⟨r,hr,hn⟩)
     rw [e1,e2]; rfl
   have HU:=Lib.hid hu
   clear hu
   go_wp2_with fail
   refine (yY9 _ g (zD3 t) t u _ st3 bn HU.out).mono ?_
   rintro e w4 ⟨rfl,b4⟩
   have bb4:=bb.trans (b4.mono bb.size)
   clear c0 z0
   go_wp2
   go_ret
   exact ⟨by rw [<- HW.out]; rfl,bb4⟩
theorem qK2 (a0 : Value) (t : List (List Rat)) (n : Int) (w : World) (h0 : SlT .u64 4294967296 w a0 t) (hn : n = if zH2 t then 0 else 8) :
  Calls Tryz.prog 11 #[a0] w (zD8 (.int .i64 n) w):=by
 have st0:=h0
 obtain ⟨A,c,rfl,hc,hm⟩:=h0.shape
 have HN:=Lib.hid hn
 clear hn
 go_enter Tryz.func11,Tryz.ntmps11
 by_cases h : zH2 t
 ·have HW : Hid (n = 0):=by show _ = _; rw [HN.out,if_pos h]
  go_wp2_with fail
  refine (qK1 _ t true _ st0 (decide_eq_true h).symm).mono ?_
  rintro e w2 ⟨rfl,b2⟩
  go_wp2
  go_ret
  exact ⟨by rw [HW.out]; rfl,b2⟩
 ·have HW : Hid (n = 8):=by show _ = _; rw [HN.out,if_neg h]
  go_wp2_with fail
  refine (qK1 _ t false _ st0 (decide_eq_false h).symm).mono ?_
  rintro e w2 ⟨rfl,b2⟩
  go_wp2
  go_ret
  exact ⟨by rw [HW.out]; rfl,b2⟩
theorem yZ {k : IntKind} {B : Nat} (w : World) (T : TypeId) {q : Rat} {u t : Value} (h1 : IsS w k u (digs B q.num.natAbs)) (h2 : IsS w k t (digs B q.den)) : SlF k B (w.alloc (.cells #[.bool (ngB q.num),u,t] T)) (.slice (some ⟨w.heap.size,0,none⟩) 1 1) [q]:=by
 have hbb:=zC8 (w:=w) (zB3 _) (.cells #[.bool (ngB q.num),u,t] T)
 have hB:=Blk.new w T #[.bool (ngB q.num),u,t]
 refine ⟨[(q,u,t)],rfl,⟨some ⟨w.heap.size,0,none⟩,1,rfl,zB3 _,by unfold maxLen; omega,fun i p hp => ?_⟩,fun p hp => ?_⟩
 ·rcases i with _ | i
  ·obtain rfl : ((q,u,t) : Elt) = p:=by simpa using hp
   exact ⟨_,_,rfl,hB.cell 0,hB.cell 1,hB.cell 2⟩
  ·simp at hp
 ·obtain rfl:=List.mem_singleton.1 hp
  exact ⟨h1.below hbb,h2.below hbb⟩
section
variable {P : Program} {Q : Exit -> Act -> World -> Prop} {ops : Array Oper} {L : List Oper} {Φ : List Pd} {w0 : World} {a0 : Act} {i : Nat} {o : Oper}
end
theorem yF : ∃ i,Tryz.prog.info? 44 = some i /\ i.zero = some (.slice none 0 0) /\ i.size = 1 /\ i.bytes = 24:=info_parts (P:=Tryz.prog) (e:=44) (z:=.slice none 0 0) (size:=1) (bytes:=24) (by kernel_rfl)
def RetBar (n : Nat) (w : World) (e : Ending) (w' : World) : Prop:=∃ g,e = .returned (.slice (some ⟨g,0,none⟩) n n) /\ zF9 w' g 44 (zB n (.slice none 0 0)) /\ w.heap.size <= g /\ Below w.heap.size w w'
theorem yZ0 (a0 : Value) (x : Rat) (w : World) (h0 : IsQ w a0 x) (hl : zC7 x 100000) :
  Calls Tryz.prog 145 #[a0] w (RetQ x w):=by
 obtain ⟨u0,t0,rfl,s0,r0⟩:=h0
 obtain ⟨A0,c0,rfl,_⟩:=id s0
 obtain ⟨D0,e0,rfl,_⟩:=id r0
 go_enter Tryz.func145,Tryz.ntmps145
 go_upto_region 1 with (fail)
 obtain ⟨wx,hwx,bb,B0,BR0,hsz⟩:=zI8 w 83 83 #[.bool (ngB (x).num),.slice A0 (digs 4294967296 (x).num.natAbs).length c0,.slice D0 (digs 4294967296 (x).den).length e0] #[.bool false,.slice none 0 0,.slice none 0 0]
 rw [hwx]
 clear hwx
 have k0s:=s0.below bb
 have k0d:=r0.below bb
 have k0z : IsZ wx (.agg #[.bool (ngB (x).num),.slice A0 (digs 4294967296 (x).num.natAbs).length c0]) (x).num:=⟨_,rfl,k0s⟩
 have k0 : IsQ wx (.agg #[.bool (ngB (x).num),.slice A0 (digs 4294967296 (x).num.natAbs).length c0,.slice D0 (digs 4294967296 (x).den).length e0]) (x):=⟨_,_,rfl,k0s,k0d⟩
 have hsz0:=bb.size
 have sB:=bb.size
 refine flow 12 [Pd.eq (.pointer (some ⟨w.heap.size,0,none⟩)),Pd.eq (.pointer (some ⟨w.heap.size,0,none⟩)),Pd.eq (.bool (ngB (x).num)),Pd.eq (.pointer (some ⟨w.heap.size,0,none⟩)),Pd.eq (.pointer (some ⟨w.heap.size,1,none⟩)),Pd.eq (.slice A0 (digs 4294967296 (x).num.natAbs).length c0),ps .u64 (digs 4294967296 (x).num.natAbs) wx.heap.size,pz ((x).num) wx.heap.size,Pd.eq (.pointer (some ⟨w.heap.size,2,none⟩)),Pd.eq (.slice D0 (digs 4294967296 (x).den).length e0),ps .u64 (digs 4294967296 (x).den) wx.heap.size,pq (x) wx.heap.size] (by kernel_rfl) (by kernel_rfl) ?ob1 ?done1
 case ob1 =>
  refine zA (zC3 rfl (zB6 rfl) (zB8 rfl rfl) (fun _ => by kernel_rfl) (fun _ => rfl)) ?_
  refine zA (zC3 rfl (zB6 rfl) (zB7 (j:=0) (by kernel_rfl) rfl rfl) (fun _ => by kernel_rfl) (fun _ => rfl)) ?_
  refine zA (zC rfl (zB6 rfl) (zB7 (j:=1) (by kernel_rfl) rfl rfl) (fun w2 hb => zC5 Tryz.underlying4 rfl ((B0.drew.below hb).cell 0)) (fun _ _ => rfl)) ?_
  refine zA (zC3 rfl (zB6 rfl) (zB8 rfl rfl) (fun _ => by kernel_rfl) (fun _ => rfl)) ?_
  refine zA (zC3 rfl (zB6 rfl) (zB7 (j:=3) (by kernel_rfl) rfl rfl) (fun _ => by kernel_rfl) (fun _ => rfl)) ?_
  refine zA (zC rfl (zB6 rfl) (zB7 (j:=4) (by kernel_rfl) rfl rfl) (fun w2 hb => zC5 Tryz.underlying50 rfl ((B0.drew.below hb).cell 1)) (fun _ _ => rfl)) ?_
  refine zA (zF rfl Tryz.func106 (by kernel_rfl) (zB6 rfl) (zB7 (j:=5) (by kernel_rfl) rfl rfl) (fun w2 u0 hb h0 => by obtain rfl:=h0; exact (zU _ _ _ (k0s.drew.below hb) (zB4 hl.1 (by decide))).mono fun e w3 h => zD1.pd h hb.size)) ?_
  refine zA (zL3 rfl (zB6 rfl) (zB7 (j:=2) (by kernel_rfl) rfl rfl) (zB7 (j:=6) (by kernel_rfl) rfl rfl) (fun w2 u v hb hu hv => by obtain rfl:=hu; obtain ⟨A7,c7,rfl,_⟩:=id hv.1; exact ⟨.agg #[.bool (ngB (x).num),.slice A7 (digs 4294967296 (x).num.natAbs).length c7],by kernel_rfl,⟨_,rfl,hv.1⟩,zL1 hv.2⟩)) ?_
  refine zA (zC3 rfl (zB6 rfl) (zB8 rfl rfl) (fun _ => by kernel_rfl) (fun _ => rfl)) ?_
  refine zA (zC rfl (zB6 rfl) (zB7 (j:=8) (by kernel_rfl) rfl rfl) (fun w2 hb => zC5 Tryz.underlying50 rfl ((B0.drew.below hb).cell 2)) (fun _ _ => rfl)) ?_
  refine zA (zF rfl Tryz.func106 (by kernel_rfl) (zB6 rfl) (zB7 (j:=9) (by kernel_rfl) rfl rfl) (fun w2 u0 hb h0 => by obtain rfl:=h0; exact (zU _ _ _ (k0d.drew.below hb) (zB4 hl.2 (by decide))).mono fun e w3 h => zD1.pd h hb.size)) ?_
  refine zA (zL3 rfl (zB6 rfl) (zB7 (j:=7) (by kernel_rfl) rfl rfl) (zB7 (j:=10) (by kernel_rfl) rfl rfl) (fun w2 u v hb hu hv => by obtain ⟨u7,rfl,hu7⟩:=hu.1; obtain ⟨A7,c7,rfl,_⟩:=id hu7; obtain ⟨A8,c8,rfl,_⟩:=id hv.1; exact ⟨.agg #[.bool (ngB (x).num),.slice A7 (digs 4294967296 (x).num.natAbs).length c7,.slice A8 (digs 4294967296 (x).den).length c8],by kernel_rfl,⟨⟨_,_,rfl,hu7,hv.1⟩,zL2 (hu.2 _ _ rfl) hv.2⟩⟩)) ?_
  trivial
 case done1 =>
  refine fun w11 hb11 v0 h0 v1 h1 v2 h2 v3 h3 v4 h4 v5 h5 v6 h6 v7 h7 v8 h8 v9 h9 v10 h10 v11 h11 b hbf => ?_
  obtain rfl:=h0; obtain rfl:=h1; obtain rfl:=h2; obtain rfl:=h3; obtain rfl:=h4; obtain rfl:=h5; obtain rfl:=h8; obtain rfl:=h9
  obtain ⟨q6,f6⟩:=h6
  obtain ⟨q7,f7⟩:=h7
  obtain ⟨q10,f10⟩:=h10
  obtain ⟨q11,f11⟩:=h11
  simp only [Act.put,zA0,zA2,zA1] at hbf
  subst hbf
  replace B0:=B0.below hb11
  replace k0s:=k0s.below hb11
  replace k0d:=k0d.below hb11
  replace k0z:=k0z.below hb11
  replace k0:=k0.below hb11
  replace BR0:=BR0.below hb11
  replace bb:=bb.trans (hb11.mono bb.size)
  have hsz11:=bb.size
  have s_6:=sB
  have s_7:=sB
  have s_10:=sB
  have s_11:=sB
  obtain ⟨u11,t11,rfl,q11,d11⟩:=q11
  obtain ⟨A9,c9,rfl,_⟩:=id q11
  obtain ⟨D9,e9,rfl,_⟩:=id d11
  refine zK4 (i:=12) (by kernel_rfl) rfl rfl rfl rfl rfl rfl (cells:=[.bool (ngB (x).num),.slice A9 (digs 4294967296 (x).num.natAbs).length c9,.slice D9 (digs 4294967296 (x).den).length e9]) rfl BR0 rfl (by kernel_rfl) (zI3 rfl rfl rfl) fun w9 hg9 B9 => ?_
  have k9:=off q11 BR0 zE hg9
  have d9:=off d11 BR0 zE hg9
  have f9:=f11.mono (show w.heap.size <= _ from s_11)
  have bb9:=bb.trans ((Below.refl _ _).grown hg9 bb.size (fun g hg => by injection hg with hg; omega))
  obtain ⟨C0,C1,C2,_,_,_⟩:=three B9
  refine zI2 (by kernel_rfl) ?_
  go_wp2
  exact bodyPost_ret (v:=.agg #[.bool (ngB (x).num),.slice A9 (digs 4294967296 (x).num.natAbs).length c9,.slice D9 (digs 4294967296 (x).den).length e9]) (by simp [results,Tryz.results145,go_sem,C0,C1,C2]) rfl ⟨_,rfl,⟨_,_,rfl,k9,d9⟩,f9,bb9⟩
theorem yZ1 (n : Int) (d : Nat) (w : World) (hn : n = (d : Int)) (hd : d <= 1000000) :
  Calls Tryz.prog 67 #[.int .i64 n] w (RetBar d w):=by
 have bb : Below w.heap.size w w:=Below.refl _ _
 subst hn
 go_enter Tryz.func67,Tryz.ntmps67
 go_upto_region 1 with (fail)
 have hsz0:=bb.size
 have sB:=bb.size
 refine zC9 3 [Pd.eq (.int .i64 (d : Int)),pbar d 44 w.heap.size,pbar d 44 w.heap.size] (by kernel_rfl) ?ob2 ?done2
 case ob2 =>
  refine zA (zC2 rfl (zB6 rfl) (zB8 rfl rfl) (fun _ _ h => h)) ?_
  refine zA (yY0 d rfl rfl (zB7 (j:=0) (by kernel_rfl) rfl rfl) (zB7 (j:=0) (by kernel_rfl) rfl rfl) Tryz.underlying22 yF (by omega) (fun _ _ h => h)) ?_
  refine zA (zE8 rfl (zB6 rfl) (zB7 (j:=1) (by kernel_rfl) rfl rfl) (fun _ _ h => h)) ?_
  trivial
 case done2 =>
  refine fun w11 hb11 v0 h0 v1 h1 v2 h2 b hbf => ?_
  obtain rfl:=h0
  have q1:=h1
  have q2:=h2
  simp only [Act.put,zA0,zA2,zA1] at hbf
  subst hbf
  replace bb:=bb.trans (hb11.mono bb.size)
  have hsz11:=bb.size
  refine zD ?_
  obtain ⟨g,rfl,TB,hg⟩:=q2
  go_wp2
  go_ret
  exact ⟨g,rfl,TB,hg,bb⟩
end Go.Proofs.YtagaabooccnamaaGreat.rat
namespace Go.Proofs.YtagaabooccnamaaGreat.flow
open Go.RowKit num mem whl rat
section
variable {P : Program} {Q : Exit -> Act -> World -> Prop} {ops : Array Oper} {o : Oper} {i : Nat}
theorem yZ2 {rest : List Nat} {a : Act} {w : World} (s x : Operand) {t : TypeId} (ho : ops[i]? = some o) (hg : o.guard = none) (hop : o.op = .call { callee:=.builtin .append,args:=#[s,x],argTypes:=#[t,t] })
  {base : Nat} {T : TypeId} (hT : P.underlying t = some (.slice T)) (hI : ∃ i,P.info? T = some i /\ i.zero = some (.agg #[.bool false,.slice none 0 0,.slice none 0 0]) /\ i.size = 3 /\ i.bytes = 56) {v : Value} {p : Elt} {ps : List Elt} (hs : a.eval s = v) (hown : zD2 T w base v ps) {ad : Addr} {c : Nat} (hx : a.eval x = .slice (some ad) 1 c)
  (h0 : w.cell? (ad.add 0) = some (.bool (ngB p.1.num))) (h1 : w.cell? (ad.add 1) = some p.2.1) (h2 : w.cell? (ad.add 2) = some p.2.2) (k1 : p.2.1.oneCell' = true) (k2 : p.2.2.oneCell' = true) (hlen : ps.length <= 1000000000) (hbase : base <= w.heap.size)
  (h : ∀ v' w' b,zD2 T w' base v' (ps ++ [p]) -> Below base w w' -> Hid (zI5 w w' v v') -> a.put o.dst v' = b -> wpOps P ops Q rest b w') : wpOps P ops Q (i :: rest) a w :=
 qH9 ho hg (qP3 s x hop hT hI hs hown hx h0 h1 h2 k1 k2 hlen hbase fun v' w' r b k => h v' w' _ r b k rfl)
end
end Go.Proofs.YtagaabooccnamaaGreat.flow
namespace Go.Proofs.YtagaabooccnamaaGreat.rat
open Go.RowKit num mem nat txt str flow whl
theorem zI5.trans {w w1 w2 : World} {v v1 v2 : Value} (h : zI5 w w1 v v1) (k : zI5 w1 w2 v1 v2) : zI5 w w2 v v2:=by
 obtain ⟨a1,a2,a3⟩:=h
 obtain ⟨b1,b2,b3⟩:=k
 refine ⟨fun q u l hu hf => ?_,⟨b2.os.trans a2.os,b2.tape.trans a2.tape,b2.output.trans a2.output,zB4 a2.size b2.size,fun i hi hne => ?_⟩,fun g hg hne => b3 g (Nat.lt_of_lt_of_le hg a2.size) (a3 g hg hne)⟩
 ·have x:=a1 q u l hu hf
  exact b1 q u l x.1 x.2
 ·rw [b2.block i (Nat.lt_of_lt_of_le hi a2.size) (fun e => a3 i hi (fun e2 => hne e2.symm) e.symm),a2.block i hi hne]
theorem zI5.of_below {w w1 : World} (v : Value) (h : Below w.heap.size w w1) : zI5 w w1 v v :=
 ⟨fun q u l hu hf => ⟨hu.below h,hf⟩,⟨h.os,h.tape,h.output,h.size,fun i hi _ => h.block i hi⟩,fun g _ hne => hne⟩
theorem zL6.below {B B' : Nat} {ps : List Elt} (h : zL6 B ps) (hb : B' <= B) : zL6 B' ps:=fun p hp => ⟨(h p hp).1.mono hb,(h p hp).2.mono hb⟩
theorem zL6.far {B : Nat} {ps : List Elt} (h : zL6 B ps) {v : Value} (hv : ∀ g,v.ownBlock = some g -> g < B) : ∀ p ∈ ps,Far v p.2.1 /\ Far v p.2.2:=fun p hp => ⟨(h p hp).1.far hv,(h p hp).2.far hv⟩
theorem TabO.mid {k : IntKind} {B : Nat} {T : TypeId} {w w1 : World} {base g n c i : Nat} {TS : TypeId} {us : List Value} {pss : List (List Elt)} {u u' : Value} {ps : List Elt} (hT : T ≠ TS) (h : TabO k B T w base TS (.slice (some ⟨g,0,none⟩) n c) us pss) (hu : us[i]? = some u) (hps : pss[i]? = some ps) (hgr : zI5 w w1 u u') : zE7 w1 base TS (.slice (some ⟨g,0,none⟩) n c) us :=
 World.ownsRow.kept (row:=u.ownBlock) h.row hgr.2.1 (.inr fun e => (h.own i u ps hu hps).notRow h.row hT g e.symm rfl)
def RetApp (T : TypeId) (base : Nat) (a0 : Value) (ps : List Elt) (r : List Rat) (w : World) (e : Ending) (w' : World) : Prop:=∃ u new,e = .returned u /\ zD2 T w' base u (ps ++ new) /\ new.map (·.1) = r /\ zI5 w w' a0 u /\ zG5 .u64 4294967296 w' u new /\ zL6 w.heap.size new /\ Below base w w'
theorem yZ3 (a0 a1 : Value) (ps : List Elt) (r : List Rat) (w W : World) (h0 : zD2 83 W w.heap.size a0 ps) (h1 : SlF .u64 4294967296 w a1 r) (hb : Below w.heap.size w W) (hl : ps.length <= 1000 /\ r.length <= 1000 /\ ∀ x ∈ r,zC7 x 100000) :
  Calls Tryz.prog 111 #[a0,a1] W (RetApp 83 w.heap.size a0 ps r W):=by
 have bb : Below w.heap.size w w:=Below.refl _ _
 have sl1:=h1
 obtain ⟨A1,c1,rfl,hc1,hm1⟩:=h1.shape
 unfold maxLen at hm1
 have r0:=h0
 obtain ⟨A0,c0,rfl,hc0,hm0,_⟩:=h0.isVF
 have hbase : w.heap.size <= W.heap.size:=hb.size
 have hbl:=h0.base_le
 have HL:=Lib.hid hl
 have hps : ps.length <= 1000:=hl.1
 have hr2 : r.length <= 1000:=hl.2.1
 clear bb hl h0
 have bb : Below w.heap.size w W:=hb
 have bW : Below W.heap.size W W:=Below.refl _ _
 go_enter Tryz.func111,Tryz.ntmps111
 go_upto_region 1 with (fail)
 have hsz0:=bb.size
 have sB:=bb.size
 refine zC9 3 [Pd.eq (.slice A1 r.length c1),Pd.eq (.int .i64 ((r.length : Nat) : Int)),Pd.eq (.int .i64 0)] (by kernel_rfl) ?ob1 ?done1
 case ob1 =>
  refine zA (zC2 rfl (zB6 rfl) (zB8 rfl rfl) (fun _ _ h => h)) ?_
  refine zA (zM0 rfl (zB6 rfl) (zB7 (j:=0) (by kernel_rfl) rfl rfl) (fun _ _ hx => ⟨_,by rw [hx]; exact zM1 Tryz.underlying44 _ _ _ _,rfl⟩)) ?_
  refine zA (zC2 rfl (zB6 rfl) (zH7 _) (fun _ _ h => h)) ?_
  trivial
 case done1 =>
  refine fun w11 hb11 v0 h0 v1 h1 v2 h2 b hbf => ?_
  obtain rfl:=h0; obtain rfl:=h1; obtain rfl:=h2
  simp only [Act.put,zA0,zA2,zA1] at hbf
  subst hbf
  replace bb:=bb.trans (hb11.mono bb.size)
  have hsz11:=bb.size
  replace bW:=bW.trans (hb11.mono bW.size)
  refine zD ?_
  go_wp2
  go_loopw [0,9] (fun v0 v9 wr => ∃ (k : Nat) (new : List Elt),k <= r.length /\ zD2 83 wr w.heap.size v0 (ps ++ new) /\ Hid (new.map (·.1) = r.take k) /\ Hid (zI5 W wr (.slice A0 ps.length c0) v0) /\ zG5 .u64 4294967296 wr v0 new /\ zL6 W.heap.size new /\ Below w.heap.size w wr /\ v9 = .int .i64 (k : Int)) (fun _ v9 _ => r.length - (intOf v9).toNat)
  case atStart => exact ⟨0,[],by omega,by rw [List.append_nil]; exact r0.below bW,rfl,zI5.of_below _ bW,zG5.nil _ _ _ _,zL6.nil _,bb,rfl⟩
  case round =>
   obtain ⟨k,new,hk,hR,HM,HG,hF,hN,hbw,rfl⟩:=hrel
   clear bb bW
   have bb:=hbw
   clear hbw
   have hszr:=bb.size
   have hsW : W.heap.size <= wr.heap.size:=HG.out.2.1.size
   by_cases hlt : k < r.length
   ·have bl : Below wr.heap.size wr wr:=Below.refl _ _
    obtain ⟨AR,cR,hAR,_⟩:=hR.isVF
    subst hAR
    obtain ⟨x,hq1_⟩ : ∃ x,r[k]? = some x:=⟨_,zA3 hlt⟩
    obtain ⟨g1_,o1_,ue1,te1,hA1_,_,e10,e11,e12,es1,ed1⟩:=(sl1.below bb).at_ hq1_
    subst hA1_
    have HQ1:=Lib.hid hq1_
    clear hq1_
    obtain ⟨Ae1,ce1,rfl,_⟩:=id es1
    obtain ⟨De1,ee1,rfl,_⟩:=id ed1
    have ke1 : IsQ wr (.agg #[.bool (ngB x.num),.slice Ae1 (digs 4294967296 x.num.natAbs).length ce1,.slice De1 (digs 4294967296 x.den).length ee1]) x:=⟨_,_,rfl,es1,ed1⟩
    have lx : zC7 x 100000:=HL.out.2.2 x (zA5 HQ1.out)
    have HNL : Hid (new.length = k):=by
     have h:=congrArg List.length HM.out
     rw [zA9,List.length_take] at h
     show _ = _
     omega
    have sB:=bb.size
    go_upto_region 3 with (fail)
    refine zC9 3 [Pd.eq (.pointer (some ⟨g1_,o1_ + k * 3,none⟩)),Pd.eq (.agg #[.bool (ngB x.num),.slice Ae1 (digs 4294967296 x.num.natAbs).length ce1,.slice De1 (digs 4294967296 x.den).length ee1]),pn 83 #[.bool false,.slice none 0 0,.slice none 0 0] wr.heap.size] (by kernel_rfl) ?ob2 ?done2
    case ob2 =>
     refine zA (zK5 rfl (zB6 rfl) (zB8 rfl rfl) (zB8 rfl rfl) (fun _ _ _ hx hy => ⟨_,by rw [hx,hy]; exact zK Tryz.underlying44 (by kernel_rfl) hlt _,rfl⟩)) ?_
     refine zA (zC rfl (zB6 rfl) (zB7 (j:=0) (by kernel_rfl) rfl rfl) (fun w2 hb => zT0 Tryz.underlying83 rfl (by kernel_rfl) ((hb.cell (World.block_lt_of_cell? wr _ e10)).trans e10) ((hb.cell (World.block_lt_of_cell? wr _ e11)).trans e11) ((hb.cell (World.block_lt_of_cell? wr _ e12)).trans e12)) (fun _ _ => rfl)) ?_
     refine zA (zN6 (z:=.agg #[.bool false,.slice none 0 0,.slice none 0 0]) rfl rfl (fun _ => by kernel_rfl) (fun _ _ hB h => ⟨_,rfl,hB,h⟩)) ?_
     trivial
    case done2 =>
     refine fun w13 hb13 v0 h0 v1 h1 v2 h2 d2 b hbf => ?_
     obtain rfl:=h0; obtain rfl:=h1
     obtain ⟨g2_2,rfl,hg2,B2⟩:=h2
     simp only [Act.put,zA0,zA2,zA1] at hbf
     subst hbf
     replace es1:=es1.below hb13
     replace ed1:=ed1.below hb13
     replace bb:=bb.trans (hb13.mono bb.size)
     have hsz13:=bb.size
     replace bl:=bl.trans (hb13.mono bl.size)
     have BA6:=B2
     have q1:=es1
     have d1:=ed1
     refine zG8 (i:=3) rfl rfl rfl rfl rfl rfl (cells:=[.bool (ngB (x).num),.slice Ae1 (digs 4294967296 (x).num.natAbs).length ce1,.slice De1 (digs 4294967296 (x).den).length ee1]) rfl BA6 rfl (by kernel_rfl) (zI3 rfl rfl rfl) fun w14 hg14 BN14 => ?_
     replace q1:=off q1 BA6 zE hg14
     replace d1:=off d1 BA6 zE hg14
     replace bb:=bb.trans ((Below.refl _ _).grown hg14 bb.size (fun g hg => by injection hg with hg; omega))
     have hsz14:=bb.size
     have Be1 : Blk w14 (g2_2) _ _:=BN14
     have ke1s:=q1
     have ke1d:=d1
     have ke1z : IsZ w14 (.agg #[.bool (ngB (x).num),.slice Ae1 (digs 4294967296 (x).num.natAbs).length ce1]) ((x).num):=⟨_,rfl,ke1s⟩
     have ke1 : IsQ w14 (.agg #[.bool (ngB (x).num),.slice Ae1 (digs 4294967296 (x).num.natAbs).length ce1,.slice De1 (digs 4294967296 (x).den).length ee1]) (x):=⟨_,_,rfl,ke1s,ke1d⟩
     refine zD ?_
     replace bl:=bl.trans ((Below.refl _ _).grown hg14 bl.size (fun g hg => by injection hg with hg; omega))
     have nR:=(hR.below bl).under
     have hsl:=bl.size
     have sB:=bb.size
     go_upto_region 4 with (fail)
     refine zC9 4 [Pd.eq (.slice AR (ps ++ new).length cR),Pd.eq (.agg #[.bool (ngB (x).num),.slice Ae1 (digs 4294967296 (x).num.natAbs).length ce1,.slice De1 (digs 4294967296 (x).den).length ee1]),pq (x) w14.heap.size,pone (pq (x) w14.heap.size)] (by kernel_rfl) ?ob3 ?done3
     case ob3 =>
      refine zA (zC2 rfl (zB6 rfl) (zB8 rfl rfl) (fun _ _ h => h)) ?_
      refine zA (zC rfl (zB6 rfl) (zB8 rfl rfl) (fun w2 hb => zF8 Tryz.underlying83 rfl (by kernel_rfl) (Be1.below hb)) (fun _ _ => rfl)) ?_
      refine zA (zF rfl Tryz.func145 (by kernel_rfl) (zB6 rfl) (zB7 (j:=1) (by kernel_rfl) rfl rfl) (fun w2 u0 hb h0 => by obtain rfl:=h0; exact (yZ0 _ x _ (ke1.below hb) lx).mono fun e w3 h => RetQ.pd h hb.size)) ?_
      refine zA (yD4 (φ:=pq (x) w14.heap.size) rfl rfl (zB7 (j:=2) (by kernel_rfl) rfl rfl) Tryz.underlying44 zU8 (fun w v h => ⟨h,by obtain ⟨⟨u,t,rfl,hu,ht⟩,_⟩:=h; obtain ⟨_,_,rfl,_⟩:=id hu; obtain ⟨_,_,rfl,_⟩:=id ht; exact ⟨_,_,_,rfl,rfl,rfl,rfl⟩⟩) (fun _ _ h => h)) ?_
      trivial
     case done3 =>
      refine fun w15 hb15 v0 h0 v1 h1 v2 h2 v3 h3 b hbf => ?_
      obtain rfl:=h0; obtain rfl:=h1
      obtain ⟨q2,f2⟩:=h2
      obtain ⟨g3_,x3,y3,z3,rfl,c30,c31,c32,K3⟩:=h3
      simp only [Act.put,zA0,zA2,zA1] at hbf
      subst hbf
      replace Be1:=Be1.below hb15
      replace ke1s:=ke1s.below hb15
      replace ke1d:=ke1d.below hb15
      replace ke1z:=ke1z.below hb15
      replace ke1:=ke1.below hb15
      replace bb:=bb.trans (hb15.mono bb.size)
      have hsz15:=bb.size
      replace bl:=bl.trans (hb15.mono bl.size)
      have s_2:=sB
      have hR4:=hR.below bl
      have hF4:=hF.below bl
      have hsz4:=bb.size
      have HL8 : Hid ((ps ++ new).length <= 1000000000):=by show _ <= _; rw [zA8,HNL.out]; omega
      obtain ⟨⟨uE,tE,eE,sE,dE⟩,fE⟩:=K3
      obtain ⟨rfl,rfl,rfl⟩ : x3 = .bool (ngB (x).num) /\ y3 = uE /\ z3 = tE:=by injection eE with eE; simpa using eE
      clear eE
      obtain ⟨AE,cE,rfl,_⟩:=id sE
      obtain ⟨DE,rE,rfl,_⟩:=id dE
      refine yZ2 (i:=4) (.tmp 13) (.tmp 16) rfl rfl rfl Tryz.underlying44 zU8 (p:=(x,.slice AE (digs 4294967296 (x).num.natAbs).length cE,.slice DE (digs 4294967296 (x).den).length rE)) (ps:=(ps ++ new)) rfl hR4 rfl c30 c31 c32 rfl rfl HL8.out hsz4 fun v8 w8 b8 row8 bb8 HK8 hb8 => ?_
      simp only [Act.put,zA0,zA2,zA1] at hb8
      subst hb8
      have EC : IsE .u64 4294967296 w15 ((x,.slice AE (digs 4294967296 (x).num.natAbs).length cE,.slice DE (digs 4294967296 (x).den).length rE) : Elt):=⟨sE,dE⟩
      have F8:=hF4.snoc HK8.out.1 EC ((fE _ _ _ rfl).1.far nR) ((fE _ _ _ rfl).2.far nR)
      have NN8:=hN.snoc ((fE _ _ _ rfl).1.mono (show W.heap.size <= _ by omega)) ((fE _ _ _ rfl).2.mono (show W.heap.size <= _ by omega)) (p:=(x,.slice AE (digs 4294967296 (x).num.natAbs).length cE,.slice DE (digs 4294967296 (x).den).length rE))
      refine zP7 (i:=5) (v8) rfl rfl rfl rfl rfl fun b hbf => ?_
      simp only [Act.put,zA0,zA2,zA1] at hbf
      subst hbf
      refine zD ?_
      have HM8 : Hid ((new ++ [((x,.slice AE (digs 4294967296 (x).num.natAbs).length cE,.slice DE (digs 4294967296 (x).den).length rE) : Elt)]).map (·.1) = r.take (k + 1)):=by
       show _ = _
       rw [List.map_append,HM.out,qA3 HQ1.out]
       rfl
      have HG8 : Hid (zI5 W w8 (.slice A0 ps.length c0) v8):=(HG.out.trans (zI5.of_below _ bl)).trans HK8.out
      have b8:=bb.trans bb8
      rw [List.append_assoc] at row8
      clear HK8 EC fE hR hF hR4 hF4 hN
      have hsk : r.length - (k + 1) < r.length - k:=by omega
      go_wp2
      go_roundw
      case rel => exact ⟨k + 1,_,by omega,row8,HM8,HG8,F8,NN8,b8,by go_num⟩
      case measure => simp [intOf]; omega
   ·have HME : Hid (new.map (·.1) = r):=by show _ = _; rw [HM.out,zA7 (by omega)]
    have hbW : Below w.heap.size W wr:=(Below.refl _ W).grown HG.out.2.1 hbase hbl
    clear HM
    go_wp2
    go_ret
    exact ⟨_,new,rfl,hR,HME.out,HG.out,hF,hN,hbW⟩
abbrev qA7 (w : World) (base : Nat) (V : Value) (us : List Value) (pss : List (List Elt)) : Prop:=TabO .u64 4294967296 83 w base 44 V us pss
def RetJoin (base g n c : Nat) (J : List (List Rat)) (w : World) (e : Ending) (w' : World) : Prop:=∃ us pss,e = .returned (.slice (some ⟨g,0,none⟩) n c) /\ qA7 w' base (.slice (some ⟨g,0,none⟩) n c) us pss /\ zG1 pss = J /\ us.length = n /\ Below base w w'
theorem yZ4 (g n c : Nat) (a1 : Value) (us : List Value) (pss : List (List Elt)) (t : List (List Rat)) (w W : World) (h0 : qA7 W w.heap.size (.slice (some ⟨g,0,none⟩) n c) us pss) (h1 : SlT .u64 4294967296 w a1 t) (hb : Below w.heap.size w W) (hu : us.length = n) (ht : t.length = n) (hgw : w.heap.size <= g)
  (hl : (∀ r ∈ zG1 pss,r.length <= 1000) /\ (∀ r ∈ t,r.length <= 1000) /\ zI6 t 100000) :
  Calls Tryz.prog 66 #[.slice (some ⟨g,0,none⟩) n c,a1] W (RetJoin w.heap.size g n c (zE4 (zG1 pss) t) W):=by
 have st1:=h1
 obtain ⟨A1,c1,rfl,hc1,hm1⟩:=h1.shape
 unfold maxLen at hm1
 have HL:=Lib.hid hl
 have HTN:=Lib.hid ht
 have HUN:=Lib.hid hu
 have HPT : Hid ((zG1 pss).length = t.length):=by show _ = _; rw [yE6,<- h0.len,hu,ht]
 clear hl ht hu
 go_enter Tryz.func66,Tryz.ntmps66
 go_wp2
 go_loopw [9] (fun v9 wr => ∃ (k : Nat) (us' : List Value) (pss' : List (List Elt)),k <= t.length /\ qA7 wr w.heap.size (.slice (some ⟨g,0,none⟩) n c) us' pss' /\ Hid (zG1 pss' = jst (zG1 pss) t k) /\ us'.length = n /\ Below w.heap.size W wr /\ v9 = .int .i64 (k : Int)) (fun v9 _ => t.length - (intOf v9).toNat)
 case atStart => exact ⟨0,us,pss,by omega,h0,by show _ = _; rw [yU9],HUN.out,Below.refl _ _,rfl⟩
 case round =>
  obtain ⟨k,us',pss',hk,hT,HJ,hul,hbW,rfl⟩:=hrel
  have HUL:=Lib.hid hul
  clear hul
  have bb : Below w.heap.size w wr:=hb.trans hbW
  by_cases hlt : k < t.length
  ·have hnt : t ≠ []:=List.length_pos_iff.1 (by omega)
   obtain ⟨x,hx⟩ : ∃ x,t[k]? = some x:=⟨_,zA3 hlt⟩
   have HX:=Lib.hid hx
   have hxm:=zA5 hx
   obtain ⟨ad,rfl⟩:=st1.place hnt
   obtain ⟨Ax,cx,hi,ewx,srx⟩:=st1.at2 hx
   have ecx:=(bb.cell (World.block_lt_of_cell? w _ ewx)).trans ewx
   have hkn : k < n:=by have:=HTN.out; omega
   obtain ⟨u,hu'⟩ : ∃ u,us'[k]? = some u:=⟨_,zA3 (by have:=HUL.out; omega)⟩
   obtain ⟨ps,hps⟩ : ∃ ps,pss'[k]? = some ps:=⟨_,zA3 (by rw [<- hT.len]; have:=HUL.out; omega)⟩
   have HU:=Lib.hid hu'
   have HPS:=Lib.hid hps
   obtain ⟨p,hp⟩ : ∃ p,(zG1 pss)[k]? = some p:=⟨_,zA3 (by rw [HPT.out]; exact hlt)⟩
   have HP : Hid (ps.map (·.1) = p):=by
    have h2:=valq_at hps
    rw [HJ.out,jst_at HPT.out hp] at h2
    exact (Option.some.inj h2).symm
   have HJ2 : Hid ((jst (zG1 pss) t k).set k (p ++ x) = jst (zG1 pss) t (k + 1)):=jst_set HPT.out hp hx
   have hpl : ps.length <= 1000:=by
    have h2:=congrArg List.length HP.out
    rw [zA9] at h2
    rw [h2]
    exact HL.out.1 p (zA5 hp)
   have hown:=hT.own k u ps hu' hps
   have lxl : x.length <= 1000:=HL.out.2.1 x hxm
   have lx : ∀ y ∈ x,zC7 y 100000:=HL.out.2.2 x hxm
   have hcell:=hT.cell hu'
   obtain ⟨Au,cu,eu,hcu⟩:=hown.isVF
   subst eu
   have HT:=Lib.hid hT
   clear hx hxm hu' hps hp hT
   go_wp2_with fail
   refine (yZ3 _ _ ps x w wr hown srx bb ⟨hpl,lxl,lx⟩).mono ?_
   rintro e w2 ⟨u2,new,rfl,hrow,hmap,hgr,hfar,hnew,b2⟩
   have hV:=HT.out.mid (by decide) HU.out HPS.out hgr
   have hc2:=hV.cellAt HU.out
   have hf2:=hV.frozenAt k
   have hT2:=HT.out.put (by decide) HU.out HPS.out hrow hgr hfar (fun v hv q hq => by
    have h2:=HT.out.farNew ((hnew q hq).1)
    have h3:=HT.out.farNew ((hnew q hq).2)
    exact ⟨h2.1 v hv,h3.1 v hv⟩) (fun q hq => ⟨(HT.out.farNew ((hnew q hq).1)).2,(HT.out.farNew ((hnew q hq).2)).2⟩)
   obtain ⟨A2,c2,e2,hc2'⟩:=hrow.isVF
   rw [zA8] at e2
   subst e2
   have HJ3 : Hid (zG1 (pss'.set k (ps ++ new)) = jst (zG1 pss) t (k + 1)):=by
    show _ = _
    rw [yY1,HJ.out,List.map_append,HP.out,hmap,HJ2.out]
   have hul2 : (us'.set k (.slice A2 (ps.length + new.length) c2)).length = n:=by rw [zB2]; exact HUL.out
   have hb3:=(hbW.trans b2).setCell (p:=⟨g,k,none⟩) hgw (.slice A2 (ps.length + new.length) c2)
   have hsk : t.length - (k + 1) < t.length - k:=by omega
   clear hrow hgr hfar hnew hV hown ecx hcell
   go_wp2
   go_roundw
   case rel => exact ⟨k + 1,_,_,by omega,hT2,HJ3,hul2,hb3,by go_num⟩
   case measure => simp [intOf]; omega
  ·have HJE : Hid (zG1 pss' = zE4 (zG1 pss) t):=by show _ = _; rw [HJ.out,yV HPT.out (by omega)]
   go_wp2
   go_ret
   exact ⟨us',pss',rfl,hT,HJE.out,HUL.out,hbW⟩
theorem heap_setCell {w : World} {g i : Nat} {u : Value} {cs : Array Value} {e : TypeId} (h : w.heap[g]? = some (.cells cs e (0,0))) : (w.setCell ⟨g,i,none⟩ u).heap[g]? = some (.cells (cs.setIfInBounds i u) e (0,0)):=by
 simp [World.setCell,Array.getElem?_modify,h]
theorem zE0.stored {k : IntKind} {B : Nat} {w : World} {g : Nat} {TS : TypeId} {us : List Value} {t : List (List Rat)} (h : zE0 k B w g TS us t) (i : Nat) {u : Value} {r : List Rat} (hu : SlF k B w u r) : zE0 k B (w.setCell ⟨g,i,none⟩ u) g TS (us.set i u) (t.set i r):=h.put (zF0 w g i u) (heap_setCell h.1.1) hu
theorem zE0.cellAt {k : IntKind} {B : Nat} {w : World} {g : Nat} {TS : TypeId} {us : List Value} {t : List (List Rat)} (h : zE0 k B w g TS us t) {i : Nat} (hi : i < t.length) : ∃ u,w.cell? ⟨g,i,none⟩ = some u:=by
 have hu : us[i]? = some (us[i]'(by rw [h.2.1]; exact hi)):=zA3 _
 have:=h.1.cell hu
 rw [zQ0] at this
 exact ⟨_,this⟩
theorem zE0.frozenAt {k : IntKind} {B : Nat} {w : World} {g : Nat} {TS : TypeId} {us : List Value} {t : List (List Rat)} (h : zE0 k B w g TS us t) (i : Nat) : w.frozen? ⟨g,i,none⟩ = false:=h.1.1.frozen i
theorem yF0 (n : Int) (hn : n ≠ 0) {w w' : World} (hb : Below w.heap.size w w') : qE5 [] n w (.returned (.tuple #[.slice none 0 0,.int .i64 n])) w':=⟨_,rfl,by rw [if_neg hn]; exact slT_nil _ _ _,hb⟩
theorem yZ5 {α β : Type} (f : α -> β -> α) (a : α) {l : List β} {j : Nat} {x : β} (h : l[j]? = some x) : (l.take (j + 1)).foldl f a = f ((l.take j).foldl f a) x:=by
 rw [List.take_add_one,h]
 simp [List.foldl_append]
def zT4 (n : Nat) (ts : List (List (List Rat))) : Prop:=∀ t ∈ ts,zH2 t /\ t.length = n
theorem yF1 {n j : Nat} {ts : List (List (List Rat))} {t : List (List Rat)} (h : ts[j]? = some t) : zN9 n (ts.take (j + 1)) = zE4 (zN9 n (ts.take j)) t:=yZ5 zE4 _ h
theorem yF2 {α : Type} {P t : List (List α)} {r : List α} (h : r ∈ zE4 P t) : ∃ p ∈ P,∃ q ∈ t,r = p ++ q:=by
  obtain ⟨i,hi⟩:=List.mem_iff_getElem?.1 h
  unfold zE4 at hi
  rw [List.getElem?_zipWith] at hi
  cases hp : P[i]? with
  | none => rw [hp] at hi; cases hi
  | some p =>
    cases hq : t[i]? with
    | none => rw [hp,hq] at hi; cases hi
    | some q =>
      rw [hp,hq] at hi
      obtain rfl : p ++ q = r:=by simpa using hi
      exact ⟨p,zA5 hp,q,zA5 hq,rfl⟩
theorem yZ6 {l : List Nat} {j x : Nat} (h : l[j]? = some x) : (l.take (j + 1)).sum = (l.take j).sum + x:=by
 rw [List.take_add_one,h]; simp
theorem sum_take_le : ∀ (l : List Nat) (j : Nat),(l.take j).sum <= l.sum
 | [],j => by simp
 | x :: l,0 => by simp
 | x :: l,j + 1 => by have:=sum_take_le l j; simp; omega
def RetTO (n : Nat) (t : List (List Rat)) (w : World) (e : Ending) (w' : World) : Prop:=∃ g us pss,e = .returned (.tuple #[.slice (some ⟨g,0,none⟩) n n,.int .i64 0]) /\ qA7 w' w.heap.size (.slice (some ⟨g,0,none⟩) n n) us pss /\ zG1 pss = t /\ us.length = n /\ w.heap.size <= g /\ Below w.heap.size w w'
theorem yF3 (a0 : Value) (ts : List (List (List Rat))) (t0 : List (List Rat)) (w : World) (h0 : zN w a0 ts) (ht0 : ts[0]? = some t0) (hl : ts.length <= 3 /\ (ts.map zD3).sum <= 200 /\ (∀ t ∈ ts,zI6 t 100000) /\ t0.length <= 200) :
    Calls Tryz.prog 32 #[a0] w (fun e w' => (zT4 t0.length ts /\ RetTO t0.length (zN9 t0.length ts) w e w') \/ (¬ zT4 t0.length ts /\ qE5 [] 8 w e w')):=by
  have st0:=h0
  obtain ⟨A0,c0,rfl,hc0⟩:=h0.shape
  have HL:=Lib.hid hl
  have hl3 : ts.length <= 3:=hl.1
  have hpos : 0 < ts.length:=(zA4.1 ht0).1
  have hn : ts ≠ []:=List.length_pos_iff.1 hpos
  have hneb : (((ts.length : Nat) : Int) == 0) = false:=by rw [beq_eq_false_iff_ne]; omega
  have hne0 : ¬ ((ts.length : Nat) : Int) = 0:=by omega
  have ht02 : t0.length <= 200:=hl.2.2.2
  obtain ⟨ad,rfl⟩:=st0.place hn
  obtain ⟨At0,ct0,hit0,ew0,stt0⟩:=st0.at2 ht0
  have ead : ad.add 0 = ad:=by simp [Addr.add]
  rw [ead] at ew0
  have HT0:=Lib.hid ht0
  clear hl ht0
  go_enter Tryz.func32,Tryz.ntmps32
  go_wp2
  go_loopw [4,14] (fun v4 v14 wr => ∃ k S : Nat,k <= ts.length /\ Hid (∀ (i : Nat) (t : List (List Rat)),i < k -> ts[i]? = some t -> zH2 t /\ t.length = t0.length) /\ Hid (S = ((ts.map zD3).take k).sum) /\ Below w.heap.size w wr /\ v4 = .int .i64 (S : Int) /\ v14 = .int .i64 (k : Int)) (fun _ v14 _ => ts.length - (intOf v14).toNat)
  case atStart => exact ⟨0,0,by omega,(by show ∀ i,_; intro i t hi; omega),rfl,Below.refl _ _,rfl,rfl⟩
  case round =>
    obtain ⟨k,S,hk,HA,HS,bb,rfl,rfl⟩:=hrel
    have ec0:=(bb.cell (World.block_lt_of_cell? w _ ew0)).trans ew0
    by_cases hlt : k < ts.length
    · obtain ⟨t, ht⟩ : ∃ t, ts[k]? = some t := ⟨_, zA3 hlt⟩
      have HT:=Lib.hid ht
      obtain ⟨At,ct,hit,ect,stt⟩:=(st0.below bb).at2 ht
      have hS2 : ((ts.map zD3).take (k + 1)).sum = S + zD3 t:=by rw [yZ6 (x:=zD3 t) (by rw [zB1,ht]; rfl),HS.out]
      have hSle : S + zD3 t <= 200:=by
        have h1:=sum_take_le (ts.map zD3) (k + 1)
        have h2:=HL.out.2.1
        omega
      have HS2:=Lib.hid hS2.symm
      clear ht hS2
      go_wp2_with fail
      refine (qE8 _ t _ stt).mono ?_
      rintro e w2 ⟨rfl,b2⟩
      have bb2:=bb.trans (b2.mono bb.size)
      have stt2:=stt.below b2
      have hov : (S : Int) + ((zD3 t : Nat) : Int) <= 200:=by omega
      have hov2 : ¬ (200 : Int) < (S : Int) + ((zD3 t : Nat) : Int):=by omega
      clear ect stt b2
      by_cases hm : zH2 t
      · have HM:=Lib.hid hm
        clear hm
        go_wp2_with fail
        refine (qK1 _ t true _ stt2 (decide_eq_true HM.out).symm).mono ?_
        rintro e w3 ⟨rfl,b3⟩
        have bb3:=bb2.trans (b3.mono bb2.size)
        have ec3:=(bb3.cell (World.block_lt_of_cell? w _ ew0)).trans ew0
        clear stt2 b3
        by_cases hle : t.length = t0.length
        · have hne : (((t.length : Nat) : Int) != ((t0.length : Nat) : Int)) = false:=by rw [bne_eq_false_iff_eq,hle]
          have hne' : ((t.length : Nat) : Int) = ((t0.length : Nat) : Int):=by rw [hle]
          have HLE:=Lib.hid hle
          have HA2 : Hid (∀ (i : Nat) (t : List (List Rat)),i < k + 1 -> ts[i]? = some t -> zH2 t /\ t.length = t0.length):=by
            show ∀ i,_
            intro i t' hi h'
            by_cases e : i = k
            · subst e
              rw [HT.out] at h'
              injection h' with h'
              subst h'
              exact ⟨HM.out,HLE.out⟩
            · exact HA.out i t' (by omega) h'
          have hsk : ts.length - (k + 1) < ts.length - k:=by omega
          clear hle HA ec0
          go_wp2
          go_roundw
          case rel => exact ⟨k + 1,S + zD3 t,by omega,HA2,HS2,bb3,by go_num,by go_num⟩
          case measure => simp [intOf]; omega
        · have hne : (((t.length : Nat) : Int) != ((t0.length : Nat) : Int)) = true:=by rw [bne_iff_ne]; omega
          have hne' : ¬ ((t.length : Nat) : Int) = ((t0.length : Nat) : Int):=by omega
          have HN : Hid (¬ zT4 t0.length ts):=fun h => hle (h t (zA5 HT.out)).2
          clear hle HA ec0
          go_wp2
          go_ret2
          exact .inr ⟨HN.out,yF0 8 (by decide) bb3⟩
      · have HM:=Lib.hid hm
        clear hm
        go_wp2_with fail
        refine (qK1 _ t false _ stt2 (decide_eq_false HM.out).symm).mono ?_
        rintro e w3 ⟨rfl,b3⟩
        have bb3:=bb2.trans (b3.mono bb2.size)
        have HN : Hid (¬ zT4 t0.length ts):=fun h => HM.out (h t (zA5 HT.out)).1
        clear HA ec0
        go_wp2
        go_ret2
        exact .inr ⟨HN.out,yF0 8 (by decide) bb3⟩
    · obtain rfl : k = ts.length:=by omega
      have HB : Hid (zT4 t0.length ts):=fun t ht => by
        obtain ⟨i,hi⟩:=List.mem_iff_getElem?.1 ht
        exact HA.out i t (zA4.1 hi).1 hi
      clear HA HS
      go_wp2_with fail
      refine (yZ1 _ t0.length _ rfl (by omega)).mono ?_
      rintro e w4 ⟨g,rfl,TB,hg,b4⟩
      have bb4:=bb.trans (b4.mono bb.size)
      have hgw : w.heap.size <= g:=zB4 bb.size hg
      have hT0 : qA7 w4 w.heap.size _ _ _:=TB.owned hgw (by omega)
      have HV0 : Hid (zG1 (zB t0.length ([] : List Elt)) = zN9 t0.length (ts.take 0)):=by show _ = _; rw [yY2]; rfl
      have HU0 : Hid ((zB t0.length (Value.slice none 0 0)).length = t0.length):=by show _ = _; simp
      have HR0 : Hid (∀ r ∈ zN9 t0.length (ts.take 0),r.length <= 200 * 0):=by
        show ∀ r ∈ _,_
        intro r hr
        rw [(List.mem_replicate.1 (show r ∈ zB t0.length [] from hr)).2]
        exact zB3 _
      clear TB ec0 bb b4
      go_wp2
      go_loopw [9,52] (fun v9 v52 wr => ∃ (k : Nat) (us : List Value) (pss : List (List Elt)),k <= ts.length /\ qA7 wr w.heap.size (.slice (some ⟨g,0,none⟩) t0.length t0.length) us pss /\ Hid (zG1 pss = zN9 t0.length (ts.take k)) /\ Hid (us.length = t0.length) /\ Hid (∀ r ∈ zN9 t0.length (ts.take k),r.length <= 200 * k) /\ Below w.heap.size w wr /\ v9 = .slice (some ⟨g,0,none⟩) t0.length t0.length /\ v52 = .int .i64 (k : Int)) (fun _ v52 _ => ts.length - (intOf v52).toNat)
      case atStart => exact ⟨0,_,_,by omega,hT0,HV0,HU0,HR0,bb4,rfl,rfl⟩
      case round =>
        clear hT0 HV0 HU0 HR0 bb4
        obtain ⟨k,us,pss,hk,hT,HV,HU,HR,bb,rfl,rfl⟩:=hrel
        by_cases hlt : k < ts.length
        · obtain ⟨t,ht⟩ : ∃ t,ts[k]? = some t:=⟨_,zA3 hlt⟩
          have HT:=Lib.hid ht
          obtain ⟨At,ct,hit,ewt,stt⟩:=st0.at2 ht
          have ect:=(bb.cell (World.block_lt_of_cell? w _ ewt)).trans ewt
          have htm:=zA5 ht
          have HTB : Hid (zH2 t /\ t.length = t0.length):=HB.out t htm
          have HW : Hid (∀ r ∈ t,r.length <= 200):=fun r hr => by rw [HTB.out.1.2.2 r hr]; exact HTB.out.1.2.1
          have HLT : Hid (zI6 t 100000):=HL.out.2.2.1 t htm
          have HV2 : Hid (zE4 (zG1 pss) t = zN9 t0.length (ts.take (k + 1))):=by show _ = _; rw [yF1 ht,HV.out]
          have HR2 : Hid (∀ r ∈ zN9 t0.length (ts.take (k + 1)),r.length <= 200 * (k + 1)):=by
            show ∀ r ∈ _,_
            intro r hr
            rw [yF1 ht] at hr
            obtain ⟨p,hp,q,hq,rfl⟩:=yF2 hr
            have h1:=HR.out p hp
            have h2:=HW.out q hq
            rw [zA8]; omega
          clear ht htm ewt
          go_wp2_with fail
          refine (yZ4 g t0.length t0.length _ us pss t w _ hT stt bb HU.out HTB.out.2 hgw ⟨fun r hr => by rw [HV.out] at hr; have:=HR.out r hr; omega,fun r hr => zB4 (HW.out r hr) (by decide),HLT.out⟩).mono ?_
          rintro e w7 ⟨us7,pss7,rfl,T7,V7,L7,b7⟩
          have bb7:=bb.trans b7
          have HV7 : Hid (zG1 pss7 = zN9 t0.length (ts.take (k + 1))):=by show _ = _; rw [V7,HV2.out]
          have HU7:=Lib.hid L7
          have hsk : ts.length - (k + 1) < ts.length - k:=by omega
          clear hT HV HU HR stt ect V7 L7 b7
          go_wp2
          go_roundw
          case rel => exact ⟨k + 1,us7,pss7,by omega,T7,HV7,HU7,HR2,bb7,rfl,by go_num⟩
          case measure => simp [intOf]; omega
        · obtain rfl : k = ts.length:=by omega
          have HV2 : Hid (zG1 pss = zN9 t0.length ts):=by
            show _ = _
            rw [HV.out,zA7 (zB3 _)]
          clear HV HR
          go_wp2
          go_ret2
          exact .inl ⟨HB.out,g,us,pss,rfl,hT,HV2.out,HU.out,hgw,bb⟩
theorem yZ7 (a0 : Value) (ts : List (List (List Rat))) (t0 : List (List Rat)) (w : World) (h0 : zN w a0 ts) (ht0 : ts[0]? = some t0) (hl : ts.length <= 3 /\ (ts.map zD3).sum <= 200 /\ (∀ t ∈ ts,zI6 t 100000) /\ t0.length <= 200) :
  Calls Tryz.prog 32 #[a0] w (fun e w' => (zT4 t0.length ts /\ qE5 (zN9 t0.length ts) 0 w e w') \/ (¬ zT4 t0.length ts /\ qE5 [] 8 w e w')):=
 (yF3 a0 ts t0 w h0 ht0 hl).mono fun e w' h => by
  rcases h with ⟨h1,g,us,pss,rfl,hT,hV,hU,hg,hb⟩ | h
  ·have hS:=hT.slT
   rw [hV] at hS
   exact .inl ⟨h1,_,rfl,by rw [if_pos rfl]; exact hS,hb⟩
  ·exact .inr h
set_option maxRecDepth 100000
def klit (a b : Int) : Lit:=.string (keyBytes [.int .i64 a,.int .i64 b])
def I64 (a : Int) : Prop:=-9223372036854775808 <= a /\ a <= 9223372036854775807
def qv (p : Elt) : Value:=.agg #[.bool (ngB p.1.num),p.2.1,p.2.2]
structure MapD (D : DataW Value) (w : World) (T : List (List Rat)) : Prop where
 hit : ∀ (i j : Nat) (q : Rat),zV T i j = some q -> q ≠ 0 -> Maps.has D (klit i j) = true /\ ∃ p : Elt,(∀ z,D.atKey (klit i j) z = .held (qv p)) /\ p.1 = q /\ IsE .u64 4294967296 w p
 miss : ∀ a b : Int,I64 a -> I64 b -> (∀ (i j : Nat) (q : Rat),a = i -> b = j -> zV T i j = some q -> q = 0) -> Maps.has D (klit a b) = false
 cnt : Maps.size D = cntT T
theorem MapD.kept {D : DataW Value} {w w' : World} {T : List (List Rat)} (h : MapD D w T) (hk : ∀ p : Elt,IsE .u64 4294967296 w p -> IsE .u64 4294967296 w' p) : MapD D w' T :=
 ⟨fun i j q hq h0 => by obtain ⟨h1,p,h2,h3,h4⟩:=h.hit i j q hq h0; exact ⟨h1,p,h2,h3,hk p h4⟩,h.miss,h.cnt⟩
def IsM (w : World) (b : Nat) : Prop:=∃ es ck,w.heap[b]? = some (.map es ck)
theorem IsM.no_cell {w : World} {b : Nat} (h : IsM w b) {p : Addr} {v : Value} (hp : w.cell? p = some v) : some p.block ≠ some b:=by
 obtain ⟨es,ck,h1⟩:=h
 intro e
 injection e with e
 unfold World.cell? at hp
 rw [e,h1] at hp
 cases hp
theorem IsM.off {w w' : World} {b : Nat} (hm : IsM w b) {k : IntKind} {v : Value} {l : List Nat} (h : IsS w k v l) (hg : w.grownBy w' (some b)) : IsS w' k v l:=by
 obtain ⟨A,c,rfl,h1,h2,h3⟩:=h
 refine ⟨A,c,rfl,h1,h2,fun i d hd => ?_⟩
 obtain ⟨ad,rfl,hc⟩:=h3 i d hd
 exact ⟨ad,rfl,hg.cell hc (hm.no_cell hc)⟩
theorem zR6 {w : World} {g i : Nat} {t : TypeId} {cs : Array Value} (h : Blk w g t cs) (u : Value) : Blk (w.setCell ⟨g,i,none⟩ u) g t (cs.setIfInBounds i u):=by
 unfold Blk at h |-
 simp [World.setCell,Array.getElem?_modify,h]
theorem qK3 {w : World} {g : Nat} {t : TypeId} {a b c : Value} (h : Blk w g t #[a,b,c]) (x y z : Value) : Blk (((w.setCell ⟨g,0,none⟩ x).setCell ⟨g,1,none⟩ y).setCell ⟨g,2,none⟩ z) g t #[x,y,z]:=zR6 (zR6 (zR6 h x) y) z
def lenS (T : List (List Rat)) (m : Nat) : Prop:=∀ (i j : Nat) (q : Rat),zV T i j = some q -> zC7 q m
theorem lenS.mono {T : List (List Rat)} {m n : Nat} (h : lenS T m) (hn : m <= n) : lenS T n:=fun i j q hq => (h i j q hq).mono hn
theorem zI9 {w w2 w3 : World} {row : Option Nat} (hg : w.grownBy w2 row) (hb : Below w2.heap.size w2 w3) : w.grownBy w3 row :=
 ⟨hb.os.trans hg.os,hb.tape.trans hg.tape,hb.output.trans hg.output,zB4 hg.size hb.size,fun k hk hne => (hb.block k (Nat.lt_of_lt_of_le hk hg.size)).trans (hg.block k hk hne)⟩
theorem qK4 {w w2 : World} (hb : Below w.heap.size w w2) (row : Option Nat) : w.grownBy w2 row:=⟨hb.os,hb.tape,hb.output,hb.size,fun k hk _ => hb.block k hk⟩
theorem yF4 {x : Rat} : (zJ5 x.num 0 == 0) = decide (x = 0):=by
 by_cases h : x = 0
 ·rw [h,decide_eq_true rfl]; rfl
 ·rw [decide_eq_false h,beq_eq_false_iff_ne]
  intro e
  have hz : x.num ≠ 0:=fun k => h (Rat.num_eq_zero.1 k)
  rcases Int.lt_or_gt_of_ne hz with k | k
  ·rw [qC7 k] at e; cases e
  ·rw [qC8 k] at e; cases e
section
variable {w : World} {ops : Array Oper} {o : Oper} {a : Act} {K : Act -> World -> Prop} {Q : Exit -> Act -> World -> Prop} {E : Prop} {b R C i j : Nat} {T : List (List Rat)}
end
abbrev Cel:=Nat × Elt
def IsVC (w : World) (v : Value) (xs : List Cel) : Prop:=∃ A c,v = .slice A xs.length c /\ xs.length <= c /\ c <= maxLen /\ ∀ i x,xs[i]? = some x -> ∃ g o,A = some ⟨g,o,none⟩ /\ w.cell? ⟨g,o + i * 4,none⟩ = some (.int .i64 (x.1 : Int)) /\ w.cell? ⟨g,o + i * 4 + 1,none⟩ = some (.bool (ngB x.2.1.num)) /\ w.cell? ⟨g,o + i * 4 + 2,none⟩ = some x.2.2.1 /\ w.cell? ⟨g,o + i * 4 + 3,none⟩ = some x.2.2.2
theorem IsVC.below {w w' : World} {v : Value} {xs : List Cel} (h : IsVC w v xs) (hb : Below w.heap.size w w') : IsVC w' v xs:=by
 obtain ⟨A,c,e,h1,h2,h3⟩:=h
 refine ⟨A,c,e,h1,h2,fun i x hx => ?_⟩
 obtain ⟨g,o,e2,c0,c1,c2,c3⟩:=h3 i x hx
 exact ⟨g,o,e2,(hb.cell (World.block_lt_of_cell? w _ c0)).trans c0,(hb.cell (World.block_lt_of_cell? w _ c1)).trans c1,(hb.cell (World.block_lt_of_cell? w _ c2)).trans c2,(hb.cell (World.block_lt_of_cell? w _ c3)).trans c3⟩
def celq (x : Cel) : Nat × Rat:=(x.1,x.2.1)
def SlC (w : World) (v : Value) (l : List (Nat × Rat)) : Prop:=∃ xs : List Cel,xs.map celq = l /\ IsVC w v xs /\ ∀ x ∈ xs,IsE .u64 4294967296 w x.2
theorem SlC.below {w w' : World} {v : Value} {l : List (Nat × Rat)} (h : SlC w v l) (hb : Below w.heap.size w w') : SlC w' v l:=by
 obtain ⟨xs,e,h1,h2⟩:=h
 exact ⟨xs,e,h1.below hb,fun x hx => (h2 x hx).below hb⟩
theorem SlC.shape {w : World} {v : Value} {l : List (Nat × Rat)} (h : SlC w v l) : ∃ A c,v = .slice A l.length c /\ l.length <= c /\ c <= maxLen:=by
 obtain ⟨xs,rfl,⟨A,c,e,h1,h2,_⟩,_⟩:=h
 rw [zA9]
 exact ⟨A,c,e,h1,h2⟩
theorem yF5 : ∀ (l : List Value) (k : Nat) (x y z : Value),k + 3 <= l.length -> ((l.set k x).set (k + 1) y).set (k + 2) z = l.take k ++ [x,y,z] ++ l.drop (k + 3)
  | [],k,x,y,z,h => by simp at h
  | a :: l, k + 1, x, y, z, h => by
    have ih:=yF5 l k x y z (by simpa using h)
    rw [zA1,zA1,zA1,ih]
    simp
  | a :: l, 0, x, y, z, h => by
    match l,h with
    | b :: c :: l,_ => simp
    | [b],h => simp at h
    | [],h => simp at h
theorem yZ8 {w : World} {g n i : Nat} {qs : List Rat} {q : Rat} {u t : Value} (h : zD0 w g n qs) (hi : i < n) (hu : IsS w .u64 u (digs 4294967296 q.num.natAbs)) (ht : IsS w .u64 t (digs 4294967296 q.den)) :
  w.grownBy (((w.setCell ⟨g,0 + i * 3,none⟩ (.bool (ngB q.num))).setCell ⟨g,0 + i * 3 + 1,none⟩ u).setCell ⟨g,0 + i * 3 + 2,none⟩ t) (some g) /\ (i = qs.length -> zD0 (((w.setCell ⟨g,0 + i * 3,none⟩ (.bool (ngB q.num))).setCell ⟨g,0 + i * 3 + 1,none⟩ u).setCell ⟨g,0 + i * 3 + 2,none⟩ t) g n (qs ++ [q])) /\ (i < qs.length -> zD0 (((w.setCell ⟨g,0 + i * 3,none⟩ (.bool (ngB q.num))).setCell ⟨g,0 + i * 3 + 1,none⟩ u).setCell ⟨g,0 + i * 3 + 2,none⟩ t) g n (qs.set i q)):=by
 have hg : w.grownBy (((w.setCell ⟨g,0 + i * 3,none⟩ (.bool (ngB q.num))).setCell ⟨g,0 + i * 3 + 1,none⟩ u).setCell ⟨g,0 + i * 3 + 2,none⟩ t) (some g) :=
  ((zF0 w g (0 + i * 3) _).andThen (zF0 _ g (0 + i * 3 + 1) _) (fun j e => .inr e)).andThen (zF0 _ g (0 + i * 3 + 2) _) (fun j e => .inr e)
 have hsz : ∀ cs,Blk w g 83 cs -> cs.size = n * 3:=fun cs hcs => by
  obtain ⟨ps,h1,_,h3,_⟩:=h
  unfold Blk at h3 hcs
  rw [h3] at hcs
  injection hcs with hcs
  injection hcs with hcs
  rw [<- hcs,List.size_toArray,qE6,h1]
 refine ⟨hg,h.put hi hu ht hg fun cs hcs => ?_⟩
 have h1:=zR6 (zR6 (zR6 hcs (i:=0 + i * 3) (.bool (ngB q.num))) (i:=0 + i * 3 + 1) u) (i:=0 + i * 3 + 2) t
 have h2:=hsz cs hcs
 obtain ⟨l⟩:=cs
 have e : (((⟨l⟩ : Array Value).setIfInBounds (0 + i * 3) (.bool (ngB q.num))).setIfInBounds (0 + i * 3 + 1) u).setIfInBounds (0 + i * 3 + 2) t = (l.take (0 + i * 3) ++ [.bool (ngB q.num),u,t] ++ l.drop (0 + i * 3 + 3)).toArray:=by
  rw [<- yF5 l (0 + i * 3) (.bool (ngB q.num)) u t (by simp at h2; omega)]
  simp
 rw [e] at h1
 exact h1
theorem zD0.places {w : World} {g n i : Nat} {qs : List Rat} (h : zD0 w g n qs) (hi : i < n) : ∃ x y z,w.cell? ⟨g,0 + i * 3,none⟩ = some x /\ w.cell? ⟨g,0 + i * 3 + 1,none⟩ = some y /\ w.cell? ⟨g,0 + i * 3 + 2,none⟩ = some z /\ w.frozen? ⟨g,0 + i * 3,none⟩ = false /\ w.frozen? ⟨g,0 + i * 3 + 1,none⟩ = false /\ w.frozen? ⟨g,0 + i * 3 + 2,none⟩ = false:=by
 obtain ⟨ps,h1,h2,h3,h4,h5⟩:=h
 obtain ⟨f0,f1,f2⟩:=qI9 ps i _ (zA3 (by omega))
 rw [Nat.zero_add]
 exact ⟨_,_,_,by rw [h3.cell,List.getElem?_toArray]; exact f0,by rw [h3.cell,List.getElem?_toArray]; exact f1,by rw [h3.cell,List.getElem?_toArray]; exact f2,h3.frozen _,h3.frozen _,h3.frozen _⟩
theorem yZ9 {w : World} {g n i : Nat} {qs : List Rat} {q : Rat} {u t : Value} (h : zD0 w g n qs) (hi : i < n) (hu : IsS w .u64 u (digs 4294967296 q.num.natAbs)) (ht : IsS w .u64 t (digs 4294967296 q.den)) :
  w.grownBy (((w.setCell ⟨g,i * 3,none⟩ (.bool (ngB q.num))).setCell ⟨g,i * 3 + 1,none⟩ u).setCell ⟨g,i * 3 + 2,none⟩ t) (some g) /\ (i = qs.length -> zD0 (((w.setCell ⟨g,i * 3,none⟩ (.bool (ngB q.num))).setCell ⟨g,i * 3 + 1,none⟩ u).setCell ⟨g,i * 3 + 2,none⟩ t) g n (qs ++ [q])) /\ (i < qs.length -> zD0 (((w.setCell ⟨g,i * 3,none⟩ (.bool (ngB q.num))).setCell ⟨g,i * 3 + 1,none⟩ u).setCell ⟨g,i * 3 + 2,none⟩ t) g n (qs.set i q)):=by
 have h1:=yZ8 h hi hu ht
 rw [Nat.zero_add] at h1
 exact h1
theorem zD0.place {w : World} {g n i : Nat} {qs : List Rat} (h : zD0 w g n qs) (hi : i < n) : ∃ x y z,w.cell? ⟨g,i * 3,none⟩ = some x /\ w.cell? ⟨g,i * 3 + 1,none⟩ = some y /\ w.cell? ⟨g,i * 3 + 2,none⟩ = some z /\ w.frozen? ⟨g,i * 3,none⟩ = false /\ w.frozen? ⟨g,i * 3 + 1,none⟩ = false /\ w.frozen? ⟨g,i * 3 + 2,none⟩ = false:=by
 have h1:=h.places hi
 rw [Nat.zero_add] at h1
 exact h1
theorem indexN {P : Program} {t e : TypeId} (hu : P.underlying t = some (.slice e)) (hs : (P.info? e).map (·.size) = some 3) {g n c k : Nat} (hk : k < n) (w : World) : (Instr.indexAt t (.slice (some ⟨g,0,none⟩) n c) (.int .i64 (k : Int))).run P w = .ok (.pointer (some ⟨g,k * 3,none⟩)) w:=by
 have h:=zK (P:=P) hu hs (g:=g) (o:=0) (c:=c) hk w
 rw [Nat.zero_add] at h
 exact h
theorem zD0.away {w w' : World} {g g2 n n2 : Nat} {qs qs2 : List Rat} (h : zD0 w g n qs) (h2 : zD0 w g2 n2 qs2) (hg : w.grownBy w' (some g2)) (hne : g ≠ g2) : zD0 w' g n qs:=by
 obtain ⟨ps,h1,_,h3,h4,_⟩:=h2
 exact h.offb h3 (yE h4) hg hne
end Go.Proofs.YtagaabooccnamaaGreat.rat
namespace Go.Proofs.YtagaabooccnamaaGreat.rat
open Go.RowKit Go.ChangeShapes Go.WideShapes Go.ChangeAt Go.Joins Go.Deep num mem nat txt str flow whl
def qE9 (w : World) (v : Value) : Prop:=∃ A n c,v = .slice A n c /\ n <= c /\ c <= maxLen /\ ∀ i,i < n -> ∃ ad u,A = some ad /\ w.cell? (ad.add i) = some u /\ zT3 w u
theorem qE9.below {w w' : World} {v : Value} (h : qE9 w v) (hb : Below w.heap.size w w') : qE9 w' v:=by
 obtain ⟨A,n,c,e,h1,h2,h3⟩:=h
 refine ⟨A,n,c,e,h1,h2,fun i hi => ?_⟩
 obtain ⟨ad,u,a1,e0,k⟩:=h3 i hi
 exact ⟨ad,u,a1,(hb.cell (World.block_lt_of_cell? w _ e0)).trans e0,zT3.below k hb⟩
end Go.Proofs.YtagaabooccnamaaGreat.rat
namespace Go.Proofs.YtagaabooccnamaaGreat.rat
open Go.RowKit num mem nat txt str flow whl
theorem zD2.weak {T : TypeId} {w : World} {base base' : Nat} {v : Value} {ps : List Elt} (h : zD2 T w base v ps) (hb : base' <= base) : zD2 T w base' v ps:=by
 refine ⟨h.1,?_⟩
 rcases h.2 with h2 | ⟨g,cap,cur,e,h1,h2⟩
 ·exact .inl h2
 ·exact .inr ⟨g,cap,cur,e,zB4 hb h1,h2⟩
theorem yF6 : ∀ (ps : List Elt) (m : Nat),zE6 (ps.take m) = (zE6 ps).take (m * 3)
  | [],m => by simp [zE6]
  | p :: ps,0 => by simp [zE6]
  | p :: ps, m + 1 => by
    rw [List.take_succ_cons,zX5,zX5,yF6 ps m,show (m + 1) * 3 = m * 3 + 3 from by omega,List.take_append,qR0,zA7 (l:=zJ9 p) (by rw [qR0]; omega),Nat.add_sub_cancel]
theorem zD2.take {T : TypeId} {w : World} {base n c m : Nat} {A : Option Addr} {ps : List Elt} (h : zD2 T w base (.slice A n c) ps) (hm : m <= ps.length) : zD2 T w base (.slice A m c) (ps.take m):=by
 have hl : (ps.take m).length = m:=by rw [List.length_take]; omega
 unfold zD2
 rw [hl]
 refine ⟨by rw [qE6,hl],?_⟩
 rcases h.2 with ⟨e,h0⟩ | ⟨g,cap,cur,e,h1,h2,h3,h4,h5,h6⟩
 ·injection e with e1 e2 e3
  subst e1; subst e3
  have : m = 0:=by omega
  subst this
  exact .inl ⟨rfl,rfl⟩
 ·injection e with e1 e2 e3
  subst e1; subst e3
  refine .inr ⟨g,c,cur,rfl,h1,h2,by omega,h4,h5,?_⟩
  rw [yF6,<- h6,List.take_take,Nat.min_eq_left (by omega)]
structure TabK (T : TypeId) (w : World) (base : Nat) (TS : TypeId) (V : Value) (us : List Value) (pss : List (List Elt)) : Prop where
 row : zE7 w base TS V us
 len : us.length = pss.length
 own : ∀ (i : Nat) (u : Value) (ps : List Elt),us[i]? = some u -> pss[i]? = some ps -> zD2 T w base u ps
 apart : ∀ (i j : Nat) (u v : Value),i ≠ j -> us[i]? = some u -> us[j]? = some v -> ∀ h,u.ownBlock = some h -> v.ownBlock ≠ some h
theorem TabO.k {k : IntKind} {B : Nat} {T : TypeId} {w : World} {base : Nat} {TS : TypeId} {V : Value} {us : List Value} {pss : List (List Elt)} (h : TabO k B T w base TS V us pss) : TabK T w base TS V us pss:=⟨h.row,h.len,h.own,h.apart⟩
theorem zE7.kept {w w' : World} {base : Nat} {TS : TypeId} {V : Value} {us : List Value} {row : Option Nat} (h : zE7 w base TS V us) (hg : w.grownBy w' row) (hV : ∀ g,V.ownBlock = some g -> row ≠ some g) : zE7 w' base TS V us :=
 World.ownsRow.kept (row:=row) h hg (by
  cases hv : V.ownBlock with
  | none => exact .inl rfl
  | some g => exact .inr fun e => hV g hv e.symm)
theorem TabK.kept {T : TypeId} {w w' : World} {base : Nat} {TS : TypeId} {V : Value} {us : List Value} {pss : List (List Elt)} {row : Option Nat} (h : TabK T w base TS V us pss) (hg : w.grownBy w' row) (hV : ∀ g,V.ownBlock = some g -> row ≠ some g) (hu : ∀ u ∈ us,∀ g,u.ownBlock = some g -> row ≠ some g) : TabK T w' base TS V us pss :=
 ⟨zE7.kept h.row hg hV,h.len,fun i u ps hi hp => (h.own i u ps hi hp).other hg (fun g e => hu u (zA5 hi) g e),h.apart⟩
theorem TabK.below {T : TypeId} {w w' : World} {base : Nat} {TS : TypeId} {V : Value} {us : List Value} {pss : List (List Elt)} (h : TabK T w base TS V us pss) (hb : Below w.heap.size w w') : TabK T w' base TS V us pss :=
 ⟨h.row.below hb,h.len,fun i u ps hi hp => (h.own i u ps hi hp).below hb,h.apart⟩
theorem TabO.kept {k : IntKind} {B : Nat} {T : TypeId} {w w' : World} {base : Nat} {TS : TypeId} {V : Value} {us : List Value} {pss : List (List Elt)} {row : Option Nat} (h : TabO k B T w base TS V us pss) (hg : w.grownBy w' row) (hV : ∀ g,V.ownBlock = some g -> row ≠ some g) (hu : ∀ u ∈ us,∀ g,u.ownBlock = some g -> row ≠ some g)
  (hf : ∀ ps ∈ pss,∀ p ∈ ps,(∀ ad n c,p.2.1 = .slice (some ad) n c -> 0 < n -> some ad.block ≠ row) /\ (∀ ad n c,p.2.2 = .slice (some ad) n c -> 0 < n -> some ad.block ≠ row)) : TabO k B T w' base TS V us pss:=by
 have hk:=h.k.kept hg hV hu
 refine ⟨hk.row,hk.len,hk.own,fun u hu' ps hp p hpp => ?_,fun ps hp p hpp => ?_,hk.apart⟩
 ·obtain ⟨e1,f1⟩:=h.far u hu' ps hp p hpp
  exact ⟨⟨e1.1.farKept (hf ps hp p hpp).1 hg,e1.2.farKept (hf ps hp p hpp).2 hg⟩,f1⟩
 ·obtain ⟨e1,f1⟩:=h.farV ps hp p hpp
  exact ⟨⟨e1.1.farKept (hf ps hp p hpp).1 hg,e1.2.farKept (hf ps hp p hpp).2 hg⟩,f1⟩
theorem qE9.shape {w : World} {v : Value} (h : qE9 w v) : ∃ A n c,v = .slice A n c /\ n <= c /\ c <= maxLen:=by
 obtain ⟨A,n,c,e,h1,h2,_⟩:=h
 exact ⟨A,n,c,e,h1,h2⟩
theorem zE7.slice {w : World} {base : Nat} {TS : TypeId} {V : Value} {us : List Value} (h : zE7 w base TS V us) : ∃ A c,V = .slice A us.length c:=by
 rcases h.2 with ⟨e,h0⟩ | ⟨g,cap,cur,e,_⟩
 ·exact ⟨none,0,by rw [e,h0]⟩
 ·exact ⟨_,_,e⟩
theorem yF7 : ∀ (ps : List Elt) (j : Nat) (u : Value),(zE6 ps)[j]? = some u -> ∃ i p,ps[i]? = some p /\ ((j = i * 3 /\ u = .bool (ngB p.1.num)) \/ (j = i * 3 + 1 /\ u = p.2.1) \/ (j = i * 3 + 2 /\ u = p.2.2))
  | [],j,u,h => by simp [zE6] at h
  | p :: ps,0,u,h => ⟨0,p,rfl,.inl ⟨rfl,by simpa [zE6,zJ9] using h.symm⟩⟩
  | p :: ps,1,u,h => ⟨0,p,rfl,.inr (.inl ⟨rfl,by simpa [zE6,zJ9] using h.symm⟩)⟩
  | p :: ps,2,u,h => ⟨0,p,rfl,.inr (.inr ⟨rfl,by simpa [zE6,zJ9] using h.symm⟩)⟩
  | p :: ps, j + 3, u, h => by
    have e : (zE6 (p :: ps))[j + 3]? = (zE6 ps)[j]?:=by simp [zE6,zJ9]
    rw [e] at h
    obtain ⟨i,q,hq,h2⟩:=yF7 ps j u h
    refine ⟨i + 1,q,by simpa using hq,?_⟩
    rcases h2 with ⟨a,b⟩ | ⟨a,b⟩ | ⟨a,b⟩
    · exact .inl ⟨by omega,b⟩
    · exact .inr (.inl ⟨by omega,b⟩)
    · exact .inr (.inr ⟨by omega,b⟩)
section
variable {P : Program}
theorem jA {w : World} {t ty T : TypeId} (hT : P.underlying t = some (.slice T)) (hI : ∃ i,P.info? T = some i /\ i.zero = some (.agg #[.bool false,.slice none 0 0,.slice none 0 0]) /\ i.size = 3 /\ i.bytes = 56) {A : Option Addr} {n c : Nat} (hn : n <= c) :
  (Builtin.append_ #[t,t] ty #[.slice A n c,.slice none 0 0]).run P w = .ok (.slice A n c) w:=by
 obtain ⟨i,hi,hz,hs,hb⟩:=hI
 cases A with
 | none => simp [Builtin.append_,go_sem,run_underlying hT,sizeOf,typeInfo,hi,Builtin.lenOf,Builtin.firstCells,hn]
 | some a => simp [Builtin.append_,go_sem,run_underlying hT,sizeOf,typeInfo,hi,Builtin.lenOf,Builtin.firstCells,hn,storeCells]
theorem jA0 {w : World} {base : Nat} {t ty T : TypeId} (hT : P.underlying t = some (.slice T)) (hI : ∃ i,P.info? T = some i /\ i.zero = some (.agg #[.bool false,.slice none 0 0,.slice none 0 0]) /\ i.size = 3 /\ i.bytes = 56) {v u : Value} {ps qs : List Elt} (hown : zD2 T w base v ps) (hu : zM2 w u qs) (hone : ∀ p ∈ qs,p.2.1.oneCell' = true /\ p.2.2.oneCell' = true) (hlen : ps.length <= 1000000000) (hlen2 : qs.length <= 1000000000) (hbase : base <= w.heap.size) :
    ∃ v' w',(Builtin.append_ #[t,t] ty #[v,u]).run P w = .ok v' w' /\ zD2 T w' base v' (ps ++ qs) /\ zI5 w w' v v':=by
  obtain ⟨A,c,rfl,hc,hm,hcells⟩:=hu
  obtain ⟨Av,cv,rfl,hcv,hmv,_⟩:=hown.isVF
  by_cases hq : qs = []
  · subst hq
    cases A with
    | none =>
      refine ⟨_,w,?_,by rw [List.append_nil]; exact hown,zI5.of_below _ (Below.refl _ w)⟩
      by_cases hc0 : c = 0
      · subst hc0
        exact jA hT hI hcv
      · obtain ⟨i,hi,hz,hs,hb⟩:=hI
        cases Av with
        | none => simp [Builtin.append_,go_sem,run_underlying hT,sizeOf,typeInfo,hi,Builtin.lenOf,Builtin.firstCells,hcv]
        | some a => simp [Builtin.append_,go_sem,run_underlying hT,sizeOf,typeInfo,hi,Builtin.lenOf,Builtin.firstCells,hcv,storeCells]
    | some ad =>
      obtain ⟨i,hi,hz,hs,hb⟩:=hI
      obtain ⟨v',w',g1,g2,g3,_,g5⟩:=run_append_own_at (P:=P) (w:=w) base t ty T i (.agg #[.bool false,.slice none 0 0,.slice none 0 0]) 3 56 hT hi hz hs hb rfl (by decide) _ ps.length (zE6 ps) hown ad 0 c [] rfl (fun j a ha => by simp at ha) (fun a ha => by simp at ha) (by unfold maxLen; omega) (by omega) hbase
      refine ⟨v',w',g1,by unfold zD2; rw [List.append_nil]; simpa using g2,qN7 g3 g5,g3,fun g hg hne e1 => ?_⟩
      rcases g5 with h | h
      · exact hne (h ▸ e1)
      · rw [h] at e1; injection e1 with e1; omega
  · obtain ⟨p0,hp0⟩ : ∃ p0,qs[0]? = some p0:=⟨_,zA3 (List.length_pos_iff.2 hq)⟩
    obtain ⟨g0,o0,rfl,_⟩:=hcells 0 p0 hp0
    obtain ⟨i,hi,hz,hs,hb⟩:=hI
    have hadd : ∀ j,(⟨g0,o0,none⟩ : Addr).add j = ⟨g0,o0 + j,none⟩:=by
      intro j
      unfold Addr.add
      by_cases h : j = 0
      · simp [h]
      · simp [h]
    obtain ⟨v',w',g1,g2,g3,_,g5⟩:=run_append_own_at (P:=P) (w:=w) base t ty T i (.agg #[.bool false,.slice none 0 0,.slice none 0 0]) 3 56 hT hi hz hs hb rfl (by decide) _ ps.length (zE6 ps) hown ⟨g0,o0,none⟩ qs.length c (zE6 qs) (qE6 qs) (fun j a ha => by
      obtain ⟨k,p,hp,h⟩:=yF7 qs j a ha
      obtain ⟨g',o',e,c0,c1,c2⟩:=hcells k p hp
      injection e with e
      injection e with e1 e2
      subst e1; subst e2
      rw [hadd]
      rcases h with ⟨rfl,rfl⟩ | ⟨rfl,rfl⟩ | ⟨rfl,rfl⟩
      · exact c0
      · rw [<- Nat.add_assoc]; exact c1
      · rw [<- Nat.add_assoc]; exact c2) (fun a ha => by
      obtain ⟨p,hp,hc⟩:=yD9 ha
      simp only [zJ9,List.mem_cons,List.not_mem_nil,or_false] at hc
      rcases hc with rfl | rfl | rfl
      · rfl
      · exact (hone p hp).1
      · exact (hone p hp).2) (by unfold maxLen; omega) (by omega) hbase
    refine ⟨v',w',g1,by unfold zD2; rw [zA8,zE6,List.flatMap_append]; exact g2,qN7 g3 g5,g3,fun g hg hne e1 => ?_⟩
    rcases g5 with h | h
    · exact hne (h ▸ e1)
    · rw [h] at e1; injection e1 with e1; omega
end
structure TabJ (T : TypeId) (w : World) (base : Nat) (TS : TypeId) (V : Value) (us0 us : List Value) (pss : List (List Elt)) : Prop where
 row : zE7 w base TS V us0
 len : us.length = pss.length
 own : ∀ (i : Nat) (u : Value) (ps : List Elt),us[i]? = some u -> pss[i]? = some ps -> zD2 T w base u ps
 apart : ∀ (i j : Nat) (u v : Value),i ≠ j -> us[i]? = some u -> us[j]? = some v -> ∀ h,u.ownBlock = some h -> v.ownBlock ≠ some h
section
variable {T TS : TypeId} {w w1 : World} {base : Nat} {V : Value} {us0 us : List Value} {pss : List (List Elt)}
theorem TabJ.at (h : TabJ T w base TS V us0 us pss) {i : Nat} {u : Value} (hu : us[i]? = some u) : ∃ ps,pss[i]? = some ps /\ zD2 T w base u ps:=by
 have hp : pss[i]? = some (pss[i]'(by rw [<- h.len]; exact (zA4.1 hu).1)):=zA3 _
 exact ⟨_,hp,h.own i u _ hu hp⟩
theorem TabJ.kept {row : Option Nat} (h : TabJ T w base TS V us0 us pss) (hg : w.grownBy w1 row) (hV : ∀ g,V.ownBlock = some g -> row ≠ some g) (hu : ∀ u ∈ us,∀ g,u.ownBlock = some g -> row ≠ some g) : TabJ T w1 base TS V us0 us pss :=
 ⟨zE7.kept h.row hg hV,h.len,fun i u ps hi hp => (h.own i u ps hi hp).other hg (fun g e => hu u (zA5 hi) g e),h.apart⟩
theorem TabJ.below (h : TabJ T w base TS V us0 us pss) (hb : Below w.heap.size w w1) : TabJ T w1 base TS V us0 us pss :=
 ⟨h.row.below hb,h.len,fun i u ps hi hp => (h.own i u ps hi hp).below hb,h.apart⟩
end
def Els (L : List Value) (w : World) (es : List Elt) : Prop:=∀ e ∈ es,IsE .u64 4294967296 w e /\ ∀ v ∈ L,Far v e.2.1 /\ Far v e.2.2
theorem Els.below {L : List Value} {w w' : World} {es : List Elt} (h : Els L w es) (hb : Below w.heap.size w w') : Els L w' es:=fun e he => ⟨⟨(h e he).1.1.below hb,(h e he).1.2.below hb⟩,(h e he).2⟩
theorem Els.kept {L : List Value} {w w1 : World} {es : List Elt} {u : Value} (h : Els L w es) (hu : u ∈ L) (hg : w.grownBy w1 u.ownBlock) : Els L w1 es:=fun e he => by
 obtain ⟨e1,e2⟩:=h e he
 obtain ⟨f1,f2⟩:=e2 u hu
 exact ⟨⟨e1.1.farKept f1 hg,e1.2.farKept f2 hg⟩,e2⟩
section
variable {w wr w1 : World} {V U : Value} {us0 us vs0 vs : List Value} {pss qss : List (List Elt)}
end
theorem qR2 (g o i : Nat) : (⟨g,o,none⟩ : Addr).add i = ⟨g,o + i,none⟩:=by
 unfold Addr.add
 by_cases h : i = 0
 ·simp [h]
 ·simp [h]
theorem zE0.at_ {k : IntKind} {B : Nat} {w : World} {g : Nat} {TS : TypeId} {us : List Value} {T : List (List Rat)} (h : zE0 k B w g TS us T) {i : Nat} {r : List Rat} (hr : T[i]? = some r) : ∃ Ar cr,us[i]? = some (.slice Ar r.length cr) /\ w.cell? ⟨g,i,none⟩ = some (.slice Ar r.length cr) /\ SlF k B w (.slice Ar r.length cr) r:=by
 have hi : i < us.length:=by rw [h.2.1]; exact (zA4.1 hr).1
 have hu : us[i]? = some us[i]:=zA3 hi
 have hs:=h.2.2 i _ r hu hr
 obtain ⟨Ar,cr,e,_,_⟩:=hs.shape
 have hc:=h.1.cell hu
 rw [zQ0] at hc
 rw [e] at hu hs hc
 exact ⟨Ar,cr,hu,hc,hs⟩
theorem zE0.sub {k : IntKind} {B : Nat} {w : World} {g : Nat} {TS : TypeId} {us : List Value} {T : List (List Rat)} (h : zE0 k B w g TS us T) {o m c : Nat} (hm : o + m <= T.length) (hc : m <= c) (hx : c <= maxLen) : SlT k B w (.slice (some ⟨g,o,none⟩) m c) ((T.drop o).take m):=by
 have hl : us.length = T.length:=h.2.1
 have e1 : ((us.drop o).take m).length = m:=by rw [List.length_take,List.length_drop]; omega
 refine ⟨(us.drop o).take m,by rw [e1,List.length_take,List.length_drop]; omega,⟨some ⟨g,o,none⟩,c,by rw [e1],by rw [e1]; exact hc,hx,fun i u hu => ⟨_,rfl,?_⟩⟩,fun i u r hu hr => ?_⟩
 ·rw [qR2]
  have hi : i < m:=by have:=(zA4.1 hu).1; omega
  rw [List.getElem?_take_of_lt hi,List.getElem?_drop] at hu
  have hcc:=h.1.cell hu
  rwa [zQ0] at hcc
 ·have hi : i < m:=by have:=(zA4.1 hu).1; omega
  rw [List.getElem?_take_of_lt hi,List.getElem?_drop] at hu hr
  exact h.2.2 _ u r hu hr
theorem TabO.tabS {T0 : TypeId} {w : World} {base g n : Nat} {TS : TypeId} {us : List Value} {pss : List (List Elt)} {k : IntKind} {B : Nat} (h : TabO k B T0 w base TS (.slice (some ⟨g,0,none⟩) n n) us pss) (hn : us.length = n) : zE0 k B w g TS us (zG1 pss):=by
  refine ⟨⟨?_,fun u hu => ?_⟩,by rw [yE6]; exact h.len,fun i u r hu hr => ?_⟩
  · rcases h.row.2 with ⟨e,_⟩ | ⟨g',cap,cur,e,_,hg,_,_,h1,h2⟩
    · cases e
    · injection e with e1 e2 e3
      injection e1 with e1
      injection e1 with e1 _ _
      subst e1
      have e : cur = us.toArray:=by
        apply Array.toList_inj.1
        rw [<- h2,zA7 (by simp; omega)]
      unfold Blk
      rw [hg,e]
  · obtain ⟨i,hi⟩:=List.mem_iff_getElem?.1 hu
    obtain ⟨ps,hp⟩ : ∃ ps,pss[i]? = some ps:=⟨_,zA3 (by rw [<- h.len]; exact (zA4.1 hi).1)⟩
    have hf:=(h.own i u ps hi hp).isVF
    obtain ⟨A,c,e,_⟩:=hf
    exact ⟨A,_,c,e⟩
  · rw [zG1,zB1] at hr
    cases hp : pss[i]? with
    | none => rw [hp] at hr; cases hr
    | some ps =>
      rw [hp] at hr
      obtain rfl : ps.map (·.1) = r:=by simpa using hr
      exact (h.own i u ps hu hp).sl (h.far u (zA5 hu) ps (zA5 hp))
theorem zE7.weak {w : World} {base base' : Nat} {TS : TypeId} {V : Value} {us : List Value} (h : zE7 w base TS V us) (hb : base' <= base) : zE7 w base' TS V us:=by
 refine ⟨h.1,?_⟩
 rcases h.2 with hn | ⟨g,cap,cur,hv,hg,rest⟩
 ·exact .inl hn
 ·exact .inr ⟨g,cap,cur,hv,zB4 hb hg,rest⟩
theorem TabO.weak {k : IntKind} {B : Nat} {T TS : TypeId} {w : World} {base base' : Nat} {V : Value} {us : List Value} {pss : List (List Elt)} (h : TabO k B T w base TS V us pss) (hb : base' <= base) : TabO k B T w base' TS V us pss :=
 ⟨zE7.weak h.row hb,h.len,fun i u ps hu hp => zD2.weak (h.own i u ps hu hp) hb,h.far,h.farV,h.apart⟩
theorem jA1 {w : World} {v u0 : Value} {t0 : List (List Rat)} (h : IsV w v [u0]) (h0 : SlT .u64 4294967296 w u0 t0) : zN w v [t0] :=
  ⟨[u0], rfl, h, by simp, fun i u t hu ht => by
    rcases i with _ | i
    · obtain rfl : u0 = u:=by simpa using hu
      obtain rfl : t0 = t:=by simpa using ht
      exact h0
    · simp at hu⟩
def jA2 (L : List (List Rat)) (a : Nat) (w : World) (e : Ending) (w' : World) : Prop:=∃ k : Nat,e = .returned (.int .i64 (k : Int)) /\ k <= L.length /\ (∀ i,i < k -> zB9 L i a = 0) /\ (k < L.length -> zB9 L k a ≠ 0) /\ Below w.heap.size w w'
theorem yF8 (a0 : Value) (L : List (List Rat)) (a : Nat) (w : World) (h0 : SlT .u64 4294967296 w a0 L) (hl : ∀ r ∈ L,a < r.length) : Calls Tryz.prog 125 #[a0,.int .i64 (a : Int)] w (jA2 L a w):=by
 have st0:=h0
 obtain ⟨A0,c0,rfl,hc0,hm0⟩:=h0.shape
 unfold maxLen at hm0
 have HL:=Lib.hid hl
 clear hl
 go_enter Tryz.func125,Tryz.ntmps125
 go_wp2
 go_loopw [8] (fun v8 wr => ∃ k : Nat,k <= L.length /\ Hid (∀ i,i < k -> zB9 L i a = 0) /\ Below w.heap.size w wr /\ v8 = .int .i64 (k : Int)) (fun v8 _ => L.length - (intOf v8).toNat)
 case atStart => exact ⟨0,by omega,(by show ∀ i,_; intro i hi; omega),Below.refl _ _,rfl⟩
 case round =>
  obtain ⟨k,hk,HZ,bb,rfl⟩:=hrel
  by_cases hlt : k < L.length
  ·obtain ⟨r,hr⟩ : ∃ r,L[k]? = some r:=⟨_,zA3 hlt⟩
   have hal:=HL.out r (zA5 hr)
   obtain ⟨q,hq⟩ : ∃ q,r[a]? = some q:=⟨_,zA3 hal⟩
   have he : Hid (zB9 L k a = q):=qQ3 hr hq
   obtain ⟨ad,rfl⟩:=st0.place (List.length_pos_iff.1 (by omega))
   obtain ⟨Ar,cr,hik,ecr,sr⟩:=(st0.below bb).at2 hr
   obtain ⟨gr,or,u,t,rfl,hia,k0,k1,k2,su,st⟩:=sr.at_ hq
   obtain ⟨Au,cu,rfl,_⟩:=id su
   obtain ⟨At,ct,rfl,_⟩:=id st
   have hix:=fun w => zK (P:=Tryz.prog) Tryz.underlying44 (by kernel_rfl) (g:=gr) (o:=or) (c:=cr) hia w
   have kq : IsQ wr (.agg #[.bool (ngB q.num),.slice Au (digs 4294967296 q.num.natAbs).length cu,.slice At (digs 4294967296 q.den).length ct]) q:=⟨_,_,rfl,su,st⟩
   obtain ⟨t,ht⟩ : ∃ t,t = zJ5 q.num 0:=⟨_,rfl⟩
   have hz : (t == 0) = decide (q = 0):=by rw [ht,yF4]
   have HT:=Lib.hid ht
   clear hr hq ht sr
   go_wp2_with fail
   refine (zT2 _ q t _ kq HT.out).mono ?_
   rintro e w4 ⟨rfl,b4⟩
   have bb4:=bb.trans (b4.mono bb.size)
   by_cases hq0 : q = 0
   ·obtain rfl : t = 0:=by
     rw [hq0] at hz
     simpa using hz
    have HZ2 : Hid (∀ i,i < k + 1 -> zB9 L i a = 0):=by
     show ∀ i,_
     intro i hi
     by_cases e : i = k
     ·subst e; rw [he.out]; exact hq0
     ·exact HZ.out i (by omega)
    clear hz hq0 kq k0 k1 k2
    go_wp2
    go_roundw
    case rel => exact ⟨k + 1,by omega,HZ2,bb4,by go_num⟩
    case measure => simp [intOf]; omega
   ·have hz1 : ¬ t = 0:=by
     intro e
     rw [e,decide_eq_false hq0] at hz
     exact absurd hz (by decide)
    have HN : Hid (zB9 L k a ≠ 0):=by show _ ≠ _; rw [he.out]; exact hq0
    clear hz hq0 kq k0 k1 k2
    go_wp2
    go_ret
    exact ⟨k,rfl,by omega,HZ.out,fun _ => HN.out,bb4⟩
  ·obtain rfl : k = L.length:=by omega
   go_wp2
   go_ret
   exact ⟨_,rfl,zB3 _,HZ.out,fun h => by omega,bb⟩
theorem jA3 (T : List (List Rat)) : zT4 T.length [T] ↔ zH2 T:=by
 unfold zT4
 constructor
 ·intro h; exact (h T List.mem_cons_self).1
 ·intro h t ht
  obtain rfl:=List.mem_singleton.1 ht
  exact ⟨h,rfl⟩
theorem jA4 (T : List (List Rat)) : zN9 T.length [T] = T:=yC T
theorem jA5 (a0 : Value) (T : List (List Rat)) (w : World) (h0 : SlT .u64 4294967296 w a0 T) (hl : zD3 T <= 200 /\ T.length <= 200 /\ zI6 T 100000) : Calls Tryz.prog 89 #[a0] w (fun e w' => (zH2 T /\ RetTO T.length T w e w') \/ (¬ zH2 T /\ qE5 [] 8 w e w')):=by
 have st0:=h0
 obtain ⟨A0,c0,rfl,hc0,hm0⟩:=h0.shape
 have HL:=Lib.hid hl
 clear hl
 have ba:=zC8 (w:=w) (zB3 _) (.cells #[.slice A0 T.length c0] 22)
 have HV:=jA1 (zQ7 w 22 [.slice A0 T.length c0]) (st0.below ba)
 have HLV:=Lib.hid HV
 clear HV
 go_enter Tryz.func89,Tryz.ntmps89
 go_wp2_with fail
 refine (yF3 _ [T] T _ HLV.out rfl ⟨by simp,by simp; exact HL.out.1,fun t ht => by rw [List.mem_singleton.1 ht]; exact HL.out.2.2,HL.out.2.1⟩).mono ?_
 rintro e w2 h2
 rw [jA3,jA4] at h2
 rcases h2 with ⟨hm,g,us,pss,rfl,hT,hV,hU,hg,b2⟩ | ⟨hm,V,rfl,hS,b2⟩
 ·have bb:=ba.trans (b2.mono ba.size)
  have hw : w.heap.size <= (w.alloc (.cells #[.slice A0 T.length c0] 22)).heap.size:=ba.size
  have HE:=Lib.hid (zA hm (zA hV (zA hU (zB4 hw hg))))
  have HT:=Lib.hid hT
  clear hm hT hV hU hg hw
  go_wp2
  go_ret2
  exact .inl ⟨HE.out.1,g,us,pss,rfl,TabO.weak HT.out ba.size,HE.out.2.1,HE.out.2.2.1,HE.out.2.2.2,bb⟩
 ·rw [if_neg (by decide)] at hS
  obtain ⟨AV,cV,rfl,-,-⟩:=hS.shape
  have bb:=ba.trans (b2.mono ba.size)
  have HN:=Lib.hid hm
  clear hm
  go_wp2
  go_ret2
  exact .inr ⟨HN.out,_,rfl,by rw [if_neg (by decide)]; exact hS,bb⟩
def zL0 (us : List Value) (G : Nat -> Prop) : Prop:=∀ u ∈ us,∀ g,u.ownBlock = some g -> ¬ G g
def zR7 (w : World) (us us' : List Value) : Prop:=∀ G : Nat -> Prop,(∀ x,G x -> x < w.heap.size) -> zL0 us G -> zL0 us' G
theorem zR7.refl (w : World) (us : List Value) : zR7 w us us:=fun _ _ h => h
theorem zR7.set {w w1 : World} {us us' : List Value} (h : zR7 w us us') (hw : w.heap.size <= w1.heap.size) {g n c : Nat} (hg : w1.heap.size <= g) (i : Nat) : zR7 w us (us'.set i (.slice (some ⟨g,0,none⟩) n c)):=fun G hG ho u hu x hx => by
 rcases List.mem_or_eq_of_mem_set hu with hu | rfl
 ·exact h G hG ho u hu x hx
 ·intro hGx
  have h1:=hG x hGx
  have h2 : g = x:=by simpa [Value.ownBlock] using hx
  omega
def qK5 (g : Nat) (us : List Value) (T' : List (List Rat)) (w : World) (e : Ending) (w' : World) : Prop:=e = .returned (.tuple #[]) /\ ∃ us',zE0 .u64 4294967296 w' g 44 us' T' /\ w.grownBy w' (some g) /\ zR7 w us us'
theorem qK6 (w : World) (row : Option Nat) : w.grownBy w row:=qK4 (Below.refl _ w) row
theorem jA6 {w w1 : World} {g i : Nat} {u : Value} (h : w.grownBy w1 (some g)) : w.grownBy (w1.setCell ⟨g,i,none⟩ u) (some g):=h.trans (zF0 w1 g i u)
theorem yF9 (g o m c a n C S : Nat) (us : List Value) (a1 : Value) (p : List Rat) (T : List (List Rat)) (P : Nat -> Bool) (w : World) (h : zE0 .u64 4294967296 w g 44 us T) (hp : SlF .u64 4294967296 w a1 p) (hc : Hid (shp T n C /\ p.length = C /\ a < C /\ o + m <= n /\ m <= c /\ n <= 1000000 /\ C <= 1000 /\ (∀ i,i < o -> P i = false) /\ (∀ i,o <= i -> i < o + m -> P i = true) /\ (∀ r ∈ T,zL r S) /\ zL p S /\ (0 < m -> S + S <= 4900))) :
  Calls Tryz.prog 130 #[.slice (some ⟨g,o,none⟩) m c,a1,.int .i64 (a : Int)] w (qK5 g us (zH T P p a (o + m)) w):=by
 obtain ⟨A1,c1,rfl,_,_⟩:=hp.shape
 have ha:=hc.out.2.2.1
 have hom:=hc.out.2.2.2.1
 have hmc:=hc.out.2.2.2.2.1
 have hn:=hc.out.2.2.2.2.2.1
 go_enter Tryz.func130,Tryz.ntmps130
 go_wp2
 go_loopw [10] (fun v10 wr => ∃ (k : Nat) (us' : List Value),k <= m /\ zE0 .u64 4294967296 wr g 44 us' (zH T P p a (o + k)) /\ Hid (w.grownBy wr (some g)) /\ Hid (zR7 w us us') /\ v10 = .int .i64 (k : Int)) (fun v10 _ => m - (intOf v10).toNat)
 case atStart => exact ⟨0,us,by omega,by rw [Nat.add_zero,qE4 o hc.out.2.2.2.2.2.2.2.1]; exact h,qK6 _ _,zR7.refl _ _,rfl⟩
 case round =>
  obtain ⟨k,us',hk,TS,HG,HST,rfl⟩:=hrel
  by_cases hlt : k < m
  ·have hs:=hc.out.1
   obtain ⟨r,hr,hrl⟩:=zH3 hs (show o + k < n by omega)
   have hr2 : (zH T P p a (o + k))[o + k]? = some r:=by rw [qJ7 T P p a (o + k) (o + k) (zB3 _)]; exact hr
   obtain ⟨q,hq⟩ : ∃ q,r[a]? = some q:=⟨_,zA3 (by omega)⟩
   have he : Hid (zB9 T (o + k) a = q):=qQ3 hr hq
   have hP:=hc.out.2.2.2.2.2.2.2.2.1 (o + k) (by omega) (by omega)
   obtain ⟨Ar,cr,hur,ecr,sr⟩:=TS.at_ hr2
   obtain ⟨gr,or,u,t,rfl,hia,k0,k1,k2,su,st⟩:=sr.at_ hq
   obtain ⟨Au,cu,rfl,_⟩:=id su
   obtain ⟨At,ct,rfl,_⟩:=id st
   have hix:=fun w => zK (P:=Tryz.prog) Tryz.underlying44 (by kernel_rfl) (g:=gr) (o:=or) (c:=cr) hia w
   have ba:=zC8 (w:=wr) (zB3 _) (.cells #[.bool (ngB q.num),.slice Au (digs 4294967296 q.num.natAbs).length cu,.slice At (digs 4294967296 q.den).length ct] 83)
   have BT:=Blk.new wr 83 #[.bool (ngB q.num),.slice Au (digs 4294967296 q.num.natAbs).length cu,.slice At (digs 4294967296 q.den).length ct]
   have kq : IsQ (wr.alloc (.cells #[.bool (ngB q.num),.slice Au (digs 4294967296 q.num.natAbs).length cu,.slice At (digs 4294967296 q.den).length ct] 83)) (.agg #[.bool (ngB q.num),.slice Au (digs 4294967296 q.num.natAbs).length cu,.slice At (digs 4294967296 q.den).length ct]) q:=⟨_,_,rfl,su.below ba,st.below ba⟩
   obtain ⟨t,ht⟩ : ∃ t,t = zJ5 q.num 0:=⟨_,rfl⟩
   have hz : (t == 0) = decide (q = 0):=by rw [ht,yF4]
   have HT:=Lib.hid ht
   have sp:=(h.1.keepF HG.out hp).below ba
   have TSa:=TS.below ba
   have sra:=sr.below ba
   have HR:=Lib.hid (zA hr (zA hrl (zA hq (zA hP hr2))))
   clear hr hrl hq ht su st sr hr2 hP hs TS hur
   go_wp2_with fail
   refine (zT2 _ q t _ kq HT.out).mono ?_
   rintro e w4 ⟨rfl,b4⟩
   have bb4:=ba.trans (b4.mono ba.size)
   have TS4:=TSa.below b4
   have BT4:=BT.below b4
   have kq4:=kq.below b4
   have sp4:=sp.below b4
   have sr4:=sra.below b4
   have HG4 : Hid (w.grownBy w4 (some g)):=zI9 HG.out bb4
   clear TSa BT kq sp sra b4 ba bb4 HG k0 k1 k2 ecr hix
   by_cases hq0 : q = 0
   ·obtain rfl : t = 0:=by
     rw [hq0] at hz
     simpa using hz
    have TS5 : zE0 .u64 4294967296 w4 g 44 us' (zH T P p a (o + (k + 1))):=by
     rw [<- Nat.add_assoc,yW3 HR.out.2.2.2.1 HR.out.1 (by rw [he.out]; exact hq0) (by rw [HR.out.2.1]; exact hc.out.2.1.symm)]
     exact TS4
    clear hz hq0 kq4 TS4 BT4 sp4 sr4
    go_wp2
    go_roundw
    case rel => exact ⟨k + 1,us',by omega,TS5,HG4,HST,by go_num⟩
    case measure => simp [intOf]; omega
   ·have hz1 : ¬ t = 0:=by
     intro e
     rw [e,decide_eq_false hq0] at hz
     exact absurd hz (by decide)
    clear hz
    have bd:=(Below.refl w4.heap.size w4).drew
    have TSd:=TS4.below bd
    have BTd : Blk w4.drew _ _ _:=BT4.drew
    obtain ⟨V0,V1,V2,_,_,_⟩:=three BTd
    have kqd:=kq4.below bd
    have spd:=sp4.below bd
    have srd:=sr4.below bd
    obtain ⟨Ar2,cr2,hur2,ecr2,srd2⟩:=TSd.at_ HR.out.2.2.2.2
    have HLS : Hid (r.length = p.length /\ r.length <= 1000 /\ (∀ x ∈ r,zC7 x S) /\ zC7 q S /\ (∀ x ∈ p,zC7 x S) /\ S <= 4900 /\ S + S <= 4900):=by
     have h1:=hc.out.2.2.2.2.2.2.2.2.2.1 r (zA5 HR.out.1)
     have h2:=hc.out.2.2.2.2.2.2.2.2.2.2.1
     have h3:=hc.out.2.2.2.2.2.2.2.2.2.2.2 (by omega)
     exact ⟨by rw [HR.out.2.1]; exact hc.out.2.1.symm,by rw [HR.out.2.1]; exact hc.out.2.2.2.2.2.2.1,h1.len,h1.len q (zA5 HR.out.2.2.1),h2.len,by omega,h3⟩
    have HNL : Hid ((zI4 r q p).length <= 1000000000):=by
     show _ <= _
     rw [qP6 HLS.out.1]; have:=HLS.out.2.1; omega
    have HNX : Hid ((zH T P p a (o + k)).set (o + k) (zI4 r q p) = zH T P p a (o + (k + 1))):=by
     show _ = _
     rw [<- Nat.add_assoc,qQ5 HR.out.2.2.2.1 HR.out.1,he.out]
    have hokl : o + k < (zH T P p a (o + k)).length:=(zA4.1 HR.out.2.2.2.2).1
    have HG5 : Hid (w.grownBy w4.drew (some g)):=zI9 HG4.out bd
    clear TS4 BT4 kq4 sp4 sr4 HG4 hq0
    go_upto_region 5 with (fail)
    go_region_law (go_simp; go_at_call 153; refine (yY5 _ _ _ r q p S S S _ (by exact srd2) (by exact kqd) (by exact spd) HLS.out.1 HLS.out.2).mono ?_; rintro e w6 ⟨gn,rfl,RNn,hgn,b6⟩; have sR:=RNn.sl rfl HNL.out; have TS6:=TSd.below b6; obtain ⟨u0,c6⟩:=TS6.cellAt (i:=o + k) hokl; have f6:=TS6.frozenAt (o + k))
    all_goals
     have TS7:=TS6.stored (o + k) sR
     rw [HNX.out] at TS7
     have HG7 : Hid (w.grownBy (w6.setCell ⟨g,o + k,none⟩ (.slice (some ⟨gn,0,none⟩) (zI4 r q p).length (zI4 r q p).length)) (some g)):=jA6 (zI9 HG5.out b6)
     have HST7 : Hid (zR7 w us (us'.set (o + k) (.slice (some ⟨gn,0,none⟩) (zI4 r q p).length (zI4 r q p).length))):=zR7.set HST.out HG5.out.size hgn (o + k)
     clear TS6 TSd
     go_wp2
     go_roundw
     case rel => exact ⟨k + 1,_,by omega,TS7,HG7,HST7,by go_num⟩
     case measure => simp [intOf]; omega
  ·obtain rfl : k = m:=by omega
   go_wp2
   go_end0
   exact ⟨rfl,us',TS,HG.out,HST.out⟩
def zE9 (S : Value -> Prop) (w : World) (base : Nat) (e : TypeId) (v : Value) (vs : List Value) : Prop:=zE7 w base e v vs /\ ∀ g,v.ownBlock = some g -> ∃ cs,w.heap[g]? = some (.cells cs e (0,0)) /\ ∀ c ∈ cs,S c
theorem zE9.grown {S : Value -> Prop} {w w' : World} {base : Nat} {e : TypeId} {v : Value} {vs : List Value} {row : Option Nat} (h : zE9 S w base e v vs) (hg : w.grownBy w' row) (hne : ∀ g,v.ownBlock = some g -> row ≠ some g) : zE9 S w' base e v vs:=by
 refine ⟨zE7.kept h.1 hg hne,fun g e1 => ?_⟩
 obtain ⟨cs,h1,h2⟩:=h.2 g e1
 exact ⟨cs,(hg.block g (h.1.under g e1) (fun e2 => hne g e1 e2.symm)).trans h1,h2⟩
theorem zE9.below {S : Value -> Prop} {w w' : World} {base : Nat} {e : TypeId} {v : Value} {vs : List Value} (h : zE9 S w base e v vs) (hb : Below w.heap.size w w') : zE9 S w' base e v vs:=by
 refine ⟨h.1.below hb,fun g e1 => ?_⟩
 obtain ⟨cs,h1,h2⟩:=h.2 g e1
 exact ⟨cs,(hb.block g (h.1.under g e1)).trans h1,h2⟩
theorem jA7 (S : Value -> Prop) (w : World) (base : Nat) (e : TypeId) : zE9 S w base e (.slice none 0 0) []:=⟨⟨rfl,.inl ⟨rfl,rfl⟩⟩,fun g h => by cases h⟩
theorem SlF.keepX {k : IntKind} {B : Nat} {w w' : World} {v : Value} {r : List Rat} {g : Nat} {e : TypeId} {cs : Array Value} (h : SlF k B w v r) (hB : w.heap[g]? = some (.cells cs e (0,0))) (hb : ∀ c ∈ cs,∀ b,c ≠ .bool b) (hi : ∀ c ∈ cs,∀ n,c ≠ .int k n) (hg : w.grownBy w' (some g)) : SlF k B w' v r:=by
 obtain ⟨ps,h1,⟨A,c,e1,h2,h3,h4⟩,h5⟩:=h
 refine ⟨ps,h1,⟨A,c,e1,h2,h3,fun i p hp => ?_⟩,fun p hp => ⟨Go.Proofs.YtagaabooccnamaaGreat.flow.off (h5 p hp).1 hB hi hg,Go.Proofs.YtagaabooccnamaaGreat.flow.off (h5 p hp).2 hB hi hg⟩⟩
 obtain ⟨g',o,e2,c0,c1,c2⟩:=h4 i p hp
 have hne : some g' ≠ some g:=by
  intro e3
  injection e3 with e3
  subst e3
  rw [cell_of_row w g' _ cs e (0,0) hB] at c0
  exact hb _ (Array.mem_of_getElem? c0) _ rfl
 exact ⟨g',o,e2,hg.cell c0 hne,hg.cell c1 hne,hg.cell c2 hne⟩
def isI (v : Value) : Prop:=∃ n,v = .int .i64 n
section
variable {P : Program}
theorem jA8 {w : World} {base : Nat} {t ty e : TypeId} (hT : P.underlying t = some (.slice e)) (hI : ∃ i,P.info? e = some i /\ i.zero = some (.int .i64 0) /\ i.size = 1 /\ i.bytes = 8) {v : Value} {vs news : List Value} (hown : zE9 isI w base e v vs) {ad : Addr} {m c : Nat} (hm : m = news.length) (hm0 : 0 < m)
  (hr : ∀ (i : Nat) (u : Value),news[i]? = some u -> w.cell? (ad.add i) = some u) (h1 : ∀ u ∈ news,isI u) (hlen : vs.length + m <= 1000000000) (hbase : base <= w.heap.size) :
  ∃ v' w',(Builtin.append_ #[t,t] ty #[v,.slice (some ad) m c]).run P w = .ok v' w' /\ zE9 isI w' base e v' (vs ++ news) /\ w.grownBy w' v.ownBlock /\ (v'.ownBlock = v.ownBlock \/ v'.ownBlock = some w.heap.size):=by
 obtain ⟨i,hi,hz,hs,hby⟩:=hI
 subst hm
 have one : ∀ u ∈ news,u.oneCell' = true:=fun u hu => by obtain ⟨n,rfl⟩:=h1 u hu; rfl
 have hl : news.length = news.length * i.size:=by rw [hs,Nat.mul_one]
 have zs : ∀ n,∀ c ∈ Builtin.zeroCells (Value.int .i64 0).cells n,isI c:=by
  intro n c hc
  have : c = .int .i64 0:=by
   have h0 : ∀ n,∀ c ∈ (Builtin.zeroCells (Value.int .i64 0).cells n),c = .int .i64 0:=by
    intro n c hc
    unfold Builtin.zeroCells at hc
    simp [Value.cells,Nat.mod_one] at hc
    obtain ⟨_,h3⟩:=hc
    first | exact h3.symm | exact h3.2.symm
   exact h0 n c hc
  exact ⟨0,this⟩
 obtain ⟨v',w',g1,g2,g3,_,g5⟩:=run_append_own_at (P:=P) w base t ty e i (.int .i64 0) 1 8 hT hi hz hs hby rfl (by decide) v vs.length vs hown.1 ad news.length c news (by simp) (fun j u hu => hr j u hu) one (by unfold maxLen; omega) (by omega) hbase
 refine ⟨v',w',g1,⟨by unfold zE7; rw [zA8]; exact g2,fun g hg => ?_⟩,g3,g5⟩
 rcases hown.1.2 with ⟨rfl,h0⟩ | ⟨g',cap,cur,rfl,hbg,hgg,hnc,hcm,hcs,htake⟩
 ·have hx : vs = []:=List.eq_nil_of_length_eq_zero h0
  subst hx
  have hr2:=run_append_nil (P:=P) w t ty e i (.int .i64 0) hT hi hz ad news.length c news hl hr hm0 (by omega) (by rw [hby]; simp at hlen; omega)
  rw [hr2] at g1
  injection g1 with g1 g1'
  subst g1; subst g1'
  obtain rfl : w.heap.size = g:=by simpa [Value.ownBlock] using hg
  refine ⟨_,heap_alloc_new w.drew _,fun c hc => ?_⟩
  rcases Array.mem_append.1 hc with hc | hc
  ·exact h1 c (by simpa using hc)
  ·exact zs _ c hc
 ·obtain ⟨cs,hcs1,hcs2⟩:=hown.2 g' rfl
  rw [hgg] at hcs1
  injection hcs1 with hcs1
  injection hcs1 with hcs1 _ _
  subst hcs1
  by_cases hroom : vs.length + news.length <= cap
  ·have hfit : vs.length * i.size + news.length <= cur.size:=by rw [hcs,hs]; omega
   have hr2:=run_append_room (P:=P) w t ty e i hT hi g' vs.length cap cur hgg ad news.length c news hl hr one hroom hfit
   rw [hr2] at g1
   injection g1 with g1 g1'
   subst g1; subst g1'
   obtain rfl : g' = g:=by simpa [Value.ownBlock] using hg
   refine ⟨_,setRow_heap w g' cur _ e _ hgg,fun c hc => ?_⟩
   have hc2 : c ∈ cur.toList.take (vs.length * i.size) ++ news ++ cur.toList.drop (vs.length * i.size + news.length):=by simpa using hc
   rcases List.mem_append.1 hc2 with hc2 | hc2
   ·rcases List.mem_append.1 hc2 with hc2 | hc2
    ·exact hcs2 c (by simpa using List.mem_of_mem_take hc2)
    ·exact h1 c hc2
   ·exact hcs2 c (by simpa using List.mem_of_mem_drop hc2)
  ·have holds : ∀ j u,vs[j]? = some u -> w.cell? ((⟨g',0,none⟩ : Addr).add j) = some u:=World.ownsRow.cells hown.1 (g:=g') rfl
   have hr2:=run_append_grow (P:=P) w t ty e i (.int .i64 0) hT hi hz ⟨g',0,none⟩ vs.length cap vs (by rw [hs]; omega) holds ad news.length c news hl hr (by omega) (by omega) (growslice_fits (by omega) (by rw [hby]; omega))
   rw [hr2] at g1
   injection g1 with g1 g1'
   subst g1; subst g1'
   obtain rfl : w.heap.size = g:=by simpa [Value.ownBlock] using hg
   refine ⟨_,heap_alloc_new w.drew _,fun c hc => ?_⟩
   rcases Array.mem_append.1 hc with hc | hc
   ·rcases Array.mem_append.1 hc with hc | hc
    ·have hcv : c ∈ vs:=by simpa using hc
     rw [<- htake] at hcv
     exact hcs2 c (by simpa using List.mem_of_mem_take hcv)
    ·exact h1 c (by simpa using hc)
   ·exact zs _ c hc
theorem jA9 {w : World} {o : Oper} {a : Act} {K : Act -> World -> Prop} {Q : Exit -> Act -> World -> Prop} (s x : Operand) {t : TypeId}
  (ho : o.op = .call { callee:=.builtin .append,args:=#[s,x],argTypes:=#[t,t] })
  {base : Nat} {e : TypeId} (hT : P.underlying t = some (.slice e)) (hI : ∃ i,P.info? e = some i /\ i.zero = some (.int .i64 0) /\ i.size = 1 /\ i.bytes = 8) {v : Value} {vs news : List Value} (hs : a.eval s = v) (hown : zE9 isI w base e v vs) {ad : Addr} {m c : Nat} (hx : a.eval x = .slice (some ad) m c) (hm : m = news.length) (hm0 : 0 < m)
  (hr : ∀ (i : Nat) (u : Value),news[i]? = some u -> w.cell? (ad.add i) = some u) (h1 : ∀ u ∈ news,isI u) (hlen : vs.length + m <= 1000000000) (hbase : base <= w.heap.size)
  (h : ∀ v' w',zE9 isI w' base e v' (vs ++ news) -> Hid (w.grownBy w' v.ownBlock) -> Hid (v'.ownBlock = v.ownBlock \/ v'.ownBlock = some w.heap.size) -> K (a.put o.dst v') w') : o.wp P a w K Q:=by
 obtain ⟨v',w',hrun,h2,h3,h4⟩:=jA8 (P:=P) (ty:=o.type) hT hI hown (c:=c) hm hm0 hr h1 hlen hbase
 unfold Oper.wp execOp
 simp only [ho,resolve,invoke,builtin,Sem.run_bind,Sem.run_pure,Result.andThen_ok,List.map_toArray,List.map_cons,List.map_nil,hs,hx,hrun]
 exact h v' w' h2 h3 h4
theorem yG {w : World} {ops : Array Oper} {rest : List Oper} {o : Oper} {a : Act} {Q : Exit -> Act -> World -> Prop} (hgd : o.guard = none) (s x : Operand) {t : TypeId}
  (ho : o.op = .call { callee:=.builtin .append,args:=#[s,x],argTypes:=#[t,t] })
  {base : Nat} {e : TypeId} (hT : P.underlying t = some (.slice e)) (hI : ∃ i,P.info? e = some i /\ i.zero = some (.int .i64 0) /\ i.size = 1 /\ i.bytes = 8) {v : Value} {vs news : List Value} (hs : a.eval s = v) (hown : zE9 isI w base e v vs) {ad : Addr} {m c : Nat} (hx : a.eval x = .slice (some ad) m c) (hm : m = news.length) (hm0 : 0 < m)
  (hr : ∀ (i : Nat) (u : Value),news[i]? = some u -> w.cell? (ad.add i) = some u) (h1 : ∀ u ∈ news,isI u) (hlen : vs.length + m <= 1000000000) (hbase : base <= w.heap.size)
  (h : ∀ v' w',zE9 isI w' base e v' (vs ++ news) -> Hid (w.grownBy w' v.ownBlock) -> Hid (v'.ownBlock = v.ownBlock \/ v'.ownBlock = some w.heap.size) -> wpList P ops Q rest (a.put o.dst v') w') : wpList P ops Q (o :: rest) a w :=
 wpList_plain hgd fun _ hK => jA9 s x ho hT hI hs hown hx hm hm0 hr h1 hlen hbase fun v' w' h2 h3 h4 => hK _ _ (h v' w' h2 h3 h4)
end
theorem zE9.keepF {w w' : World} {base : Nat} {e : TypeId} {V : Value} {vs : List Value} {v : Value} {r : List Rat} (h : zE9 isI w base e V vs) (hg : w.grownBy w' V.ownBlock) (hs : SlF .u64 4294967296 w v r) : SlF .u64 4294967296 w' v r:=by
  cases ho : V.ownBlock with
  | none => rw [ho] at hg; exact hs.below ⟨hg.os,hg.tape,hg.output,hg.size,fun k hk => hg.block k hk (by simp)⟩
  | some g =>
    rw [ho] at hg
    obtain ⟨cs,h1,h2⟩:=h.2 g ho
    exact hs.keepX h1 (fun c hc b => by obtain ⟨n,rfl⟩:=h2 c hc; simp) (fun c hc n => by obtain ⟨n',rfl⟩:=h2 c hc; simp) hg
theorem zE0.keepX {w w' : World} {base g : Nat} {e TS : TypeId} {V : Value} {vs us : List Value} {T : List (List Rat)} (h : zE0 .u64 4294967296 w g TS us T) (hX : zE9 isI w base e V vs) (hne : V.ownBlock ≠ some g) (hg : w.grownBy w' V.ownBlock) : zE0 .u64 4294967296 w' g TS us T :=
 ⟨h.1.grown hg hne,h.2.1,fun i u r hu hr => hX.keepF hg (h.2.2 i u r hu hr)⟩
theorem zE9.notTab {w : World} {base g : Nat} {e TS : TypeId} {V : Value} {vs us : List Value} (h : zE9 isI w base e V vs) (hT : zF9 w g TS us) (hne : e ≠ TS) : V.ownBlock ≠ some g:=fun e1 => by
 obtain ⟨cs,h1,_⟩:=h.2 g e1
 have h2:=hT.1
 unfold Blk at h2
 rw [h1] at h2
 injection h2 with h2
 injection h2 with _ h2
 exact hne h2
theorem zT5 {w w1 w2 : World} {row : Option Nat} {g : Nat} (h : w.grownBy w1 row) (h2 : w1.grownBy w2 (some g)) (hg : w.heap.size <= g) : w.grownBy w2 row:=by
 refine ⟨h2.os.trans h.os,h2.tape.trans h.tape,h2.output.trans h.output,zB4 h.size h2.size,fun k hk hne => ?_⟩
 rw [h2.block k (Nat.lt_of_lt_of_le hk h.size) (fun e => by injection e with e; omega)]
 exact h.block k hk hne
theorem yG0 {w w1 w2 : World} {row : Option Nat} {v : Value} (h : w.grownBy w1 row) (h2 : w1.grownBy w2 v.ownBlock) (hg : ∀ g,v.ownBlock = some g -> w.heap.size <= g) : w.grownBy w2 row:=by
 cases e : v.ownBlock with
 | none => rw [e] at h2; exact zI9 h ⟨h2.os,h2.tape,h2.output,h2.size,fun k hk => h2.block k hk (by simp)⟩
 | some g => rw [e] at h2; exact zT5 h h2 (hg g e)
theorem Dwn.small {T0 T : List (List Rat)} {n C a S : Nat} {ps : List Nat} {d : Rat} (h : Dwn T0 T n C a ps d S) (hS : (S + 1) * 2 ^ (n - 1) <= 400) : zH5 T 399:=by
 obtain ⟨S',h1,h2⟩:=h.len
 refine h1.mono ?_
 have h3 : (S + 1) * 2 ^ (min ps.length (n - 1)) <= (S + 1) * 2 ^ (n - 1):=Nat.mul_le_mul_left _ (Nat.pow_le_pow_right (by omega) (Nat.min_le_right _ _))
 omega
theorem zE0.offQ {w w' : World} {g gx n C : Nat} {TS t : TypeId} {us : List Value} {T : List (List Rat)} {a b c : Value} (h : zE0 .u64 4294967296 w g TS us T) (hs : shp T n C) (hB : Blk w gx t #[a,b,c]) (hno : ∀ x ∈ (#[a,b,c] : Array Value),∀ n,x ≠ .int .u64 n) (hne : TS ≠ t) (hg : w.grownBy w' (some gx)) (hoff : 0 < C -> ∀ u ∈ us,u.ownBlock ≠ some gx) : zE0 .u64 4294967296 w' g TS us T:=by
 have hgx : g ≠ gx:=fun e => by
  have h1:=h.1.1
  unfold Blk at h1 hB
  rw [e,hB] at h1
  injection h1 with h1
  injection h1 with _ h1
  exact hne h1.symm
 refine ⟨h.1.grown hg (fun e => hgx (by injection e with e; exact e.symm)),h.2.1,fun i u r hu hr => ?_⟩
 have hsl:=h.2.2 i u r hu hr
 by_cases h0 : r = []
 ·subst h0; exact hsl.any
 ·have hC : 0 < C:=by rw [<- hs.2 r (zA5 hr)]; exact List.length_pos_iff.2 h0
  exact hsl.off hB hno hg (hoff hC u (zA5 hu))
theorem zE9.keepS {w w' : World} {base : Nat} {e : TypeId} {V : Value} {vs : List Value} {v : Value} {l : List Nat} (h : zE9 isI w base e V vs) (hg : w.grownBy w' V.ownBlock) (hs : IsS w .u64 v l) : IsS w' .u64 v l:=by
  cases ho : V.ownBlock with
  | none => rw [ho] at hg; exact hs.below ⟨hg.os,hg.tape,hg.output,hg.size,fun k hk => hg.block k hk (by simp)⟩
  | some g =>
    rw [ho] at hg
    obtain ⟨cs,h1,h2⟩:=h.2 g ho
    exact Go.Proofs.YtagaabooccnamaaGreat.flow.off hs h1 (fun c hc n => by obtain ⟨n',rfl⟩:=h2 c hc; simp) hg
theorem zE9.notBlk {w : World} {base g : Nat} {e t : TypeId} {V : Value} {vs : List Value} {cs : Array Value} (h : zE9 isI w base e V vs) (hT : Blk w g t cs) (hne : e ≠ t) : ∀ x,V.ownBlock = some x -> some g ≠ some x:=fun x e1 e2 => by
 obtain ⟨cs,h1,_⟩:=h.2 x e1
 injection e2 with e2
 subst e2
 unfold Blk at hT
 rw [h1] at hT
 injection hT with hT
 injection hT with _ hT
 exact hne hT
theorem zE9.keepBlk {w w' : World} {base g : Nat} {e t : TypeId} {V : Value} {vs : List Value} {cs : Array Value} (h : zE9 isI w base e V vs) (hT : Blk w g t cs) (hne : e ≠ t) (hg : w.grownBy w' V.ownBlock) : Blk w' g t cs:=by
  cases ho : V.ownBlock with
  | none => rw [ho] at hg; exact hT.below ⟨hg.os,hg.tape,hg.output,hg.size,fun k hk => hg.block k hk (by simp)⟩
  | some x =>
    rw [ho] at hg
    exact Blk.grown hT hg (fun e => h.notBlk hT hne x ho (by rw [e]))
theorem qR3 (w : World) (g : Nat) (x y z : Value) : w.grownBy (((w.setCell ⟨g,0,none⟩ x).setCell ⟨g,1,none⟩ y).setCell ⟨g,2,none⟩ z) (some g):=((zF0 w g 0 x).trans (zF0 _ g 1 y)).trans (zF0 _ g 2 z)
theorem no3 {k : IntKind} {A D : Option Addr} {n m c e : Nat} (b : Bool) : ∀ x ∈ (#[.bool b,.slice A n c,.slice D m e] : Array Value),∀ z,x ≠ .int k z:=by
 intro x hx z
 have : x = .bool b \/ x = .slice A n c \/ x = .slice D m e:=by simpa using hx
 rcases this with rfl | rfl | rfl <;> simp
theorem zL0.set {us : List Value} {G : Nat -> Prop} (h : zL0 us G) {u : Value} (hu : ∀ g,u.ownBlock = some g -> ¬ G g) (i : Nat) : zL0 (us.set i u) G:=fun x hx g hg => by
 rcases List.mem_or_eq_of_mem_set hx with hx | rfl
 ·exact h x hx g hg
 ·exact hu g hg
def pI (ps : List Nat) : List Value:=vi (ps.map fun (i : Nat) => (i : Int))
theorem qA8 (ps : List Nat) : (pI ps).length = ps.length:=by unfold pI; rw [vi_len,zA9]
theorem pI_snoc (ps : List Nat) (a : Nat) : pI ps ++ [.int .i64 (a : Int)] = pI (ps ++ [a]):=by unfold pI vi; simp
structure DownEnd (T0 : List (List Rat)) (g n C pl S : Nat) (w : World) (v v5 : Value) (w' : World) (T : List (List Rat)) (us : List Value) (ps : List Nat) (d : Rat) : Prop where
 dwn : Dwn T0 T n C pl ps d S
 tab : zE0 .u64 4294967296 w' g 44 us T
 piv : zE9 isI w' w.heap.size 3 v (pI ps)
 num : IsQ w' v5 d
 len : zC7 d (1 + 400 * ps.length)
 own : w.grownBy w' (some g)
def yG1 (T0 : List (List Rat)) (g n C pl S : Nat) (w : World) (e : Ending) (w' : World) : Prop:=∃ v v5 T us ps d,e = .returned (.tuple #[v,v5]) /\ DownEnd T0 g n C pl S w v v5 w' T us ps d
theorem jB (g n C pl S : Nat) (us : List Value) (T0 : List (List Rat)) (w : World) (h : zE0 .u64 4294967296 w g 44 us T0) (hc : Hid (shp T0 n C /\ pl <= C /\ n <= 5 /\ C <= 1000 /\ zH5 T0 S /\ (S + 1) * 2 ^ (n - 1) <= 400)) :
    Calls Tryz.prog 90 #[.slice (some ⟨g,0,none⟩) n n,.int .i64 (pl : Int)] w (yG1 T0 g n C pl S w):=by
  have hn5:=hc.out.2.2.1
  have hC:=hc.out.2.2.2.1
  have hpl:=hc.out.2.1
  obtain ⟨O,hO⟩ : ∃ O : Rat,O = 1:=⟨_,rfl⟩
  have CO : ∀ w,Calls Tryz.prog 41 #[.int .i64 1] w (RetQ O w):=fun w => by
    have h:=qQ9 1 w (by omega) (by omega)
    rwa [show ((1 : Int) : Rat) = O by rw [hO]; rfl] at h
  have HO:=Lib.hid hO
  clear hO
  go_enter Tryz.func90,Tryz.ntmps90
  go_wp2_with fail
  refine (CO _).mono ?_
  rintro e w2 ⟨v2,rfl,k2,-,b2⟩
  obtain ⟨u2,t2,rfl,s2,d2⟩:=k2
  obtain ⟨A2,c2,rfl,_⟩:=id s2
  obtain ⟨D2,e2,rfl,_⟩:=id d2
  have ba:=zC8 (w:=w) (zB3 _) (.cells #[.bool false,.slice none 0 0,.slice none 0 0] 83)
  have hs1 : (w.alloc (.cells #[.bool false,.slice none 0 0,.slice none 0 0] 83)).heap.size = w.heap.size + 1:=by first | rfl | exact Array.size_push _
  have BR0:=(Blk.new w 83 #[.bool false,.slice none 0 0,.slice none 0 0]).below b2
  have ba2:=zC8 (w:=w2) (zB3 _) (.cells #[.bool (ngB O.num),.slice A2 (digs 4294967296 O.num.natAbs).length c2,.slice D2 (digs 4294967296 O.den).length e2] 83)
  have BP0:=Blk.new w2 83 #[.bool (ngB O.num),.slice A2 (digs 4294967296 O.num.natAbs).length c2,.slice D2 (digs 4294967296 O.den).length e2]
  have hgP : w.heap.size < w2.heap.size:=by have:=b2.size; omega
  have hglt : g < w.heap.size:=h.lt
  have bb2:=ba.trans (b2.mono ba.size)
  have TS0:=(h.below bb2).below ba2
  have HG0 : Hid (w.grownBy _ (some g)):=qK4 (bb2.trans (ba2.mono bb2.size)) (some g)
  have s20:=s2.below ba2
  have d20:=d2.below ba2
  have BR1:=BR0.below ba2
  have HD0 : Hid (Dwn T0 T0 n C 0 [] O S):=by
    show Dwn T0 T0 n C 0 [] O S
    rw [HO.out]
    exact Dwn.start hc.out.1 hc.out.2.2.2.2.1
  have HL0 : Hid (zC7 O (1 + 400 * ([] : List Nat).length)):=by
    show zC7 O _
    rw [HO.out]
    exact lenQ_01 (.inr rfl)
  have HO0 : Hid (0 < C -> zL0 us (fun x => x = w.heap.size \/ x = w2.heap.size)):=by
    show _ -> _
    intro hC0 u hu x hx hG
    obtain ⟨i,hi⟩:=List.mem_iff_getElem?.1 hu
    obtain ⟨r,hr⟩ : ∃ r,T0[i]? = some r:=⟨_,zA3 (by rw [<- h.2.1]; exact (zA4.1 hi).1)⟩
    have hsl:=h.2.2 i u r hi hr
    have hr0 : r ≠ []:=List.length_pos_iff.1 (by rw [hc.out.1.2 r (zA5 hr)]; exact hC0)
    obtain ⟨g',o',c',rfl,hlt,_⟩:=hsl.place hr0
    have e1 : g' = x:=by simpa [Value.ownBlock] using hx
    rcases hG with e2 | e2 <;> omega
  clear ba b2 ba2 bb2 s2 d2 BR0 hs1
  go_wp2
  go_loopw [6,15] (fun v6 v15 wr => ∃ (j : Nat) (T : List (List Rat)) (us' : List Value) (ps : List Nat) (d : Rat) (u t : Value),j <= pl /\ Hid (Dwn T0 T n C j ps d S) /\ zE0 .u64 4294967296 wr g 44 us' T /\ zE9 isI wr w.heap.size 3 v6 (pI ps) /\ Blk wr w2.heap.size 83 #[.bool (ngB d.num),u,t] /\ IsS wr .u64 u (digs 4294967296 d.num.natAbs) /\ IsS wr .u64 t (digs 4294967296 d.den) /\ Blk wr w.heap.size 83 #[.bool false,.slice none 0 0,.slice none 0 0] /\ Hid (zC7 d (1 + 400 * ps.length)) /\ Hid (w.grownBy wr (some g)) /\ Hid (0 < C -> zL0 us' (fun x => x = w.heap.size \/ x = w2.heap.size)) /\ v15 = .int .i64 (j : Int)) (fun _ v15 _ => pl - (intOf v15).toNat)
  case atStart => exact ⟨0,T0,us,[],O,_,_,by omega,HD0,TS0,jA7 _ _ _ _,BP0,s20,d20,BR1,HL0,HG0,HO0,rfl⟩
  case round =>
    clear TS0 BP0 s20 d20 BR1 HL0 HG0 HD0 HO0 CO HO
    obtain ⟨j,T,us',ps,d,u,t,hj,HD,TS,RP,BP,su,st,BR,HLD,HG,HOF,rfl⟩:=hrel
    obtain ⟨Au,cu,rfl,_⟩:=id su
    obtain ⟨At,ct,rfl,_⟩:=id st
    by_cases hlt : j < pl
    · obtain ⟨A6, c6, e6⟩ := zE7.slice RP.1
      rw [qA8] at e6
      subst e6
      have hkn : ps.length <= n:=HD.out.ech.le
      by_cases hk : ps.length < n
      · have hnk : ¬ n = ps.length:=by omega
        have hTl : T.length = n:=HD.out.sh.1
        have SL:=TS.sub (o:=ps.length) (m:=n - ps.length) (c:=n - ps.length) (by omega) (zB3 _) (by unfold maxLen; omega)
        have hj : j < C:=by omega
        have HSH:=Lib.hid HD.out.sh
        go_wp2_with fail
        refine (yF8 _ _ j _ SL (fun r hr => by rw [HSH.out.2 r (List.mem_of_mem_drop (List.mem_of_mem_take hr))]; omega)).mono ?_
        rintro e w4 ⟨f,rfl,hf,hz,hnz,b4⟩
        have hLl : ((T.drop ps.length).take (n - ps.length)).length = n - ps.length:=by rw [List.length_take,List.length_drop]; omega
        have hent : ∀ i,i < n - ps.length -> zB9 ((T.drop ps.length).take (n - ps.length)) i j = zB9 T (ps.length + i) j:=fun i hi => by
          have e : ((T.drop ps.length).take (n - ps.length)).getD i [] = T.getD (ps.length + i) []:=by rw [zA6,List.getElem?_take_of_lt hi,List.getElem?_drop,zA6]
          unfold zB9
          rw [e]
        rw [hLl] at hf hnz
        have TS4:=TS.below b4
        have RP4:=RP.below b4
        have BP4:=BP.below b4
        have su4:=su.below b4
        have st4:=st.below b4
        have BR4:=BR.below b4
        have HG4 : Hid (w.grownBy w4 (some g)):=zI9 HG.out b4
        clear TS RP BP su st BR HG SL
        by_cases hfl : f < n - ps.length
        · have hne : zB9 T (ps.length + f) j ≠ 0:=by rw [<- hent f hfl]; exact hnz hfl
          have HNE:=Lib.hid hne
          clear hz hnz hent hne hLl
          go_upto_if 30 with (fail)
          have hb28 : ((f : Int) == ((n - ps.length : Nat) : Int)) = false:=by rw [beq_eq_false_iff_ne]; omega
          obtain ⟨B30,hB⟩ : ∃ B,B = decide (0 < f):=⟨_,rfl⟩
          rw [hb28,<- hB]
          have HB:=Lib.hid hB
          clear hb28 hB
          go_cut [] from 31 to 44 (fun wx => ∃ (us2 : List Value) (d2 : Rat) (u2 t2 : Value),zE0 .u64 4294967296 wx g 44 us2 (zH4 T ps.length (ps.length + f)) /\ Hid (zL0 us2 (fun x => x = w.heap.size \/ x = w2.heap.size)) /\ zE9 isI wx w.heap.size 3 (.slice A6 ps.length c6) (pI ps) /\ Blk wx w2.heap.size 83 #[.bool (ngB d2.num),u2,t2] /\ IsS wx .u64 u2 (digs 4294967296 d2.num.natAbs) /\ IsS wx .u64 t2 (digs 4294967296 d2.den) /\ Blk wx w.heap.size 83 #[.bool false,.slice none 0 0,.slice none 0 0] /\ Hid (d2 = if ps.length + f = ps.length then d else -d) /\ Hid (w.grownBy wx (some g)))
          case first =>
            by_cases hf0 : f = 0
            · subst hf0
              have hb : B30 = false:=HB.out
              subst hb
              have e1 : zH4 T ps.length (ps.length + 0) = T:=yW6 (by omega)
              have e2 : d = if ps.length + 0 = ps.length then d else -d:=(if_pos rfl).symm
              go_wp2_with fail
              go_meet
              exact ⟨us',d,_,_,by rw [e1]; exact TS4,HOF.out (by omega),RP4,BP4,su4,st4,BR4,e2,HG4.out⟩
            · have hb : B30 = true:=by rw [HB.out]; exact decide_eq_true (by omega)
              subst hb
              obtain ⟨rk,hrk,hrkl⟩:=zH3 HSH.out (show ps.length < n by omega)
              obtain ⟨rf,hrf,hrfl⟩:=zH3 HSH.out (show ps.length + f < n by omega)
              obtain ⟨Ak,ck,huk,eck,srk⟩:=TS4.at_ hrk
              obtain ⟨Af,cf,huf,ecf,srf⟩:=TS4.at_ hrf
              have fk:=TS4.frozenAt ps.length
              have ff:=TS4.frozenAt (ps.length + f)
              have hpos : 0 < n - ps.length:=by omega
              go_upto_region 10 with (fail)
              go_region
              all_goals
                have TS5:=TS4.stored ps.length srf
                have srk5:=TS4.1.keepF (zF0 w4 g ps.length (.slice Af rf.length cf)) srk
                have TS6:=TS5.stored (ps.length + f) srk5
                rw [show (T.set ps.length rf).set (ps.length + f) rk = zH4 T ps.length (ps.length + f) by unfold zH4; rw [zJ6 hrk,zJ6 hrf]] at TS6
                have G8:=zI9 ((zF0 w4 g ps.length (.slice Af rf.length cf)).trans (zF0 _ g (ps.length + f) (.slice Ak rk.length ck))) (Below.refl _ ((w4.setCell ⟨g,ps.length,none⟩ (.slice Af rf.length cf)).setCell ⟨g,ps.length + f,none⟩ (.slice Ak rk.length ck))).drew
                have TS8:=TS6.below (Below.refl _ _).drew
                have HO8 : Hid (zL0 ((us'.set ps.length (.slice Af rf.length cf)).set (ps.length + f) (.slice Ak rk.length ck)) (fun x => x = w.heap.size \/ x = w2.heap.size)):=((HOF.out (by omega)).set (fun x hx => HOF.out (by omega) _ (zA5 huf) x hx) ps.length).set (fun x hx => HOF.out (by omega) _ (zA5 huk) x hx) (ps.length + f)
                have RP8:=RP4.grown G8 (fun x e1 e2 => RP4.notTab TS4.1 (by decide) (by rw [e1,e2]))
                have BP8:=Blk.grown BP4 G8 (by omega)
                have BR8:=Blk.grown BR4 G8 (by omega)
                have su8:=TS4.1.keep G8 su4
                have st8:=TS4.1.keep G8 st4
                have HG8 : Hid (w.grownBy _ (some g)):=HG4.out.trans G8
                have kd : IsQ _ (.agg #[.bool (ngB d.num),.slice Au (digs 4294967296 d.num.natAbs).length cu,.slice At (digs 4294967296 d.den).length ct]) d:=⟨_,_,rfl,su8,st8⟩
                obtain ⟨V0,V1,V2,_,_,_⟩:=three BP8
                have HLd : Hid (zC7 d 100000):=HLD.out.mono (by have:=HD.out.ech.le; omega)
                clear TS5 TS6 srk5 G8 TS4 RP4 BP4 BR4 su4 st4 HG4 srk srf eck ecf fk ff su8 st8
                rw [hrfl,hrkl] at *
                obtain ⟨M,hM⟩ : ∃ M,M = -d:=⟨_,rfl⟩
                have CN : ∀ w a,IsQ w a d -> Calls Tryz.prog 126 #[a] w (RetQ M w):=fun w a h => by rw [hM]; exact yB6 a d w h HLd.out
                have HM:=Lib.hid hM
                clear hM
                go_wp2_with fail
                refine (CN _ _ kd).mono ?_
                rintro e w9 ⟨v9,rfl,k9,-,b9⟩
                obtain ⟨u9,t9,rfl,s9,d9⟩:=k9
                obtain ⟨A9,c9,rfl,_⟩:=id s9
                obtain ⟨D9,e9,rfl,_⟩:=id d9
                have BP9:=BP8.below b9
                obtain ⟨X0,X1,X2,F0,F1,F2⟩:=three BP9
                have G10:=qR3 w9 w2.heap.size (.bool (ngB M.num)) (.slice A9 (digs 4294967296 M.num.natAbs).length c9) (.slice D9 (digs 4294967296 M.den).length e9)
                have B10:=qK3 BP9 (.bool (ngB M.num)) (.slice A9 (digs 4294967296 M.num.natAbs).length c9) (.slice D9 (digs 4294967296 M.den).length e9)
                have TS10:=(TS8.below b9).offQ (qJ5 HSH.out (by omega) (by omega)) BP9 (no3 _) (by decide) G10 (fun hC0 u hu e => HO8.out u hu _ e (.inr rfl))
                have RP10:=(RP8.below b9).grown G10 (fun x e1 e2 => (RP8.below b9).notBlk BP9 (by decide) x e1 e2)
                have BR10:=Blk.grown (BR8.below b9) G10 (by omega)
                have s10:=Go.Proofs.YtagaabooccnamaaGreat.flow.off s9 BP9 (no3 _) G10
                have d10:=Go.Proofs.YtagaabooccnamaaGreat.flow.off d9 BP9 (no3 _) G10
                have HG10 : Hid (w.grownBy _ (some g)):=zT5 (zI9 HG8.out b9) G10 (by omega)
                have E2 : Hid (M = if ps.length + f = ps.length then d else -d):=HM.out.trans (if_neg (by omega)).symm
                clear TS8 RP8 BP8 BR8 BP9 s9 d9 kd
                go_wp2
                go_meet
                exact ⟨_,M,_,_,TS10,HO8,RP10,B10,s10,d10,BR10,E2,HG10.out⟩
          case rest =>
            obtain ⟨us2,d2,u2,t2,TS5,HO5,RP5,BP5,su5,st5,BR5,HD2,HG5⟩:=hcut
            obtain ⟨w5,hw5⟩ : ∃ w5,w5 = wc:=⟨_,rfl⟩
            subst hw5
            clear TS4 RP4 BP4 su4 st4 BR4 HG4 HOF HB
            obtain ⟨T1,hT1⟩ : ∃ T1,T1 = zH4 T ps.length (ps.length + f):=⟨_,rfl⟩
            rw [<- hT1] at TS5
            have hs1 : shp T1 n C:=by rw [hT1]; exact qJ5 HSH.out (by omega) (by omega)
            obtain ⟨r1,hr1,hrl1,hq1⟩:=qE1 hs1 hk hj
            obtain ⟨q1,hqe⟩ : ∃ q1,q1 = zB9 T1 ps.length j:=⟨_,rfl⟩
            rw [<- hqe] at hq1
            have hqf : q1 = zB9 T (ps.length + f) j:=by
              rw [hqe,hT1,qQ4 HSH.out (by omega) (by omega)]
              exact congrFun (if_pos rfl) j
            have hq0 : q1 ≠ 0:=by rw [hqf]; exact HNE.out
            have hR1 : zH5 T1 399:=by rw [hT1]; exact yD3 HSH.out (by omega) (by omega) (HD.out.small hc.out.2.2.2.2.2)
            have hLr : zL r1 399:=hR1 r1 (zA5 hr1)
            obtain ⟨Dn,hDn⟩ : ∃ Dn,Dn = d2 * q1:=⟨_,rfl⟩
            obtain ⟨X,hX⟩ : ∃ X,X = q1⁻¹:=⟨_,rfl⟩
            have hLX : zC7 X 399:=by rw [hX]; exact yR6 hq0 (hLr.len q1 (zA5 hq1))
            have hL2 : zC7 d2 (1 + 400 * ps.length):=by
              rw [HD2.out]
              by_cases e : ps.length + f = ps.length
              · rw [if_pos e]; exact HLD.out
              · rw [if_neg e]; exact qZ7 HLD.out
            have hLn : zC7 Dn (1 + 400 * (ps.length + 1)):=by rw [hDn]; exact (qZ6 hL2 (hLr.len q1 (zA5 hq1))).mono (by omega)
            obtain ⟨Au2,cu2,rfl,_⟩:=id su5
            obtain ⟨At2,ct2,rfl,_⟩:=id st5
            have CM : ∀ w a b,IsQ w a d2 -> IsQ w b q1 -> Calls Tryz.prog 127 #[a,b] w (RetQ Dn w):=fun w a b h1 h2 => by rw [hDn]; exact qQ8 a d2 b q1 w h1 h2 (hL2.mono (by omega)) ((hLr.len q1 (zA5 hq1)).mono (by omega))
            have CV : ∀ w a,IsQ w a q1 -> Calls Tryz.prog 128 #[a] w (zT1 X 0 w):=fun w a h1 => by rw [hX]; exact inv8_ok a q1 w h1 ((hLr.len q1 (zA5 hq1)).mono (by omega)) hq0
            have HE:=Lib.hid (zA hT1 (zA hs1 (zA hr1 (zA hrl1 (zA hq1 (zA hqe (zA hqf (zA hq0 (zA hR1 (zA hDn (zA hX (zA hLX hLn))))))))))))
            have HLR:=Lib.hid hLr
            clear hT1 hs1 hqe hqf hq0 hR1 hDn hX hLX hLn hL2 hLr hrl1
            have bd:=(Below.refl w5.heap.size w5).drew
            have TSd:=TS5.below bd
            have RPd:=RP5.below bd
            have BPd:=BP5.below bd
            have sud:=su5.below bd
            have std:=st5.below bd
            have BRd:=BR5.below bd
            have HGd : Hid (w.grownBy w5.drew (some g)):=zI9 HG5.out bd
            obtain ⟨Ar,cr,hur,ecr,sr⟩:=TSd.at_ hr1
            obtain ⟨gr,or,uq,tq,rfl,hia,k0,k1,k2,sq,dq⟩:=sr.at_ hq1
            obtain ⟨Aq,cq,rfl,_⟩:=id sq
            obtain ⟨Dq,eq,rfl,_⟩:=id dq
            have hix:=fun w => zK (P:=Tryz.prog) Tryz.underlying44 (by kernel_rfl) (g:=gr) (o:=or) (c:=cr) hia w
            have kq : IsQ w5.drew (.agg #[.bool (ngB q1.num),.slice Aq (digs 4294967296 q1.num.natAbs).length cq,.slice Dq (digs 4294967296 q1.den).length eq]) q1:=⟨_,_,rfl,sq,dq⟩
            have kd : IsQ w5.drew (.agg #[.bool (ngB d2.num),.slice Au2 (digs 4294967296 d2.num.natAbs).length cu2,.slice At2 (digs 4294967296 d2.den).length ct2]) d2:=⟨_,_,rfl,sud,std⟩
            obtain ⟨V0,V1,V2,_,_,_⟩:=three BPd
            have hpos : 0 < n - ps.length:=by omega
            clear TS5 RP5 BP5 su5 st5 BR5 HG5 bd sr hr1 hq1
            go_upto_region 12 with (fail)
            go_cut [] from 45 to 52 (fun wx => ∃ u3 t3 : Value,zE0 .u64 4294967296 wx g 44 us2 T1 /\ zE9 isI wx w.heap.size 3 (.slice A6 ps.length c6) (pI ps) /\ Blk wx w2.heap.size 83 #[.bool (ngB Dn.num),u3,t3] /\ IsS wx .u64 u3 (digs 4294967296 Dn.num.natAbs) /\ IsS wx .u64 t3 (digs 4294967296 Dn.den) /\ Blk wx w.heap.size 83 #[.bool false,.slice none 0 0,.slice none 0 0] /\ Hid (w.grownBy wx (some g)))
            case first =>
             go_region_law (go_simp; go_at_call 127; refine (CM _ _ _ (by exact kd) (by exact kq)).mono ?_; rintro e w6 ⟨v6,rfl,k6,-,b6⟩; obtain ⟨u6,t6,rfl,s6,d6⟩:=k6; obtain ⟨A7,c7,rfl,_⟩:=id s6; obtain ⟨D7,e7,rfl,_⟩:=id d6; have BP6:=BPd.below b6; obtain ⟨X0,X1,X2,F0,F1,F2⟩:=three BP6)
             all_goals
              have G7:=qR3 w6 w2.heap.size (.bool (ngB Dn.num)) (.slice A7 (digs 4294967296 Dn.num.natAbs).length c7) (.slice D7 (digs 4294967296 Dn.den).length e7)
              have B7:=qK3 BP6 (.bool (ngB Dn.num)) (.slice A7 (digs 4294967296 Dn.num.natAbs).length c7) (.slice D7 (digs 4294967296 Dn.den).length e7)
              have TS7:=(TSd.below b6).offQ HE.out.2.1 BP6 (no3 _) (by decide) G7 (fun hC0 u hu e => HO5.out u hu _ e (.inr rfl))
              have RP7:=(RPd.below b6).grown G7 (fun x e1 e2 => (RPd.below b6).notBlk BP6 (by decide) x e1 e2)
              have BR7:=Blk.grown (BRd.below b6) G7 (by omega)
              have s7:=Go.Proofs.YtagaabooccnamaaGreat.flow.off s6 BP6 (no3 _) G7
              have d7:=Go.Proofs.YtagaabooccnamaaGreat.flow.off d6 BP6 (no3 _) G7
              have HG7 : Hid (w.grownBy _ (some g)):=zT5 (zI9 HGd.out b6) G7 (by omega)
              clear TSd RPd BPd BRd HGd BP6 s6 d6 kq kd sud std sq dq k0 k1 k2 ecr hix hur V0 V1 V2
              go_wp2
              go_meet
              exact ⟨_,_,TS7,RP7,B7,s7,d7,BR7,HG7⟩
            case rest =>
              obtain ⟨u3,t3,TS7,RP7,BP7,su7,st7,BR7,HG7⟩:=hcut
              obtain ⟨w7,hw7⟩ : ∃ w7,w7 = wc:=⟨_,rfl⟩
              subst hw7
              clear TSd RPd BPd BRd HGd kq kd sud std sq dq k0 k1 k2 ecr hix hur V0 V1 V2 CM
              obtain ⟨Ar,cr,hur,ecr,sr⟩:=TS7.at_ HE.out.2.2.1
              obtain ⟨gr,or,uq,tq,rfl,hia,k0,k1,k2,sq,dq⟩:=sr.at_ HE.out.2.2.2.2.1
              obtain ⟨Aq,cq,rfl,_⟩:=id sq
              obtain ⟨Dq,eq,rfl,_⟩:=id dq
              have hix:=fun w => zK (P:=Tryz.prog) Tryz.underlying44 (by kernel_rfl) (g:=gr) (o:=or) (c:=cr) hia w
              have kq : IsQ w7 (.agg #[.bool (ngB q1.num),.slice Aq (digs 4294967296 q1.num.natAbs).length cq,.slice Dq (digs 4294967296 q1.den).length eq]) q1:=⟨_,_,rfl,sq,dq⟩
              clear sr
              go_wp2_with fail
              refine (CV _ _ kq).mono ?_
              rintro e w8 ⟨v8,rfl,k8,-,b8⟩
              obtain ⟨u8,t8,rfl,s8,d8⟩:=k8
              obtain ⟨A8,c8,rfl,_⟩:=id s8
              obtain ⟨D8,e8,rfl,_⟩:=id d8
              have ba:=zC8 (w:=w8) (zB3 _) (.cells #[.bool (ngB X.num),.slice A8 (digs 4294967296 X.num.natAbs).length c8,.slice D8 (digs 4294967296 X.den).length e8] 83)
              have BU:=Blk.new w8 83 #[.bool (ngB X.num),.slice A8 (digs 4294967296 X.num.natAbs).length c8,.slice D8 (digs 4294967296 X.den).length e8]
              have bb:=b8.trans (ba.mono b8.size)
              have bd:=(Below.refl (w8.alloc (.cells #[.bool (ngB X.num),.slice A8 (digs 4294967296 X.num.natAbs).length c8,.slice D8 (digs 4294967296 X.den).length e8] 83)).heap.size (w8.alloc (.cells #[.bool (ngB X.num),.slice A8 (digs 4294967296 X.num.natAbs).length c8,.slice D8 (digs 4294967296 X.den).length e8] 83))).drew
              have bb9:=bb.trans (bd.mono bb.size)
              have TS9:=TS7.below bb9
              have RP9:=RP7.below bb9
              have BP9:=BP7.below bb9
              have su9:=su7.below bb9
              have st9:=st7.below bb9
              have BR9:=BR7.below bb9
              have HG9 : Hid (w.grownBy _ (some g)):=zI9 HG7.out bb9
              have BU9:=BU.below bd
              obtain ⟨V0,V1,V2,_,_,_⟩:=three BU9
              have kX : IsQ _ (.agg #[.bool (ngB X.num),.slice A8 (digs 4294967296 X.num.natAbs).length c8,.slice D8 (digs 4294967296 X.den).length e8]) X:=⟨_,_,rfl,s8.below (ba.trans (bd.mono ba.size)),d8.below (ba.trans (bd.mono ba.size))⟩
              obtain ⟨Ar2,cr2,hur2,ecr2,sr2⟩:=TS9.at_ HE.out.2.2.1
              have HLS : Hid (r1.length <= 1000 /\ (∀ x ∈ r1,zC7 x 399) /\ zC7 X 399 /\ 399 <= 4900 /\ 399 <= 4900):=⟨by rw [HE.out.2.2.2.1]; exact hC,HLR.out.len,HE.out.2.2.2.2.2.2.2.2.2.2.2.1,by omega,by omega⟩
              have HNL : Hid ((zG9 r1 X).length <= 1000000000):=by
                show _ <= _
                rw [qJ1]; have:=HLS.out.1; omega
              have hkl : ps.length < T1.length:=by rw [HE.out.2.1.1]; exact hk
              clear TS7 RP7 BP7 su7 st7 BR7 HG7 ba BU bb bd bb9 s8 d8 kq sq dq k0 k1 k2 ecr hix hur CV
              go_upto_region 14 with (fail)
              go_cut [] from 63 to 69 (fun wx => ∃ us3 : List Value,zE0 .u64 4294967296 wx g 44 us3 (T1.set ps.length (zG9 r1 X)) /\ Hid (zL0 us3 (fun x => x = w.heap.size \/ x = w2.heap.size)) /\ zE9 isI wx w.heap.size 3 (.slice A6 ps.length c6) (pI ps) /\ Blk wx w2.heap.size 83 #[.bool (ngB Dn.num),u3,t3] /\ IsS wx .u64 u3 (digs 4294967296 Dn.num.natAbs) /\ IsS wx .u64 t3 (digs 4294967296 Dn.den) /\ Blk wx w.heap.size 83 #[.bool false,.slice none 0 0,.slice none 0 0] /\ Hid (w.grownBy wx (some g)))
              case first =>
                go_region_law (go_simp; go_at_call 129; refine (yY3 _ _ r1 X 399 399 _ (by exact sr2) (by exact kX) HLS.out).mono ?_; rintro e w10 ⟨gn,rfl,RNn,hgn,b10⟩; have sR:=RNn.sl rfl HNL.out; have TS10:=TS9.below b10; obtain ⟨u0,c10⟩:=TS10.cellAt (i:=ps.length) hkl; have f10:=TS10.frozenAt ps.length)
                all_goals
                  have TS11:=TS10.stored ps.length sR
                  have G11:=zF0 w10 g ps.length (.slice (some ⟨gn,0,none⟩) (zG9 r1 X).length (zG9 r1 X).length)
                  have hb10:=b10.size
                  have HO11 : Hid (zL0 (us2.set ps.length (.slice (some ⟨gn,0,none⟩) (zG9 r1 X).length (zG9 r1 X).length)) (fun x => x = w.heap.size \/ x = w2.heap.size)):=HO5.out.set (fun x hx hG => by
                    have h1 : gn = x:=by simpa [Value.ownBlock] using hx
                    have h2:=BP9.lt
                    have h3:=BR9.lt
                    rcases hG with e | e <;> omega) ps.length
                  have RP11:=(RP9.below b10).grown G11 (fun x e1 e2 => (RP9.below b10).notTab TS10.1 (by decide) (by rw [e1,e2]))
                  have BP11:=Blk.grown (BP9.below b10) G11 (by omega)
                  have BR11:=Blk.grown (BR9.below b10) G11 (by omega)
                  have su11:=TS10.1.keep G11 (su9.below b10)
                  have st11:=TS10.1.keep G11 (st9.below b10)
                  have HG11 : Hid (w.grownBy _ (some g)):=(zI9 HG9.out b10).trans G11
                  clear TS9 RP9 BP9 su9 st9 BR9 HG9 TS10 sR kX sr2
                  go_wp2
                  go_meet
                  exact ⟨_,TS11,HO11,RP11,BP11,su11,st11,BR11,HG11⟩
              case rest =>
                obtain ⟨us3,TS9',HO9,RP9',BP9',su9',st9',BR9',HG9'⟩:=hcut
                obtain ⟨w9,hw9⟩ : ∃ w9,w9 = wc:=⟨_,rfl⟩
                subst hw9
                clear TS9 RP9 BP9 su9 st9 BR9 HG9 BU9 V0 V1 V2 kX hur2 ecr2 sr2 HNL HLS HO5
                obtain ⟨T2,hT2⟩ : ∃ T2,T2 = T1.set ps.length (zG9 r1 X):=⟨_,rfl⟩
                rw [<- hT2] at TS9'
                have eT2 : T2 = zO5 (zH4 T ps.length (ps.length + f)) ps.length (zB9 (zH4 T ps.length (ps.length + f)) ps.length j)⁻¹:=by
                  rw [hT2,zO5,<- HE.out.1,zJ6 HE.out.2.2.1,HE.out.2.2.2.2.2.2.2.2.2.2.1,HE.out.2.2.2.2.2.1]
                have hs2 : shp T2 n C:=by rw [hT2]; exact qE2 HE.out.2.1 (by rw [qJ1]; exact HE.out.2.2.2.1)
                have hp2 : T2[ps.length]? = some (zG9 r1 X):=by rw [hT2]; exact List.getElem?_set_self hkl
                have hR2 : zH5 T2 399:=by
                  rw [hT2]
                  intro x hx
                  rcases List.mem_or_eq_of_mem_set hx with hx | rfl
                  · exact HE.out.2.2.2.2.2.2.2.2.1 x hx
                  · rw [HE.out.2.2.2.2.2.2.2.2.2.2.1]
                    exact HLR.out.scale (zA5 HE.out.2.2.2.2.1) HE.out.2.2.2.2.2.2.2.1
                have HPV : Hid (zH T2 (fun i => decide (ps.length < i)) (zG9 r1 X) j n = zL4 T (fun i => decide (ps.length < i)) ps.length (ps.length + f) j n):=by
                  show _ = _
                  unfold zL4
                  rw [<- eT2,zJ6 hp2]
                have HDN : Hid (Dwn T0 (zL4 T (fun i => decide (ps.length < i)) ps.length (ps.length + f) j n) n C (j + 1) (ps ++ [j]) Dn S):=by
                  have h1:=HD.out.pivot hj (show ps.length <= ps.length + f by omega) (show ps.length + f < n by omega) HNE.out
                  have h2 : Dn = (if ps.length + f = ps.length then d else -d) * zB9 T (ps.length + f) j:=by rw [HE.out.2.2.2.2.2.2.2.2.2.1,HD2.out,HE.out.2.2.2.2.2.2.1]
                  show Dwn _ _ _ _ _ _ _ _
                  rw [h2]; exact h1
                have HLL : Hid (zC7 Dn (1 + 400 * (ps ++ [j]).length)):=by
                  show zC7 _ _
                  rw [zA8]; exact HE.out.2.2.2.2.2.2.2.2.2.2.2.2
                have HPS : Hid (pI ps ++ [.int .i64 (j : Int)] = pI (ps ++ [j])):=pI_snoc ps j
                have HRP2 : Hid (zL (zG9 r1 X) 399):=hR2 _ (zA5 hp2)
                have hpl2 : Hid ((zG9 r1 X).length = C):=hs2.2 _ (zA5 hp2)
                have H2:=Lib.hid (zA hs2 (zA hp2 hR2))
                have bd:=(Below.refl w9.heap.size w9).drew
                have TSd:=TS9'.below bd
                obtain ⟨Ap,cp,hup,ecp,sp⟩:=TSd.at_ hp2
                have CC : ∀ o m : Nat,o + m = n \/ m = 0 -> ps.length <= o -> o <= n -> (m = 0 -> n = ps.length + 1) -> (m ≠ 0 -> o = ps.length + 1) -> Calls Tryz.prog 130 #[.slice (some ⟨g,o,none⟩) m m,.slice Ap (zG9 r1 X).length cp,.int .i64 (j : Int)] w9.drew (qK5 g us3 (zL4 T (fun i => decide (ps.length < i)) ps.length (ps.length + f) j n) w9.drew):=fun o m h1 h2 h3 h4 h5 => by
                  have hc1:=yF9 g o m m j n C 399 us3 _ (zG9 r1 X) T2 (fun i => decide (ps.length < i)) w9.drew TSd sp ⟨H2.out.1,hpl2.out,hj,by omega,zB3 _,by omega,hC,fun i hi => by simp; omega,fun i h6 h7 => by simp; omega,H2.out.2.2,HRP2.out,fun _ => by omega⟩
                  have e : zH T2 (fun i => decide (ps.length < i)) (zG9 r1 X) j (o + m) = zL4 T (fun i => decide (ps.length < i)) ps.length (ps.length + f) j n:=by
                    rw [<- HPV.out]
                    rcases h1 with h1 | h1
                    · rw [h1]
                    · subst h1
                      have h6:=h4 rfl
                      rw [qE4 (o + 0) (fun i hi => by simp; omega),qE4 n (fun i hi => by simp; omega)]
                  rwa [e] at hc1
                have RPd:=RP9'.below bd
                have BPd:=BP9'.below bd
                have sud:=su9'.below bd
                have std:=st9'.below bd
                have BRd:=BR9'.below bd
                have HGd : Hid (w.grownBy w9.drew (some g)):=zI9 HG9'.out bd
                have h1m : (1 : Int) <= ((n - ps.length : Nat) : Int):=by omega
                clear TS9' RP9' BP9' su9' st9' BR9' HG9' hT2 eT2 hs2 hp2 hR2 hup
                by_cases hm2 : n - ps.length = 1
                · have HM2:=Lib.hid hm2
                  have hcc:=CC ps.length 0 (.inr rfl) (zB3 _) (by omega) (fun _ => by omega) (fun e => absurd rfl e)
                  go_upto_region 15 with (fail)
                  go_region_law (go_simp; go_at_call 130; refine hcc.mono ?_; rintro e w10 ⟨rfl,us4,TS10,G10,ST10⟩)
                  all_goals
                    have RP10:=RPd.grown G10 (fun x e1 e2 => RPd.notTab TSd.1 (by decide) (by rw [e1,e2]))
                    have BP10:=Blk.grown BPd G10 (by omega)
                    have BR10:=Blk.grown BRd G10 (by omega)
                    have su10:=TSd.1.keep G10 sud
                    have st10:=TSd.1.keep G10 std
                    have HG10 : Hid (w.grownBy w10 (some g)):=HGd.out.trans G10
                    have HO10 : Hid (zL0 us4 (fun x => x = w.heap.size \/ x = w2.heap.size)):=ST10 _ (fun x hx => by
                      have h2:=BPd.lt
                      have h3:=BRd.lt
                      rcases hx with rfl | rfl
                      · exact h3
                      · exact h2) HO9.out
                    have ba:=zC8 (w:=w10) (zB3 _) (.cells #[.int .i64 (j : Int)] 3)
                    have RP11:=RP10.below ba
                    have TS11:=TS10.below ba
                    have BP11:=BP10.below ba
                    have BR11:=BR10.below ba
                    have su11:=su10.below ba
                    have st11:=st10.below ba
                    have HG11 : Hid (w.grownBy _ (some g)):=zI9 HG10.out ba
                    have hbase : w.heap.size <= (w10.alloc (.cells #[.int .i64 (j : Int)] 3)).heap.size:=zB4 HG10.out.size ba.size
                    have hone:=cell_one_new w10 (.int .i64 (j : Int)) 3
                    have hlp : (pI ps).length + 1 <= 1000000000:=by rw [qA8]; omega
                    clear TSd RPd BPd BRd sud std HGd G10 TS10 RP10 BP10 BR10 su10 st10 HG10 ba ST10 ecp sp CC
                    go_wp2_with (at_builtin; refine yG rfl (.tmp 77) (.tmp 79) rfl Tryz.underlying36 info_int rfl RP11 rfl rfl (by decide) hone (fun u hu => by (obtain rfl:=List.mem_singleton.1 hu; exact ⟨_,rfl⟩)) hlp hbase ?_; intro v12 w12 RP12 HG12 HX12)
                    have TS13:=TS11.keepX RP11 (RP11.notTab TS11.1 (by decide)) HG12.out
                    have BP13:=RP11.keepBlk BP11 (by decide) HG12.out
                    have BR13:=RP11.keepBlk BR11 (by decide) HG12.out
                    have su13:=RP11.keepS HG12.out su11
                    have st13:=RP11.keepS HG12.out st11
                    have HG13 : Hid (w.grownBy w12 (some g)):=yG0 HG11.out HG12.out (fun x e => RP11.1.base_le x e)
                    rw [HPS.out] at RP12
                    clear TS11 RP11 BP11 BR11 su11 st11 HG11 hone
                    go_wp2
                    go_roundw
                    case rel => exact ⟨j + 1,_,us4,ps ++ [j],Dn,_,_,by omega,HDN,TS13,RP12,BP13,su13,st13,BR13,HLL,HG13,fun _ => HO10.out,by go_num⟩
                    case measure => simp [intOf]; omega
                · have hcc:=CC (ps.length + 1) (n - ps.length - 1) (.inl (by omega)) (by omega) (by omega) (fun e => by omega) (fun _ => rfl)
                  go_upto_region 15 with (fail)
                  go_region_law (go_simp; go_at_call 130; refine hcc.mono ?_; rintro e w10 ⟨rfl,us4,TS10,G10,ST10⟩)
                  all_goals
                    have RP10:=RPd.grown G10 (fun x e1 e2 => RPd.notTab TSd.1 (by decide) (by rw [e1,e2]))
                    have BP10:=Blk.grown BPd G10 (by omega)
                    have BR10:=Blk.grown BRd G10 (by omega)
                    have su10:=TSd.1.keep G10 sud
                    have st10:=TSd.1.keep G10 std
                    have HG10 : Hid (w.grownBy w10 (some g)):=HGd.out.trans G10
                    have HO10 : Hid (zL0 us4 (fun x => x = w.heap.size \/ x = w2.heap.size)):=ST10 _ (fun x hx => by
                      have h2:=BPd.lt
                      have h3:=BRd.lt
                      rcases hx with rfl | rfl
                      · exact h3
                      · exact h2) HO9.out
                    have ba:=zC8 (w:=w10) (zB3 _) (.cells #[.int .i64 (j : Int)] 3)
                    have RP11:=RP10.below ba
                    have TS11:=TS10.below ba
                    have BP11:=BP10.below ba
                    have BR11:=BR10.below ba
                    have su11:=su10.below ba
                    have st11:=st10.below ba
                    have HG11 : Hid (w.grownBy _ (some g)):=zI9 HG10.out ba
                    have hbase : w.heap.size <= (w10.alloc (.cells #[.int .i64 (j : Int)] 3)).heap.size:=zB4 HG10.out.size ba.size
                    have hone:=cell_one_new w10 (.int .i64 (j : Int)) 3
                    have hlp : (pI ps).length + 1 <= 1000000000:=by rw [qA8]; omega
                    clear TSd RPd BPd BRd sud std HGd G10 TS10 RP10 BP10 BR10 su10 st10 HG10 ba ST10 ecp sp CC
                    go_wp2_with (at_builtin; refine yG rfl (.tmp 77) (.tmp 79) rfl Tryz.underlying36 info_int rfl RP11 rfl rfl (by decide) hone (fun u hu => by (obtain rfl:=List.mem_singleton.1 hu; exact ⟨_,rfl⟩)) hlp hbase ?_; intro v12 w12 RP12 HG12 HX12)
                    have TS13:=TS11.keepX RP11 (RP11.notTab TS11.1 (by decide)) HG12.out
                    have BP13:=RP11.keepBlk BP11 (by decide) HG12.out
                    have BR13:=RP11.keepBlk BR11 (by decide) HG12.out
                    have su13:=RP11.keepS HG12.out su11
                    have st13:=RP11.keepS HG12.out st11
                    have HG13 : Hid (w.grownBy w12 (some g)):=yG0 HG11.out HG12.out (fun x e => RP11.1.base_le x e)
                    rw [HPS.out] at RP12
                    clear TS11 RP11 BP11 BR11 su11 st11 HG11 hone
                    go_wp2
                    go_roundw
                    case rel => exact ⟨j + 1,_,us4,ps ++ [j],Dn,_,_,by omega,HDN,TS13,RP12,BP13,su13,st13,BR13,HLL,HG13,fun _ => HO10.out,by go_num⟩
                    case measure => simp [intOf]; omega
        · obtain rfl : f = n - ps.length:=by omega
          have HD5 : Hid (Dwn T0 T n C (j + 1) ps d S):=HD.out.skip fun i h1 h2 => by
            have h3:=hz (i - ps.length) (by omega)
            rw [hent _ (by omega),show ps.length + (i - ps.length) = i by omega] at h3
            exact h3
          clear hz hnz hent hLl
          go_wp2
          go_roundw
          case rel => exact ⟨j + 1,T,us',ps,d,_,_,by omega,HD5,TS4,RP4,BP4,su4,st4,BR4,HLD,HG4,HOF,by go_num⟩
          case measure => simp [intOf]; omega
      · have hn0 : n - ps.length = 0:=by omega
        have SL:=TS.sub (o:=0) (m:=0) (c:=0) (by omega) (zB3 _) (by unfold maxLen; omega)
        go_wp2_with fail
        refine (yF8 _ _ j _ SL (fun r hr => by simp at hr)).mono ?_
        rintro e w4 ⟨f,rfl,hf,-,-,b4⟩
        obtain rfl : f = 0:=by simpa using hf
        have TS4:=TS.below b4
        have RP4:=RP.below b4
        have BP4:=BP.below b4
        have su4:=su.below b4
        have st4:=st.below b4
        have BR4:=BR.below b4
        have HG4 : Hid (w.grownBy w4 (some g)):=zI9 HG.out b4
        have HD5 : Hid (Dwn T0 T n C (j + 1) ps d S):=HD.out.skip fun i h1 h2 => by omega
        clear TS RP BP su st BR HG SL
        go_wp2
        go_roundw
        case rel => exact ⟨j + 1,T,us',ps,d,_,_,by omega,HD5,TS4,RP4,BP4,su4,st4,BR4,HLD,HG4,HOF,by go_num⟩
        case measure => simp [intOf]; omega
    · obtain rfl : j = pl:=by omega
      obtain ⟨V0,V1,V2,_,_,_⟩:=three BP
      obtain ⟨R0,R1,R2,F0,F1,F2⟩:=three BR
      have G9:=qR3 wr w.heap.size (.bool (ngB d.num)) (.slice Au (digs 4294967296 d.num.natAbs).length cu) (.slice At (digs 4294967296 d.den).length ct)
      have B9:=qK3 BR (.bool (ngB d.num)) (.slice Au (digs 4294967296 d.num.natAbs).length cu) (.slice At (digs 4294967296 d.den).length ct)
      have TS9:=TS.offQ HD.out.sh BR (no3 _) (by decide) G9 (fun hC0 u hu e => HOF.out hC0 u hu _ e (.inl rfl))
      have RP9:=RP.grown G9 (fun x e1 e2 => RP.notBlk BR (by decide) x e1 e2)
      have s9:=Go.Proofs.YtagaabooccnamaaGreat.flow.off su BR (no3 _) G9
      have d9:=Go.Proofs.YtagaabooccnamaaGreat.flow.off st BR (no3 _) G9
      have HG9 : Hid (w.grownBy _ (some g)):=zT5 HG.out G9 (zB3 _)
      obtain ⟨w9,hw9⟩ : ∃ w9,w9 = (((wr.setCell ⟨w.heap.size,0,none⟩ (.bool (ngB d.num))).setCell ⟨w.heap.size,1,none⟩ (.slice Au (digs 4294967296 d.num.natAbs).length cu)).setCell ⟨w.heap.size,2,none⟩ (.slice At (digs 4294967296 d.den).length ct)):=⟨_,rfl⟩
      rw [<- hw9] at B9 TS9 RP9 s9 d9 HG9
      have bd:=(Below.refl w9.heap.size w9).drew
      have B10:=B9.below bd
      have HEND : Hid (yG1 T0 g n C j S w (.returned (.tuple #[u6,.agg #[.bool (ngB d.num),.slice Au (digs 4294967296 d.num.natAbs).length cu,.slice At (digs 4294967296 d.den).length ct]])) w9.drew):=⟨_,_,T,us',ps,d,rfl,HD.out,TS9.below bd,RP9.below bd,⟨_,_,rfl,s9.below bd,d9.below bd⟩,HLD.out,zI9 HG9.out bd⟩
      obtain ⟨C0,C1,C2,_,_,_⟩:=three B10
      clear TS9 RP9 s9 d9 HG9 B9 bd B10
      rw [hw9] at C0 C1 C2
      have HW:=Lib.hid hw9
      clear hw9
      go_upto_region 18 with (fail)
      go_region
      all_goals
        go_wp2
        exact bodyPost_ret (v:=.tuple #[u6,.agg #[.bool (ngB d.num),.slice Au (digs 4294967296 d.num.natAbs).length cu,.slice At (digs 4294967296 d.den).length ct]]) (by simp [results,Tryz.results90,go_sem,C0,C1,C2]) rfl (by have h:=HEND.out; rw [HW.out] at h; exact h)
end Go.Proofs.YtagaabooccnamaaGreat.rat
namespace Go.Proofs.YtagaabooccnamaaGreat.rat
open Go.RowKit Go.Shelf num mem nat txt str flow whl
attribute [local go_sem] Oper.semAt_some
theorem jB0 {F : Fence} {n : Nat} {P : Program} {ops : Array Oper} {Q : Exit -> Act -> World -> Prop} {i : Nat} {K : Act -> World -> Prop} {a : Act} {w : World} (l : Nat) (hro : F.round = none) (hd : ∀ (j : Nat) (o : Oper),ops[j]? = some o -> ∀ c,o.op ≠ .defer c) (h : wpOpIn F n P ops Q i K a w) : wpOpIn (F.inRound l) n P ops Q i K a w:=by
 unfold wpOpIn at *
 split
 ·rename_i e
  rw [e] at h
  exact h
 ·rename_i o e
  simp only [e] at h
  split
  ·rename_i hw
   simp only [hw,if_true] at h
   unfold Oper.wpIn at *
   refine ⟨h.1,?_⟩
   have h:=h.2
   rw [hro,Oper.semAt_none] at h
   rw [Fence.inRound_round,Oper.semAt_some l _ o (hd i o e)]
   generalize (execOp a.eval o).run P w = r at *
   cases r with
   | ok x w' => cases x <;> exact h
   | halt x w' => cases x <;> exact h
  ·rename_i hw
   simp only [hw] at h
   exact h
theorem yG2 {F : Fence} {n : Nat} {P : Program} {md : Region.Mode} {ops : Array Oper} {Q : Exit -> Act -> World -> Prop} (l : Nat) (hro : F.round = none) (hd : ∀ (j : Nat) (o : Oper),ops[j]? = some o -> ∀ c,o.op ≠ .defer c) : ∀ (fuel : Nat) (listed : Array Bool) (a : Act) (w : World),wpAnyIn F n P md ops Q fuel listed a w -> wpAnyIn (F.inRound l) n P md ops Q fuel listed a w
 | 0,_,_,_,h => h
 | fuel + 1,listed,a,w,h => ⟨h.1,fun i hi => jB0 l hro hd (wpOpIn_mono (fun a w h => yG2 l hro hd fuel _ a w h) (h.2 i hi))⟩
theorem jB1 {n : Nat} {P : Program} {l : List Oper} {Q : Exit -> Act -> World -> Prop} {id : Nat} {a : Act} {w : World} (r : Nat) (hm : P.follows .mixedOrders = true) (hd : l.all (fun o => match o.op with | .defer _ => false | _ => true) = true)
  (h : wpAnyIn Fence.wide n P .any l.toArray Q l.length (Array.replicate l.length false) a w.drew) : (Code.region id l.toArray true).wpIn (Fence.wide.inRound r) n P Q a w:=by
 refine wpIn_region_any hm ?_
 refine yG2 r rfl (fun j o hj c hc => ?_) _ _ _ _ h
 have h1:=List.all_eq_true.1 hd o (by simpa using zA5 (by simpa using hj))
 rw [hc] at h1
 cases h1
theorem IsS.own {w w' : World} {row : Option Nat} {k : IntKind} {v : Value} {l : List Nat} (h : IsS w k v l) (hg : w.grownBy w' row) (hr : ∀ x,row = some x -> ∃ o : Obj,w.heap[x]? = some o /\ o.isCells = false) : IsS w' k v l:=by
 obtain ⟨A,c,e,h1,h2,h3⟩:=h
 refine ⟨A,c,e,h1,h2,fun i d hd => ?_⟩
 obtain ⟨ad,h4,h5⟩:=h3 i d hd
 exact ⟨ad,h4,cell_kept h5 hg hr⟩
theorem SlF.own {w w' : World} {row : Option Nat} {k : IntKind} {B : Nat} {v : Value} {r : List Rat} (h : SlF k B w v r) (hg : w.grownBy w' row) (hr : ∀ x,row = some x -> ∃ o : Obj,w.heap[x]? = some o /\ o.isCells = false) : SlF k B w' v r:=by
 obtain ⟨ps,h1,⟨A,c,e1,h2,h3,h4⟩,h5⟩:=h
 refine ⟨ps,h1,⟨A,c,e1,h2,h3,fun i p hp => ?_⟩,fun p hp => ⟨IsS.own (h5 p hp).1 hg hr,IsS.own (h5 p hp).2 hg hr⟩⟩
 obtain ⟨g',o,e2,c0,c1,c2⟩:=h4 i p hp
 exact ⟨g',o,e2,cell_kept c0 hg hr,cell_kept c1 hg hr,cell_kept c2 hg hr⟩
theorem zE0.ownK {w w' : World} {row : Option Nat} {k : IntKind} {B g : Nat} {TS : TypeId} {us : List Value} {T : List (List Rat)} (h : zE0 k B w g TS us T) (hg : w.grownBy w' row) (hr : ∀ x,row = some x -> ∃ o : Obj,w.heap[x]? = some o /\ o.isCells = false) : zE0 k B w' g TS us T:=by
 refine ⟨h.1.grown hg fun e => ?_,h.2.1,fun i u r hu h2 => SlF.own (h.2.2 i u r hu h2) hg hr⟩
 obtain ⟨o,h1,h2⟩:=hr g e
 have h3:=h.1.1
 unfold Blk at h3
 rw [h1] at h3
 injection h3 with h3
 subst h3
 cases h2
def KpG (g n0 : Nat) (W W' : World) : Prop:=W.heap.size <= W'.heap.size /\ ∀ k,k < n0 -> k < W.heap.size -> k ≠ g -> W'.heap[k]? = W.heap[k]?
theorem KpG.refl (g n0 : Nat) (W : World) : KpG g n0 W W:=⟨zB3 _,fun _ _ _ _ => rfl⟩
theorem KpG.trans {g n0 : Nat} {A B C : World} (h : KpG g n0 A B) (k : KpG g n0 B C) : KpG g n0 A C :=
 ⟨zB4 h.1 k.1,fun i hi hl hg => (k.2 i hi (Nat.lt_of_lt_of_le hl h.1) hg).trans (h.2 i hi hl hg)⟩
theorem KpG.cell {g n0 : Nat} {W W' : World} {p : Addr} {v : Value} (h : KpG g n0 W W') (hp : W.cell? p = some v) (hn : p.block < n0) (hg : p.block ≠ g) : W'.cell? p = some v:=by
 have h1:=h.2 p.block hn (World.block_lt_of_cell? _ _ hp) hg
 exact (World.cell?_of_block h1).trans hp
abbrev BkT (ps : List Nat):={ x : Nat × Nat // x.1 < ps.length /\ x.2 = pv ps x.1 }
def bkE {ps : List Nat} (x : BkT ps) : Array Value:=#[.int .i64 (x.1.1 : Int),.int .i64 (x.1.2 : Int)]
def zO {ps : List Nat} (xs : List (BkT ps)) : Prop:=∀ (t : Nat) (x : BkT ps),xs[t]? = some x -> x.1.1 + t + 1 = ps.length
theorem zO.snoc {ps : List Nat} {xs : List (BkT ps)} {x : BkT ps} (h : zO xs) (hx : x.1.1 + xs.length + 1 = ps.length) : zO (xs ++ [x]):=fun t y hy => by
 by_cases ht : t < xs.length
 ·rw [zB0 ht] at hy; exact h t y hy
 ·rw [List.getElem?_append_right (by omega)] at hy
  have e : t - xs.length = 0:=by
   have:=(zA4.1 hy).1
   simp at this; omega
  rw [e] at hy
  obtain rfl : x = y:=by simpa using hy
  omega
theorem zO.init {ps : List Nat} {xs : List (BkT ps)} {x : BkT ps} (h : zO (xs ++ [x])) : zO xs /\ x.1.1 + xs.length + 1 = ps.length :=
 ⟨fun t y hy => h t y (by rw [zB0 (zA4.1 hy).1]; exact hy),h xs.length x (by rw [List.getElem?_append_right (zB3 _)]; simp)⟩
theorem jB2 (F : Fence) (n : Nat) (hf : F.fn 154) (hro : F.round = none) (hn : 1 <= n) (l Bs g n0 c : Nat) (A : Option Addr) (ps : List Nat) (hps : ps.length <= 1000) (J Jx : List (BkT ps) -> World -> Prop)
  (hY : ∀ pre x W, J pre W -> pre.length < ps.length -> YieldAt F (n - 1) Tryz.prog l (bkE x) W fun e W' =>
   (e = .returned (.bool true) /\ J (pre ++ [x]) W' /\ KpG g n0 W W') \/ (e = .returned (.bool false) /\ Jx (pre ++ [x]) W'))
  (W : World) (hBs : W.cell? ⟨Bs,0,none⟩ = some (.slice A ps.length c)) (hBn : Bs < n0) (hBg : Bs ≠ g) (hc : ∀ i,i < ps.length -> ∃ ad,A = some ad /\ ad.block < n0 /\ ad.block ≠ g /\ W.cell? (ad.add i) = some (.int .i64 (pv ps i : Int))) (h0 : J [] W) :
  CallsIn F n Tryz.prog 154 #[.func (.yield l) #[] #[],.pointer (some ⟨Bs,0,none⟩)] W fun e W' => (∃ v,e = .returned v) /\
   ((∃ xs : List (BkT ps),(xs.length = ps.length /\ zO xs) /\ J xs W') \/ (∃ pre,True /\ Jx pre W')):=by
 refine callsIn_of_wp Tryz.func154 rfl hf ?_ hro
 simp only [Tryz.ntmps154,List.size_toArray,List.length_cons,List.length_nil,Nat.reduceAdd,Nat.reduceSub,Array.replicate_succ,Array.replicate_zero,List.push_toArray,List.append_toArray,List.nil_append,List.cons_append]
 gi_wp2
 gi_loopw [3] (fun v3 wr => ∃ (z : Int) (xs : List (BkT ps)),z = (ps.length : Int) - 1 - (xs.length : Int) /\ xs.length <= ps.length /\ Hid (zO xs) /\ v3 = .int .i64 z /\ Hid (J xs wr) /\ Hid (KpG g n0 W wr)) (fun v3 _ => (intOf v3 + 1).toNat)
 case atStart => exact ⟨_,[],by simp,Nat.zero_le _,(fun t x h => by simp at h),rfl,h0,KpG.refl _ _ _⟩
 case round =>
  obtain ⟨z,xs,hz,hxl,HB,rfl,HJ,HK⟩:=hrel
  have hBr:=HK.out.cell hBs hBn hBg
  by_cases hlt : xs.length < ps.length
  ·obtain ⟨i,rfl⟩ : ∃ i : Nat,z = i:=⟨ps.length - 1 - xs.length,by omega⟩
   have hip : i < ps.length:=by omega
   obtain ⟨ad,rfl,ha1,ha2,ha3⟩:=hc i hip
   have hcx:=HK.out.cell ha3 (by unfold Addr.add; split <;> exact ha1) (by unfold Addr.add; split <;> exact ha2)
   obtain ⟨x,hx⟩ : ∃ x : BkT ps,x = ⟨(i,pv ps i),hip,rfl⟩:=⟨_,rfl⟩
   have hxe : bkE x = #[.int .i64 (i : Int),.int .i64 (pv ps i : Int)]:=by rw [hx]; rfl
   have hxi : x.1.1 = i:=by rw [hx]
   obtain ⟨fn,tmps,assign,body,hy,hR⟩:=hY xs x wr HJ.out hlt
   rw [hxe] at hy
   have HX:=Lib.hid hxi
   have HZ:=Lib.hid hz
   clear hx hxe hxi hz ha3 hc
   have h0i : (0 : Int) <= (i : Int):=by omega
   gi_wp2
   refine hR.mono ?_
   rintro e W3 (⟨rfl,hJ3,hk3⟩ | ⟨rfl,hJx3⟩)
   ·have HB3 : Hid (zO (xs ++ [x])):=HB.out.snoc (by rw [HX.out]; have:=HZ.out; omega)
    have HK3 : Hid (KpG g n0 W W3):=HK.out.trans hk3
    have HJ3:=Lib.hid hJ3
    clear hJ3 hk3
    gi_wp2
    go_roundw
    case rel => exact ⟨(i : Int) - 1,xs ++ [x],by (have:=HZ.out; first | (simp; omega) | (simp; done) | omega),by simp; omega,HB3,by go_num,HJ3,HK3⟩
    case measure => first | (simp [intOf]; omega) | (simp [intOf]; done)
   ·gi_wp2
    refine bodyPost_ret (results_none rfl _ _ _) rfl ?_
    exact ⟨⟨_,rfl⟩,.inr ⟨_,trivial,hJx3⟩⟩
  ·have hz0 : ¬ (0 : Int) <= z:=by omega
   have hxe : xs.length = ps.length:=by omega
   have HXE:=Lib.hid hxe
   clear hxe
   gi_wp2
   go_end0
   exact ⟨⟨_,rfl⟩,.inl ⟨xs,⟨HXE.out,HB.out⟩,HJ.out⟩⟩
theorem back_in (F : Fence) (n : Nat) (hf : F.fn 131) (hro : F.round = none) (a : Option Addr) (len cap : Nat) (w : World) :
  CallsIn F n Tryz.prog 131 #[.slice a len cap] w fun e w' => e = .returned (.func (.func 154) #[] #[.pointer (some ⟨w.heap.size,0,none⟩)]) /\ w' = w.alloc (.cells #[.slice a len cap] 36):=by
 refine callsIn_of_wp Tryz.func131 rfl hf ?_ hro
 simp only [Tryz.ntmps131,List.size_toArray,List.length_cons,List.length_nil,Nat.reduceAdd,Nat.reduceSub,Array.replicate_succ,Array.replicate_zero,List.push_toArray,List.append_toArray,List.nil_append,List.cons_append]
 gi_wp2
 go_ret
 exact ⟨rfl,rfl⟩
theorem jB3 (F : Fence) (n : Nat) (hf : F.fn 154) (hro : F.round = none) (hn : 1 <= n) (Bs g c : Nat) (A : Option Addr) (ps : List Nat) (hps : ps.length <= 1000) (w : World)
  (hBs : w.cell? ⟨Bs,0,none⟩ = some (.slice A ps.length c)) (hBg : Bs ≠ g) (hc : ∀ i,i < ps.length -> ∃ ad,A = some ad /\ ad.block ≠ g /\ w.cell? (ad.add i) = some (.int .i64 (pv ps i : Int))) :
  SeqStopsK F n Tryz.prog 154 #[.pointer (some ⟨Bs,0,none⟩)] (bkE (ps:=ps)) (KpG g w.heap.size) (fun xs => xs.length = ps.length /\ zO xs) (fun _ => True) ps.length w:=fun l J Jx W hW _ _ hY h0 => by
 have hB1:=World.block_lt_of_cell? _ _ hBs
 exact jB2 F n hf hro hn l Bs g w.heap.size c A ps hps J Jx hY W ((hW.cell hB1).trans hBs) hB1 hBg (fun i hi => by
  obtain ⟨ad,e,h1,h2⟩:=hc i hi
  have h3:=World.block_lt_of_cell? _ _ h2
  have h4 : (ad.add i).block = ad.block:=by unfold Addr.add; split <;> rfl
  exact ⟨ad,e,by rw [<- h4]; exact h3,h1,(hW.cell h3).trans h2⟩) h0
def UpI (T0 : List (List Rat)) (g n C a S : Nat) (ps : List Nat) (w : World) (xs : List (BkT ps)) (W : World) : Prop:=∃ (us : List Value) (T : List (List Rat)) (S' : Nat),shp T n C /\ zH5 T S' /\ S' + 1 <= (S + 1) * 2 ^ xs.length /\ zE0 .u64 4294967296 W g 44 us T /\ (zO xs -> Upw T0 T n C a ps (ps.length - xs.length) S) /\ W.cell? ⟨w.heap.size,0,none⟩ = some (.slice (some ⟨g,0,none⟩) n n) /\ w.grownBy W (some g)
theorem UpI.ownFrom (T0 : List (List Rat)) (g n C a S : Nat) (ps : List Nat) (w : World) {B : Nat} (hB : w.heap.size <= B) : OwnFrom B (UpI T0 g n C a S ps w):=fun xs W W' row h hg hr => by
 obtain ⟨us,T,S',h1,h2,h3,h4,h5,h6,h7⟩:=h
 have hr2 : ∀ x,row = some x -> ∃ o : Obj,W.heap[x]? = some o /\ o.isCells = false:=fun x e => (hr x e).2
 refine ⟨us,T,S',h1,h2,h3,zE0.ownK h4 hg hr2,h5,cell_kept h6 hg hr2,?_⟩
 cases e : row with
 | none => rw [e] at hg; exact zI9 h7 ⟨hg.os,hg.tape,hg.output,hg.size,fun k hk => hg.block k hk (by simp)⟩
 | some x => rw [e] at hg; exact zT5 h7 hg (zB4 hB (hr x e).1)
def RetUp (T0 : List (List Rat)) (g n C a S : Nat) (ps : List Nat) (w : World) (e : Ending) (w' : World) : Prop:=e = .returned (.tuple #[]) /\ ∃ us T,Upw T0 T n C a ps 0 S /\ zE0 .u64 4294967296 w' g 44 us T /\ w.grownBy w' (some g)
theorem gup_any (g n C a S c6 : Nat) (A6 : Option Addr) (us : List Value) (ps : List Nat) (T0 T : List (List Rat)) (w : World) (h : zE0 .u64 4294967296 w g 44 us T) (hp : ∀ i,i < ps.length -> ∃ ad,A6 = some ad /\ ad.block ≠ g /\ w.cell? (ad.add i) = some (.int .i64 (pv ps i : Int)))
  (hc : Hid (shp T n C /\ a <= C /\ n <= 5 /\ C <= 1000 /\ zH5 T S /\ (S + 1) * 2 ^ (ps.length - 1) <= 2450 /\ Ech n a (zB9 T) ps.length (pv ps) /\ zH0 n C (zB9 T0) (zB9 T))) :
  Calls Tryz.prog 91 #[.slice (some ⟨g,0,none⟩) n n,.slice A6 ps.length c6] w (RetUp T0 g n C a S ps w):=by
 have hle:=hc.out.2.2.2.2.2.2.1.le
 have hn5:=hc.out.2.2.1
 have hC:=hc.out.2.2.2.1
 have hgl:=h.lt
 refine (callsIn_wide (n:=3)).1 ?_
 refine callsIn_of_wp_marks Tryz.func91 rfl trivial ?_ rfl
 simp only [Tryz.ntmps91,List.size_toArray,List.length_cons,List.length_nil,Nat.reduceAdd,Nat.reduceSub,Array.replicate_succ,Array.replicate_zero,List.push_toArray,List.append_toArray,List.nil_append,List.cons_append]
 gi_wp2
 refine ⟨trivial,?_⟩
 gi_at_call 131
 refine (back_in Fence.wide _ trivial rfl _ _ _ _).mono ?_
 rintro e w' ⟨rfl,rfl⟩
 gi_wp2
 have hgr0 : w.grownBy ((w.alloc (.cells #[.slice (some ⟨g,0,none⟩) n n] 22)).alloc (.cells #[.slice A6 ps.length c6] 36)) none:=(World.grownBy_alloc _ _ none).trans (World.grownBy_alloc _ _ none)
 have hs : ((w.alloc (.cells #[.slice (some ⟨g,0,none⟩) n n] 22)).alloc (.cells #[.slice A6 ps.length c6] 36)).cell? ⟨w.heap.size,0,none⟩ = some (.slice (some ⟨g,0,none⟩) n n) :=
  cell_kept (by rw [World.cell?_alloc_new]; rfl) (World.grownBy_alloc _ _ none) (fun r e => by cases e)
 have hb : ((w.alloc (.cells #[.slice (some ⟨g,0,none⟩) n n] 22)).alloc (.cells #[.slice A6 ps.length c6] 36)).cell? ⟨w.heap.size + 1,0,none⟩ = some (.slice A6 ps.length c6):=by
  have:=World.cell?_alloc_new (w:=w.alloc (.cells #[.slice (some ⟨g,0,none⟩) n n] 22)) #[.slice A6 ps.length c6] 36 0
  rw [World.size_alloc] at this
  exact this
 have hT0:=zE0.ownK h hgr0 (fun x e => by cases e)
 obtain ⟨W0,hW0⟩ : ∃ W0,((w.alloc (.cells #[.slice (some ⟨g,0,none⟩) n n] 22)).alloc (.cells #[.slice A6 ps.length c6] 36)) = W0:=⟨_,rfl⟩
 have hsz : W0.heap.size = w.heap.size + 2:=by rw [<- hW0]; simp
 rw [hW0] at hgr0 hs hb hT0 |-
 refine wpIn_rangeFunc_ownF rfl (by omega) (gf:=154) (lb:=#[.pointer (some ⟨w.heap.size + 1,0,none⟩)]) rfl trivial (enters_of Tryz.func154 (by kernel_rfl) rfl)
  (jB3 Fence.wide _ trivial rfl (by omega) (w.heap.size + 1) g c6 A6 ps (by omega) W0 hb (by omega) (fun i hi => by
   obtain ⟨ad,e,h1,h2⟩:=hp i hi
   exact ⟨ad,e,h1,cell_kept h2 hgr0 (fun r e => by cases e)⟩))
  KpG.trans (fun W l o o' hl hW ho hwk => ⟨(grownBy_putObj' W l o').size,fun k hk hkw hkg => (grownBy_putObj' W l o').block k hkw (fun e => by injection e with e; omega)⟩) (Below.refl _ _) (fun _ => rfl)
  (UpI T0 g n C a S ps w) (fun _ _ _ => False)
  (UpI.ownFrom T0 g n C a S ps w (by omega))
  (fun _ _ _ _ _ hs _ _ => hs)
  ⟨us,T,S,hc.out.1,hc.out.2.2.2.2.1,by simp,hT0,fun _ => Upw.start hc.out.1 hc.out.2.2.2.2.2.2.1 hc.out.2.2.2.2.2.2.2 hc.out.2.2.2.2.1,hs,⟨hgr0.os,hgr0.tape,hgr0.output,hgr0.size,fun k hk _ => hgr0.block k hk (by simp)⟩⟩
  (fun x => { tmps:=#[.slice (some ⟨g,0,none⟩) n n,.slice A6 ps.length c6,.pointer (some ⟨w.heap.size,0,none⟩),undef,.int .i64 (x.1.1 : Int),.int .i64 (x.1.2 : Int),.slice A6 ps.length c6,.func (.func 154) #[] #[.pointer (some ⟨w.heap.size + 1,0,none⟩)],.int .i64 (x.1.1 : Int),.int .i64 (x.1.2 : Int),undef,undef,undef,undef,undef,undef,undef,undef,undef],defers:=[] }) ?assign ?body ?done ?stop
 case assign =>
  intro l x W K hK
  simp only [bkE]
  gi_wp2
  exact hK
 case body =>
  rintro l pre x W ⟨us1,T1,S1,q1,q2,q3,q4,q5,q6,q7⟩ hlen
  obtain ⟨⟨i,p⟩,hip,hpe⟩:=x
  dsimp only at hip hpe
  subst hpe
  obtain ⟨r,hr,hrl⟩:=zH3 q1 (show i < n by omega)
  obtain ⟨Ar,cr,hu,hcl,hsr⟩:=q4.at_ hr
  have HQ:=Lib.hid (zA q1 (zA q2 (zA q3 q5)))
  have hS1 : Hid (S1 + S1 <= 4900):=by
   have e2 : (S + 1) * 2 ^ pre.length <= (S + 1) * 2 ^ (ps.length - 1):=Nat.mul_le_mul_left _ (Nat.pow_le_pow_right (by omega) (by omega))
   have e3:=hc.out.2.2.2.2.2.1
   exact (by omega : S1 + S1 <= 4900)
  have hai : pv ps i < C:=Nat.lt_of_lt_of_le (hc.out.2.2.2.2.2.2.1.lt i hip) hc.out.2.1
  obtain ⟨b,hbp⟩ : ∃ b,b = pv ps i:=⟨_,rfl⟩
  have HBP:=Lib.hid hbp
  have CC : ∀ w',zE0 .u64 4294967296 w' g 44 us1 T1 -> SlF .u64 4294967296 w' (.slice Ar r.length cr) r -> Calls Tryz.prog 130 #[.slice (some ⟨g,0,none⟩) i n,.slice Ar r.length cr,.int .i64 (pv ps i : Int)] w' (qK5 g us1 (upT T1 i (pv ps i)) w'):=fun w' k1 k2 => by
   have:=yF9 g 0 i n (pv ps i) n C S1 us1 (.slice Ar r.length cr) r T1 (fun _ => true) w' k1 k2 ⟨HQ.out.1,hrl,hai,by omega,by omega,by omega,hC,fun i hi => absurd hi (by omega),fun _ _ _ => rfl,HQ.out.2.1,HQ.out.2.1 r (zA5 hr),fun _ => hS1.out⟩
   rw [Nat.zero_add] at this
   unfold upT
   rw [zJ6 hr]
   exact this
  rw [hrl] at hu hcl hsr CC
  have HRL:=Lib.hid (zA hr hrl)
  have hin : i <= n:=by omega
  have hin2 : i < n:=by omega
  have hmix : Tryz.prog.follows .mixedOrders = true:=by kernel_rfl
  have fin : ∀ (a' : Act) (W' : World) (us2 : List Value),zE0 .u64 4294967296 W' g 44 us2 (upT T1 i (pv ps i)) -> W.drew.grownBy W' (some g) -> ownPostK (KpG g W0.heap.size) (UpI T0 g n C a S ps w) (fun _ _ _ => False) (pre ++ [(⟨(i,pv ps i),hip,rfl⟩ : BkT ps)]) W .normal a' W':=fun a' W' us2 k1 k2 => by
   have G : W.grownBy W' (some g):=(zI9 (qK6 W (some g)) (Below.refl _ W).drew).trans k2
   have hgW:=q4.1.1
   have hgl2:=q4.lt
   unfold Blk at hgW
   obtain ⟨e1,e2,e3,e4⟩:=HQ.out
   refine ⟨KeepsOthers.of_grownBy G (fun j o e hj => by cases e; rw [hgW] at hj; cases hj; rfl),⟨G.size,fun k hk hl hkg => G.block k hl (fun e => by injection e with e; omega)⟩,?_⟩
   refine ⟨us2,_,S1 + S1 + 1,?_,?_,?_,k1,fun hB => ?_,(World.cell?_of_block (G.block w.heap.size (World.block_lt_of_cell? _ _ q6) (fun e => by injection e with e; omega))).trans q6,q7.trans G⟩
   ·unfold upT
    rw [zJ6 hr]
    exact qE3 e1 hrl i (by omega)
   ·unfold upT
    rw [zJ6 hr]
    exact qJ8 e1 hai e2 (e2 r (zA5 hr)) i (by omega)
   ·rw [zA8]
    exact qQ7 e3
   ·obtain ⟨b1,b2⟩:=zO.init hB
    have b3 : i + pre.length + 1 = ps.length:=b2
    have u1:=e4 b1
    rw [show ps.length - pre.length = i + 1 by omega] at u1
    have u2:=u1.step hc.out.2.1 hip
    rw [show ps.length - (pre ++ [(⟨(i,pv ps i),hip,rfl⟩ : BkT ps)]).length = i by rw [zA8]; simp only [List.length_cons,List.length_nil]; omega]
    exact u2
  have hcall : Calls Tryz.prog 130 #[.slice (some ⟨g,0,none⟩) i n,.slice Ar C cr,.int .i64 (pv ps i : Int)] W.drew (qK5 g us1 (upT T1 i (pv ps i)) W.drew):=CC W.drew q4.drew hsr.drew
  clear CC HQ q4 hsr q1 q2 q3 q5 hS1 hai hp hT0 hb hs hgr0 hc
  obtain ⟨QQ,hQQ⟩ : ∃ QQ,QQ = ownPostK (KpG g W0.heap.size) (UpI T0 g n C a S ps w) (fun _ _ _ => False) (pre ++ [(⟨(i,pv ps i),hip,rfl⟩ : BkT ps)]) W:=⟨_,rfl⟩
  rw [<- hQQ] at fin
  have HPAN : ∀ c a a' w,QQ (.panic c) a w -> QQ (.panic c) a' w:=by rw [hQQ]; exact fun _ _ _ _ h => h
  show Code.wpIn _ _ _ _ (ownPostK (KpG g W0.heap.size) (UpI T0 g n C a S ps w) (fun _ _ _ => False) (pre ++ [(⟨(i,pv ps i),hip,rfl⟩ : BkT ps)]) W) _ _
  rw [<- hQQ]
  clear hQQ
  gi_wp2
  have HPN : ∀ (o : Option Nat) (v : Value) c a w,Exit.inBlock 1 QQ (.panic c) (a.put o v) w -> Exit.inBlock 1 QQ (.panic c) a w:=fun o v c a w h => HPAN c _ a w h
  refine jB1 l hmix (by kernel_rfl) ?_
  change wpAnyIn Fence.wide 1 Tryz.prog .any _ _ 9 #[false,false,false,false,false,false,false,false,false] _ _
  refine wpAnyIn_take (i:=1) (v:=?_) rfl rfl (by kernel_rfl) (by kernel_rfl) (by kernel_rfl) (HPN _ _) ⟨Or.inl ⟨by rfl,?_⟩,fun _ => rfl⟩ ?_
  rotate_left
  ·intro w
   go_simp
   try with_reducible rfl
  refine wpAnyIn_take (i:=4) (v:=?_) rfl rfl (by kernel_rfl) (by kernel_rfl) (by kernel_rfl) (HPN _ _) ⟨Or.inl ⟨by rfl,?_⟩,fun _ => rfl⟩ ?_
  rotate_left
  ·intro w
   go_simp
   try with_reducible rfl
  refine wpAnyIn_take (i:=7) (v:=?_) rfl rfl (by kernel_rfl) (by kernel_rfl) (by kernel_rfl) (HPN _ _) ⟨Or.inl ⟨by rfl,?_⟩,fun _ => rfl⟩ ?_
  rotate_left
  ·intro w
   go_simp
   try with_reducible rfl
  refine wpAnyIn_ready (rs:=[0,3]) (by kernel_rfl) (by simp) ?_
  refine AllReadyIn.cons rfl (fun K hK => ?_) ?_
  ·go_simp
   refine hK _ _ ?_
   clear hK K
   refine wpAnyIn_take (i:=2) (v:=?_) rfl rfl (by kernel_rfl) (by kernel_rfl) (by kernel_rfl) (HPN _ _) ⟨Or.inl ⟨by rfl,?_⟩,fun _ => rfl⟩ ?_
   rotate_left
   ·intro w
    go_simp
    try with_reducible rfl
   refine wpAnyIn_ready (rs:=[3]) (by kernel_rfl) (by simp) ?_
   refine AllReadyIn.cons rfl (fun K hK => ?_) ?_
   ·go_simp
    refine hK _ _ ?_
    clear hK K
    refine wpAnyIn_take (i:=5) (v:=?_) rfl rfl (by kernel_rfl) (by kernel_rfl) (by kernel_rfl) (HPN _ _) ⟨Or.inl ⟨by rfl,?_⟩,fun _ => rfl⟩ ?_
    rotate_left
    ·intro w
     go_simp
     try with_reducible rfl
    refine wpAnyIn_ready (rs:=[6]) (by kernel_rfl) (by simp) ?_
    refine AllReadyIn.cons rfl (fun K hK => ?_) ?_
    ·go_simp
     refine hK _ _ ?_
     clear hK K
     refine wpAnyIn_ready (rs:=[8]) (by kernel_rfl) (by simp) ?_
     refine AllReadyIn.cons rfl (fun K hK => ?_) AllReadyIn.nil
     go_simp
     refine ⟨trivial,?_⟩
     refine (callsIn_wide.2 hcall).mono ?_
     rintro e w' ⟨rfl,us2,k1,k2,-⟩
     refine hK _ _ ?_
     refine wpAnyIn_done (by kernel_rfl) ?_ _
     exact fin _ _ us2 k1 k2
    exact AllReadyIn.nil
   exact AllReadyIn.nil
  refine AllReadyIn.cons rfl (fun K hK => ?_) ?_
  ·go_simp
   refine hK _ _ ?_
   clear hK K
   refine wpAnyIn_take (i:=5) (v:=?_) rfl rfl (by kernel_rfl) (by kernel_rfl) (by kernel_rfl) (HPN _ _) ⟨Or.inl ⟨by rfl,?_⟩,fun _ => rfl⟩ ?_
   rotate_left
   ·intro w
    go_simp
    try with_reducible rfl
   refine wpAnyIn_ready (rs:=[0,6]) (by kernel_rfl) (by simp) ?_
   refine AllReadyIn.cons rfl (fun K hK => ?_) ?_
   ·go_simp
    refine hK _ _ ?_
    clear hK K
    refine wpAnyIn_take (i:=2) (v:=?_) rfl rfl (by kernel_rfl) (by kernel_rfl) (by kernel_rfl) (HPN _ _) ⟨Or.inl ⟨by rfl,?_⟩,fun _ => rfl⟩ ?_
    rotate_left
    ·intro w
     go_simp
     try with_reducible rfl
    refine wpAnyIn_ready (rs:=[6]) (by kernel_rfl) (by simp) ?_
    refine AllReadyIn.cons rfl (fun K hK => ?_) ?_
    ·go_simp
     refine hK _ _ ?_
     clear hK K
     refine wpAnyIn_ready (rs:=[8]) (by kernel_rfl) (by simp) ?_
     refine AllReadyIn.cons rfl (fun K hK => ?_) AllReadyIn.nil
     go_simp
     refine ⟨trivial,?_⟩
     refine (callsIn_wide.2 hcall).mono ?_
     rintro e w' ⟨rfl,us2,k1,k2,-⟩
     refine hK _ _ ?_
     refine wpAnyIn_done (by kernel_rfl) ?_ _
     exact fin _ _ us2 k1 k2
    exact AllReadyIn.nil
   refine AllReadyIn.cons rfl (fun K hK => ?_) ?_
   ·go_simp
    refine hK _ _ ?_
    clear hK K
    refine wpAnyIn_ready (rs:=[0]) (by kernel_rfl) (by simp) ?_
    refine AllReadyIn.cons rfl (fun K hK => ?_) ?_
    ·go_simp
     refine hK _ _ ?_
     clear hK K
     refine wpAnyIn_take (i:=2) (v:=?_) rfl rfl (by kernel_rfl) (by kernel_rfl) (by kernel_rfl) (HPN _ _) ⟨Or.inl ⟨by rfl,?_⟩,fun _ => rfl⟩ ?_
     rotate_left
     ·intro w
      go_simp
      try with_reducible rfl
     refine wpAnyIn_ready (rs:=[8]) (by kernel_rfl) (by simp) ?_
     refine AllReadyIn.cons rfl (fun K hK => ?_) AllReadyIn.nil
     go_simp
     refine ⟨trivial,?_⟩
     refine (callsIn_wide.2 hcall).mono ?_
     rintro e w' ⟨rfl,us2,k1,k2,-⟩
     refine hK _ _ ?_
     refine wpAnyIn_done (by kernel_rfl) ?_ _
     exact fin _ _ us2 k1 k2
    exact AllReadyIn.nil
   exact AllReadyIn.nil
  exact AllReadyIn.nil
 case done =>
  rintro D xs W hD ⟨hxl,hB⟩ ⟨us1,T1,S1,q1,q2,q3,q4,q5,q6,q7⟩ hK
  have hup:=q5 hB
  rw [show ps.length - xs.length = 0 by omega] at hup
  have hDl : ∃ o : Obj,W.heap[D]? = some o /\ o.isCells = false:=⟨_,hK,rfl⟩
  refine ⟨by simp,.inl ⟨_,_,rfl,run_takeDeferred hK,?_⟩⟩
  refine ⟨_,results_none rfl _ _ _,rfl,us1,T1,hup,zE0.ownK q4 (grownBy_putObj' W D (.deferred none)) (fun x e => by cases e; exact hDl),?_⟩
  exact zT5 q7 (grownBy_putObj' W D (.deferred none)) (by omega)
 case stop =>
  rintro D c pre W _ _ h _
  exact h.elim
theorem shp_of {T : List (List Rat)} (h : zH2 T) : shp T T.length (zD3 T):=⟨rfl,h.2.2⟩
theorem pI_at {ps : List Nat} {i : Nat} (h : i < ps.length) : (pI ps)[i]? = some (.int .i64 (pv ps i : Int)):=by
 unfold pI vi pv
 rw [List.map_map,zB1,zA3 h]
 simp [zA6,h]
theorem zE9.pvs {w : World} {base g m c : Nat} {TS : TypeId} {us : List Value} {A : Option Addr} {ps : List Nat} (h : zE9 isI w base 3 (.slice A m c) (pI ps)) (hT : zF9 w g TS us) (hne : 3 ≠ TS) : ∀ i,i < ps.length -> ∃ ad,A = some ad /\ ad.block ≠ g /\ w.cell? (ad.add i) = some (.int .i64 (pv ps i : Int)):=fun i hi => by
 have hn:=h.notTab hT hne
 rcases h.1.2 with ⟨e,h0⟩ | ⟨g',cap,cur,e,_⟩
 ·rw [qA8] at h0; omega
 ·have e2:=e
  injection e2 with e1 e2 e3
  subst e1
  have hc:=h.1
  rw [e] at hc
  refine ⟨_,rfl,fun e4 => hn (by rw [<- e4]; rfl),?_⟩
  rw [zQ0]
  exact hc.cellAt (pI_at hi)
theorem zE9.weak {S : Value -> Prop} {w : World} {base base' : Nat} {e : TypeId} {v : Value} {vs : List Value} (h : zE9 S w base e v vs) (hb : base' <= base) : zE9 S w base' e v vs:=⟨zE7.weak h.1 hb,h.2⟩
theorem qR4 {S n m : Nat} (h : m <= n) : (S + 1) * 2 ^ m <= (S + 1) * 2 ^ n:=Nat.mul_le_mul_left _ (Nat.pow_le_pow_right (by omega) h)
structure RedE (T0 : List (List Rat)) (n C S : Nat) (w : World) (g : Nat) (v : Value) (w' : World) (T : List (List Rat)) (us : List Value) (ps : List Nat) : Prop where
 sh : shp T n C
 ech : Ech n C (zB9 T) ps.length (pv ps)
 red : Red n (zB9 T) ps.length (pv ps) 0
 ker : zH0 n C (zB9 T0) (zB9 T)
 len : ∃ S',zH5 T S' /\ S' + 1 <= (S + 1) * 2 ^ (min ps.length (n - 1)) * 2 ^ (ps.length - 1)
 tab : zE0 .u64 4294967296 w' g 44 us T
 piv : zE9 isI w' w.heap.size 3 v (pI ps)
 bel : Below w.heap.size w w'
 lo : w.heap.size <= g
def qF0 (T : List (List Rat)) (S : Nat) : Prop:=T.length <= 5 /\ zD3 T <= 200 /\ zH5 T S /\ S <= 100000 /\ (S + 1) * 2 ^ (T.length - 1) <= 400 /\ (S + 1) * 2 ^ (T.length - 1) * 2 ^ (T.length - 1) <= 2450
theorem jB4 (a0 : Value) (T : List (List Rat)) (S : Nat) (w : World) (h0 : SlT .u64 4294967296 w a0 T) (hc : Hid (qF0 T S)) :
  Calls Tryz.prog 47 #[a0] w (fun e w' => (zH2 T /\ ∃ g v T' us ps,e = .returned (.tuple #[.slice (some ⟨g,0,none⟩) T.length T.length,v,.int .i64 0]) /\ RedE T T.length (zD3 T) S w g v w' T' us ps) \/ (¬ zH2 T /\ e = .returned (.tuple #[.slice none 0 0,.slice none 0 0,.int .i64 8]) /\ Below w.heap.size w w')):=by
 have st0:=h0
 obtain ⟨A0,c0,rfl,hc0,hm0⟩:=h0.shape
 obtain ⟨n,hn⟩ : ∃ n,n = T.length:=⟨_,rfl⟩
 obtain ⟨C,hC⟩ : ∃ C,C = zD3 T:=⟨_,rfl⟩
 have HST:=Lib.hid st0
 clear h0 st0 hc0 hm0
 go_enter Tryz.func47,Tryz.ntmps47
 go_wp2_with fail
 refine (jA5 _ T _ HST.out ⟨hc.out.2.1,by have:=hc.out.1; omega,hc.out.2.2.1.len.mono hc.out.2.2.2.1⟩).mono ?_
 rintro e w2 (⟨hm,g,us,pss,rfl,hT,hV,hU,hg,b2⟩ | ⟨hm,V,rfl,hS,b2⟩)
 ·have TS:=TabO.tabS hT hU
  rw [hV] at TS
  rw [<- hn]
  rw [<- hn] at hU
  have HM:=Lib.hid hm
  have HH:=Lib.hid (zA hn hC)
  have sl:=TS.slT hn.symm (by have:=hc.out.1; omega)
  clear hT hV hn hC hm
  go_wp2_with fail
  refine (qE8 _ T _ sl).mono ?_
  rintro e w3 ⟨rfl,b3⟩
  rw [<- HH.out.1,<- HH.out.2]
  have TS3:=TS.below b3
  have b23:=b2.trans (b3.mono b2.size)
  clear sl TS b3 b2
  go_wp2_with fail
  refine (jB g n C C S us T _ TS3 ⟨by rw [HH.out.1,HH.out.2]; exact shp_of HM.out,zB3 _,by rw [HH.out.1]; exact hc.out.1,by rw [HH.out.2]; have:=hc.out.2.1; omega,hc.out.2.2.1,by rw [HH.out.1]; exact hc.out.2.2.2.2.1⟩).mono ?_
  rintro e w4 ⟨v,v5,T4,us4,ps,d,rfl,hD⟩
  obtain ⟨dwn,tab,piv,num,len,own⟩:=hD
  obtain ⟨u,t,rfl,su,st⟩:=num
  obtain ⟨Au,cu,rfl,_⟩:=id su
  obtain ⟨At,ct,rfl,_⟩:=id st
  obtain ⟨A6,c6,e6⟩:=zE7.slice piv.1
  rw [qA8] at e6
  subst e6
  have hpn : ps.length <= n:=dwn.ech.le
  have b24:=b23.grown own b23.size (fun k e => by cases e; exact hg)
  obtain ⟨S1,r1,hS1⟩:=dwn.len
  have hp1:=qR4 (S:=S) (show min ps.length (n - 1) <= n - 1 by omega)
  have hp2:=qR4 (S:=S1) (show ps.length - 1 <= n - 1 by omega)
  have hm2 : (S1 + 1) * 2 ^ (n - 1) <= (S + 1) * 2 ^ (n - 1) * 2 ^ (n - 1):=Nat.mul_le_mul_right _ (zB4 hS1 hp1)
  have hq1:=hc.out.2.2.2.2.2
  rw [<- HH.out.1] at hq1
  have HB:=Lib.hid (zA hp1 (zA hp2 (zA hm2 (zA hq1 hS1))))
  clear hp1 hp2 hm2 hq1 hS1
  have ba:=zC8 (w:=w4) (zB3 _) (.cells #[.bool (ngB d.num),.slice Au (digs 4294967296 d.num.natAbs).length cu,.slice At (digs 4294967296 d.den).length ct] 83)
  have tab4:=tab.below ba
  have piv4:=(piv.below ba).weak b23.size
  have b25:=b24.trans (ba.mono b24.size)
  have HDW:=Lib.hid dwn
  have HR1:=Lib.hid r1
  clear tab piv ba dwn r1 su st own TS3 b23 b24
  go_wp2_with fail
  have cu:=gup_any g n C C S1 c6 A6 us4 ps T T4 _ tab4 (piv4.pvs tab4.1 (by decide)) ⟨HDW.out.sh,zB3 _,by rw [HH.out.1]; exact hc.out.1,by rw [HH.out.2]; have:=hc.out.2.1; omega,HR1.out,by have:=HB.out; omega,HDW.out.ech,HDW.out.ker⟩
  refine cu.mono ?_
  rintro e w6 ⟨rfl,us6,T6,hU6,tab6,own6⟩
  have piv6:=piv4.grown own6 (fun x e1 e2 => piv4.notTab tab4.1 (by decide) (by rw [e1,e2]))
  have b26:=b25.grown own6 b25.size (fun k e => by cases e; exact hg)
  clear cu piv4 tab4
  go_wp2
  go_ret3
  refine .inl ⟨HM.out,g,.slice A6 ps.length c6,T6,us6,ps,?_,?_⟩
  ·rw [<- HH.out.1]
   rfl
  ·rw [<- HH.out.1,<- HH.out.2]
   obtain ⟨S2,r2,hS2⟩:=hU6.len
   refine ⟨hU6.sh,hU6.ech,hU6.red,hU6.ker,⟨S2,r2,zB4 hS2 ?_⟩,tab6,piv6,b26,hg⟩
   exact Nat.mul_le_mul HB.out.2.2.2.2 (Nat.pow_le_pow_right (by omega) (by omega))
 ·rw [if_neg (by decide)] at hS
  obtain ⟨AV,cV,rfl,-,-⟩:=hS.shape
  have HN:=Lib.hid hm
  clear hm
  go_wp2
  go_ret3
  exact .inr ⟨HN.out,rfl,b2⟩
def PvI (w : World) (v : Value) (ps : List Nat) : Prop:=∃ A c,v = .slice A ps.length c /\ ∀ i,i < ps.length -> ∃ ad,A = some ad /\ w.cell? (ad.add i) = some (.int .i64 (pv ps i : Int))
theorem PvI.below {w w' : World} {v : Value} {ps : List Nat} (h : PvI w v ps) (hb : Below w.heap.size w w') : PvI w' v ps:=by
 obtain ⟨A,c,e,h1⟩:=h
 refine ⟨A,c,e,fun i hi => ?_⟩
 obtain ⟨ad,e2,h2⟩:=h1 i hi
 exact ⟨ad,e2,(hb.cell (World.block_lt_of_cell? _ _ h2)).trans h2⟩
theorem jB5 {T : List (List Rat)} {n C : Nat} (h : shp T n C) (h0 : n = 0 -> C = 0) : zD3 T = C:=by
 cases T with
 | nil => exact (h0 h.1.symm).symm
 | cons r T => exact h.2 r List.mem_cons_self
theorem qR5 (n : Nat) (f : Nat -> Rat) : ∀ m,zC0 (n + m) f = zC0 n f + zC0 m (fun j => f (n + j))
  | 0 => (Rat.add_zero _).symm
  | m + 1 => by
    show zC0 (n + m) f + f (n + m) = zC0 n f + (zC0 m (fun j => f (n + j)) + f (n + m))
    rw [qR5 n f m,Rat.add_assoc]
def zP0 (n : Nat) (A X : Nat -> Nat -> Rat) : Nat -> Nat -> Rat:=fun i j => if j < n then A i j else X i (j - n)
theorem yG3 (n m : Nat) (A X : Nat -> Nat -> Rat) (x y : Nat -> Rat) (i : Nat) : zC0 (n + m) (fun j => zP0 n A X i j * (if j < n then x j else y (j - n))) = zC0 n (fun j => A i j * x j) + zC0 m (fun j => X i j * y j):=by
 rw [qR5]
 congr 1
 ·exact zG0 fun j hj => by unfold zP0; rw [if_pos hj,if_pos hj]
 ·exact zG0 fun j hj => by unfold zP0; rw [if_neg (by omega),if_neg (by omega),Nat.add_sub_cancel_left]
theorem sum_idF {n i : Nat} (hi : i < n) (x : Nat -> Rat) : zC0 n (fun j => idF i j * x j) = x i:=by
 rw [zQ hi (fun j _ hne => by unfold idF; rw [if_neg (fun e => hne e.symm),Rat.zero_mul])]
 unfold idF
 rw [if_pos rfl,Rat.one_mul]
theorem yG4 (n : Nat) (f g : Nat -> Rat) : zC0 n (fun j => f j * -(g j)) = -(zC0 n (fun j => f j * g j)):=by
 have h:=zK6 n (-1) (fun j => f j * g j)
 rw [show (-1 : Rat) * zC0 n (fun j => f j * g j) = -(zC0 n (fun j => f j * g j)) by grind] at h
 rw [<- h]
 exact zG0 fun j _ => by grind
end Go.Proofs.YtagaabooccnamaaGreat.rat
namespace Go.Proofs.YtagaabooccnamaaGreat.rat
open Go.RowKit num mem nat txt str flow whl
theorem yG5 (n : Nat) (M : Nat -> Nat -> Rat) : ∀ a,a <= n -> ∃ (c : Rat) (E : Nat -> Nat -> Rat) (k : Nat) (p : Nat -> Nat),Ech n a E k p /\ ∀ f,RowFn n n f -> f M = c * f E
  | 0,_ => ⟨1,M,0,id,Ech.zero n M id,fun f _ => by grind⟩
  | a + 1, ha => by
    obtain ⟨c,E,k,p,hE,hf⟩:=yG5 n M a (by omega)
    by_cases h0 : ∀ i,k <= i -> i < n -> E i a = 0
    · exact ⟨c,E,k,p,hE.skip h0,hf⟩
    · obtain ⟨i,hi,hin,hne⟩ : ∃ i,k <= i /\ i < n /\ E i a ≠ 0:=Classical.byContradiction fun h => h0 fun i h1 h2 => Classical.byContradiction fun h3 => h ⟨i,h1,h2,h3⟩
      obtain ⟨c1,E1,hE1,hf1,hne1⟩ : ∃ (c1 : Rat) (E1 : Nat -> Nat -> Rat),Ech n a E1 k p /\ (∀ f,RowFn n n f -> f M = c1 * f E1) /\ E1 k a ≠ 0:=by
        by_cases e : k = i
        · subst e; exact ⟨c,E,hE,hf,hne⟩
        · refine ⟨-c,zE3 E k i,hE.swap hi hin,fun f h => ?_,?_⟩
          · rw [hf f h,h.swap E (by omega) hin e]; grind
          · unfold zE3; rw [if_pos rfl]; exact hne
      have hk : k < n:=by omega
      have hE2:=hE1.scale (E1 k a)⁻¹
      have h1 : zF6 E1 k (E1 k a)⁻¹ k a = 1:=by unfold zF6; rw [if_pos rfl]; exact Rat.mul_inv_cancel _ hne1
      have hE3:=hE2.clear (t:=fun i => if i = k then 0 else zF6 E1 k (E1 k a)⁻¹ i a) hk h1 (if_pos rfl) (fun i hki _ => if_neg (by omega))
      refine ⟨c1 * E1 k a,_,_,_,hE3,fun f h => ?_⟩
      rw [h.clear _ hk (if_pos rfl),h.scale _ _ _ hk,hf1 f h]
      have:=Rat.mul_inv_cancel _ hne1
      grind
theorem yG6 {n : Nat} {f : (Nat -> Nat -> Rat) -> Rat} (h : RowFn n n f) (M : Nat -> Nat -> Rat) : f M = zC6 n M * f idF:=by
 obtain ⟨c,E,k,p,hE,hf⟩:=yG5 n M n (zB3 n)
 rw [hf f h,hf _ (zR3 n),h.steps hE,(zR3 n).steps hE,qE0]
 split <;> grind
theorem jB6 (n : Nat) (M B : Nat -> Nat -> Rat) : zC6 n (zO3 n M B) = zC6 n M * zC6 n B:=by
 have h:=yG6 (yV8 n B) M
 have e : zC6 n (zO3 n idF B) = zC6 n B:=zK1 n fun i j hi _ => mulF_id n B hi
 rw [<- e]; exact h
def zG2 (M : Nat -> Nat -> Rat) (c : Nat) (v : Nat -> Rat) : Nat -> Nat -> Rat:=fun i j => if j = c then v i else M i j
theorem jB7 (n c : Nat) (v : Nat -> Rat) (hc : c < n) : zC6 n (zG2 idF c v) = v c:=by
 have hd:=zR3 n
 by_cases h0 : v c = 0
 ·rw [hd.zero hc (fun j _ => by
   unfold zG2 idF
   by_cases e : j = c
   ·rw [if_pos e,h0]
   ·rw [if_neg e,if_neg (fun h => e h.symm)]),h0]
 ·have h1:=hd.clear (zG2 idF c v) (p:=c) (t:=fun i => if i = c then 0 else v i * (v c)⁻¹) hc (if_pos rfl)
  have h2:=hd.scale idF c (v c) hc
  have hi:=Rat.mul_inv_cancel _ h0
  rw [<- h1,hd.congr _ (zF6 idF c (v c)) (fun i j hi' hj => ?_),h2,qE0]
  ·grind
  ·unfold zH9 zG2 zF6 idF
   by_cases e1 : i = c <;> by_cases e2 : j = c
   ·subst e1; subst e2; simp; grind
   ·subst e1; simp only [if_true,if_neg e2,if_neg (fun h : i = j => e2 h.symm)]; grind
   ·subst e2; simp only [if_neg e1,if_true]; grind
   ·simp only [if_neg e1,if_neg e2,if_neg (show ¬ c = j from fun h => e2 h.symm)]; grind
theorem zX6 (n : Nat) (M : Nat -> Nat -> Rat) (c : Nat) (v : Nat -> Rat) (hc : c < n) : zC6 n (zG2 M c (fun i => zC0 n (fun l => M i l * v l))) = v c * zC6 n M:=by
 have h:=jB6 n M (zG2 idF c v)
 rw [jB7 n c v hc] at h
 rw [show v c * zC6 n M = zC6 n M * v c by grind,<- h]
 refine zK1 n fun i j hi hj => ?_
 unfold zG2 zO3
 by_cases e : j = c
 ·simp only [if_pos e]
 ·simp only [if_neg e]
  rw [zQ (a:=j) hj (fun l _ hne => by unfold idF; rw [if_neg hne]; grind)]
  unfold idF; rw [if_pos rfl]; grind
theorem jB8 (k : Nat) (M : Nat -> Nat -> Rat) (h : ∀ i,i < k -> M i k = 0) : zC6 (k + 1) M = zC6 k M * M k k:=by
  have hd:=zR3 (k + 1)
  have hR : RowFn k k (fun L => zC6 (k + 1) (fun i j => if i < k then (if j < k then L i j else 0) else M i j)):=by
    refine ⟨fun L L' hL => hd.congr _ _ fun i j hi hj => ?_,fun L a c ha => ?_,fun L a b t ha hb hab => ?_⟩
    · by_cases e : i < k
      · by_cases e2 : j < k
        · rw [if_pos e,if_pos e,if_pos e2,if_pos e2,hL i j e e2]
        · rw [if_pos e,if_pos e,if_neg e2,if_neg e2]
      · rw [if_neg e,if_neg e]
    · rw [<- hd.scale _ a c (by omega)]
      refine hd.congr _ _ fun i j hi hj => ?_
      unfold zF6
      by_cases e : i = a
      · subst e; simp only [if_pos ha,if_true]; split <;> grind
      · simp only [if_neg e]
    · rw [<- hd.add (fun i j => if i < k then (if j < k then L i j else 0) else M i j) a b t (by omega) (by omega) hab]
      refine hd.congr _ _ fun i j hi hj => ?_
      unfold zK8
      by_cases e : i = a
      · subst e; simp only [if_pos ha,if_pos hb,if_true]; split <;> grind
      · simp only [if_neg e]
  have h1:=yG6 hR M
  have h2 : zC6 (k + 1) (fun i j => if i < k then (if j < k then M i j else 0) else M i j) = zC6 (k + 1) M:=hd.congr _ _ fun i j hi hj => by
    by_cases e : i < k
    · by_cases e2 : j < k
      · rw [if_pos e,if_pos e2]
      · obtain rfl : j = k:=by omega
        rw [if_pos e,if_neg e2,h i e]
    · rw [if_neg e]
  have key : ∀ m,m <= k -> zC6 (k + 1) (fun i j => if i < k then idF i j else if j < m then 0 else M k j) = zC6 (k + 1) (fun i j => if i < k then idF i j else M k j):=by
    intro m
    induction m with
    | zero => intro _; exact hd.congr _ _ fun i j _ _ => by split <;> simp
    | succ m ih =>
      intro hm
      rw [<- ih (by omega),<- hd.add (fun i j => if i < k then idF i j else if j < m then 0 else M k j) k m (M k m) (by omega) (by omega) (by omega)]
      refine hd.congr _ _ fun i j hi hj => ?_
      unfold zK8
      by_cases e : i = k
      · subst e
        simp only [if_neg (Nat.lt_irrefl i),if_true,if_pos (show m < i by omega)]
        unfold idF
        by_cases e2 : j < m
        · rw [if_pos (by omega),if_pos e2,if_neg (by omega)]; grind
        · by_cases e3 : j = m
          · subst e3; rw [if_pos (by omega),if_neg e2,if_pos rfl]; grind
          · rw [if_neg (by omega),if_neg e2,if_neg (fun h => e3 h.symm)]; grind
      · simp only [if_neg e,if_pos (show i < k by omega)]
  have h3 : zC6 (k + 1) (fun i j => if i < k then (if j < k then idF i j else 0) else M i j) = M k k:=by
    have e1:=key k (zB3 k)
    have e2:=hd.scale idF k (M k k) (by omega)
    rw [hd.congr _ (fun i j => if i < k then idF i j else M k j) (fun i j hi hj => ?_),<- e1,hd.congr _ (zF6 idF k (M k k)) (fun i j hi hj => ?_),e2,qE0]
    · grind
    · unfold zF6 idF
      by_cases e : i < k
      · rw [if_pos e,if_neg (show ¬ i = k by omega)]
      · obtain rfl : i = k:=by omega
        rw [if_neg e]
        by_cases e3 : j < i
        · rw [if_pos e3,if_pos rfl,if_neg (by omega)]; grind
        · obtain rfl : j = i:=by omega
          rw [if_neg e3,if_pos rfl,if_pos rfl]; grind
    · by_cases e : i < k
      · rw [if_pos e,if_pos e]
        by_cases e2 : j < k
        · rw [if_pos e2]
        · rw [if_neg e2]; unfold idF; rw [if_neg (by omega)]
      · obtain rfl : i = k:=by omega
        rw [if_neg e,if_neg e]
  have h4:=h1
  simp only [h2,h3] at h4
  exact h4
/-! Whole numbers. -/
def qF (a : Nat -> Nat -> Int) : Nat -> Nat -> Rat:=fun i j => (a i j : Rat)
theorem jB9 (n : Nat) (f : Nat -> Rat) (h : ∀ i,i < n -> ∃ z : Int,f i = (z : Rat)) : ∃ z : Int,zC0 n f = (z : Rat):=by
  induction n with
  | zero => exact ⟨0,rfl⟩
  | succ n ih =>
    obtain ⟨x,hx⟩:=ih fun i hi => h i (by omega)
    obtain ⟨y,hy⟩:=h n (by omega)
    exact ⟨x + y,by show zC0 n f + f n = _; rw [hx,hy,Rat.intCast_add]⟩
theorem qR6 : ∀ (n : Nat) (M : Nat -> Nat -> Rat),(∀ i j,i < n -> j < n -> ∃ z : Int,M i j = (z : Rat)) -> ∃ z : Int,zC6 n M = (z : Rat)
  | 0,_,_ => ⟨1,rfl⟩
  | n + 1, M, h => jB9 _ _ fun j hj => by
    obtain ⟨x,hx⟩:=h 0 j (by omega) hj
    obtain ⟨y,hy⟩:=qR6 n (zK9 M j) fun i c hi hc => h _ _ (by omega) (zX4 hc)
    obtain ⟨s,hs⟩ : ∃ s : Int,sgN j = (s : Rat):=by
      unfold sgN
      split
      · exact ⟨1,rfl⟩
      · exact ⟨-1,rfl⟩
    exact ⟨s * x * y,by rw [hx,hy,hs,Rat.intCast_mul,Rat.intCast_mul]⟩
end Go.Proofs.YtagaabooccnamaaGreat.rat
namespace Go.Proofs.YtagaabooccnamaaGreat.rat
open Go.RowKit Go.Shelf num mem nat txt str flow whl
theorem yG7 (n : Nat) (M : Nat -> Nat -> Rat) : ∀ a,a <= n -> ∃ (c : Rat) (E : Nat -> Nat -> Rat) (k : Nat) (p : Nat -> Nat),Ech n a E k p /\ Red n E k p 0 /\ (∀ f,RowFn n n f -> f M = c * f E) /\ c ≠ 0 /\ zH0 n n M E
  | 0,_ => ⟨1,M,0,id,Ech.zero n M id,fun m _ h => by omega,fun f _ => by grind,by decide,zH0.refl _ _ _⟩
  | a + 1, ha => by
    obtain ⟨c,E,k,p,hE,hR,hf,hc,hK⟩:=yG7 n M a (by omega)
    by_cases h0 : ∀ i,k <= i -> i < n -> E i a = 0
    · exact ⟨c,E,k,p,hE.skip h0,hR,hf,hc,hK⟩
    · obtain ⟨i,hi,hin,hne⟩ : ∃ i,k <= i /\ i < n /\ E i a ≠ 0:=Classical.byContradiction fun h => h0 fun i h1 h2 => Classical.byContradiction fun h3 => h ⟨i,h1,h2,h3⟩
      obtain ⟨c1,E1,hE1,hR1,hf1,hc1,hne1,hK1⟩ : ∃ (c1 : Rat) (E1 : Nat -> Nat -> Rat),Ech n a E1 k p /\ Red n E1 k p 0 /\ (∀ f,RowFn n n f -> f M = c1 * f E1) /\ c1 ≠ 0 /\ E1 k a ≠ 0 /\ zH0 n n M E1:=by
        by_cases e : k = i
        · subst e; exact ⟨c,E,hE,hR,hf,hc,hne,hK⟩
        · refine ⟨-c,zE3 E k i,hE.swap hi hin,hR.swap hi hin,fun f h => ?_,?_,?_,hK.trans (yC2 E (by omega) hin)⟩
          · rw [hf f h,h.swap E (by omega) hin e]; grind
          · intro e2; apply hc; grind
          · unfold zE3; rw [if_pos rfl]; exact hne
      have hk : k < n:=by omega
      have hi1:=Rat.mul_inv_cancel _ hne1
      have hine : (E1 k a)⁻¹ ≠ 0:=fun e => by
        rw [e] at hi1
        revert hi1
        rw [Rat.mul_zero]
        decide
      have hE2:=hE1.scale (E1 k a)⁻¹
      have h1 : zF6 E1 k (E1 k a)⁻¹ k a = 1:=by unfold zF6; rw [if_pos rfl]; exact hi1
      have hE3:=hE2.clear (t:=fun i => if i = k then 0 else zF6 E1 k (E1 k a)⁻¹ i a) hk h1 (if_pos rfl) (fun i hki _ => if_neg (by omega))
      have hR3:=Red.clear (t:=fun i => if i = k then 0 else zF6 E1 k (E1 k a)⁻¹ i a) (hR1.scale (E1 k a)⁻¹) hE2 hk h1 (if_pos rfl) (fun i hki _ => if_neg hki)
      refine ⟨c1 * E1 k a,_,_,_,hE3,hR3,fun f h => ?_,?_,hK1.trans ((yC3 E1 hine).trans (qP9 _ hk (if_pos rfl)))⟩
      · rw [h.clear _ hk (if_pos rfl),h.scale _ _ _ hk,hf1 f h]
        grind
      · intro e
        rcases Rat.mul_eq_zero.1 e with h | h
        · exact hc1 h
        · exact hne1 h
theorem qK7 {k : Nat} {p : Nat -> Nat} (hr : ∀ i j,i < j -> j < k -> p i < p j) : ∀ n,(∀ j,j < n -> ∃ i,i < k /\ p i = j) -> n <= k /\ ∀ i,i < n -> p i = i
  | 0,_ => ⟨by omega,fun i h => by omega⟩
  | n + 1, h => by
    obtain ⟨h1,h2⟩:=qK7 hr n fun j hj => h j (by omega)
    obtain ⟨i,hi,e⟩:=h n (by omega)
    have hin : i = n:=by
      rcases Nat.lt_trichotomy i n with hl | hl | hl
      · have:=h2 i hl; omega
      · exact hl
      · have h3:=hr n i hl hi
        rcases Nat.eq_zero_or_pos n with e0 | e0
        · omega
        · have h4:=hr (n - 1) n (by omega) (by omega)
          have h5:=h2 (n - 1) (by omega)
          omega
    subst hin
    refine ⟨by omega,fun j hj => ?_⟩
    by_cases e2 : j < i
    · exact h2 j e2
    · obtain rfl : j = i:=by omega
      exact e
theorem qR7 {n : Nat} {f : Nat -> Rat} : ∀ C,n <= C -> (∀ j,n <= j -> j < C -> f j = 0) -> zC0 C f = zC0 n f:=by
 intro C hC h
 obtain ⟨m,rfl⟩ : ∃ m,C = n + m:=⟨C - n,by omega⟩
 rw [qR5,zX3 (n:=m) fun i hi => h (n + i) (by omega) (by omega),Rat.add_zero]
theorem yG8 {n : Nat} {M : Nat -> Nat -> Rat} {x : Nat -> Rat} {c : Nat} (hc : c < n) (hx : zV1 n n M x) (hne : x c ≠ 0) : zC6 n M = 0:=by
 have h1:=zX6 n M c x hc
 have h2:=zX6 n M c (fun _ => 0) hc
 have e : zC6 n (zG2 M c (fun i => zC0 n (fun l => M i l * x l))) = zC6 n (zG2 M c (fun i => zC0 n (fun l => M i l * (fun _ => (0 : Rat)) l))):=zK1 n fun i j hi hj => by
  unfold zG2
  by_cases e : j = c
  ·rw [if_pos e,if_pos e]
   show zC0 n (fun l => M i l * x l) = zC0 n (fun l => M i l * 0)
   rw [hx i hi,zX3 fun l _ => by rw [Rat.mul_zero]]
  ·rw [if_neg e,if_neg e]
 rw [e,h2,Rat.zero_mul] at h1
 rcases Rat.mul_eq_zero.1 h1.symm with h | h
 ·exact absurd h hne
 ·exact h
theorem yG9 {n : Nat} {M : Nat -> Nat -> Rat} (h : ∀ x,zV1 n n M x -> ∀ c,c < n -> x c = 0) : zC6 n M ≠ 0:=by
 obtain ⟨c,E,k,p,hE,hR,hf,hc,hK⟩:=yG7 n M n (zB3 n)
 have hall : ∀ j,j < n -> ∃ i,i < k /\ p i = j:=fun j hj => Classical.byContradiction fun hn => by
  have h1:=yC6 hE hR hj (fun i hi e => hn ⟨i,hi,e⟩)
  have h2:=h _ ((hK _).2 h1) j hj
  rw [qQ] at h2
  revert h2
  decide
 obtain ⟨hnk,_⟩:=qK7 hE.rise n hall
 have hkn : k = n:=by have:=hE.le; omega
 rw [hf _ (zR3 n),(zR3 n).steps hE,if_pos hkn,qE0,Rat.mul_one]
 exact hc
theorem ech_det {n C k : Nat} {A T : Nat -> Nat -> Rat} {p : Nat -> Nat} (hC : n <= C) (hE : Ech n C T k p) (hR : Red n T k p 0) (hK : zH0 n C A T) : (∃ j,j < n /\ ∀ i,i < k -> p i ≠ j) -> zC6 n A = 0:=by
 rintro ⟨j,hj,hf⟩
 have h1:=(hK _).2 (yC6 hE hR (show j < C by omega) hf)
 refine yG8 (x:=nv T k p j) hj (fun i hi => ?_) (by rw [qQ]; decide)
 have h2:=h1 i hi
 rw [qR7 (n:=n) C hC (fun l h3 h4 => by rw [yV1 hE (show j < l by omega),Rat.mul_zero])] at h2
 exact h2
theorem yH {n C k : Nat} {A T : Nat -> Nat -> Rat} {p : Nat -> Nat} (hC : n <= C) (hE : Ech n C T k p) (hR : Red n T k p 0) (hK : zH0 n C A T) (h : ∀ j,j < n -> ∃ i,i < k /\ p i = j) : k = n /\ (∀ i,i < n -> p i = i) /\ (∀ i j,i < n -> j < n -> T i j = idF i j) /\ zC6 n A ≠ 0:=by
 obtain ⟨h1,h2⟩:=qK7 hE.rise n h
 have hkn : k = n:=by have:=hE.le; omega
 have hT : ∀ i j,i < n -> j < n -> T i j = idF i j:=fun i j hi hj => by
  unfold idF
  by_cases e : i = j
  ·subst e
   rw [if_pos rfl]
   have:=hE.one i (by omega)
   rwa [h2 i hi] at this
  ·rw [if_neg e]
   have:=hR j (Nat.zero_le _) (by omega) i hi e
   rwa [h2 j hj] at this
 refine ⟨hkn,h2,hT,yG9 fun x hx c hc => ?_⟩
 have h3:=(hK (fun l => if l < n then x l else 0)).1 (fun i hi => by
  rw [qR7 (n:=n) C hC (fun l h3 h4 => by simp only [if_neg (show ¬ l < n by omega)]; rw [Rat.mul_zero])]
  have h4:=hx i hi
  rw [<- h4]
  exact zG0 fun l hl => by simp only [if_pos hl]) c hc
 rw [qR7 (n:=n) C hC (fun l h3 h4 => by simp only [if_neg (show ¬ l < n by omega)]; rw [Rat.mul_zero]),zQ (a:=c) hc (fun l hl hne => by rw [hT c l hc hl]; unfold idF; rw [if_neg (fun e => hne e.symm),Rat.zero_mul]),hT c c hc hc] at h3
 unfold idF at h3
 rw [if_pos rfl,Rat.one_mul] at h3
 simpa only [if_pos hc] using h3
structure SolQ (A B X : List (List Rat)) : Prop where
 sh : shp X A.length (zD3 B)
 sol : ∀ i j,i < A.length -> j < zD3 B -> zO3 A.length (zB9 A) (zB9 X) i j = zB9 B i j
theorem SolQ.one {A B X Y : List (List Rat)} (h : SolQ A B X) (k : SolQ A B Y) (hd : zC6 A.length (zB9 A) ≠ 0) : X = Y:=by
 refine yV9 h.sh k.sh fun c j hc hj => ?_
 have e1:=zX6 A.length (zB9 A) c (fun l => zB9 X l j) hc
 have e2:=zX6 A.length (zB9 A) c (fun l => zB9 Y l j) hc
 have e : zC6 A.length (zG2 (zB9 A) c (fun i => zC0 A.length (fun l => zB9 A i l * (fun l => zB9 X l j) l))) = zC6 A.length (zG2 (zB9 A) c (fun i => zC0 A.length (fun l => zB9 A i l * (fun l => zB9 Y l j) l))):=zK1 _ fun i l hi hl => by
  unfold zG2
  by_cases e : l = c
  ·rw [if_pos e,if_pos e]
   exact (h.sol i j hi hj).trans (k.sol i j hi hj).symm
  ·rw [if_neg e,if_neg e]
 rw [e,e2] at e1
 have h1:=Rat.mul_inv_cancel _ hd
 have h3 : zB9 X c j * zC6 A.length (zB9 A) * (zC6 A.length (zB9 A))⁻¹ = zB9 Y c j * zC6 A.length (zB9 A) * (zC6 A.length (zB9 A))⁻¹:=by rw [e1]
 rw [Rat.mul_assoc,Rat.mul_assoc,h1,Rat.mul_one,Rat.mul_one] at h3
 exact h3
/-! Two tables beside each other. -/
theorem qK8 {P Q : List (List Rat)} {i : Nat} {p q : List Rat} (hp : P[i]? = some p) (hq : Q[i]? = some q) : (zE4 P Q)[i]? = some (p ++ q):=by
 unfold zE4
 rw [List.getElem?_zipWith,hp,hq]
theorem zV2 {P Q : List (List Rat)} {n a b : Nat} (hp : shp P n a) (hq : shp Q n b) : shp (zE4 P Q) n (a + b):=by
 refine ⟨by unfold zE4; rw [List.length_zipWith,hp.1,hq.1,Nat.min_self],fun r hr => ?_⟩
 obtain ⟨i,hi⟩:=List.mem_iff_getElem?.1 hr
 unfold zE4 at hi
 rw [List.getElem?_zipWith_eq_some] at hi
 obtain ⟨x,y,hx,hy,rfl⟩:=hi
 rw [zA8,hp.2 x (zA5 hx),hq.2 y (zA5 hy)]
theorem qR8 {P Q : List (List Rat)} {n a b i j : Nat} (hp : shp P n a) (hq : shp Q n b) (hi : i < n) : zB9 (zE4 P Q) i j = zP0 a (zB9 P) (zB9 Q) i j:=by
 obtain ⟨r,hr,hl⟩:=zH3 hp hi
 obtain ⟨s,hs,hl2⟩:=zH3 hq hi
 rw [zO4 (qK8 hr hs)]
 unfold zP0
 rw [zA6]
 by_cases h : j < a
 ·rw [if_pos h,zB0 (by omega),zO4 hr,zA6]
 ·rw [if_neg h,List.getElem?_append_right (by omega),hl,zO4 hs,zA6]
theorem solq_of {A B T : List (List Rat)} {n m k : Nat} {p : Nat -> Nat} (hA : shp A n n) (hB : shp B n m) (hm : zD3 B = m) (hT : shp T n (n + m)) (hE : Ech n (n + m) (zB9 T) k p) (hR : Red n (zB9 T) k p 0) (hK : zH0 n (n + m) (zB9 (zE4 A B)) (zB9 T)) (h : ∀ j,j < n -> ∃ i,i < k /\ p i = j) : SolQ A B (T.map fun r => r.drop n):=by
  obtain ⟨_,_,hI,_⟩:=yH (Nat.le_add_right n m) hE hR hK h
  have hl : A.length = n:=hA.1
  have hent : ∀ i c,i < n -> zB9 (T.map fun r => r.drop n) i c = zB9 T i (n + c):=fun i c hi => by
    obtain ⟨r,hr,hrl⟩:=zH3 hT hi
    have h1 : (T.map fun r => r.drop n)[i]? = some (r.drop n):=by rw [zB1,hr]; rfl
    rw [zO4 h1,zO4 hr,zA6,List.getElem?_drop,zA6]
  have hk2 : zH0 n (n + m) (zP0 n (zB9 A) (zB9 B)) (zP0 n idF (fun i c => zB9 T i (n + c))):=by
    refine ((qA4 fun i j hi hj => (qR8 hA hB hi).symm).trans hK).trans (qA4 fun i j hi hj => ?_)
    unfold zP0
    by_cases h : j < n
    · rw [if_pos h]; exact hI i j hi h
    · rw [if_neg h]
      show zB9 T i j = zB9 T i (n + (j - n))
      rw [show n + (j - n) = j by omega]
  refine ⟨⟨by rw [zA9,hT.1,hl],fun r hr => ?_⟩,fun i c hi hc => ?_⟩
  · obtain ⟨y,hy,rfl⟩:=List.mem_map.1 hr
    rw [List.length_drop,hT.2 y hy,hm]
    omega
  · rw [hl] at hi |-
    rw [hm] at hc
    have h1:=(hk2 (fun j => if j < n then zB9 T j (n + c) else -(idF (j - n) c))).2 (fun i hi => by
      rw [yG3 n m idF (fun i c => zB9 T i (n + c)) (fun j => zB9 T j (n + c)) (fun j => -(idF j c)),sum_idF hi (fun j => zB9 T j (n + c)),yG4]
      have e : zC0 m (fun j => zB9 T i (n + j) * idF j c) = zB9 T i (n + c):=by
        rw [zQ hc (fun j _ hne => by unfold idF; rw [if_neg hne,Rat.mul_zero])]
        unfold idF
        rw [if_pos rfl,Rat.mul_one]
      rw [e]
      grind) i hi
    rw [yG3 n m (zB9 A) (zB9 B) (fun j => zB9 T j (n + c)) (fun j => -(idF j c)),yG4] at h1
    have e : zC0 m (fun j => zB9 B i j * idF j c) = zB9 B i c:=by
      rw [zQ hc (fun j _ hne => by unfold idF; rw [if_neg hne,Rat.mul_zero])]
      unfold idF
      rw [if_pos rfl,Rat.mul_one]
    rw [e] at h1
    unfold zO3
    rw [zG0 (g:=fun l => zB9 A i l * zB9 T l (n + c)) fun l hl => by rw [hent l c hl]]
    grind
def zV3 (v : Value) : Prop:=∃ A n c,v = .slice A n c
section
variable {P : Program}
end
structure TabX (w : World) (base : Nat) (V : Value) (us : List Value) (K : List (List Rat)) : Prop where
 row : zE9 zV3 w base 44 V us
 len : us.length = K.length
 own : ∀ (i : Nat) (u : Value) (r : List Rat),us[i]? = some u -> K[i]? = some r -> SlF .u64 4294967296 w u r
theorem TabX.below {w w' : World} {base : Nat} {V : Value} {us : List Value} {K : List (List Rat)} (h : TabX w base V us K) (hb : Below w.heap.size w w') : TabX w' base V us K:=⟨h.row.below hb,h.len,fun i u r hu hr => (h.own i u r hu hr).below hb⟩
/-! The kernel's rows. -/
theorem zE9.apart {S S' : Value -> Prop} {w : World} {base base' : Nat} {e e' : TypeId} {v v' : Value} {vs vs' : List Value} (h : zE9 S w base e v vs) (h' : zE9 S' w base' e' v' vs') (hne : e ≠ e') : ∀ g,v.ownBlock = some g -> v'.ownBlock ≠ some g:=fun g e1 e2 => by
 obtain ⟨cs,h1,_⟩:=h.2 g e1
 obtain ⟨cs',h2,_⟩:=h'.2 g e2
 rw [h1] at h2
 injection h2 with h2
 injection h2 with _ h2
 exact hne h2
theorem zE9.set {w : World} {base g n c : Nat} {e : TypeId} {vs : List Value} (h : zE9 zV3 w base e (.slice (some ⟨g,0,none⟩) n c) vs) (i : Nat) {u : Value} (hu : zV3 u) : zE9 zV3 (w.setCell ⟨g,i,none⟩ u) base e (.slice (some ⟨g,0,none⟩) n c) (vs.set i u):=by
 refine ⟨zE7.stored h.1 i u,fun g' hg' => ?_⟩
 obtain rfl : g = g':=by simpa [Value.ownBlock] using hg'
 obtain ⟨cs,h1,h2⟩:=h.2 g rfl
 refine ⟨_,heap_setCell h1,fun x hx => ?_⟩
 have hx2 : x ∈ cs \/ x = u:=by first | exact Array.mem_or_eq_of_mem_setIfInBounds hx | (have h:=Array.mem_toList_iff.2 hx; rw [Array.toList_setIfInBounds] at h; exact (List.mem_or_eq_of_mem_set h).imp Array.mem_toList_iff.1 id)
 rcases hx2 with hx2 | rfl
 ·exact h2 x hx2
 ·exact hu
theorem zL7.keepB {k : IntKind} {B : Nat} {w w' : World} {base : Nat} {e : TypeId} {V : Value} {vs : List Value} {v u : Value} {r : List Rat} (hX : zE9 zV3 w base e V vs) (hg : w.grownBy w' V.ownBlock) (h : zL7 k B w v u r) : zL7 k B w' v u r:=by
  cases ho : V.ownBlock with
  | none => rw [ho] at hg; exact h.below ⟨hg.os,hg.tape,hg.output,hg.size,fun k hk => hg.block k hk (by simp)⟩
  | some g =>
    rw [ho] at hg
    obtain ⟨cs,h1,h2⟩:=hX.2 g ho
    obtain ⟨ps,p1,⟨A,c,e1,p2,p3,p4⟩,p5,p6⟩:=h
    have hno : ∀ c ∈ cs,∀ n,c ≠ .int k n:=fun c hc n => by obtain ⟨A,n',m,rfl⟩:=h2 c hc; simp
    refine ⟨ps,p1,⟨A,c,e1,p2,p3,fun i p hp => ?_⟩,fun p hp => ⟨⟨Go.Proofs.YtagaabooccnamaaGreat.flow.off (p5 p hp).1.1 h1 hno hg,Go.Proofs.YtagaabooccnamaaGreat.flow.off (p5 p hp).1.2 h1 hno hg⟩,(p5 p hp).2⟩,fun x hx => ⟨Nat.lt_of_lt_of_le (p6 x hx).1 hg.size,(p6 x hx).2⟩⟩
    obtain ⟨g',o,e2,c0,c1,c2⟩:=p4 i p hp
    have hne : some g' ≠ some g:=by
      intro e3
      injection e3 with e3
      subst e3
      rw [cell_of_row w g' _ cs e (0,0) h1] at c0
      obtain ⟨A',n',m',e4⟩:=h2 _ (Array.mem_of_getElem? c0)
      cases e4
    exact ⟨g',o,e2,hg.cell c0 hne,hg.cell c1 hne,hg.cell c2 hne⟩
def zR8 (w : World) (vp u : Value) (r : List Rat) : Prop:=SlF .i64 10000 w u r /\ (r ≠ [] -> zL7 .i64 10000 w vp u r)
theorem zR8.below {w w' : World} {vp u : Value} {r : List Rat} (h : zR8 w vp u r) (hb : Below w.heap.size w w') : zR8 w' vp u r:=⟨h.1.below hb,fun hr => (h.2 hr).below hb⟩
theorem zR8.far {w w' : World} {vp vp' u : Value} {r : List Rat} (h : zR8 w vp u r) (hF : r ≠ [] -> zL7 .i64 10000 w' vp' u r) : zR8 w' vp' u r:=by
 by_cases hr : r = []
 ·subst hr
  exact ⟨h.1.any,fun hr => absurd rfl hr⟩
 ·exact ⟨(hF hr).sl,hF⟩
theorem zR8.sl {w : World} {vp u : Value} {r : List Rat} (h : zR8 w vp u r) : zV3 u:=by
 obtain ⟨A,c,e,_⟩:=h.1.shape
 exact ⟨_,_,_,e⟩
structure TabD (w : World) (base : Nat) (V : Value) (us : List Value) (T : List (List Rat)) (vp : Value) : Prop where
 row : zE9 zV3 w base 45 V us
 len : us.length = T.length
 own : ∀ (i : Nat) (u : Value) (r : List Rat),us[i]? = some u -> T[i]? = some r -> zR8 w vp u r
theorem TabD.below {w w' : World} {base : Nat} {V : Value} {us : List Value} {T : List (List Rat)} {vp : Value} (h : TabD w base V us T vp) (hb : Below w.heap.size w w') : TabD w' base V us T vp:=⟨h.row.below hb,h.len,fun i u r hu hr => (h.own i u r hu hr).below hb⟩
theorem TabD.set {w : World} {base g n c : Nat} {us : List Value} {T : List (List Rat)} {vp : Value} (h : TabD w base (.slice (some ⟨g,0,none⟩) n c) us T vp) (i : Nat) {u : Value} {r : List Rat} (hu : zR8 w vp u r) : TabD (w.setCell ⟨g,i,none⟩ u) base (.slice (some ⟨g,0,none⟩) n c) (us.set i u) (T.set i r) vp:=by
 have hg : w.grownBy (w.setCell ⟨g,i,none⟩ u) (Value.ownBlock (.slice (some ⟨g,0,none⟩) n c)):=zF0 w g i u
 refine ⟨h.row.set i hu.sl,by rw [zB2,zB2]; exact h.len,fun j x y hx hy => ?_⟩
 rcases zR5 hx with ⟨rfl,rfl⟩ | ⟨hj,hx⟩
 ·rcases zR5 hy with ⟨_,rfl⟩ | ⟨hj,_⟩
  ·exact hu.far fun hr => zL7.keepB h.row hg (hu.2 hr)
  ·exact absurd rfl hj
 ·rcases zR5 hy with ⟨e,_⟩ | ⟨_,hy⟩
  ·exact absurd e hj
  ·have k:=h.own j x y hx hy
   exact k.far fun hr => zL7.keepB h.row hg (k.2 hr)
section
variable {P : Program}
end
structure TabG (w : World) (base : Nat) (V : Value) (us : List Value) (K : List (List Rat)) : Prop where
 row : zE9 zV3 w base 45 V us
 len : us.length = K.length
 own : ∀ (i : Nat) (u : Value) (r : List Rat),us[i]? = some u -> K[i]? = some r -> SlF .i64 10000 w u r
theorem TabG.below {w w' : World} {base : Nat} {V : Value} {us : List Value} {K : List (List Rat)} (h : TabG w base V us K) (hb : Below w.heap.size w w') : TabG w' base V us K:=⟨h.row.below hb,h.len,fun i u r hu hr => (h.own i u r hu hr).below hb⟩
section
variable {P : Program}
end
/-! What is left without the first row and one place. -/
theorem zM2.cutFrom {w : World} {g o n c k : Nat} {A : Option Addr} {ps : List Elt} (h : zM2 w (.slice (some ⟨g,o,none⟩) n c) ps) (hk : k <= ps.length) (hA : k < ps.length -> A = some ⟨g,o + k * 3,none⟩) : zM2 w (.slice A (n - k) (c - k)) (ps.drop k):=by
 obtain ⟨A',c',e,h1,h2,h3⟩:=h
 injection e with e1 e2 e3
 subst e1; subst e2; subst e3
 refine ⟨A,c - k,by rw [List.length_drop],by rw [List.length_drop]; omega,by omega,fun i p hp => ?_⟩
 rw [List.getElem?_drop] at hp
 have hi:=(zA4.1 hp).1
 obtain ⟨g',o',e,c0,c1,c2⟩:=h3 _ p hp
 injection e with e
 injection e with e4 e5
 subst e4; subst e5
 refine ⟨g,o + k * 3,hA (by omega),?_,?_,?_⟩
 ·rw [show o + k * 3 + i * 3 = o + (k + i) * 3 by omega]; exact c0
 ·rw [show o + k * 3 + i * 3 = o + (k + i) * 3 by omega]; exact c1
 ·rw [show o + k * 3 + i * 3 = o + (k + i) * 3 by omega]; exact c2
def FrN (w : World) (g B0 k : Nat) : Prop:=∀ i,i < k -> ∃ u t,w.cell? ⟨g,i * 3 + 1,none⟩ = some u /\ w.cell? ⟨g,i * 3 + 2,none⟩ = some t /\ zD7 B0 u /\ zD7 B0 t
theorem FrN.below {w w' : World} {g B0 k : Nat} (h : FrN w g B0 k) (hb : Below w.heap.size w w') : FrN w' g B0 k:=fun i hi => by
 obtain ⟨u,t,h1,h2,h3⟩:=h i hi
 exact ⟨u,t,(hb.cell (World.block_lt_of_cell? _ _ h1)).trans h1,(hb.cell (World.block_lt_of_cell? _ _ h2)).trans h2,h3⟩
theorem FrN.grown {w w' : World} {g g2 B0 k : Nat} (h : FrN w g B0 k) (hg : w.grownBy w' (some g2)) (hne : g ≠ g2) : FrN w' g B0 k:=fun i hi => by
 obtain ⟨u,t,h1,h2,h3⟩:=h i hi
 have e : some g ≠ some g2:=fun e => hne (by injection e)
 exact ⟨u,t,hg.cell h1 e,hg.cell h2 e,h3⟩
theorem FrN.mono {w : World} {g B0 B1 k : Nat} (h : FrN w g B0 k) (hB : B1 <= B0) : FrN w g B1 k:=fun i hi => by
 obtain ⟨u,t,h1,h2,h3,h4⟩:=h i hi
 exact ⟨u,t,h1,h2,h3.mono hB,h4.mono hB⟩
/-! A table beside that which changes nothing. -/
def Band (w w' : World) (a b : Nat) : Prop:=∀ x,a <= x -> x < b -> w'.heap[x]? = w.heap[x]?
theorem qR9 {w w' : World} {a : Addr} (h : w'.heap[a.block]? = w.heap[a.block]?) : w'.cell? a = w.cell? a:=by
 unfold World.cell?
 rw [h]
theorem Band.far {w : World} {a : Nat} {k : IntKind} {u v : Value} {l : List Nat} (hs : IsS w k u l) (hF : zD7 a u) (hv : ∀ g,v.ownBlock = some g -> g < a \/ w.heap.size <= g) : Far v u:=by
 intro ad n c e hn e2
 obtain ⟨A,c',e',h1,h2,h3⟩:=hs
 rw [e] at e'
 injection e' with e3 e4 e5
 subst e3
 have hl : 0 < l.length:=by omega
 obtain ⟨ad',e6,hc⟩:=h3 0 _ (zA3 hl)
 injection e6 with e6
 subst e6
 have hlt:=World.block_lt_of_cell? w _ hc
 rw [Go.ChangeShapes.block_add] at hlt
 have:=hF ad n c e
 have:=hv _ e2.symm
 omega
def zM3 (T : List (List Rat)) (n k : Nat) : List (List Rat):=(T.take k).map (fun r => r.drop n) ++ T.drop k
theorem cutT_at {T : List (List Rat)} {n k : Nat} (hk : k <= T.length) : (zM3 T n k)[k]? = T[k]?:=by
 unfold zM3
 have hl : ((T.take k).map fun r => r.drop n).length = k:=by rw [zA9,List.length_take]; omega
 rw [List.getElem?_append_right (by omega),hl,Nat.sub_self,List.getElem?_drop,Nat.add_zero]
theorem jC {T : List (List Rat)} {n k : Nat} {r : List Rat} (hr : T[k]? = some r) : (zM3 T n k).set k (r.drop n) = zM3 T n (k + 1):=by
 have hk : k < T.length:=(zA4.1 hr).1
 unfold zM3
 have hl : ((T.take k).map fun r => r.drop n).length = k:=by rw [zA9,List.length_take]; omega
 have hd : T.drop k = r :: T.drop (k + 1):=by
  rw [List.drop_eq_getElem_cons hk]
  rw [zA3 hk] at hr
  injection hr with hr
  rw [hr]
 rw [List.set_append_right _ _ (by omega),hl,Nat.sub_self,hd,zA2,List.take_add_one,hr]
 simp
theorem yH0 {T : List (List Rat)} {n k : Nat} (h : T.length <= k) : zM3 T n k = T.map fun r => r.drop n:=by
 unfold zM3
 rw [zA7 h,List.drop_eq_nil_of_le h,List.append_nil]
theorem yH1 (T : List (List Rat)) (n : Nat) {k : Nat} (hk : k <= T.length) : (zM3 T n k).length = T.length:=by
 unfold zM3
 rw [zA8,zA9,List.length_take,List.length_drop]
 omega
theorem zM2.heap {w w' : World} {g o n c : Nat} {ps : List Elt} (h : zM2 w (.slice (some ⟨g,o,none⟩) n c) ps) (hb : w'.heap[g]? = w.heap[g]?) : zM2 w' (.slice (some ⟨g,o,none⟩) n c) ps:=by
 obtain ⟨A,c',e,h1,h2,h3⟩:=h
 refine ⟨A,c',e,h1,h2,fun i p hp => ?_⟩
 obtain ⟨g',o',e2,c0,c1,c2⟩:=h3 i p hp
 have hg : g = g':=by
  injection e with e3
  rw [<- e3] at e2
  injection e2 with e2
  injection e2
 subst hg
 exact ⟨g,o',e2,(qR9 hb).trans c0,(qR9 hb).trans c1,(qR9 hb).trans c2⟩
theorem jC0 {n : Nat} {p : Nat -> Nat} (hr : ∀ i j,i < j -> j < n -> p i < p j) (h : p (n - 1) = n - 1) (hn : 0 < n) : ∀ i,i < n -> p i = i:=by
  have a1 : ∀ i,i < n -> i <= p i:=by
    intro i
    induction i with
    | zero => intro _; omega
    | succ i ih =>
      intro hi
      have h1:=ih (by omega)
      have h2:=hr i (i + 1) (by omega) hi
      omega
  have a2 : ∀ d,d <= n - 1 -> p (n - 1 - d) <= n - 1 - d:=by
    intro d
    induction d with
    | zero => intro _; rw [Nat.sub_zero,h]; exact zB3 _
    | succ d ih =>
      intro hd
      have h1:=ih (by omega)
      have h2:=hr (n - 1 - (d + 1)) (n - 1 - d) (by omega) (by omega)
      omega
  intro i hi
  have h1:=a1 i hi
  have h2:=a2 (n - 1 - i) (by omega)
  rw [show n - 1 - (n - 1 - i) = i by omega] at h2
  omega
def yH2 (A B : List (List Rat)) (L : Nat) (w : World) (e : Ending) (w' : World) : Prop:=Below w.heap.size w w' /\ ((zC6 A.length (zB9 A) ≠ 0 /\ ∃ V X,e = .returned (.tuple #[V,.int .i64 0]) /\ SlT .u64 4294967296 w' V X /\ SolQ A B X /\ zI6 X L) \/ (zC6 A.length (zB9 A) = 0 /\ e = .returned (.tuple #[.slice none 0 0,.int .i64 7])))
structure StpIn (A B : List (List Rat)) (n m S : Nat) : Prop where
 la : A.length = n
 sa : shp A n n
 sb : shp B n m
 wb : zD3 B = m
 wj : zD3 (zE4 A B) = n + m \/ n = 0
 ok : qF0 (zE4 A B) S
theorem jC1 (a0 : Value) (A B : List (List Rat)) (n m S : Nat) (w : World) (h0 : SlT .u64 4294967296 w a0 (zE4 A B)) (hm : zH2 (zE4 A B)) (hc : Hid (StpIn A B n m S)) :
    Calls Tryz.prog 34 #[a0,.int .i64 (n : Int)] w (yH2 A B 2450 w):=by
  obtain ⟨T,hT⟩ : ∃ T,T = zE4 A B:=⟨_,rfl⟩
  have CR:=jB4 a0 (zE4 A B) S w h0 hc.out.ok
  have HJ : Hid (shp (zE4 A B) n (n + m)):=zV2 hc.out.sa hc.out.sb
  obtain ⟨C,hC⟩ : ∃ C,C = zD3 (zE4 A B):=⟨_,rfl⟩
  have hln : (zE4 A B).length = n:=HJ.out.1
  have HC : Hid (C = n + m \/ n = 0):=by show _ \/ _; rw [hC]; exact hc.out.wj
  have hn5 : n <= 5:=by rw [<- hln]; exact hc.out.ok.1
  have hCw : C <= 200:=by rw [hC]; exact hm.2.1
  have HOK : Hid ((S + 1) * 2 ^ (n - 1) * 2 ^ (n - 1) <= 2450):=by
    have h:=hc.out.ok.2.2.2.2.2
    rw [hln] at h
    exact h
  rw [hln,<- hC] at CR
  have HM:=Lib.hid hm
  clear hC hln hm hT
  go_enter Tryz.func34,Tryz.ntmps34
  go_wp2_with fail
  refine CR.mono ?_
  rintro e w2 (⟨-,g,v,T6,us6,ps,rfl,hR⟩ | ⟨hm2,_⟩)
  · obtain ⟨sh, ech, red, ker, len, tab, piv, bel, lo⟩ := hR
    obtain ⟨A6,c6,e6⟩:=zE7.slice piv.1
    rw [qA8] at e6
    subst e6
    have hpn : ps.length <= n:=ech.le
    have HSH:=Lib.hid sh
    have HE:=Lib.hid (zA ech (zA red ker))
    have HL : Hid (zI6 T6 2450):=by
      obtain ⟨S2,r2,hS2⟩:=len
      have h1:=qR4 (S:=S) (show min ps.length (n - 1) <= n - 1 by omega)
      have h2 : (S + 1) * 2 ^ (min ps.length (n - 1)) * 2 ^ (ps.length - 1) <= (S + 1) * 2 ^ (n - 1) * 2 ^ (n - 1):=Nat.mul_le_mul h1 (Nat.pow_le_pow_right (by omega) (by omega))
      have h3:=HOK.out
      exact r2.len.mono (by omega)
    have pvs:=piv.pvs tab.1 (by decide)
    have HB:=Lib.hid bel
    clear len bel
    have HNO : Hid ((∃ j,j < n /\ ∀ i,i < ps.length -> pv ps i ≠ j) -> zC6 A.length (zB9 A) = 0):=by
      rintro ⟨j,hj,hf⟩
      have hCm : C = n + m:=by
        rcases HC.out with h | h
        · exact h
        · omega
      subst hCm
      rw [hc.out.la]
      have hK2 : zH0 n (n + m) (zP0 n (zB9 A) (zB9 B)) (zB9 T6):=(qA4 fun i j hi hj => (qR8 hc.out.sa hc.out.sb hi).symm).trans ker
      have h1:=ech_det (Nat.le_add_right n m) ech red hK2 ⟨j,hj,hf⟩
      rw [<- h1]
      exact zK1 n fun i j hi hj => by unfold zP0; rw [if_pos hj]
    have HYES : Hid ((∀ j,j < n -> ∃ i,i < ps.length /\ pv ps i = j) -> zC6 A.length (zB9 A) ≠ 0 /\ SolQ A B (T6.map fun r => r.drop n)):=by
      intro h
      rcases Nat.eq_zero_or_pos n with e0 | hn0
      · subst e0
        have hA : A = []:=List.length_eq_zero_iff.1 hc.out.la
        have hT : T6 = []:=List.length_eq_zero_iff.1 sh.1
        subst hA; subst hT
        refine ⟨by decide,⟨rfl,fun r hr => by cases hr⟩,fun i j hi => ?_⟩
        exact absurd hi (Nat.not_lt_zero _)
      · have hCm : C = n + m:=by
          rcases HC.out with h | h
          · exact h
          · omega
        subst hCm
        have hK2 : zH0 n (n + m) (zP0 n (zB9 A) (zB9 B)) (zB9 T6):=(qA4 fun i j hi hj => (qR8 hc.out.sa hc.out.sb hi).symm).trans ker
        obtain ⟨_,_,_,h4⟩:=yH (Nat.le_add_right n m) ech red hK2 h
        refine ⟨?_,solq_of hc.out.sa hc.out.sb hc.out.wb sh ech red ker h⟩
        rw [hc.out.la]
        intro e
        apply h4
        rw [<- e]
        exact zK1 n fun i j hi hj => by unfold zP0; rw [if_pos hj]
    have HRISE : Hid (∀ i j,i < j -> j < ps.length -> pv ps i < pv ps j):=ech.rise
    clear sh ech red ker piv
    by_cases hk2 : 0 < n /\ (ps.length < n \/ pv ps (n - 1) ≠ n - 1)
    · have HZ : Hid (zC6 A.length (zB9 A) = 0):=HNO.out (Classical.byContradiction fun hno => by
        have hall : ∀ j,j < n -> ∃ i,i < ps.length /\ pv ps i = j:=fun j hj => Classical.byContradiction fun h2 => hno ⟨j,hj,fun i hi e => h2 ⟨i,hi,e⟩⟩
        obtain ⟨h3,h4⟩:=qK7 HRISE.out n hall
        rcases hk2.2 with h5 | h5
        · omega
        · exact h5 (h4 (n - 1) (by omega)))
      obtain ⟨hn0,hk3⟩:=hk2
      have hn0i : (0 : Int) < (n : Int):=by omega
      clear HNO HYES
      by_cases hk4 : ps.length < n
      · clear hk3 pvs
        go_wp2
        go_ret2
        exact ⟨HB.out,.inr ⟨HZ.out,rfl⟩⟩
      · have hpe : ps.length = n:=by omega
        have hk5 : pv ps (n - 1) ≠ n - 1:=by
          rcases hk3 with h | h
          · exact absurd h hk4
          · exact h
        obtain ⟨ad,rfl,-,ec⟩:=pvs (n - 1) (by omega)
        have hne : (((pv ps (n - 1) : Nat) : Int) == (n : Int) - 1) = false:=by rw [beq_eq_false_iff_ne]; omega
        have hcast : (((n - 1 : Nat) : Nat) : Int) = (n : Int) - 1:=by omega
        have hix : ((n : Int) - 1).toNat = n - 1:=by omega
        clear hk3 pvs hk5
        go_wp2
        go_ret2
        exact ⟨HB.out,.inr ⟨HZ.out,rfl⟩⟩
    · have HALL : Hid (∀ j,j < n -> ∃ i,i < ps.length /\ pv ps i = j):=fun j hj => by
        have h1 : ¬ ps.length < n:=fun h => hk2 ⟨by omega,.inl h⟩
        have h2 : pv ps (n - 1) = n - 1:=Classical.byContradiction fun h => hk2 ⟨by omega,.inr h⟩
        exact ⟨j,by omega,jC0 (fun i j hi hj => HRISE.out i j hi (by omega)) h2 (by omega) j hj⟩
      have HSOL:=Lib.hid (HYES.out HALL.out)
      have HT6 : Hid (T6.length = n):=HSH.out.1
      have HCC : Hid (0 < n -> C = n + m):=fun h => by
        rcases HC.out with h2 | h2
        · exact h2
        · omega
      clear HNO HYES HALL
      rcases Nat.eq_zero_or_pos n with hn0 | hn0
      · have hni : ¬ (0 : Int) < (n : Int):=by omega
        clear hk2 pvs hn0
        go_wp2
        go_loopw [36] (fun v36 wr => ∃ (k : Nat) (us7 : List Value),k <= n /\ zE0 .u64 4294967296 wr g 44 us7 (zM3 T6 n k) /\ Hid (Below w.heap.size w wr) /\ v36 = .int .i64 (k : Int)) (fun v36 _ => n - (intOf v36).toNat)
        case atStart => exact ⟨0,us6,by omega,tab,HB,rfl⟩
        case round =>
          clear tab HB
          obtain ⟨k,us7,hk,TS,HB7,rfl⟩:=hrel
          by_cases hlt : k < n
          · exfalso; omega
          · have hke : k = n:=by omega
            have hS : SlT .u64 4294967296 wr (.slice (some ⟨g,0,none⟩) n n) (T6.map fun r => r.drop n):=by
              have h:=TS.slT (show (zM3 T6 n k).length = n by rw [yH1 T6 n (by have:=HT6.out; omega)]; exact HT6.out) (by omega)
              rwa [yH0 (by have:=HT6.out; omega)] at h
            have HV:=Lib.hid hS
            clear hS TS hke
            go_wp2
            go_ret2
            refine ⟨HB7.out,.inl ⟨HSOL.out.1,_,_,rfl,HV.out,HSOL.out.2,?_⟩⟩
            intro r hr x hx
            obtain ⟨y,hy,rfl⟩:=List.mem_map.1 hr
            exact HL.out y hy x (List.mem_of_mem_drop hx)
      · have hpe : ps.length = n:=Nat.le_antisymm hpn (Nat.le_of_not_lt fun h => hk2 ⟨hn0,.inl h⟩)
        have hk5 : pv ps (n - 1) = n - 1:=Classical.byContradiction fun h => hk2 ⟨hn0,.inr h⟩
        obtain ⟨ad,rfl,-,ec⟩:=pvs (n - 1) (by omega)
        rw [hk5] at ec
        have hcast : (((n - 1 : Nat) : Nat) : Int) = (n : Int) - 1:=by omega
        have hix : ((n : Int) - 1).toNat = n - 1:=by omega
        have hn0i : (0 : Int) < (n : Int):=by omega
        have hpni : ¬ ((ps.length : Nat) : Int) < (n : Int):=by omega
        rw [hcast] at ec
        have hbq : (((n : Int) - 1 == (n : Int) - 1)) = true:=beq_self_eq_true _
        clear hk2 pvs hk5
        go_wp2
        go_loopw [36] (fun v36 wr => ∃ (k : Nat) (us7 : List Value),k <= n /\ zE0 .u64 4294967296 wr g 44 us7 (zM3 T6 n k) /\ Hid (Below w.heap.size w wr) /\ v36 = .int .i64 (k : Int)) (fun v36 _ => n - (intOf v36).toNat)
        case atStart => exact ⟨0,us6,by omega,tab,HB,rfl⟩
        case round =>
          clear tab HB
          obtain ⟨k,us7,hk,TS,HB7,rfl⟩:=hrel
          by_cases hlt : k < n
          · obtain ⟨r,hr,hrl⟩:=zH3 HSH.out hlt
            have hr2 : (zM3 T6 n k)[k]? = some r:=by rw [cutT_at (by have:=HT6.out; omega)]; exact hr
            have HNX : Hid ((zM3 T6 n k).set k (r.drop n) = zM3 T6 n (k + 1)):=jC hr
            have hrl2 : r.length = n + m:=by rw [hrl]; exact HCC.out (by omega)
            obtain ⟨Ar,cr,hur,ecr,sr⟩:=TS.at_ hr2
            have frr:=TS.frozenAt k
            obtain ⟨gr,or,cc,esl,-,hrc,hcm⟩:=sr.place (fun e => by rw [e] at hrl2; simp at hrl2; omega)
            injection esl with esl1 _ esl3
            subst esl1; subst esl3
            obtain ⟨psi,hpm,hVF,hIE⟩:=sr
            have hpl : psi.length = r.length:=by rw [<- hpm,zA9]
            obtain ⟨A2,hA2⟩ : ∃ A2 : Option Addr,A2 = if cr = n then some ⟨gr,or,none⟩ else some ⟨gr,or + n * 3,none⟩:=⟨_,rfl⟩
            have VFrom:=hVF.cutFrom (k:=n) (A:=A2) (by omega) (fun h => by rw [hA2,if_neg (by omega)])
            have sR : SlF .u64 4294967296 wr (.slice A2 (r.length - n) (cr - n)) (r.drop n):=⟨psi.drop n,by rw [List.map_drop,hpm],VFrom,fun p hp => hIE p (List.mem_of_mem_drop hp)⟩
            have hjc2 : ¬ cr < n:=by omega
            have hjc3 : ¬ r.length < n:=by omega
            have hA3:=hA2.symm
            have TS2:=TS.stored k sR
            rw [HNX.out] at TS2
            have HB8 : Hid (Below w.heap.size w _):=HB7.out.setCell (p:=⟨g,k,none⟩) lo (.slice A2 (r.length - n) (cr - n))
            clear hr hr2 hrl hpm hVF hIE hpl VFrom sR hA2 hur TS HB7 hrl2
            go_wp2
            go_roundw
            case rel => exact ⟨k + 1,_,by omega,TS2,HB8,by go_num⟩
            case measure => simp [intOf]; omega
          · have hke : k = n:=by omega
            have hS : SlT .u64 4294967296 wr (.slice (some ⟨g,0,none⟩) n n) (T6.map fun r => r.drop n):=by
              have h:=TS.slT (show (zM3 T6 n k).length = n by rw [yH1 T6 n (by have:=HT6.out; omega)]; exact HT6.out) (by omega)
              rwa [yH0 (by have:=HT6.out; omega)] at h
            have HV:=Lib.hid hS
            clear hS TS hke
            go_wp2
            go_ret2
            refine ⟨HB7.out,.inl ⟨HSOL.out.1,_,_,rfl,HV.out,HSOL.out.2,?_⟩⟩
            intro r hr x hx
            obtain ⟨y,hy,rfl⟩:=List.mem_map.1 hr
            exact HL.out y hy x (List.mem_of_mem_drop hx)
  · exact absurd HM.out hm2
end Go.Proofs.YtagaabooccnamaaGreat.rat
namespace Go.Proofs.YtagaabooccnamaaGreat.nat
open Go.RowKit num mem limb
theorem jC2 (v u : Value) (x y : Nat) (w : World) (h : IsS w .u64 v (digs 4294967296 x)) (h' : IsS w .u64 u (digs 4294967296 y)) (hl : (digs 4294967296 x).length <= 90000) (hl' : (digs 4294967296 y).length <= 90000) (hp : 0 < x) :
  Calls Tryz.prog 54 #[v,u] w (zD1 .u64 (digs 4294967296 (Nat.lcm x y)) w):=by
 obtain ⟨G,hG⟩ : ∃ G,G = Nat.gcd x y:=⟨_,rfl⟩
 have HE : Hid (zM9 [x,y] = G):=by show _ = _; rw [hG]; simp [zM9]
 have hd : G ∣ x:=by rw [hG]; exact Nat.gcd_dvd_left x y
 have hG0 : 0 < G:=by rw [hG]; exact Nat.gcd_pos_of_pos_left _ hp
 have hm : x % G = 0:=Nat.mod_eq_zero_of_dvd hd
 have hlG : (digs 4294967296 G).length <= 90000:=zB4 (zF7 (by omega) (Nat.le_of_dvd hp hd)) hl
 obtain ⟨q,hq⟩ : ∃ q,q = x / G:=⟨_,rfl⟩
 have hlq : (digs 4294967296 q).length <= 100000:=by
  rw [hq]
  exact zB4 (zF7 (by omega) (Nat.div_le_self x G)) (by omega)
 have hz : Nat.lcm x y = q * y:=by
  rw [hq]
  show x * y / Nat.gcd x y = x / G * y
  rw [<- hG,Nat.mul_comm x y,Nat.mul_div_assoc y hd,Nat.mul_comm]
 obtain ⟨Z,hZ⟩ : ∃ Z,Z = Nat.lcm x y:=⟨_,rfl⟩
 rw [<- hZ] at hz |-
 have HG0:=Lib.hid hG0
 have HM:=Lib.hid hm
 have HQ:=Lib.hid hq
 have HZ:=Lib.hid hz
 clear hG hd hG0 hm hq hz hZ hp
 obtain ⟨A1,c1,rfl,_⟩:=id h
 obtain ⟨A2,c2,rfl,_⟩:=id h'
 go_enter Tryz.func54,Tryz.ntmps54
 go_wp2_with fail
 have hb:=zC8 (zB3 w.heap.size) (.cells #[.slice A1 (digs 4294967296 x).length c1,.slice A2 (digs 4294967296 y).length c2] 50)
 have ha:=h.below hb
 have ha':=h'.below hb
 refine (qO7 _ [_,_] [x,y] _ (zQ7 w 50 [_,_]) (qG5 ha ha') (by simp) (by intro q hq; simp at hq; rcases hq with rfl | rfl; exact hl; exact hl')).mono ?_
 rintro e w1 ⟨v1,rfl,k1,f1,b1⟩
 have b2:=hb.trans (b1.mono hb.size)
 have ha1:=ha.below b1
 have ha1':=ha'.below b1
 rw [HE.out] at k1
 obtain ⟨A3,c3,rfl,_⟩:=id k1
 clear ha ha' hb b1
 go_wp2_with fail
 refine (zZ0 _ _ x G _ ha1 k1 hl hlG HG0.out q HM.out HQ.out).mono ?_
 rintro e w2 ⟨v2,rfl,k2,f2,b3⟩
 obtain ⟨A4,c4,rfl,_⟩:=id k2
 have b4:=b2.trans (b3.mono b2.size)
 have ha2':=ha1'.below b3
 clear ha1 ha1' k1 b3 b2
 go_wp2_with fail
 refine (mul_any _ _ q y _ k2 ha2' hlq (by omega) Z HZ.out).mono ?_
 rintro e w3 ⟨v3,rfl,k3,f3,b5⟩
 go_wp2
 go_ret
 exact ⟨_,rfl,k3,f3.mono b4.size,b4.trans (b5.mono b4.size)⟩
end Go.Proofs.YtagaabooccnamaaGreat.nat
namespace Go.Proofs.YtagaabooccnamaaGreat.rat
open Go.RowKit num mem nat txt str flow whl
structure BrQ (n C k : Nat) (a : Nat -> Nat -> Int) (R : Nat -> Nat -> Rat) (d : Rat) : Prop where
 le : k <= n
 wide : n <= C
 ne : d ≠ 0
 det : zC6 k (qF a) = d
 rel : ∀ i j,i < n -> k <= j -> j < C -> d * (a i j : Rat) = zC0 k (fun c => (a i c : Rat) * R c j) + (if k <= i then R i j else 0)
theorem BrQ.start {n C : Nat} (a : Nat -> Nat -> Int) (h : n <= C) : BrQ n C 0 a (qF a) 1 :=
 ⟨by omega, h, by decide, rfl, fun i j _ _ _ => by
  rw [if_pos (Nat.zero_le i)]
  show 1 * (a i j : Rat) = 0 + (a i j : Rat)
  grind⟩
theorem qK9 (n : Nat) (d : Rat) (f g : Nat -> Rat) : zC0 n (fun c => f c * (g c * d⁻¹)) = zC0 n (fun c => f c * g c) * d⁻¹:=by
 rw [show zC0 n (fun c => f c * g c) * d⁻¹ = d⁻¹ * zC0 n (fun c => f c * g c) by grind,<- zK6]
 exact zG0 fun c _ => by grind
theorem BrQ.minor {n C k : Nat} {a : Nat -> Nat -> Int} {R : Nat -> Nat -> Rat} {d : Rat} (h : BrQ n C k a R d) {i j : Nat} (hi : i < n) (hk : k <= i) (hj : k <= j) (hC : j < C) :
  zC6 (k + 1) (fun r c => qF a (if r < k then r else i) (if c < k then c else j)) = R i j:=by
 have hd:=Rat.mul_inv_cancel _ h.ne
 obtain ⟨N0,hN0⟩ : ∃ N0 : Nat -> Nat -> Rat,N0 = fun r c => if c < k then qF a (if r < k then r else i) c else if r = k then 1 else 0:=⟨_,rfl⟩
 obtain ⟨v,hv⟩ : ∃ v : Nat -> Rat,v = fun l => if l < k then R l j * d⁻¹ else R i j * d⁻¹:=⟨_,rfl⟩
 have e1 : zC6 (k + 1) (fun r c => qF a (if r < k then r else i) (if c < k then c else j)) = zC6 (k + 1) (zG2 N0 k (fun r => zC0 (k + 1) (fun l => N0 r l * v l))):=by
  refine zK1 _ fun r c hr hc => ?_
  unfold zG2
  by_cases ec : c = k
  ·subst ec
   rw [if_pos rfl,if_neg (Nat.lt_irrefl c)]
   show _ = zC0 c (fun l => N0 r l * v l) + N0 r c * v c
   have es : zC0 c (fun l => N0 r l * v l) = zC0 c (fun l => (a (if r < c then r else i) l : Rat) * R l j) * d⁻¹:=by
    rw [<- qK9]
    refine zG0 fun l hl => ?_
    rw [hN0,hv]
    simp only [if_pos hl]
    rfl
   rw [es]
   have ev : N0 r c * v c = if r = c then R i j * d⁻¹ else 0:=by
    rw [hN0,hv]
    simp only [if_neg (Nat.lt_irrefl c)]
    split <;> grind
   rw [ev]
   by_cases er : r < c
   ·have hr2:=h.rel r j (by have:=h.le; omega) hj hC
    rw [if_neg (by omega)] at hr2
    rw [if_pos er,if_neg (by omega)]
    show (a r j : Rat) = _
    have e2 : zC0 c (fun l => (a r l : Rat) * R l j) = d * (a r j : Rat):=by grind
    rw [e2]
    grind
   ·obtain rfl : r = c:=by omega
    have hr2:=h.rel i j hi hj hC
    rw [if_pos hk] at hr2
    rw [if_neg er,if_pos rfl]
    show (a i j : Rat) = _
    grind
  ·rw [if_neg ec,hN0]
   simp only [if_pos (show c < k by omega)]
 rw [e1,zX6 _ _ _ _ (by omega),jB8 k N0 (fun r hr => by rw [hN0]; simp only [if_neg (Nat.lt_irrefl k),if_neg (show ¬ r = k by omega)])]
 have e2 : zC6 k N0 = d:=by
  rw [<- h.det]
  refine zK1 _ fun r c hr hc => ?_
  rw [hN0]
  simp only [if_pos hc,if_pos hr]
 have e3 : N0 k k = 1:=by rw [hN0]; simp only [if_neg (Nat.lt_irrefl k),if_true]
 have e4 : v k = R i j * d⁻¹:=by rw [hv]; simp only [if_neg (Nat.lt_irrefl k)]
 rw [e2,e3,e4]
 grind
theorem BrQ.cramer {n C k : Nat} {a : Nat -> Nat -> Int} {R : Nat -> Nat -> Rat} {d : Rat} (h : BrQ n C k a R d) {i j : Nat} (hi : i < k) (hj : k <= j) (hC : j < C) :
  zC6 k (zG2 (qF a) i (fun r => qF a r j)) = R i j:=by
 have hd:=Rat.mul_inv_cancel _ h.ne
 have e1 : zC6 k (zG2 (qF a) i (fun r => qF a r j)) = zC6 k (zG2 (qF a) i (fun r => zC0 k (fun l => qF a r l * (R l j * d⁻¹)))):=by
  refine zK1 _ fun r c hr hc => ?_
  unfold zG2
  by_cases ec : c = i
  ·rw [if_pos ec,if_pos ec]
   show qF a r j = zC0 k (fun l => qF a r l * (R l j * d⁻¹))
   rw [qK9]
   have hr2:=h.rel r j (by have:=h.le; omega) hj hC
   rw [if_neg (by omega)] at hr2
   have e2 : zC0 k (fun c => qF a r c * R c j) = d * (a r j : Rat):=by
    have : zC0 k (fun c => qF a r c * R c j) = zC0 k (fun c => (a r c : Rat) * R c j):=rfl
    rw [this]; grind
   rw [e2]
   show (a r j : Rat) = _
   grind
  ·rw [if_neg ec,if_neg ec]
 rw [e1,zX6 k (qF a) i (fun l => R l j * d⁻¹) hi,h.det]
 grind
theorem BrQ.int {n C k : Nat} {a : Nat -> Nat -> Int} {R : Nat -> Nat -> Rat} {d : Rat} (h : BrQ n C k a R d) {i j : Nat} (hi : i < n) (hj : k <= j) (hC : j < C) : ∃ z : Int,R i j = (z : Rat):=by
 by_cases hk : k <= i
 ·rw [<- h.minor hi hk hj hC]
  exact qR6 _ _ fun r c _ _ => ⟨_,rfl⟩
 ·rw [<- h.cramer (by omega) hj hC]
  refine qR6 _ _ fun r c _ _ => ?_
  unfold zG2
  split
  ·exact ⟨_,rfl⟩
  ·exact ⟨_,rfl⟩
def stepQ (k : Nat) (R : Nat -> Nat -> Rat) (d : Rat) : Nat -> Nat -> Rat:=fun i j => if i = k then R k j else (R i j * R k k - R i k * R k j) * d⁻¹
theorem BrQ.step {n C k : Nat} {a : Nat -> Nat -> Int} {R : Nat -> Nat -> Rat} {d : Rat} (h : BrQ n C k a R d) (hk : k < n) (hp : R k k ≠ 0) : BrQ n C (k + 1) a (stepQ k R d) (R k k):=by
 have hd:=Rat.mul_inv_cancel _ h.ne
 have hw:=h.wide
 refine ⟨hk,h.wide,hp,?_,fun i j hi hj hC => ?_⟩
 ·rw [<- h.minor hk (zB3 k) (zB3 k) (by omega)]
  refine zK1 _ fun r c hr hc => ?_
  by_cases e1 : r < k <;> by_cases e2 : c < k
  ·rw [if_pos e1,if_pos e2]
  ·rw [if_pos e1,if_neg e2,show c = k by omega]
  ·rw [if_neg e1,if_pos e2,show r = k by omega]
  ·rw [if_neg e1,if_neg e2,show r = k by omega,show c = k by omega]
 ·have r1:=h.rel i j hi (by omega) hC
  have r2:=h.rel i k hi (zB3 k) (by omega)
  have e1 : zC0 k (fun c => (a i c : Rat) * stepQ k R d c j) = (R k k * zC0 k (fun c => (a i c : Rat) * R c j) - R k j * zC0 k (fun c => (a i c : Rat) * R c k)) * d⁻¹:=by
   have e0 : zC0 k (fun c => (a i c : Rat) * stepQ k R d c j) = zC0 k (fun c => R k k * d⁻¹ * ((a i c : Rat) * R c j) + (- R k j * d⁻¹) * ((a i c : Rat) * R c k)):=zG0 fun c hc => by
    unfold stepQ
    rw [if_neg (show ¬ c = k by omega)]
    grind
   rw [e0,zV0,zK6,zK6]
   grind
  have e2 : zC0 (k + 1) (fun c => (a i c : Rat) * stepQ k R d c j) = zC0 k (fun c => (a i c : Rat) * stepQ k R d c j) + (a i k : Rat) * R k j:=by
   show _ + (a i k : Rat) * stepQ k R d k j = _
   unfold stepQ
   rw [if_pos rfl]
  rw [e2,e1]
  obtain ⟨S,hS⟩ : ∃ S,S = zC0 k (fun c => (a i c : Rat) * R c j):=⟨_,rfl⟩
  obtain ⟨T,hT⟩ : ∃ T,T = zC0 k (fun c => (a i c : Rat) * R c k):=⟨_,rfl⟩
  rw [<- hS] at r1 |-
  rw [<- hT] at r2 |-
  by_cases k1 : i < k
  ·rw [if_neg (by omega)] at r1 r2 |-
   have : S = d * (a i j : Rat):=by grind
   have : T = d * (a i k : Rat):=by grind
   grind
  ·by_cases k2 : i = k
   ·subst k2
    rw [if_pos (zB3 i)] at r1 r2
    rw [if_neg (by omega)]
    have : S = d * (a i j : Rat) - R i j:=by grind
    have : T = d * (a i i : Rat) - R i i:=by grind
    grind
   ·rw [if_pos (by omega)] at r1 r2 |-
    have : S = d * (a i j : Rat) - R i j:=by grind
    have : T = d * (a i k : Rat) - R i k:=by grind
    unfold stepQ
    rw [if_neg k2]
    grind
theorem BrQ.swap {n C k f : Nat} {a : Nat -> Nat -> Int} {R : Nat -> Nat -> Rat} {d : Rat} (h : BrQ n C k a R d) (hf : k <= f) (hn : f < n) : BrQ n C k (fun i => if i = k then a f else if i = f then a k else a i) (zE3 R k f) d:=by
 refine ⟨h.le,h.wide,h.ne,?_,fun i j hi hj hC => ?_⟩
 ·rw [<- h.det]
  refine zK1 _ fun r c hr hc => ?_
  have e : (if r = k then a f else if r = f then a k else a r) = a r:=by rw [if_neg (show ¬ r = k by omega),if_neg (show ¬ r = f by omega)]
  show (((if r = k then a f else if r = f then a k else a r) c : Int) : Rat) = (a r c : Rat)
  rw [e]
 ·have es : ∀ i',zC0 k (fun c => (a i' c : Rat) * zE3 R k f c j) = zC0 k (fun c => (a i' c : Rat) * R c j):=fun i' => zG0 fun c hc => by
   unfold zE3
   rw [if_neg (show ¬ c = k by omega),if_neg (show ¬ c = f by omega)]
  by_cases e1 : i = k
  ·subst e1
   have:=h.rel f j hn hj hC
   rw [if_pos hf] at this
   simp only [if_true,es]
   rw [if_pos (zB3 i),this]
   unfold zE3
   rw [if_pos rfl]
  ·by_cases e2 : i = f
   ·subst e2
    have:=h.rel k j (by omega) hj hC
    rw [if_pos (zB3 k)] at this
    simp only [if_neg e1,if_true,es]
    rw [if_pos hf,this]
    unfold zE3
    rw [if_neg e1,if_pos rfl]
   ·have:=h.rel i j hi hj hC
    simp only [if_neg e1,if_neg e2,es]
    rw [this]
    unfold zE3
    rw [if_neg e1,if_neg e2]
theorem BrQ.none {n C k : Nat} {a : Nat -> Nat -> Int} {R : Nat -> Nat -> Rat} {d : Rat} (h : BrQ n C k a R d) (hk : k < n) (h0 : ∀ i,k <= i -> i < n -> R i k = 0) : zC6 n (qF a) = 0:=by
  have hd:=Rat.mul_inv_cancel _ h.ne
  have hw:=h.wide
  have e:=zX6 n (qF a) k (fun l => if l < k then R l k * d⁻¹ else 0) hk
  simp only [if_neg (Nat.lt_irrefl k)] at e
  rw [zK1 n (M':=qF a) (fun i j hi hj => ?_)] at e
  · rw [e]; grind
  · unfold zG2
    by_cases ej : j = k
    · subst ej
      rw [if_pos rfl]
      have r1:=h.rel i j hi (zB3 j) (by omega)
      have e1 : ∀ m,j <= m -> zC0 m (fun l => qF a i l * (if l < j then R l j * d⁻¹ else 0)) = zC0 j (fun l => (a i l : Rat) * R l j) * d⁻¹:=by
        intro m hm
        induction m with
        | zero => obtain rfl : j = 0 := by omega
                  rw [<- qK9]; rfl
        | succ m ih =>
          by_cases e2 : j <= m
          · show zC0 m _ + qF a i m * (if m < j then _ else 0) = _
            rw [ih e2,if_neg (by omega)]; grind
          · obtain rfl : j = m + 1:=by omega
            rw [<- qK9]
            exact zG0 fun l hl => by rw [if_pos hl]; rfl
      show zC0 n (fun l => qF a i l * (if l < j then R l j * d⁻¹ else 0)) = qF a i j
      rw [e1 n (by omega)]
      have e3 : (if j <= i then R i j else 0) = 0:=by
        split
        · exact h0 i (by assumption) hi
        · rfl
      rw [e3] at r1
      show _ = (a i j : Rat)
      have : zC0 j (fun l => (a i l : Rat) * R l j) = d * (a i j : Rat):=by grind
      rw [this]; grind
    · rw [if_neg ej]
end Go.Proofs.YtagaabooccnamaaGreat.rat
