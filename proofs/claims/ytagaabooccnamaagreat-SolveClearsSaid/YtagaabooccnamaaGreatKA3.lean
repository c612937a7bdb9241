/- Package whole and the document's whole numbers: the calls. Condition: as each says.
Package whole: Of, Print; the chapter's example. Condition: as each says.
What the laws of layer 7 share: an argument as a whole number, sizes, the document's Same on two that are one. Condition: as each says.
A region that draws its order, one of whose operations may come behind the first store ('lateStores': the second extract of 'x, y := f(a, b)'): it is taken first all the same, for it yields in whatever world. No program stands here.
What WholeTexts' regions want beside: the obligations of min, of a string's length and cut; one answer of a text; texts of whole numbers, read. Condition: as each says.
Package whole: Sum, over rows of values of two cells; the document's Num of a great number. Condition: as each says.
What WholeMakes wants: an argument as a slice of whole numbers; a row of whole numbers that the call makes by append. Condition: as each says.
The document's own fractions: Low. Condition: as each says.
A region that draws its order, a chain of whose operations may come behind the first store (len, min and a cut of what was loaded): when all others are up, the rest of the chain is taken, for it yields in whatever world. No program stands here.
Rows of texts that the call makes by append; a row's cell in a region that draws its order; one cell written in the text's order. Condition: as each says.
Rows of fractions (structs of a struct and a slice: three cells each): a slice that reads as fractions; a row of the call's own that grows by append; an element loaded. Condition: as each says.
The document's own Clean of fractions. Condition: as it says.
Fractions: what the program reckons (sums over what the lower parts have in common, products put into lowest terms crosswise, the order by products). Mathematics alone.
Package rat: its own contracts, each said of fractions: what its functions stand on, Neg, Sign. Condition: as each says.
The document's own folds of fractions: Sum, Product. Condition: as each says.
The document's product of two rows of fractions. Condition: as it says.
The document's own folds of fractions: Whole, Pow. Condition: as each says.
An argument as a slice of fractions; its elements loaded. Condition: as each says.
Rows of fractions grown in a region that draws its order. Condition: as each says.
The document's Shares. Condition: as it says.
Folds of fractions: the least and the greatest one, shares are a whole, a mean lies between, sums one by one, sorting. Mathematics alone.
Rows of fractions: sums, products with a row, where noughts and units begin. Mathematics alone.
Tables of fractions: products, what is turned, the table that changes nothing. Mathematics alone.
Tables of fractions: what loops over rows and places keep; rows of tables multiplied, laid side by side; how long numbers grow. Mathematics alone.
Tables by row and place: mathematics: what stands at a place, how many are no noughts, one place set. No program stands here.
Tables of fractions as functions: what they make nought, steps and that steps are one; determinants by the first row, and what changes of rows do to them. Mathematics alone: no program stands here.
Tables of fractions as lists under changes of rows; how long their numbers grow; what goes down keeps. Mathematics alone: no program stands here.
What gauss' ways keep: downward, upward, and the document's; that both come to one table. Mathematics alone: no program stands here.
An append of one fraction to a row, in a region that draws its order: the new element's cells as an obligation of the flow, the append behind it. Condition: as each says.
The document's sum of two whole numbers lies in new memory. Condition: sizes are within bounds.
The document's Of of a whole number and of a fraction: the answer lies in new memory. Condition: sizes are within bounds.
few: two rows of fractions out of an argument. Condition: as it says.
Elements of a row of fractions whose place is told.
Rows written out in a region: two fractions, two rows of fractions; as obligations of its flow. Condition: as each says.
An argument as a slice of ints. Condition: it can be read as data.
Rows of ints that the call makes by append.
A copy of ints that a region makes: an empty row, and an append to it.
Few: two rows of fractions out of an argument. Condition: as it says. -/
import Derived.Test.YtagaabooccnamaaGreatKA2
import Derived.Lib.SmallJoins
import Derived.ProofKit
import Derived.OpenShut
import Derived.Deep.SlicePairs
import Derived.Deep.Slices
set_option linter.unusedVariables false
set_option linter.unusedSimpArgs false
set_option maxRecDepth 100000
set_option maxHeartbeats 6400000
open And renaming intro -> zA
open List renaming setIfInBounds_toArray -> zA0, set_cons_succ -> zA1, set_cons_zero -> zA2, getElem?_eq_getElem -> zA3, getElem?_eq_some_iff -> zA4, mem_of_getElem? -> zA5, getD_eq_getElem?_getD -> zA6, take_of_length_le -> zA7, length_append -> zA8, length_map -> zA9, replicate -> zB, getElem?_append_left -> zB0, getElem?_map -> zB1, length_set -> zB2
open Nat renaming le_refl -> zB3, le_trans -> zB4, mul_assoc -> zB5
namespace Go.Proofs.YtagaabooccnamaaGreat.whl
open Go.RowKit num mem nat txt str flow
theorem exact_q {x y q : Int} (hy : y ≠ 0) (h : x = q * y) : x.natAbs % y.natAbs = 0 /\ x.natAbs / y.natAbs = q.natAbs /\ sg (!(ngB x == ngB y)) q.natAbs = q:=by
 have e : x.natAbs = q.natAbs * y.natAbs:=by rw [h,Int.natAbs_mul]
 have hp : 0 < y.natAbs:=by omega
 refine ⟨by rw [e]; exact Nat.mul_mod_left _ _,by rw [e]; exact Nat.mul_div_cancel _ hp,?_⟩
 by_cases hq : q = 0
 ·subst hq
  cases (!(ngB x == ngB y)) <;> rfl
 ·have hx : sg (!(ngB q == ngB y)) (q.natAbs * y.natAbs) = x:=by rw [h]; exact qO4 q y
  have hs : ngB x = (!(ngB q == ngB y)):=by rw [<- hx]; exact qI (Nat.mul_pos (by omega) hp)
  rw [hs]
  have h1:=zU5 q
  revert h1
  cases ngB q <;> cases ngB y <;> exact id
theorem yA9 (a0 : Value) (x : Int) (a1 : Value) (y : Int) (q : Int) (w : World) (h0 : IsZ w a0 x) (h1 : IsZ w a1 y) (hl : zC1 x <= 20000) (hl2 : zC1 y <= 20000) (hy : y ≠ 0) (hq : x = q * y) :
  Calls Tryz.prog 148 #[a0,a1] w (qD q 0 w):=by
 obtain ⟨u0,rfl,s0⟩:=h0
 obtain ⟨A0,c0,rfl,_⟩:=id s0
 obtain ⟨u1,rfl,s1⟩:=h1
 obtain ⟨A1,c1,rfl,_⟩:=id s1
 have HL : Hid ((digs 4294967296 x.natAbs).length <= 90000):=zB4 hl (by omega)
 have HL2 : Hid ((digs 4294967296 y.natAbs).length <= 90000):=zB4 hl2 (by omega)
 obtain ⟨hm1,hm2,hm3⟩:=exact_q hy hq
 have HY : Hid (0 < y.natAbs):=by show 0 < _; omega
 have HM1:=Lib.hid hm1
 have HM2:=Lib.hid hm2
 have HZ:=Lib.hid hm3
 clear hm1 hm2 hm3 hy hq
 go_enter Tryz.func148,Tryz.ntmps148
 go_upto_region 1 with (fail)
 obtain ⟨wx,hwx,bb,B0,B1,B2,hsz⟩:=zN7 w 60 60 60 #[.bool (ngB x),.slice A0 (digs 4294967296 (x).natAbs).length c0] #[.bool (ngB y),.slice A1 (digs 4294967296 (y).natAbs).length c1] #[.bool false,.slice none 0 0]
 rw [hwx]
 clear hwx
 have k0s:=s0.below bb
 have k0 : IsZ wx (.agg #[.bool (ngB x),.slice A0 (digs 4294967296 (x).natAbs).length c0]) (x):=zF4 k0s rfl rfl
 have k1s:=s1.below bb
 have k1 : IsZ wx (.agg #[.bool (ngB y),.slice A1 (digs 4294967296 (y).natAbs).length c1]) (y):=zF4 k1s rfl rfl
 have hszb:=bb.size
 have bb0:=bb.size
 refine zC9 10 [Pd.eq (.pointer (some ⟨w.heap.size,1,none⟩)),Pd.eq (.slice A0 (digs 4294967296 (x).natAbs).length c0),Pd.eq (.pointer (some ⟨w.heap.size + 1,1,none⟩)),Pd.eq (.slice A1 (digs 4294967296 (y).natAbs).length c1),pt .u64 (digs 4294967296 q.natAbs) 0 wx.heap.size,pt .u64 (digs 4294967296 q.natAbs) 0 wx.heap.size,ps .u64 (digs 4294967296 q.natAbs) wx.heap.size,Pd.eq (.int .i64 0),ps .u64 (digs 4294967296 q.natAbs) wx.heap.size,Pd.eq (.int .i64 0)] (by kernel_rfl) ?ob3 ?done3
 case ob3 =>
  refine zA (zC3 rfl (zB6 rfl) (zB8 rfl rfl) (fun _ => by kernel_rfl) (fun _ => rfl)) ?_
  refine zA (zC rfl (zB6 rfl) (zB7 (j:=0) (by kernel_rfl) rfl rfl) (fun w2 hb => zC5 Tryz.underlying50 rfl ((B0.below hb).cell 1)) (fun _ _ => rfl)) ?_
  refine zA (zC3 rfl (zB6 rfl) (zB8 rfl rfl) (fun _ => by kernel_rfl) (fun _ => rfl)) ?_
  refine zA (zC rfl (zB6 rfl) (zB7 (j:=2) (by kernel_rfl) rfl rfl) (fun w2 hb => zC5 Tryz.underlying50 rfl ((B1.below hb).cell 1)) (fun _ _ => rfl)) ?_
  refine zA (zD4 rfl Tryz.func55 (by kernel_rfl) (zB6 rfl) (zB7 (j:=1) (by kernel_rfl) rfl rfl) (zB7 (j:=3) (by kernel_rfl) rfl rfl) (fun w2 u0 u1 hb h0 h1 => by obtain rfl:=h0; obtain rfl:=h1; exact (zZ0 _ _ _ _ _ (k0s.below hb) (k1s.below hb) HL.out HL2.out HY.out _ HM1.out HM2.out.symm).mono fun e w3 h => zN3.pd h hb.size)) ?_
  refine zA (zC2 rfl (zB6 rfl) (zB7 (j:=4) (by kernel_rfl) rfl rfl) (fun _ _ h => h)) ?_
  refine zA (zG7 rfl (zB6 rfl) (zB7 (j:=5) (by kernel_rfl) rfl rfl) (fun w2 u hu => by obtain ⟨v,rfl,q1,q2⟩:=hu; exact ⟨v,rfl,q1,q2⟩)) ?_
  refine zA (zG7 rfl (zB6 rfl) (zB7 (j:=5) (by kernel_rfl) rfl rfl) (fun w2 u hu => by obtain ⟨v,rfl,q1,q2⟩:=hu; exact ⟨_,rfl,rfl⟩)) ?_
  refine zA (zE8 rfl (zB6 rfl) (zB7 (j:=6) (by kernel_rfl) rfl rfl) (fun _ _ h => h)) ?_
  refine zA (zE8 rfl (zB6 rfl) (zB7 (j:=7) (by kernel_rfl) rfl rfl) (fun _ _ h => h)) ?_
  trivial
 case done3 =>
  refine fun w1 hb1 v0 h0 v1 h1 v2 h2 v3 h3 v4 h4 v5 h5 v6 h6 v7 h7 v8 h8 v9 h9 b hbf => ?_
  obtain rfl:=h0; obtain rfl:=h1; obtain rfl:=h2; obtain rfl:=h3; obtain rfl:=h7; obtain rfl:=h9
  clear h4
  clear h5
  obtain ⟨q6,f6⟩:=h6
  obtain ⟨q8,f8⟩:=h8
  simp only [Act.put,zA0,zA2,zA1] at hbf
  subst hbf
  obtain ⟨A6,c6,rfl,_⟩:=id q8
  have kq:=q8
  have kqf:=f8
  replace B0:=B0.below hb1
  replace B1:=B1.below hb1
  replace B2:=B2.below hb1
  replace k0s:=k0s.below hb1
  replace k1s:=k1s.below hb1
  replace k0:=k0.below hb1
  replace k1:=k1.below hb1
  replace bb:=bb.trans (hb1.mono bb.size)
  have hszb:=bb.size
  obtain ⟨x00,x01,y00,y01⟩:=Blk.two B0
  obtain ⟨x10,x11,y10,y11⟩:=Blk.two B1
  obtain ⟨x20,x21,y20,y21⟩:=Blk.two B2
  refine zD ?_
  go_upto_region 4 with (fail)
  refine zC9 7 [Pd.eq (.pointer (some ⟨w.heap.size,0,none⟩)),Pd.eq (.bool (ngB x)),Pd.eq (.pointer (some ⟨w.heap.size + 1,0,none⟩)),Pd.eq (.bool (ngB y)),Pd.eq (.bool (!((ngB x) == (ngB y)))),Pd.eq (.slice A6 (digs 4294967296 q.natAbs).length c6),pz (q) wx.heap.size] (by kernel_rfl) ?ob4 ?done4
  case ob4 =>
   refine zA (zC3 rfl (zB6 rfl) (zB8 rfl rfl) (fun _ => by kernel_rfl) (fun _ => rfl)) ?_
   refine zA (zC rfl (zB6 rfl) (zB7 (j:=0) (by kernel_rfl) rfl rfl) (fun w2 hb => zC5 Tryz.underlying4 rfl ((B0.below hb).cell 0)) (fun _ _ => rfl)) ?_
   refine zA (zC3 rfl (zB6 rfl) (zB8 rfl rfl) (fun _ => by kernel_rfl) (fun _ => rfl)) ?_
   refine zA (zC rfl (zB6 rfl) (zB7 (j:=2) (by kernel_rfl) rfl rfl) (fun w2 hb => zC5 Tryz.underlying4 rfl ((B1.below hb).cell 0)) (fun _ _ => rfl)) ?_
   refine zA (zG4 rfl (zB6 rfl) (zB7 (j:=1) (by kernel_rfl) rfl rfl) (zB7 (j:=3) (by kernel_rfl) rfl rfl) (fun _ _ _ hx hy => ⟨.bool (!((ngB x) == (ngB y))),by rw [hx,hy]; exact qH6 _ _ _ _ Tryz.underlying4 _,rfl⟩)) ?_
   refine zA (zC2 rfl (zB6 rfl) (zB8 rfl rfl) (fun _ _ h => h)) ?_
   refine zA (zD4 rfl Tryz.func105 (by kernel_rfl) (zB6 rfl) (zB7 (j:=4) (by kernel_rfl) rfl rfl) (zB7 (j:=5) (by kernel_rfl) rfl rfl) (fun w2 u0 u1 hb h0 h1 => by obtain rfl:=h0; obtain rfl:=h1; exact qD0 _ _ _ (q) _ (kq.below hb) kqf HZ.out)) ?_
   trivial
  case done4 =>
   refine fun w2 hb2 v0 h0 v1 h1 v2 h2 v3 h3 v4 h4 v5 h5 v6 h6 b hbf => ?_
   obtain rfl:=h0; obtain rfl:=h1; obtain rfl:=h2; obtain rfl:=h3; obtain rfl:=h4; obtain rfl:=h5
   obtain ⟨q6,f6⟩:=h6
   simp only [Act.put,zA0,zA2,zA1] at hbf
   subst hbf
   obtain ⟨u6,rfl,q6⟩:=q6
   obtain ⟨A9,c9,rfl,_⟩:=id q6
   have B9:=B2.below hb2
   refine zG8 (i:=7) rfl rfl rfl rfl rfl rfl (cells:=[.bool (ngB (q)),.slice A9 (digs 4294967296 (q).natAbs).length c9]) rfl B9 rfl (by kernel_rfl) (zH8 rfl rfl) fun w9 hg9 BB9 => ?_
   have k9:=off q6 B9 no_ints2 hg9
   have f9:=(f6 _ _ rfl).mono bb0
   have bb9:=((bb.trans (hb2.mono bb.size)).trans ((Below.refl _ _).grown hg9 (zB4 bb.size hb2.size) (fun g hg => by injection hg with hg; omega)))
   obtain ⟨c0,c1,_,_⟩:=Blk.two BB9
   refine zP7 (i:=8) (.int .i64 0) rfl rfl rfl rfl rfl fun b hbf => ?_
   simp only [Act.put,zA0,zA2,zA1] at hbf
   subst hbf
   refine zD ?_
   go_wp2
   exact bodyPost_ret (v:=.tuple #[.agg #[.bool (ngB (q)),.slice A9 (digs 4294967296 (q).natAbs).length c9],.int .i64 0]) (by simp [results,Tryz.results148,go_sem,c0,c1]) rfl ⟨_,rfl,zF4 k9 rfl rfl,zL1 f9,bb9⟩
theorem qD4 (n : Int) (w : World) (h1 : -9223372036854775808 <= n) (h2 : n <= 9223372036854775807) :
  Calls Tryz.prog 82 #[.int .i64 n] w (zE2 n w):=by
 by_cases hn : n < 0
 ·have HW : Hid (IntKind.u64.wrap (-IntKind.u64.wrap n) = ((n.natAbs : Nat) : Int)):=by
   show _ = _
   rw [IntKind.wrap_u64,IntKind.wrap_u64]; omega
  have HB : Hid (IntKind.u64.wrap (-IntKind.u64.wrap n) <= 18446744073709551615):=by
   show _ <= _
   rw [HW.out]; omega
  have HZ : Hid (sg true n.natAbs = n):=by show _ = _; rw [zZ3]; omega
  go_enter Tryz.func82,Tryz.ntmps82
  go_wp2_with fail
  refine (qB8 _ n.natAbs _ HW.out HB.out).mono ?_
  rintro e w1 ⟨v1,rfl,k1,f1,b1⟩
  obtain ⟨A1,C1,rfl,_⟩:=id k1
  go_wp2_with fail
  refine (qD0 true _ n.natAbs n _ k1 f1 HZ.out).mono ?_
  rintro e w2 ⟨v2,rfl,⟨⟨u2,rfl,k2⟩,f2⟩,b2⟩
  obtain ⟨A2,C2,rfl,_⟩:=id k2
  have B2:=((Blk.new w 60 #[.bool false,.slice none 0 0]).below b1).below b2
  obtain ⟨c0,c1,g0,g1⟩:=B2.two
  have bb1:=(zC8 (zB3 w.heap.size) (.cells #[.bool false,.slice none 0 0] 60)).trans (b1.mono (by simp))
  have bb2:=bb1.trans (b2.mono bb1.size)
  go_wp2
  exact bodyPost_ret (v:=.agg #[.bool (ngB n),.slice A2 (digs 4294967296 n.natAbs).length C2]) (by simp [results,Tryz.results82,go_sem,c0,c1]) rfl (zX1 bb2 (zB3 _) (by simp) k2 (f2 _ _ rfl) rfl)
 ·have HW : Hid (n = ((n.natAbs : Nat) : Int)):=by show _ = _; omega
  have HZ : Hid (sg false n.natAbs = n):=by show _ = _; rw [zZ4]; omega
  have hn0 : 0 <= n:=by omega
  go_enter Tryz.func82,Tryz.ntmps82
  go_wp2_with fail
  refine (qB8 _ n.natAbs _ HW.out (by omega)).mono ?_
  rintro e w1 ⟨v1,rfl,k1,f1,b1⟩
  obtain ⟨A1,C1,rfl,_⟩:=id k1
  go_wp2_with fail
  refine (qD0 false _ n.natAbs n _ k1 f1 HZ.out).mono ?_
  rintro e w2 ⟨v2,rfl,⟨⟨u2,rfl,k2⟩,f2⟩,b2⟩
  obtain ⟨A2,C2,rfl,_⟩:=id k2
  have B2:=((Blk.new w 60 #[.bool false,.slice none 0 0]).below b1).below b2
  obtain ⟨c0,c1,g0,g1⟩:=B2.two
  have bb1:=(zC8 (zB3 w.heap.size) (.cells #[.bool false,.slice none 0 0] 60)).trans (b1.mono (by simp))
  have bb2:=bb1.trans (b2.mono bb1.size)
  go_wp2
  exact bodyPost_ret (v:=.agg #[.bool (ngB n),.slice A2 (digs 4294967296 n.natAbs).length C2]) (by simp [results,Tryz.results82,go_sem,c0,c1]) rfl (zX1 bb2 (zB3 _) (by simp) k2 (f2 _ _ rfl) rfl)
end Go.Proofs.YtagaabooccnamaaGreat.whl
namespace Go.Proofs.YtagaabooccnamaaGreat.whl
open Go.RowKit Go.ChangeShapes Go.WideShapes Go.ChangeAt Go.Joins Go.Deep num mem nat txt str flow
theorem yB {H : Type} {enc : TypeId × Value -> H} {P : Program} {W : World} {t e : TypeId} {n : Nat} {v : Value} {y : DataW H × List MemPlace} (ht : P.underlying t = some (.slice e)) (he : P.underlying e = some (.int .u64)) (hc : P.cellsOf e = 1)
  (h : DataW.trod enc P W 0 (fun _ => true) true n t [v] = some y) : ∃ l : List Nat,IsS W .u64 v l /\ Lt 18446744073709551616 l:=by
 rcases open_ints ht he hc h with ⟨hcs,hx⟩ | ⟨a,len,cap,zs,hcs,_,hl,hm,hz,hx,hcell,hwz⟩
 ·injection hcs with hcs _
  subst hcs
  exact ⟨[],qG _ _,Lt.nil _⟩
 ·injection hcs with hcs _
  subst hcs
  simp only [if_true] at hz
  have hlen : ((zs.take len).map Int.toNat).length = len:=by simp; omega
  refine ⟨(zs.take len).map Int.toNat,⟨some a,cap,by rw [hlen],by rw [hlen]; exact hl,hm,?_⟩,?_⟩
  ·intro i d hd
   have hi : i < len:=by rw [<- hlen]; exact (zA4.1 hd).1
   have hi2 : i < zs.length:=by omega
   refine ⟨a,rfl,?_⟩
   rw [hcell i hi2]
   have hb:=qW5 (hwz _ (List.getElem_mem hi2))
   have hd2 : d = (zs[i]).toNat:=by
    rw [zB1,List.getElem?_take_of_lt hi,zA3 hi2] at hd
    simpa using hd.symm
   rw [zA6,zA3 hi2,hd2]
   simp only [Option.getD_some]
   rw [Int.toNat_of_nonneg hb.1]
  ·intro d hd
   obtain ⟨z,hz1,rfl⟩:=List.mem_map.1 hd
   have hb:=qW5 (hwz z (List.mem_of_mem_take hz1))
   omega
theorem yS8 {x y : Int} {m n : Nat} (h : zC1 x <= m) (h' : zC1 y <= n) : zC1 (x + y) <= m + n + 1:=by have:=yR5 x y; omega
theorem zO1 {x y : Int} {m n : Nat} (h : zC1 x <= m) (h' : zC1 y <= n) : zC1 (x * y) <= m + n:=by have:=qO3 x y; omega
theorem yB0 {x : Int} {m : Nat} (h : zC1 x <= m) : zC1 (-x) <= m:=by rw [qC9]; exact h
def pn (t : TypeId) (cells : Array Value) (B : Nat) : Pd:=⟨fun w v => ∃ g,v = .pointer (some ⟨g,0,none⟩) /\ B <= g /\ Blk w g t cells,fun h hb => by obtain ⟨g,e,h1,h2⟩:=h; exact ⟨g,e,h1,h2.below hb⟩⟩
def pze (x : Int) (n : Int) (B : Nat) : Pd:=⟨fun w t => ∃ v,t = .tuple #[v,.int .i64 n] /\ IsZ w v x /\ zP B v,fun h hb => by obtain ⟨v,e,h1,h2⟩:=h; exact ⟨v,e,h1.below hb,h2⟩⟩
theorem qD.pd {x : Int} {n : Int} {w : World} {e : Ending} {w' : World} {B : Nat} (h : qD x n w e w') (hB : B <= w.heap.size) : zI7 (pze x n B) w e w':=by
 obtain ⟨v,rfl,h1,h2,h3⟩:=h
 exact ⟨_,rfl,⟨v,rfl,h1,h2.mono hB⟩,h3⟩
end Go.Proofs.YtagaabooccnamaaGreat.whl
namespace Go.Proofs.YtagaabooccnamaaGreat.flow
open Go.RowKit num mem
def qD5 (L : List Oper) (q n : Nat) (o : Oper) : Bool :=
 (List.range n).all fun i => i == q || (zP5 o).contains i || (List.range n).any fun k => decide (i < k) && (!(k == q) && ((L[k]?).map fun x => (zP5 x).contains i).getD false)
theorem yS9 {L : List Oper} {q : Nat} {o : Oper} {ms : List (Option Value)} (hlen : ms.length = L.length) (h : qD5 L q L.length o = true) (hdone : ∀ e ∈ o.after,Region.binds .any e = true -> ∃ v,ms[e.on]? = some (some v))
    (hdc : ∀ (j : Nat) (x : Oper) (v : Value),L[j]? = some x -> ms[j]? = some (some v) -> ∀ e ∈ x.after,Region.binds .any e = true -> ∃ v,ms[e.on]? = some (some v)) : ∀ i,i < L.length -> i ≠ q -> ∃ v,ms[i]? = some (some v):=by
  unfold qD5 at h
  have key : ∀ k i,i + k = L.length -> i < L.length -> i ≠ q -> ∃ v,ms[i]? = some (some v):=by
    intro k
    induction k using Nat.strongRecOn with
    | ind k ih =>
      intro i hik hi hiq
      have h1:=List.all_eq_true.1 h i (by simp [hi])
      rw [Bool.or_eq_true,Bool.or_eq_true] at h1
      rcases h1 with (h1 | h1) | h1
      · exact absurd (by simpa using h1) hiq
      · obtain ⟨e,he,hb,rfl⟩:=zW7.1 (by simpa using h1)
        exact hdone e he hb
      · obtain ⟨m,hm,h2⟩:=List.any_eq_true.1 h1
        rw [Bool.and_eq_true,Bool.and_eq_true] at h2
        have hm2 : m < L.length:=by simpa using hm
        have him : i < m:=by simpa using h2.1
        have hmq : m ≠ q:=by simpa using h2.2.1
        obtain ⟨v,hv⟩:=ih (L.length - m) (by omega) m (by omega) hm2 hmq
        have h3:=h2.2.2
        rw [zA3 hm2] at h3
        obtain ⟨e,he,hb,rfl⟩:=zW7.1 (by simpa using h3)
        exact hdc m _ v (zA3 hm2) hv e he hb
  intro i hi hiq
  exact key (L.length - i) i (by omega) hi hiq
def zT (n m q : Nat) : Array Bool:=((zB n true).set q false ++ zB m false).toArray
theorem lst_but {L : List Oper} {q m : Nat} {ms : List (Option Value)} (hlen : ms.length = L.length) (hbut : ∀ i,i < L.length -> i ≠ q -> ∃ v,ms[i]? = some (some v)) (hmq : ms[q]? = some none) : lst ms m = zT L.length m q:=by
 unfold lst zT
 congr 2
 refine List.ext_getElem (by simp [hlen]) fun i h1 h2 => ?_
 have h3 : i < ms.length:=by simpa using h1
 rw [List.getElem_map,List.getElem_set]
 by_cases e : q = i
 ·subst e
  rw [if_pos rfl]
  rw [zA3 h3] at hmq
  rw [Option.some.inj hmq]; rfl
 ·rw [if_neg e]
  obtain ⟨v,hv⟩:=hbut i (by omega) (fun h => e h.symm)
  rw [zA3 h3] at hv
  rw [Option.some.inj hv]; simp
theorem yT {P : Program} {Q : Exit -> Act -> World -> Prop} {ops : Array Oper} {L L2 : List Oper} {Φ : List Pd} {w0 : World} {a0 : Act} (hop : ops.toList = L ++ L2) (hd : zK7 L = true) (hback : zO8 0 L = true) {q : Nat} {oq : Oper} (hq : L[q]? = some oq) (hcov : (L2.all fun o => zU1 L L.length o || qD5 L q L.length o) = true) (hsel : Region.noSelect ops = true) (hfree : Region.free .any ops (zT L.length L2.length q) q = true) (hrdy : (Region.ready .any ops (zT L.length L2.length q)).contains q = true) (hQ : ∀ c a w v,Q (.panic c) (a.put oq.dst v) w -> Q (.panic c) a w)
    (late : ∀ ms w,St L Φ w0 oq ms w -> ∃ v,Yields P ops oq v (zD6 a0 L ms) /\ (ph Φ q).p w v) (hA : isA oq = false)
    (ob : Obs P Q ops L Φ w0 a0 0 L)
    (done : ∀ ms w,(∀ i,i < L.length -> ∃ v,ms[i]? = some (some v)) -> Inv L Φ w0 ms w -> wpAny P .any ops Q L2.length (lst ms L2.length) (zD6 a0 L ms) w) :
    ∀ (k : Nat) (ms : List (Option Value)) (w : World),(ms.filter Option.isNone).length = k -> Inv L Φ w0 ms w -> wpAny P .any ops Q (k + L2.length) (lst ms L2.length) (zD6 a0 L ms) w:=by
  have hsz : ops.size = L.length + L2.length:=by
    have:=congrArg List.length hop
    simpa using this
  have hat : ∀ i,ops[i]? = (L ++ L2)[i]?:=fun i => by rw [<- hop,Array.getElem?_toList]
  intro k
  induction k with
  | zero =>
    intro ms w hk hI
    rw [Nat.zero_add]
    refine done ms w (fun i hi => ?_) hI
    have hi2 : i < ms.length:=by rw [hI.len]; exact hi
    rcases hm : ms[i] with _ | v
    · exfalso
      have h1 : ms[i] ∈ ms.filter Option.isNone:=List.mem_filter.2 ⟨List.getElem_mem hi2,by rw [hm]; rfl⟩
      rw [List.length_eq_zero_iff.1 hk] at h1
      simp at h1
    · exact ⟨v,by rw [zA3 hi2,hm]⟩
  | succ k ih =>
    intro ms w hk hI
    -- some operation of L has not come up
    have hnot : ¬ ∀ i,i < L.length -> ∃ v,ms[i]? = some (some v):=by
      intro hall
      have h0 : ms.filter Option.isNone = []:=by
        rw [List.filter_eq_nil_iff]
        intro m hm
        obtain ⟨i,hi,rfl⟩:=List.mem_iff_getElem.1 hm
        obtain ⟨v,hv⟩:=hall i (by rw [<- hI.len]; exact hi)
        rw [zA3 hi] at hv
        rw [Option.some.inj hv]; simp
      rw [h0] at hk; simp at hk
    -- the least one that has not may come up
    have least : ∀ n i,i <= n -> i < L.length -> Region.ready .any ops (lst ms L2.length) = [] -> ∃ v,ms[i]? = some (some v):=by
      intro n
      induction n with
      | zero =>
        intro i hin hi hr
        obtain rfl : i = 0:=by omega
        have hi2 : 0 < ms.length:=by rw [hI.len]; exact hi
        rcases hm : ms[0] with _ | v
        · exfalso
          have : 0 ∈ Region.ready .any ops (lst ms L2.length):=by
            rw [mem_ready]
            refine ⟨by rw [zQ8 hi2,hm]; rfl,L[0],by rw [hat,zB0 hi,zA3 hi],?_⟩
            intro e he hb
            have:=zW8 L 0 0 _ hback (zA3 hi) e he hb
            omega
          rw [hr] at this; simp at this
        · exact ⟨v,by rw [zA3 hi2,hm]⟩
      | succ n ihn =>
        intro i hin hi hr
        have hi2 : i < ms.length:=by rw [hI.len]; exact hi
        rcases hm : ms[i] with _ | v
        · exfalso
          have : i ∈ Region.ready .any ops (lst ms L2.length):=by
            rw [mem_ready]
            refine ⟨by rw [zQ8 hi2,hm]; rfl,L[i],by rw [hat,zB0 hi,zA3 hi],?_⟩
            intro e he hb
            have h1:=zW8 L 0 i _ hback (zA3 hi) e he hb
            have h3 : e.on < ms.length:=by rw [hI.len]; omega
            obtain ⟨v,hv⟩:=ihn e.on (by omega) (by omega) hr
            rw [zQ8 h3]
            rw [zA3 h3] at hv
            rw [Option.some.inj hv]; rfl
          rw [hr] at this; simp at this
        · exact ⟨v,by rw [zA3 hi2,hm]⟩
    have hcnt : ∀ (i : Nat) (v : Value),ms[i]? = some none -> ((ms.set i (some v)).filter Option.isNone).length = k:=by
      intro i v hmi
      have key : ∀ (l : List (Option Value)) (i : Nat),l[i]? = some none -> ((l.set i (some v)).filter Option.isNone).length + 1 = (l.filter Option.isNone).length:=by
        intro l
        induction l with
        | nil => intro i h; simp at h
        | cons m l ihl =>
          intro i h
          cases i with
          | zero =>
            obtain rfl : m = none:=by simpa using h
            simp
          | succ i =>
            have:=ihl i (by simpa using h)
            rw [zA1,List.filter_cons,List.filter_cons]
            split
            · simp only [List.length_cons]; omega
            · exact this
      have:=key ms i hmi
      omega
    have hqL : q < L.length:=(zA4.1 hq).1
    by_cases hbut : ∀ i,i < L.length -> i ≠ q -> ∃ v,ms[i]? = some (some v)
    · have hq2 : q < ms.length:=by rw [hI.len]; exact hqL
      have hmq : ms[q]? = some none:=by
        rw [zA3 hq2]
        rcases hm : ms[q] with _ | v
        · rfl
        · exact absurd (fun i hi => by
            by_cases e : i = q
            · subst e; exact ⟨v,by rw [zA3 hq2,hm]⟩
            · exact hbut i hi e) hnot
      have hdq : ∀ e ∈ oq.after,Region.binds .any e = true -> ∃ v,ms[e.on]? = some (some v):=by
        intro e he hb
        have:=zW8 L 0 q _ hback hq e he hb
        exact hbut e.on (by omega) (by omega)
      obtain ⟨v,hy,hp⟩:=late ms w ⟨hI.len,hI.below,hI.ty,hdq⟩
      have el : lst ms L2.length = zT L.length L2.length q:=lst_but hI.len hbut hmq
      have hoq : ops[q]? = some oq:=by rw [hat,zB0 hqL]; exact hq
      have hnext:=ih (ms.set q (some v)) w (hcnt q v hmq) (hI.step hq hmq hdq (Below.refl _ _) hp (fun h => by rw [hA] at h; cases h))
      rw [<- qC4 v hq2,<- zS6 v L ms a0 q oq hd hq hmq] at hnext
      rw [show k + 1 + L2.length = (k + L2.length) + 1 from by omega]
      exact wpAny_take hoq hsel (by rw [el]; exact hfree) (by rw [el]; exact hrdy) (fun c a w h => hQ c a w v h) hy hnext
    rw [show k + 1 + L2.length = (k + L2.length) + 1 from by omega]
    refine ⟨fun hr => absurd (fun i hi => least i i (zB3 _) hi hr) hnot,fun i hi => ?_⟩
    obtain ⟨h1,o,ho,haft⟩:=mem_ready.1 hi
    have hdeps : ∀ e ∈ o.after,Region.binds .any e = true -> ∃ v,ms[e.on]? = some (some v):=by
      intro e he hb
      have h2:=haft e he hb
      by_cases h3 : e.on < ms.length
      · rw [zQ8 h3] at h2
        obtain ⟨v,hv⟩:=Option.isSome_iff_exists.1 h2
        exact ⟨v,by rw [zA3 h3,hv]⟩
      · rw [qY3 (by omega)] at h2; cases h2
    by_cases hiL : i < L.length
    · have hi2 : i < ms.length:=by rw [hI.len]; exact hiL
      rw [zQ8 hi2] at h1
      have hmi : ms[i]? = some none:=by
        rw [zA3 hi2]
        rcases hm : ms[i] with _ | v
        · rfl
        · rw [hm] at h1; cases h1
      have hoL : L[i]? = some o:=by rw [hat,zB0 hiL] at ho; exact ho
      have hob:=ob.at_ L 0 i o hoL
      rw [Nat.zero_add] at hob
      have hst:=hob ms w ⟨hI.len,hI.below,hI.ty,hdeps⟩
      have hcount : ∀ v : Value,((ms.set i (some v)).filter Option.isNone).length = k:=by
        intro v
        have key : ∀ (l : List (Option Value)) (i : Nat),l[i]? = some none -> ((l.set i (some v)).filter Option.isNone).length + 1 = (l.filter Option.isNone).length:=by
          intro l
          induction l with
          | nil => intro i h; simp at h
          | cons m l ihl =>
            intro i h
            cases i with
            | zero =>
              obtain rfl : m = none:=by simpa using h
              simp
            | succ i =>
              have:=ihl i (by simpa using h)
              rw [zA1,List.filter_cons,List.filter_cons]
              split
              · simp only [List.length_cons]; omega
              · exact this
        have:=key ms i hmi
        omega
      unfold wpOp
      rw [ho]
      simp only []
      by_cases hw : Region.wanted o (yielded ops (zD6 a0 L ms).tmps) = true
      · rw [if_pos hw] at hst |-
        refine .inl (Oper.wp_mono ?_ hst)
        rintro a' w' ⟨v,rfl,hb,hv,ha⟩
        rw [qC4 v hi2,zS6 v L ms a0 i o hd hoL hmi]
        exact ih _ w' (hcount v) (hI.step hoL hmi hdeps hb hv ha)
      · rw [if_neg hw] at hst |-
        rw [qC4 undef hi2,zS6 undef L ms a0 i o hd hoL hmi]
        exact ih _ w (hcount undef) (hI.step hoL hmi hdeps (Below.refl _ _) hst.1 (fun h => by rw [hst.2] at h; cases h))
    · exfalso
      have ho2 : o ∈ L2:=by
        rw [hat,List.getElem?_append_right (by omega)] at ho
        exact zA5 ho
      have hc:=List.all_eq_true.1 hcov o ho2
      rcases Bool.or_eq_true _ _ ▸ hc with hc | hc
      · exact hnot (qY2 hI.len hc hdeps hI.dc)
      · exact hbut (yS9 hI.len hc hdeps hI.dc)
theorem yT0 {P : Program} {Q : Exit -> Act -> World -> Prop} {ops : Array Oper} (n : Nat) (Φ : List Pd) {w : World} {a0 : Act}
  (h1 : zK7 (ops.toList.take n) = true) (h2 : zO8 0 (ops.toList.take n) = true) {q : Nat} {oq : Oper} (hq : (ops.toList.take n)[q]? = some oq) (h3 : ((ops.toList.drop n).all fun o => zU1 (ops.toList.take n) (ops.toList.take n).length o || qD5 (ops.toList.take n) q (ops.toList.take n).length o) = true) (h4 : Region.noSelect ops = true) (h5 : Region.free .any ops (zT (ops.toList.take n).length (ops.toList.drop n).length q) q = true) (h6 : (Region.ready .any ops (zT (ops.toList.take n).length (ops.toList.drop n).length q)).contains q = true) (hQ : ∀ c a w v,Q (.panic c) (a.put oq.dst v) w -> Q (.panic c) a w)
  (late : ∀ ms w1,St (ops.toList.take n) Φ w oq ms w1 -> ∃ v,Yields P ops oq v (zD6 a0 (ops.toList.take n) ms) /\ (ph Φ q).p w1 v) (hA : isA oq = false)
  (ob : Obs P Q ops (ops.toList.take n) Φ w a0 0 (ops.toList.take n))
  (done : ∀ w',Below w.heap.size w w' -> zU2 (fun a w' => wpAny P .any ops Q (ops.toList.drop n).length (zB (ops.toList.take n).length true ++ zB (ops.toList.drop n).length false).toArray a w') Φ w' 0 (ops.toList.take n) [] a0) : wpAny P .any ops Q ops.size (Array.replicate ops.size false) a0 w:=by
 have hop : ops.toList = ops.toList.take n ++ ops.toList.drop n:=(List.take_append_drop n _).symm
 generalize ops.toList.take n = L at *
 generalize ops.toList.drop n = L2 at *
 have hsz : ops.size = L.length + L2.length:=by
  have:=congrArg List.length hop
  simpa using this
 have none_ : ∀ (i : Nat) (v : Value),¬ (zB L.length (none : Option Value))[i]? = some (some v):=by
  intro i v h
  rw [List.getElem?_replicate] at h
  split at h <;> cases h
 have hI0 : Inv L Φ w (zB L.length none) w:=⟨by simp,Below.refl _ _,fun i v h => absurd h (none_ i v),fun j x v _ h => absurd h (none_ j v),fun i j oi oj u v _ _ _ _ _ h _ => absurd h (none_ i u),fun i oi u _ _ h => absurd h (none_ i u)⟩
 have hmain:=yT (P:=P) (Q:=Q) (ops:=ops) (L:=L) (L2:=L2) (Φ:=Φ) (w0:=w) (a0:=a0) hop h1 h2 hq h3 h4 h5 h6 hQ late hA ob (fun ms w' hall hI => by
  rw [qY5 L2.length hI.len hall]
  have:=qC5 (K:=fun a w' => wpAny P .any ops Q L2.length (zB L.length true ++ zB L2.length false).toArray a w') hI hall L 0 a0 [] (by simp) (by omega) (by simp) (done w' hI.below)
  simpa using this) L.length (zB L.length none) w (by simp) hI0
 rw [qH4,qY4,<- hsz] at hmain
 exact hmain
theorem flowl {P : Program} {Q : Exit -> Act -> World -> Prop} {id : Nat} {ops : Array Oper} (n : Nat) (Φ : List Pd) {w : World} {a0 : Act} (hm : P.follows .mixedOrders = true)
  (q : Nat) {oq : Oper} (hq : (ops.toList.take n)[q]? = some oq) (hB : (zK7 (ops.toList.take n) && zO8 0 (ops.toList.take n) && (ops.toList.drop n).all (fun o => zU1 (ops.toList.take n) (ops.toList.take n).length o || qD5 (ops.toList.take n) q (ops.toList.take n).length o) && Region.noSelect ops && Region.free .any ops (zT (ops.toList.take n).length (ops.toList.drop n).length q) q && (Region.ready .any ops (zT (ops.toList.take n).length (ops.toList.drop n).length q)).contains q && !isA oq) = true) (hQ : ∀ c a w v,Q (.panic c) (a.put oq.dst v) w -> Q (.panic c) a w)
  (late : ∀ ms w1,St (ops.toList.take n) Φ w.drew oq ms w1 -> ∃ v,Yields P ops oq v (zD6 a0 (ops.toList.take n) ms) /\ (ph Φ q).p w1 v)
  (ob : Obs P Q ops (ops.toList.take n) Φ w.drew a0 0 (ops.toList.take n))
  (done : ∀ w',Below w.heap.size w w' -> zU2 (fun a w' => wpAny P .any ops Q (ops.toList.drop n).length (zB (ops.toList.take n).length true ++ zB (ops.toList.drop n).length false).toArray a w') Φ w' 0 (ops.toList.take n) [] a0) : (Code.region id ops true).wp P Q a0 w:=by
 simp only [Bool.and_eq_true] at hB
 obtain ⟨⟨⟨⟨⟨⟨h1,h2⟩,h3⟩,h4⟩,h5⟩,h6⟩,hA⟩:=hB
 have hA : isA oq = false:=by simpa using hA
 exact wp_region_any hm (yT0 n Φ (w:=w.drew) h1 h2 hq h3 h4 h5 h6 hQ late hA ob fun w' hb => done w' ((Below.refl _ w).drew.trans hb))
theorem yT1 {P : Program} {ops : Array Oper} {L : List Oper} {Φ : List Pd} {w0 : World} {a0 : Act} {o : Oper} {G : Pd} {x : Operand} {k : Nat} {F : World -> Value -> Prop} (hop : o.op = .extract x k) (hg : o.guard = none) (hx : Ev L Φ w0 a0 o x F)
  (hr : ∀ w u,F w u -> ∃ v,(∀ w,(Instr.extract u k).run P w = .ok v w) /\ G.p w v) : ∀ ms w1,St L Φ w0 o ms w1 -> ∃ v,Yields P ops o v (zD6 a0 L ms) /\ G.p w1 v:=by
 intro ms w1 hS
 obtain ⟨v,h1,h2⟩:=hr w1 _ (hx ms w1 hS)
 refine ⟨v,.inl ⟨by unfold Region.wanted; rw [hg],fun w => ?_⟩,h2⟩
 unfold execOp; simp only [hop]; rw [Sem.run_bind,h1]; rfl
section
variable {P : Program} {Q : Exit -> Act -> World -> Prop} {ops : Array Oper} {L : List Oper} {Φ : List Pd} {w0 : World} {a0 : Act} {i : Nat} {o : Oper}
theorem zL3 {t : TypeId} {k l : Nat} {x y : Operand} {F G : World -> Value -> Prop} (hop : o.op = .build t #[(k,x),(l,y)]) (hw : Wt ops L Φ w0 a0 o true) (hx : Ev L Φ w0 a0 o x F) (hy : Ev L Φ w0 a0 o y G)
  (hr : ∀ w u u',Below w0.heap.size w0 w -> F w u -> G w u' -> ∃ v,(Instr.build t #[(k,u),(l,u')]).run P w = .ok v w /\ (ph Φ i).p w v) : Ob P Q ops L Φ w0 a0 i o :=
 zN5 hw (by unfold isA; rw [hop]) fun ms w hS => by
  obtain ⟨v,h1,h2⟩:=hr w _ _ hS.below (hx ms w hS) (hy ms w hS)
  exact ⟨v,by unfold execOp; simp only [hop,Sem.run_bind,List.map_toArray,List.map_cons,List.map_nil,h1]; rfl,h2⟩
end
end Go.Proofs.YtagaabooccnamaaGreat.flow
namespace Go.Proofs.YtagaabooccnamaaGreat.whl
open Go.RowKit num mem nat txt str flow
theorem zN8 (w : World) (t1 : TypeId) (x : Array Value) : ∃ wx,w.alloc (.cells x t1) = wx /\ Below w.heap.size w wx /\ Blk wx w.heap.size t1 x /\ w.heap.size < wx.heap.size:=⟨_,rfl,zC8 (zB3 _) _,Blk.new w t1 x,by simp⟩
end Go.Proofs.YtagaabooccnamaaGreat.whl
namespace Go.Proofs.YtagaabooccnamaaGreat.nat
open Go.RowKit num mem
theorem yT2 (v : Value) (c : Nat) (w : World) (h : IsS w .i64 v []) (c1 : c <= 9223372036854775807) :
  Calls Tryz.prog 64 #[v,.int .i64 1,.int .i64 (c : Int)] w (zD1 .i64 (digs 10000 c) w):=by
 obtain ⟨A,cap,rfl,hcap,hcm,hr⟩:=h
 have h20 : c < 10000 ^ 5:=by
  have : (10000 : Nat) ^ 5 = 100000000000000000000:=by decide
  omega
 have H20:=Lib.hid h20
 clear h20
 go_enter Tryz.func64,Tryz.ntmps64
 go_wp2
 go_loopw [2,7,8] (fun vc vo vi wr => Own wr w.heap.size 3 .i64 vo [] /\ Below w.heap.size w wr /\ vc = .int .i64 (c : Int) /\ vi = .int .i64 0) (fun _ _ _ _ => 0)
 case atStart => exact ⟨zN2 w _ _ .i64 (zB3 _),zC8 (zB3 _) _,rfl,rfl⟩
 case round =>
  obtain ⟨hown,hb,rfl,rfl⟩:=hrel
  go_wp2
  go_loopw [2,7] (fun vc vo wr => ∃ (c' j : Nat) (o : List Nat),c' <= 9223372036854775807 /\ Hid (c' < 10000 ^ j) /\ o.length + j <= 5 /\ MB c c' o /\ Own wr w.heap.size 3 .i64 vo o /\ Below w.heap.size w wr /\ vc = .int .i64 (c' : Int)) (fun vc _ _ => (intOf vc).toNat)
  case atStart => exact ⟨c,5,[],c1,H20,by simp,by unfold MB; exact ⟨Lt.nil _,by simp [val]⟩,hown,hb,rfl⟩
  case round =>
   clear hown hb
   obtain ⟨c2,j,o2,hc',HJ,hoj,hM,hown,hb,rfl⟩:=hrel
   have hsz:=hb.size
   by_cases hp : 0 < c2
   ·have HM:=Lib.hid hM.step
    clear hM
    obtain ⟨j,rfl⟩ : ∃ i,j = i + 1:=by
     rcases j with _ | j
     ·have:=HJ.out; simp at this; omega
     ·exact ⟨j,rfl⟩
    have HJ2 : Hid (c2 / 10000 < 10000 ^ j):=by
     show _ < _
     have:=HJ.out
     rw [Nat.pow_succ] at this
     exact Nat.div_lt_of_lt_mul (by rw [Nat.mul_comm]; exact this)
    go_wp2_with (at_builtin; refine zQ5 rfl (.tmp 33) (.tmp 36) rfl zO0 (c2 % 10000) rfl hown rfl (by omega) (by omega) (by omega) ?_; intro v' w1 hown1 hb1 hg1)
    go_roundw
    case rel => exact ⟨_,j,_,by omega,HJ2,by simp; omega,HM.out,hown1,hb.trans hb1,zP4 (by omega)⟩
    case measure => simp [intOf]; omega
   ·obtain rfl : c2 = 0:=by omega
    obtain ⟨h1,h2⟩:=hM.done
    have HV:=Lib.hid h2
    clear h2 hM
    go_wp2_with fail
    refine (zW3 _ _ _ hown.isS h1 (by omega)).mono ?_
    rintro e w' ⟨v',rfl,hv,hf,hb2⟩
    go_wp2
    go_ret
    exact ⟨_,rfl,by rw [HV.out] at hv; exact hv,hf.mono hsz,hb.trans (hb2.mono hsz)⟩
theorem qI6 (nI : Int) (n : Nat) (w : World) (hn : nI = (n : Int)) (n1 : n <= 9223372036854775807) :
  Calls Tryz.prog 27 #[.int .i64 nI] w (zD1 .i64 (digs 10000 n) w):=by
 subst hn
 go_enter Tryz.func27,Tryz.ntmps27
 go_wp2_with fail
 refine (yT2 _ n _ (zN2 w w.heap.size _ .i64 (zB3 _)).isS n1).mono ?_
 rintro e w' ⟨v',rfl,hv,hf,hb⟩
 go_wp2
 go_ret
 exact ⟨_,rfl,hv,hf.mono (by simp),(zC8 (zB3 _) _).trans (hb.mono (by simp))⟩
end Go.Proofs.YtagaabooccnamaaGreat.nat
namespace Go.Proofs.YtagaabooccnamaaGreat.whl
open Go.RowKit num mem nat txt str flow
section
variable {P : Program}
end
def IsVZ (w : World) (v : Value) (ps : List (Int × Value)) : Prop:=∃ A c,v = .slice A ps.length c /\ ps.length <= c /\ ∀ i p,ps[i]? = some p -> ∃ ad,A = some ad /\ w.cell? (ad.add (i * 2)) = some (.bool (ngB p.1)) /\ w.cell? (ad.add (i * 2 + 1)) = some p.2
def qO8 (w : World) (ps : List (Int × Value)) : Prop:=∀ p ∈ ps,IsS w .u64 p.2 (digs 4294967296 p.1.natAbs)
def hi (ps : List (Int × Value)) : List (Int × Value):=ps.filter fun p => !ngB p.1
def lo (ps : List (Int × Value)) : List (Int × Value):=ps.filter fun p => ngB p.1
theorem IsVZ.below {w w' : World} {v : Value} {ps : List (Int × Value)} (h : IsVZ w v ps) (hb : Below w.heap.size w w') : IsVZ w' v ps:=by
 obtain ⟨A,c,e,h1,h2⟩:=h
 refine ⟨A,c,e,h1,fun i p hp => ?_⟩
 obtain ⟨ad,ha,hc,hd⟩:=h2 i p hp
 exact ⟨ad,ha,(hb.cell (World.block_lt_of_cell? w _ hc)).trans hc,(hb.cell (World.block_lt_of_cell? w _ hd)).trans hd⟩
theorem qO8.below {w w' : World} {ps : List (Int × Value)} (h : qO8 w ps) (hb : Below w.heap.size w w') : qO8 w' ps:=fun p hp => (h p hp).below hb
theorem zE7.other {w w' : World} {base : Nat} {e : TypeId} {v : Value} {vs : List Value} {row : Option Nat} (h : zE7 w base e v vs) (hg : w.grownBy w' row) (hne : ∀ g,v.ownBlock = some g -> row ≠ some g) : zE7 w' base e v vs :=
 World.ownsRow.kept (row:=row) h hg (by
  cases hv : v.ownBlock with
  | none => exact .inl rfl
  | some g => exact .inr fun e => hne g hv e.symm)
end Go.Proofs.YtagaabooccnamaaGreat.whl
namespace Go.Proofs.YtagaabooccnamaaGreat.whl
open Go.RowKit Go.ChangeShapes Go.WideShapes Go.ChangeAt Go.Joins Go.Deep num mem nat txt str flow
def qD6 (w : World) (v : Value) : Prop:=∃ A n c,v = .slice A n c /\ n <= c /\ c <= maxLen /\ ∀ i,i < n -> ∃ ad b u l,A = some ad /\ w.cell? (ad.add (i * 2)) = some (.bool b) /\ w.cell? (ad.add (i * 2 + 1)) = some u /\ IsS w .u64 u l /\ Lt 18446744073709551616 l
def zE5 (ps : List (Int × Value)) : List Value:=ps.flatMap fun p => [.bool (ngB p.1),p.2]
theorem qD7 : ∀ (ps : List (Int × Value)) (i : Nat) (p : Int × Value),ps[i]? = some p -> (zE5 ps)[i * 2]? = some (.bool (ngB p.1)) /\ (zE5 ps)[i * 2 + 1]? = some p.2
  | [],i,p,h => by simp at h
  | q :: ps, 0, p, h => by
    obtain rfl : q = p:=by simpa using h
    exact ⟨rfl,rfl⟩
  | q :: ps, i + 1, p, h => by
    have ih:=qD7 ps i p (by simpa using h)
    have e : zE5 (q :: ps) = .bool (ngB q.1) :: q.2 :: zE5 ps:=rfl
    rw [e,show (i + 1) * 2 = i * 2 + 1 + 1 from by omega]
    simpa using ih
def qA0 (w : World) (base : Nat) (v : Value) (ps : List (Int × Value)) : Prop:=w.ownsRow base 60 2 v ps.length (zE5 ps)
theorem qA0.below {w w' : World} {base : Nat} {v : Value} {ps : List (Int × Value)} (h : qA0 w base v ps) (hb : Below w.heap.size w w') : qA0 w' base v ps :=
 World.ownsRow.kept (row:=none) h ⟨hb.os,hb.tape,hb.output,hb.size,fun i hi _ => hb.block i hi⟩ (by cases hv : v.ownBlock <;> simp)
theorem qA0.other {w w' : World} {base : Nat} {v : Value} {ps : List (Int × Value)} {row : Option Nat} (h : qA0 w base v ps) (hg : w.grownBy w' row) (hne : ∀ g,v.ownBlock = some g -> row ≠ some g) : qA0 w' base v ps :=
 World.ownsRow.kept (row:=row) h hg (by
  cases hv : v.ownBlock with
  | none => exact .inl rfl
  | some g => exact .inr fun e => hne g hv e.symm)
theorem info_int : ∃ i,Tryz.prog.info? 60 = some i /\ i.zero = some (.agg #[.bool false,.slice none 0 0]) /\ i.size = 2 /\ i.bytes = 32:=info_parts (P:=Tryz.prog) (e:=60) (z:=.agg #[.bool false,.slice none 0 0]) (size:=2) (bytes:=32) (by kernel_rfl)
def qA1 (w : World) (v : Value) (ps : List (Int × Value)) : Prop:=∀ p ∈ ps,IsS w .u64 p.2 (digs 4294967296 p.1.natAbs) /\ Far v p.2
theorem qA1.below {w w' : World} {v : Value} {ps : List (Int × Value)} (h : qA1 w v ps) (hb : Below w.heap.size w w') : qA1 w' v ps:=fun p hp => ⟨(h p hp).1.below hb,(h p hp).2⟩
theorem qA1.off {w w' : World} {v : Value} {ps : List (Int × Value)} {g : Nat} {e : TypeId} {cs : Array Value} (h : qA1 w v ps) (hB : w.heap[g]? = some (.cells cs e (0,0))) (hno : ∀ k,∀ c ∈ cs,∀ n,c ≠ .int k n) (hg : w.grownBy w' (some g)) : qA1 w' v ps:=fun p hp => ⟨Go.Proofs.YtagaabooccnamaaGreat.flow.off (h p hp).1 hB (hno _) hg,(h p hp).2⟩
theorem Blk.other {w w' : World} {g : Nat} {t : TypeId} {cs : Array Value} {row : Option Nat} (h : Blk w g t cs) (hg : w.grownBy w' row) (hne : row ≠ some g) : Blk w' g t cs:=(hg.block g h.lt (fun e => hne e.symm)).trans h
theorem qI7 {x : Nat} (h : x <= 9223372036854775808) : (digs 4294967296 x).length <= 2:=zI0 (by omega) (Nat.lt_of_le_of_lt h (by decide))
end Go.Proofs.YtagaabooccnamaaGreat.whl
namespace Go.Proofs.YtagaabooccnamaaGreat.rat
open Go.RowKit num mem nat txt str flow whl
def psn (k : IntKind) (l : List Nat) : Pd:=⟨fun w v => IsS w k v l,fun h hb => h.below hb⟩
theorem IsQ.drew {w : World} {v : Value} {q : Rat} (h : IsQ w v q) : IsQ w.drew v q:=by
 obtain ⟨u,t,e,h1,h2⟩:=h
 exact ⟨u,t,e,h1.drew,h2.drew⟩
theorem IsP.drew {w : World} {v : Value} {q : Rat} (h : IsP w v q) : IsP w.drew v q:=by
 obtain ⟨u,t,e,h1,h2⟩:=h
 exact ⟨u,t,e,h1.drew,h2.drew⟩
theorem qI8 (a0 : Value) (z : Int) (a1 : Value) (d : Nat) (w : World) (h0 : IsR w a0 z) (h1 : IsS w .i64 a1 (digs 10000 d)) (hd : d ≠ 0) (hl : zC1 z <= 30000) (hl2 : (digs 4294967296 d).length <= 30000) :
    Calls Tryz.prog 97 #[a0,a1] w (zR1 (mkRat z d) w):=by
  have HL : Hid ((digs 10000 z.natAbs).length <= 100000):=zB4 (qI0 z) (by omega)
  have HL2 : Hid ((digs 10000 d).length <= 100000):=zB4 (zU0 d) (by omega)
  obtain ⟨G,hG⟩ : ∃ G,G = Nat.gcd z.natAbs d:=⟨_,rfl⟩
  obtain ⟨X,hX⟩ : ∃ X,X = z.natAbs / G:=⟨_,rfl⟩
  obtain ⟨Y,hY⟩ : ∃ Y,Y = d / G:=⟨_,rfl⟩
  have hGp : 0 < G:=by rw [hG]; exact Nat.gcd_pos_of_pos_right _ (by omega)
  have HGl : Hid ((digs 10000 G).length <= 100000):=zB4 (zF7 (by omega) (by rw [hG]; exact Nat.le_of_dvd (by omega) (Nat.gcd_dvd_right _ _))) HL2.out
  have HQN : Hid ((mkRat z d).num.natAbs = X):=by show _ = _; rw [hX,hG]; exact qZ3 z hd
  have HQD : Hid ((mkRat z d).den = Y):=by show _ = _; rw [hY,hG]; exact zU6 z hd
  have HQS:=Lib.hid (mk_neg z hd)
  have HXp : z < 0 -> 0 < X:=by intro hz; rw [hX]; exact Nat.div_pos (Nat.le_of_dvd (by omega) (by rw [hG]; exact Nat.gcd_dvd_left _ _)) hGp
  have HG:=Lib.hid hG.symm
  have HX:=Lib.hid hX.symm
  have HY:=Lib.hid hY.symm
  clear hG hX hY
  rcases hs0 : ngB z with _ | _
  · obtain ⟨u0, rfl, s0⟩ := h0
    obtain ⟨A0,c0,rfl,_⟩:=id s0
    have s1:=h1
    obtain ⟨A1,c1,rfl,_⟩:=id s1
    go_enter Tryz.func97,Tryz.ntmps97
    go_upto_region 1 with (fail)
    obtain ⟨wx,hwx,bb,B0,BR0,hsz⟩:=zI8 w 63 65 #[.bool false,.slice A0 (digs 10000 (z).natAbs).length c0] #[.bool false,.slice none 0 0,.slice none 0 0]
    rw [hwx]
    clear hwx
    have k0s:=s0.below bb
    have k0 : IsR wx (.agg #[.bool false,.slice A0 (digs 10000 (z).natAbs).length c0]) (z):=zQ9 k0s rfl hs0.symm
    have k1:=s1.below bb
    have hsz0:=bb.size
    have sB:=bb.size
    refine zC9 5 [Pd.eq (.pointer (some ⟨w.heap.size,1,none⟩)),Pd.eq (.slice A0 (digs 10000 (z).natAbs).length c0),Pd.eq (.slice A1 (digs 10000 d).length c1),psn .i64 (digs 10000 G),psn .i64 (digs 10000 G)] (by kernel_rfl) ?ob1 ?done1
    case ob1 =>
      refine zA (zC3 rfl (zB6 rfl) (zB8 rfl rfl) (fun _ => by kernel_rfl) (fun _ => rfl)) ?_
      refine zA (zC rfl (zB6 rfl) (zB7 (j:=0) (by kernel_rfl) rfl rfl) (fun w2 hb => zC5 Tryz.underlying53 rfl ((B0.below hb).cell 1)) (fun _ _ => rfl)) ?_
      refine zA (zC2 rfl (zB6 rfl) (zB8 rfl rfl) (fun _ _ h => h)) ?_
      refine zA (zD4 rfl Tryz.func59 (by kernel_rfl) (zB6 rfl) (zB7 (j:=1) (by kernel_rfl) rfl rfl) (zB7 (j:=2) (by kernel_rfl) rfl rfl) (fun w2 u0 u1 hb h0 h1 => by obtain rfl:=h0; obtain rfl:=h1; exact (HG.out ▸ qO6 _ _ _ _ _ (k0s.below hb) (k1.below hb) HL.out HL2.out).mono fun e w3 h => h)) ?_
      refine zA (zE8 rfl (zB6 rfl) (zB7 (j:=3) (by kernel_rfl) rfl rfl) (fun _ _ h => h)) ?_
      trivial
    case done1 =>
      refine fun w11 hb11 v0 h0 v1 h1 v2 h2 v3 h3 v4 h4 b hbf => ?_
      obtain rfl:=h0; obtain rfl:=h1; obtain rfl:=h2
      have q3:=h3
      have q4:=h4
      simp only [Act.put,zA0,zA2,zA1] at hbf
      subst hbf
      replace B0:=B0.below hb11
      replace k0s:=k0s.below hb11
      replace k0:=k0.below hb11
      replace BR0:=BR0.below hb11
      replace k1:=k1.below hb11
      replace bb:=bb.trans (hb11.mono bb.size)
      have hsz11:=bb.size
      refine zD ?_
      obtain ⟨A5,c5,rfl,_⟩:=id q4
      have kg:=q4
      have sB:=bb.size
      go_upto_region 2 with (fail)
      refine zC9 9 [Pd.eq (.pointer (some ⟨w.heap.size,1,none⟩)),Pd.eq (.slice A0 (digs 10000 (z).natAbs).length c0),Pd.eq (.slice A5 (digs 10000 G).length c5),pt2 .i64 (digs 10000 X) (digs 10000 (z.natAbs % G)) w11.heap.size,pt2 .i64 (digs 10000 X) (digs 10000 (z.natAbs % G)) w11.heap.size,ps .i64 (digs 10000 X) w11.heap.size,ps .i64 (digs 10000 (z.natAbs % G)) w11.heap.size,ps .i64 (digs 10000 X) w11.heap.size,ps .i64 (digs 10000 (z.natAbs % G)) w11.heap.size] (by kernel_rfl) ?ob2 ?done2
      case ob2 =>
        refine zA (zC3 rfl (zB6 rfl) (zB8 rfl rfl) (fun _ => by kernel_rfl) (fun _ => rfl)) ?_
        refine zA (zC rfl (zB6 rfl) (zB7 (j:=0) (by kernel_rfl) rfl rfl) (fun w2 hb => zC5 Tryz.underlying53 rfl ((B0.below hb).cell 1)) (fun _ _ => rfl)) ?_
        refine zA (zC2 rfl (zB6 rfl) (zB8 rfl rfl) (fun _ _ h => h)) ?_
        refine zA (zD4 rfl Tryz.func58 (by kernel_rfl) (zB6 rfl) (zB7 (j:=1) (by kernel_rfl) rfl rfl) (zB7 (j:=2) (by kernel_rfl) rfl rfl) (fun w2 u0 u1 hb h0 h1 => by obtain rfl:=h0; obtain rfl:=h1; exact (HX.out ▸ zY7 _ _ z.natAbs G _ (k0s.below hb) (kg.below hb) HL.out HGl.out hGp).mono fun e w3 h => zQ6.pd h hb.size)) ?_
        refine zA (zC2 rfl (zB6 rfl) (zB7 (j:=3) (by kernel_rfl) rfl rfl) (fun _ _ h => h)) ?_
        refine zA (zG7 rfl (zB6 rfl) (zB7 (j:=4) (by kernel_rfl) rfl rfl) (fun w2 u hu => by obtain ⟨v,u,rfl,q1,q2,q3,q4⟩:=hu; exact ⟨v,rfl,q1,q3⟩)) ?_
        refine zA (zG7 rfl (zB6 rfl) (zB7 (j:=4) (by kernel_rfl) rfl rfl) (fun w2 u hu => by obtain ⟨v,u,rfl,q1,q2,q3,q4⟩:=hu; exact ⟨u,rfl,q2,q4⟩)) ?_
        refine zA (zE8 rfl (zB6 rfl) (zB7 (j:=5) (by kernel_rfl) rfl rfl) (fun _ _ h => h)) ?_
        refine zA (zE8 rfl (zB6 rfl) (zB7 (j:=6) (by kernel_rfl) rfl rfl) (fun _ _ h => h)) ?_
        trivial
      case done2 =>
        refine fun w12 hb12 v0 h0 v1 h1 v2 h2 v3 h3 v4 h4 v5 h5 v6 h6 v7 h7 v8 h8 b hbf => ?_
        obtain rfl:=h0; obtain rfl:=h1; obtain rfl:=h2
        clear h3
        clear h4
        obtain ⟨q5,f5⟩:=h5
        obtain ⟨q6,f6⟩:=h6
        obtain ⟨q7,f7⟩:=h7
        obtain ⟨q8,f8⟩:=h8
        simp only [Act.put,zA0,zA2,zA1] at hbf
        subst hbf
        replace B0:=B0.below hb12
        replace k0s:=k0s.below hb12
        replace k0:=k0.below hb12
        replace BR0:=BR0.below hb12
        replace k1:=k1.below hb12
        replace kg:=kg.below hb12
        replace bb:=bb.trans (hb12.mono bb.size)
        have hsz12:=bb.size
        have s_5:=sB
        have s_6:=sB
        have s_7:=sB
        have s_8:=sB
        refine zD ?_
        obtain ⟨A6,c6,rfl,_⟩:=id q7
        have kx:=q7
        have kxf:=f7
        have kxz_:=s_7
        have sB:=bb.size
        go_upto_region 3 with (fail)
        refine zC9 8 [Pd.eq (.slice A1 (digs 10000 d).length c1),Pd.eq (.slice A5 (digs 10000 G).length c5),pt2 .i64 (digs 10000 Y) (digs 10000 (d % G)) w12.heap.size,pt2 .i64 (digs 10000 Y) (digs 10000 (d % G)) w12.heap.size,ps .i64 (digs 10000 Y) w12.heap.size,ps .i64 (digs 10000 (d % G)) w12.heap.size,ps .i64 (digs 10000 Y) w12.heap.size,ps .i64 (digs 10000 (d % G)) w12.heap.size] (by kernel_rfl) ?ob3 ?done3
        case ob3 =>
          refine zA (zC2 rfl (zB6 rfl) (zB8 rfl rfl) (fun _ _ h => h)) ?_
          refine zA (zC2 rfl (zB6 rfl) (zB8 rfl rfl) (fun _ _ h => h)) ?_
          refine zA (zD4 rfl Tryz.func58 (by kernel_rfl) (zB6 rfl) (zB7 (j:=0) (by kernel_rfl) rfl rfl) (zB7 (j:=1) (by kernel_rfl) rfl rfl) (fun w2 u0 u1 hb h0 h1 => by obtain rfl:=h0; obtain rfl:=h1; exact (HY.out ▸ zY7 _ _ d G _ (k1.below hb) (kg.below hb) HL2.out HGl.out hGp).mono fun e w3 h => zQ6.pd h hb.size)) ?_
          refine zA (zC2 rfl (zB6 rfl) (zB7 (j:=2) (by kernel_rfl) rfl rfl) (fun _ _ h => h)) ?_
          refine zA (zG7 rfl (zB6 rfl) (zB7 (j:=3) (by kernel_rfl) rfl rfl) (fun w2 u hu => by obtain ⟨v,u,rfl,q1,q2,q3,q4⟩:=hu; exact ⟨v,rfl,q1,q3⟩)) ?_
          refine zA (zG7 rfl (zB6 rfl) (zB7 (j:=3) (by kernel_rfl) rfl rfl) (fun w2 u hu => by obtain ⟨v,u,rfl,q1,q2,q3,q4⟩:=hu; exact ⟨u,rfl,q2,q4⟩)) ?_
          refine zA (zE8 rfl (zB6 rfl) (zB7 (j:=4) (by kernel_rfl) rfl rfl) (fun _ _ h => h)) ?_
          refine zA (zE8 rfl (zB6 rfl) (zB7 (j:=5) (by kernel_rfl) rfl rfl) (fun _ _ h => h)) ?_
          trivial
        case done3 =>
          refine fun w13 hb13 v0 h0 v1 h1 v2 h2 v3 h3 v4 h4 v5 h5 v6 h6 v7 h7 b hbf => ?_
          obtain rfl:=h0; obtain rfl:=h1
          clear h2
          clear h3
          obtain ⟨q4,f4⟩:=h4
          obtain ⟨q5,f5⟩:=h5
          obtain ⟨q6,f6⟩:=h6
          obtain ⟨q7,f7⟩:=h7
          simp only [Act.put,zA0,zA2,zA1] at hbf
          subst hbf
          replace B0:=B0.below hb13
          replace k0s:=k0s.below hb13
          replace k0:=k0.below hb13
          replace BR0:=BR0.below hb13
          replace k1:=k1.below hb13
          replace kg:=kg.below hb13
          replace kx:=kx.below hb13
          replace bb:=bb.trans (hb13.mono bb.size)
          have hsz13:=bb.size
          have s_4:=sB
          have s_5:=sB
          have s_6:=sB
          have s_7:=sB
          refine zD ?_
          obtain ⟨A8,c8,rfl,_⟩:=id q6
          have ky:=q6
          have kyf:=f6
          have kyz_:=s_6
          have sB:=bb.size
          go_upto_region 4 with (fail)
          refine zC9 11 [Pd.eq (.pointer (some ⟨w.heap.size,0,none⟩)),Pd.eq (.bool false),Pd.eq (.bool false),Pd.any,Pd.any,Pd.any,Pd.eq (.bool false),Pd.eq (.slice A6 (digs 10000 X).length c6),Pd.eq (.agg #[.bool false,.slice A6 (digs 10000 X).length c6]),Pd.eq (.slice A8 (digs 10000 Y).length c8),Pd.eq (.agg #[.bool false,.slice A6 (digs 10000 X).length c6,.slice A8 (digs 10000 Y).length c8])] (by kernel_rfl) ?ob4 ?done4
          case ob4 =>
            refine zA (zC3 rfl (zB6 rfl) (zB8 rfl rfl) (fun _ => by kernel_rfl) (fun _ => rfl)) ?_
            refine zA (zC rfl (zB6 rfl) (zB7 (j:=0) (by kernel_rfl) rfl rfl) (fun w2 hb => zC5 Tryz.underlying4 rfl ((B0.below hb).cell 0)) (fun _ _ => rfl)) ?_
            refine zA (zC2 rfl (zB6 rfl) (zB7 (j:=1) (by kernel_rfl) rfl rfl) (fun _ _ h => h)) ?_
            refine zA (zJ3 (zD9 (c:=false) (b:=true) (g:=2) rfl (by kernel_rfl) rfl rfl rfl (by exact fun _ _ h => h)) (fun _ => trivial) rfl) ?_
            refine zA (zJ3 (zD9 (c:=false) (b:=true) (g:=2) rfl (by kernel_rfl) rfl rfl rfl (by exact fun _ _ h => h)) (fun _ => trivial) rfl) ?_
            refine zA (zJ3 (zD9 (c:=false) (b:=true) (g:=2) rfl (by kernel_rfl) rfl rfl rfl (by exact fun _ _ h => h)) (fun _ => trivial) rfl) ?_
            refine zA (zO9 (b:=false) rfl (zB6 rfl) (zB7 (j:=2) (by kernel_rfl) rfl rfl) (zH7 _) (fun _ _ h => h)) ?_
            refine zA (zC2 rfl (zB6 rfl) (zB8 rfl rfl) (fun _ _ h => h)) ?_
            refine zA (zL3 rfl (zB6 rfl) (zB7 (j:=6) (by kernel_rfl) rfl rfl) (zB7 (j:=7) (by kernel_rfl) rfl rfl) (fun w2 u v hb hu hv => by obtain rfl:=hu; obtain rfl:=hv; exact ⟨.agg #[.bool false,.slice A6 (digs 10000 X).length c6],by kernel_rfl,rfl⟩)) ?_
            refine zA (zC2 rfl (zB6 rfl) (zB8 rfl rfl) (fun _ _ h => h)) ?_
            refine zA (zL3 rfl (zB6 rfl) (zB7 (j:=8) (by kernel_rfl) rfl rfl) (zB7 (j:=9) (by kernel_rfl) rfl rfl) (fun w2 u v hb hu hv => by obtain rfl:=hu; obtain rfl:=hv; exact ⟨.agg #[.bool false,.slice A6 (digs 10000 X).length c6,.slice A8 (digs 10000 Y).length c8],by kernel_rfl,rfl⟩)) ?_
            trivial
          case done4 =>
            refine fun w14 hb14 v0 h0 v1 h1 v2 h2 v3 h3 v4 h4 v5 h5 v6 h6 v7 h7 v8 h8 v9 h9 v10 h10 b hbf => ?_
            obtain rfl:=h0; obtain rfl:=h1; obtain rfl:=h2; obtain rfl:=h6; obtain rfl:=h7; obtain rfl:=h8; obtain rfl:=h9; obtain rfl:=h10
            clear h3
            clear h4
            clear h5
            simp only [Act.put,zA0,zA2,zA1] at hbf
            subst hbf
            replace B0:=B0.below hb14
            replace k0s:=k0s.below hb14
            replace k0:=k0.below hb14
            replace BR0:=BR0.below hb14
            replace k1:=k1.below hb14
            replace kg:=kg.below hb14
            replace kx:=kx.below hb14
            replace ky:=ky.below hb14
            replace bb:=bb.trans (hb14.mono bb.size)
            have hsz14:=bb.size
            refine zG8 (i:=11) rfl rfl rfl rfl rfl rfl (cells:=[.bool false,.slice A6 (digs 10000 X).length c6,.slice A8 (digs 10000 Y).length c8]) rfl BR0 rfl (by kernel_rfl) (zI3 rfl rfl rfl) fun w9 hg9 B9 => ?_
            have k9:=off kx BR0 zE hg9
            have d9:=off ky BR0 zE hg9
            have bb9:=bb.trans ((Below.refl _ _).grown hg9 bb.size (fun g hg => by injection hg with hg; omega))
            obtain ⟨C0,C1,C2,_,_,_⟩:=three B9
            refine zD ?_
            go_wp2
            exact bodyPost_ret (v:=.agg #[.bool false,.slice A6 (digs 10000 X).length c6,.slice A8 (digs 10000 Y).length c8]) (by simp [results,Tryz.results97,go_sem,C0,C1,C2]) rfl ⟨_,rfl,qZ8 k9 d9 (by rw [HQS.out,hs0]) HQN.out HQD.out,zL2 (kxf.mono kxz_) (kyf.mono kyz_),bb9⟩
  · obtain ⟨u0, rfl, s0⟩ := h0
    obtain ⟨A0,c0,rfl,_⟩:=id s0
    have s1:=h1
    obtain ⟨A1,c1,rfl,_⟩:=id s1
    go_enter Tryz.func97,Tryz.ntmps97
    go_upto_region 1 with (fail)
    obtain ⟨wx,hwx,bb,B0,BR0,hsz⟩:=zI8 w 63 65 #[.bool true,.slice A0 (digs 10000 (z).natAbs).length c0] #[.bool false,.slice none 0 0,.slice none 0 0]
    rw [hwx]
    clear hwx
    have k0s:=s0.below bb
    have k0 : IsR wx (.agg #[.bool true,.slice A0 (digs 10000 (z).natAbs).length c0]) (z):=zQ9 k0s rfl hs0.symm
    have k1:=s1.below bb
    have hsz0:=bb.size
    have sB:=bb.size
    refine zC9 5 [Pd.eq (.pointer (some ⟨w.heap.size,1,none⟩)),Pd.eq (.slice A0 (digs 10000 (z).natAbs).length c0),Pd.eq (.slice A1 (digs 10000 d).length c1),psn .i64 (digs 10000 G),psn .i64 (digs 10000 G)] (by kernel_rfl) ?ob5 ?done5
    case ob5 =>
      refine zA (zC3 rfl (zB6 rfl) (zB8 rfl rfl) (fun _ => by kernel_rfl) (fun _ => rfl)) ?_
      refine zA (zC rfl (zB6 rfl) (zB7 (j:=0) (by kernel_rfl) rfl rfl) (fun w2 hb => zC5 Tryz.underlying53 rfl ((B0.below hb).cell 1)) (fun _ _ => rfl)) ?_
      refine zA (zC2 rfl (zB6 rfl) (zB8 rfl rfl) (fun _ _ h => h)) ?_
      refine zA (zD4 rfl Tryz.func59 (by kernel_rfl) (zB6 rfl) (zB7 (j:=1) (by kernel_rfl) rfl rfl) (zB7 (j:=2) (by kernel_rfl) rfl rfl) (fun w2 u0 u1 hb h0 h1 => by obtain rfl:=h0; obtain rfl:=h1; exact (HG.out ▸ qO6 _ _ _ _ _ (k0s.below hb) (k1.below hb) HL.out HL2.out).mono fun e w3 h => h)) ?_
      refine zA (zE8 rfl (zB6 rfl) (zB7 (j:=3) (by kernel_rfl) rfl rfl) (fun _ _ h => h)) ?_
      trivial
    case done5 =>
      refine fun w11 hb11 v0 h0 v1 h1 v2 h2 v3 h3 v4 h4 b hbf => ?_
      obtain rfl:=h0; obtain rfl:=h1; obtain rfl:=h2
      have q3:=h3
      have q4:=h4
      simp only [Act.put,zA0,zA2,zA1] at hbf
      subst hbf
      replace B0:=B0.below hb11
      replace k0s:=k0s.below hb11
      replace k0:=k0.below hb11
      replace BR0:=BR0.below hb11
      replace k1:=k1.below hb11
      replace bb:=bb.trans (hb11.mono bb.size)
      have hsz11:=bb.size
      refine zD ?_
      obtain ⟨A5,c5,rfl,_⟩:=id q4
      have kg:=q4
      have sB:=bb.size
      go_upto_region 2 with (fail)
      refine zC9 9 [Pd.eq (.pointer (some ⟨w.heap.size,1,none⟩)),Pd.eq (.slice A0 (digs 10000 (z).natAbs).length c0),Pd.eq (.slice A5 (digs 10000 G).length c5),pt2 .i64 (digs 10000 X) (digs 10000 (z.natAbs % G)) w11.heap.size,pt2 .i64 (digs 10000 X) (digs 10000 (z.natAbs % G)) w11.heap.size,ps .i64 (digs 10000 X) w11.heap.size,ps .i64 (digs 10000 (z.natAbs % G)) w11.heap.size,ps .i64 (digs 10000 X) w11.heap.size,ps .i64 (digs 10000 (z.natAbs % G)) w11.heap.size] (by kernel_rfl) ?ob6 ?done6
      case ob6 =>
        refine zA (zC3 rfl (zB6 rfl) (zB8 rfl rfl) (fun _ => by kernel_rfl) (fun _ => rfl)) ?_
        refine zA (zC rfl (zB6 rfl) (zB7 (j:=0) (by kernel_rfl) rfl rfl) (fun w2 hb => zC5 Tryz.underlying53 rfl ((B0.below hb).cell 1)) (fun _ _ => rfl)) ?_
        refine zA (zC2 rfl (zB6 rfl) (zB8 rfl rfl) (fun _ _ h => h)) ?_
        refine zA (zD4 rfl Tryz.func58 (by kernel_rfl) (zB6 rfl) (zB7 (j:=1) (by kernel_rfl) rfl rfl) (zB7 (j:=2) (by kernel_rfl) rfl rfl) (fun w2 u0 u1 hb h0 h1 => by obtain rfl:=h0; obtain rfl:=h1; exact (HX.out ▸ zY7 _ _ z.natAbs G _ (k0s.below hb) (kg.below hb) HL.out HGl.out hGp).mono fun e w3 h => zQ6.pd h hb.size)) ?_
        refine zA (zC2 rfl (zB6 rfl) (zB7 (j:=3) (by kernel_rfl) rfl rfl) (fun _ _ h => h)) ?_
        refine zA (zG7 rfl (zB6 rfl) (zB7 (j:=4) (by kernel_rfl) rfl rfl) (fun w2 u hu => by obtain ⟨v,u,rfl,q1,q2,q3,q4⟩:=hu; exact ⟨v,rfl,q1,q3⟩)) ?_
        refine zA (zG7 rfl (zB6 rfl) (zB7 (j:=4) (by kernel_rfl) rfl rfl) (fun w2 u hu => by obtain ⟨v,u,rfl,q1,q2,q3,q4⟩:=hu; exact ⟨u,rfl,q2,q4⟩)) ?_
        refine zA (zE8 rfl (zB6 rfl) (zB7 (j:=5) (by kernel_rfl) rfl rfl) (fun _ _ h => h)) ?_
        refine zA (zE8 rfl (zB6 rfl) (zB7 (j:=6) (by kernel_rfl) rfl rfl) (fun _ _ h => h)) ?_
        trivial
      case done6 =>
        refine fun w12 hb12 v0 h0 v1 h1 v2 h2 v3 h3 v4 h4 v5 h5 v6 h6 v7 h7 v8 h8 b hbf => ?_
        obtain rfl:=h0; obtain rfl:=h1; obtain rfl:=h2
        clear h3
        clear h4
        obtain ⟨q5,f5⟩:=h5
        obtain ⟨q6,f6⟩:=h6
        obtain ⟨q7,f7⟩:=h7
        obtain ⟨q8,f8⟩:=h8
        simp only [Act.put,zA0,zA2,zA1] at hbf
        subst hbf
        replace B0:=B0.below hb12
        replace k0s:=k0s.below hb12
        replace k0:=k0.below hb12
        replace BR0:=BR0.below hb12
        replace k1:=k1.below hb12
        replace kg:=kg.below hb12
        replace bb:=bb.trans (hb12.mono bb.size)
        have hsz12:=bb.size
        have s_5:=sB
        have s_6:=sB
        have s_7:=sB
        have s_8:=sB
        refine zD ?_
        obtain ⟨A6,c6,rfl,_⟩:=id q7
        have kx:=q7
        have kxf:=f7
        have kxz_:=s_7
        have sB:=bb.size
        go_upto_region 3 with (fail)
        refine zC9 8 [Pd.eq (.slice A1 (digs 10000 d).length c1),Pd.eq (.slice A5 (digs 10000 G).length c5),pt2 .i64 (digs 10000 Y) (digs 10000 (d % G)) w12.heap.size,pt2 .i64 (digs 10000 Y) (digs 10000 (d % G)) w12.heap.size,ps .i64 (digs 10000 Y) w12.heap.size,ps .i64 (digs 10000 (d % G)) w12.heap.size,ps .i64 (digs 10000 Y) w12.heap.size,ps .i64 (digs 10000 (d % G)) w12.heap.size] (by kernel_rfl) ?ob7 ?done7
        case ob7 =>
          refine zA (zC2 rfl (zB6 rfl) (zB8 rfl rfl) (fun _ _ h => h)) ?_
          refine zA (zC2 rfl (zB6 rfl) (zB8 rfl rfl) (fun _ _ h => h)) ?_
          refine zA (zD4 rfl Tryz.func58 (by kernel_rfl) (zB6 rfl) (zB7 (j:=0) (by kernel_rfl) rfl rfl) (zB7 (j:=1) (by kernel_rfl) rfl rfl) (fun w2 u0 u1 hb h0 h1 => by obtain rfl:=h0; obtain rfl:=h1; exact (HY.out ▸ zY7 _ _ d G _ (k1.below hb) (kg.below hb) HL2.out HGl.out hGp).mono fun e w3 h => zQ6.pd h hb.size)) ?_
          refine zA (zC2 rfl (zB6 rfl) (zB7 (j:=2) (by kernel_rfl) rfl rfl) (fun _ _ h => h)) ?_
          refine zA (zG7 rfl (zB6 rfl) (zB7 (j:=3) (by kernel_rfl) rfl rfl) (fun w2 u hu => by obtain ⟨v,u,rfl,q1,q2,q3,q4⟩:=hu; exact ⟨v,rfl,q1,q3⟩)) ?_
          refine zA (zG7 rfl (zB6 rfl) (zB7 (j:=3) (by kernel_rfl) rfl rfl) (fun w2 u hu => by obtain ⟨v,u,rfl,q1,q2,q3,q4⟩:=hu; exact ⟨u,rfl,q2,q4⟩)) ?_
          refine zA (zE8 rfl (zB6 rfl) (zB7 (j:=4) (by kernel_rfl) rfl rfl) (fun _ _ h => h)) ?_
          refine zA (zE8 rfl (zB6 rfl) (zB7 (j:=5) (by kernel_rfl) rfl rfl) (fun _ _ h => h)) ?_
          trivial
        case done7 =>
          refine fun w13 hb13 v0 h0 v1 h1 v2 h2 v3 h3 v4 h4 v5 h5 v6 h6 v7 h7 b hbf => ?_
          obtain rfl:=h0; obtain rfl:=h1
          clear h2
          clear h3
          obtain ⟨q4,f4⟩:=h4
          obtain ⟨q5,f5⟩:=h5
          obtain ⟨q6,f6⟩:=h6
          obtain ⟨q7,f7⟩:=h7
          simp only [Act.put,zA0,zA2,zA1] at hbf
          subst hbf
          replace B0:=B0.below hb13
          replace k0s:=k0s.below hb13
          replace k0:=k0.below hb13
          replace BR0:=BR0.below hb13
          replace k1:=k1.below hb13
          replace kg:=kg.below hb13
          replace kx:=kx.below hb13
          replace bb:=bb.trans (hb13.mono bb.size)
          have hsz13:=bb.size
          have s_4:=sB
          have s_5:=sB
          have s_6:=sB
          have s_7:=sB
          refine zD ?_
          obtain ⟨A8,c8,rfl,_⟩:=id q6
          have ky:=q6
          have kyf:=f6
          have kyz_:=s_6
          have HXl : Hid (decide ((0 : Int) < (((digs 10000 X).length : Nat) : Int)) = true):=by show _ = _; have:=(zY1 (B:=10000) (by omega) (x:=X)).1; have:=HXp (zU4 hs0); exact decide_eq_true (by omega)
          have sB:=bb.size
          go_upto_region 4 with (fail)
          refine zC9 11 [Pd.eq (.pointer (some ⟨w.heap.size,0,none⟩)),Pd.eq (.bool true),Pd.eq (.bool true),Pd.eq (.slice A6 (digs 10000 X).length c6),Pd.eq (.int .i64 (((digs 10000 X).length : Nat) : Int)),Pd.eq (.bool true),Pd.eq (.bool true),Pd.eq (.slice A6 (digs 10000 X).length c6),Pd.eq (.agg #[.bool true,.slice A6 (digs 10000 X).length c6]),Pd.eq (.slice A8 (digs 10000 Y).length c8),Pd.eq (.agg #[.bool true,.slice A6 (digs 10000 X).length c6,.slice A8 (digs 10000 Y).length c8])] (by kernel_rfl) ?ob8 ?done8
          case ob8 =>
            refine zA (zC3 rfl (zB6 rfl) (zB8 rfl rfl) (fun _ => by kernel_rfl) (fun _ => rfl)) ?_
            refine zA (zC rfl (zB6 rfl) (zB7 (j:=0) (by kernel_rfl) rfl rfl) (fun w2 hb => zC5 Tryz.underlying4 rfl ((B0.below hb).cell 0)) (fun _ _ => rfl)) ?_
            refine zA (zC2 rfl (zB6 rfl) (zB7 (j:=1) (by kernel_rfl) rfl rfl) (fun _ _ h => h)) ?_
            refine zA (zC2 rfl (zD9 (c:=true) (b:=true) (g:=2) rfl (by kernel_rfl) rfl rfl rfl (by exact fun _ _ h => h)) (zB8 rfl rfl) (fun _ _ h => h)) ?_
            refine zA (zM0 rfl (zD9 (c:=true) (b:=true) (g:=2) rfl (by kernel_rfl) rfl rfl rfl (by exact fun _ _ h => h)) (zB7 (j:=3) (by kernel_rfl) rfl rfl) (fun _ _ hx => ⟨_,by rw [hx]; exact zM1 Tryz.underlying53 _ _ _ _,rfl⟩)) ?_
            refine zA (zG4 rfl (zD9 (c:=true) (b:=true) (g:=2) rfl (by kernel_rfl) rfl rfl rfl (by exact fun _ _ h => h)) (zB7 (j:=4) (by kernel_rfl) rfl rfl) (zH7 _) (fun _ _ _ hx hy => ⟨.bool true,by rw [hx,hy,yR2,HXl.out],rfl⟩)) ?_
            refine zA (zO9 (b:=true) rfl (zB6 rfl) (zB7 (j:=2) (by kernel_rfl) rfl rfl) (zB7 (j:=5) (by kernel_rfl) rfl rfl) (fun _ _ h => h)) ?_
            refine zA (zC2 rfl (zB6 rfl) (zB8 rfl rfl) (fun _ _ h => h)) ?_
            refine zA (zL3 rfl (zB6 rfl) (zB7 (j:=6) (by kernel_rfl) rfl rfl) (zB7 (j:=7) (by kernel_rfl) rfl rfl) (fun w2 u v hb hu hv => by obtain rfl:=hu; obtain rfl:=hv; exact ⟨.agg #[.bool true,.slice A6 (digs 10000 X).length c6],by kernel_rfl,rfl⟩)) ?_
            refine zA (zC2 rfl (zB6 rfl) (zB8 rfl rfl) (fun _ _ h => h)) ?_
            refine zA (zL3 rfl (zB6 rfl) (zB7 (j:=8) (by kernel_rfl) rfl rfl) (zB7 (j:=9) (by kernel_rfl) rfl rfl) (fun w2 u v hb hu hv => by obtain rfl:=hu; obtain rfl:=hv; exact ⟨.agg #[.bool true,.slice A6 (digs 10000 X).length c6,.slice A8 (digs 10000 Y).length c8],by kernel_rfl,rfl⟩)) ?_
            trivial
          case done8 =>
            refine fun w14 hb14 v0 h0 v1 h1 v2 h2 v3 h3 v4 h4 v5 h5 v6 h6 v7 h7 v8 h8 v9 h9 v10 h10 b hbf => ?_
            obtain rfl:=h0; obtain rfl:=h1; obtain rfl:=h2; obtain rfl:=h3; obtain rfl:=h4; obtain rfl:=h5; obtain rfl:=h6; obtain rfl:=h7; obtain rfl:=h8; obtain rfl:=h9; obtain rfl:=h10
            simp only [Act.put,zA0,zA2,zA1] at hbf
            subst hbf
            replace B0:=B0.below hb14
            replace k0s:=k0s.below hb14
            replace k0:=k0.below hb14
            replace BR0:=BR0.below hb14
            replace k1:=k1.below hb14
            replace kg:=kg.below hb14
            replace kx:=kx.below hb14
            replace ky:=ky.below hb14
            replace bb:=bb.trans (hb14.mono bb.size)
            have hsz14:=bb.size
            refine zG8 (i:=11) rfl rfl rfl rfl rfl rfl (cells:=[.bool true,.slice A6 (digs 10000 X).length c6,.slice A8 (digs 10000 Y).length c8]) rfl BR0 rfl (by kernel_rfl) (zI3 rfl rfl rfl) fun w9 hg9 B9 => ?_
            have k9:=off kx BR0 zE hg9
            have d9:=off ky BR0 zE hg9
            have bb9:=bb.trans ((Below.refl _ _).grown hg9 bb.size (fun g hg => by injection hg with hg; omega))
            obtain ⟨C0,C1,C2,_,_,_⟩:=three B9
            refine zD ?_
            go_wp2
            exact bodyPost_ret (v:=.agg #[.bool true,.slice A6 (digs 10000 X).length c6,.slice A8 (digs 10000 Y).length c8]) (by simp [results,Tryz.results97,go_sem,C0,C1,C2]) rfl ⟨_,rfl,qZ8 k9 d9 (by rw [HQS.out,hs0]) HQN.out HQD.out,zL2 (kxf.mono kxz_) (kyf.mono kyz_),bb9⟩
theorem yB1 (a0 : Value) (q : Rat) (w : World) (h0 : IsP w a0 q) (hl : zC7 q 30000) :
  Calls Tryz.prog 88 #[a0] w (RetQ q w):=by
 obtain ⟨u0,t0,rfl,s0,r0⟩:=h0
 obtain ⟨A0,c0,rfl,_⟩:=id s0
 obtain ⟨D0,e0,rfl,_⟩:=id r0
 go_enter Tryz.func88,Tryz.ntmps88
 go_upto_region 1 with (fail)
 obtain ⟨wx,hwx,bb,B0,BR0,hsz⟩:=zI8 w 65 83 #[.bool (ngB (q).num),.slice A0 (digs 10000 (q).num.natAbs).length c0,.slice D0 (digs 10000 (q).den).length e0] #[.bool false,.slice none 0 0,.slice none 0 0]
 rw [hwx]
 clear hwx
 have k0s:=s0.below bb
 have k0d:=r0.below bb
 have k0z : IsR wx (.agg #[.bool (ngB (q).num),.slice A0 (digs 10000 (q).num.natAbs).length c0]) (q).num:=⟨_,rfl,k0s⟩
 have k0 : IsP wx (.agg #[.bool (ngB (q).num),.slice A0 (digs 10000 (q).num.natAbs).length c0,.slice D0 (digs 10000 (q).den).length e0]) (q):=⟨_,_,rfl,k0s,k0d⟩
 have hsz0:=bb.size
 have sB:=bb.size
 refine flow 7 [Pd.eq (.pointer (some ⟨w.heap.size,0,none⟩)),Pd.eq (.agg #[.bool (ngB (q).num),.slice A0 (digs 10000 (q).num.natAbs).length c0]),pz ((q).num) wx.heap.size,Pd.eq (.pointer (some ⟨w.heap.size,2,none⟩)),Pd.eq (.slice D0 (digs 10000 (q).den).length e0),ps .u64 (digs 4294967296 (q).den) wx.heap.size,pq (q) wx.heap.size] (by kernel_rfl) (by kernel_rfl) ?ob10 ?done10
 case ob10 =>
  refine zA (zC3 rfl (zB6 rfl) (zB8 rfl rfl) (fun _ => by kernel_rfl) (fun _ => rfl)) ?_
  refine zA (zC rfl (zB6 rfl) (zB7 (j:=0) (by kernel_rfl) rfl rfl) (fun w2 hb => zR0 Tryz.underlying63 rfl (by kernel_rfl) (B0.drew.below hb) rfl) (fun _ _ => rfl)) ?_
  refine zA (zF rfl Tryz.func25 (by kernel_rfl) (zB6 rfl) (zB7 (j:=1) (by kernel_rfl) rfl rfl) (fun w2 u0 hb h0 => by obtain rfl:=h0; exact (yA2 _ _ _ (k0z.drew.below hb) (zB4 hl.1 (by decide))).mono fun e w3 h => zE2.pd h hb.size)) ?_
  refine zA (zC3 rfl (zB6 rfl) (zB8 rfl rfl) (fun _ => by kernel_rfl) (fun _ => rfl)) ?_
  refine zA (zC rfl (zB6 rfl) (zB7 (j:=3) (by kernel_rfl) rfl rfl) (fun w2 hb => zC5 Tryz.underlying53 rfl ((B0.drew.below hb).cell 2)) (fun _ _ => rfl)) ?_
  refine zA (zF rfl Tryz.func23 (by kernel_rfl) (zB6 rfl) (zB7 (j:=4) (by kernel_rfl) rfl rfl) (fun w2 u0 hb h0 => by obtain rfl:=h0; exact (qM3 _ _ _ (k0d.drew.below hb) (zB4 (zU0 _) (by have:=hl.2; omega)) (zB4 hl.2 (by decide))).mono fun e w3 h => zD1.pd h hb.size)) ?_
  refine zA (zL3 rfl (zB6 rfl) (zB7 (j:=2) (by kernel_rfl) rfl rfl) (zB7 (j:=5) (by kernel_rfl) rfl rfl) (fun w2 u v hb hu hv => by obtain ⟨u7,rfl,hu7⟩:=hu.1; obtain ⟨A7,c7,rfl,_⟩:=id hu7; obtain ⟨A8,c8,rfl,_⟩:=id hv.1; exact ⟨.agg #[.bool (ngB (q).num),.slice A7 (digs 4294967296 (q).num.natAbs).length c7,.slice A8 (digs 4294967296 (q).den).length c8],by kernel_rfl,⟨⟨_,_,rfl,hu7,hv.1⟩,zL2 (hu.2 _ _ rfl) hv.2⟩⟩)) ?_
  trivial
 case done10 =>
  refine fun w11 hb11 v0 h0 v1 h1 v2 h2 v3 h3 v4 h4 v5 h5 v6 h6 b hbf => ?_
  obtain rfl:=h0; obtain rfl:=h1; obtain rfl:=h3; obtain rfl:=h4
  obtain ⟨q2,f2⟩:=h2
  obtain ⟨q5,f5⟩:=h5
  obtain ⟨q6,f6⟩:=h6
  simp only [Act.put,zA0,zA2,zA1] at hbf
  subst hbf
  replace B0:=B0.below hb11
  replace k0s:=k0s.below hb11
  replace k0d:=k0d.below hb11
  replace k0z:=k0z.below hb11
  replace k0:=k0.below hb11
  replace BR0:=BR0.below hb11
  replace bb:=bb.trans (hb11.mono bb.size)
  have hsz11:=bb.size
  have s_2:=sB
  have s_5:=sB
  have s_6:=sB
  obtain ⟨u6,t6,rfl,q6,d6⟩:=q6
  obtain ⟨A9,c9,rfl,_⟩:=id q6
  obtain ⟨D9,e9,rfl,_⟩:=id d6
  refine zK4 (i:=7) (by kernel_rfl) rfl rfl rfl rfl rfl rfl (cells:=[.bool (ngB (q).num),.slice A9 (digs 4294967296 (q).num.natAbs).length c9,.slice D9 (digs 4294967296 (q).den).length e9]) rfl BR0 rfl (by kernel_rfl) (zI3 rfl rfl rfl) fun w9 hg9 B9 => ?_
  have k9:=off q6 BR0 zE hg9
  have d9:=off d6 BR0 zE hg9
  have f9:=f6.mono (show w.heap.size <= _ from s_6)
  have bb9:=bb.trans ((Below.refl _ _).grown hg9 bb.size (fun g hg => by injection hg with hg; omega))
  obtain ⟨C0,C1,C2,_,_,_⟩:=three B9
  refine zI2 (by kernel_rfl) ?_
  go_wp2
  exact bodyPost_ret (v:=.agg #[.bool (ngB (q).num),.slice A9 (digs 4294967296 (q).num.natAbs).length c9,.slice D9 (digs 4294967296 (q).den).length e9]) (by simp [results,Tryz.results88,go_sem,C0,C1,C2]) rfl ⟨_,rfl,⟨_,_,rfl,k9,d9⟩,f9,bb9⟩
theorem yT3 (a0 : Value) (x : Rat) (a1 : Value) (y : Rat) (w : World) (h0 : IsP w a0 x) (h1 : IsP w a1 y) (hl : zC7 x 10000) (hl2 : zC7 y 10000) :
  Calls Tryz.prog 62 #[a0,a1] w (zR1 (x * y) w):=by
 obtain ⟨u0,t0,rfl,s0,r0⟩:=h0
 obtain ⟨A0,c0,rfl,_⟩:=id s0
 obtain ⟨D0,e0,rfl,_⟩:=id r0
 obtain ⟨u1,t1,rfl,s1,r1⟩:=h1
 obtain ⟨A1,c1,rfl,_⟩:=id s1
 obtain ⟨D1,e1,rfl,_⟩:=id r1
 have HM : Hid (mkRat (x.num * y.num) (x.den * y.den) = x * y):=(Rat.mul_def' x y).symm
 have HLZ : Hid (zC1 (x.num * y.num) <= 30000):=zB4 (zO1 hl.1 hl2.1) (by decide)
 have HLD : Hid ((digs 4294967296 (x.den * y.den)).length <= 30000):=by show _ <= _; have:=zT9 x.den y.den; have h1:=hl.2; have h2:=hl2.2; omega
 go_enter Tryz.func62,Tryz.ntmps62
 go_upto_region 1 with (fail)
 obtain ⟨wx,hwx,bb,B0,B1,BR0,hsz⟩:=zN7 w 65 65 65 #[.bool (ngB (x).num),.slice A0 (digs 10000 (x).num.natAbs).length c0,.slice D0 (digs 10000 (x).den).length e0] #[.bool (ngB (y).num),.slice A1 (digs 10000 (y).num.natAbs).length c1,.slice D1 (digs 10000 (y).den).length e1] #[.bool false,.slice none 0 0,.slice none 0 0]
 rw [hwx]
 clear hwx
 have k0s:=s0.below bb
 have k0d:=r0.below bb
 have k0z : IsR wx (.agg #[.bool (ngB (x).num),.slice A0 (digs 10000 (x).num.natAbs).length c0]) (x).num:=⟨_,rfl,k0s⟩
 have k0 : IsP wx (.agg #[.bool (ngB (x).num),.slice A0 (digs 10000 (x).num.natAbs).length c0,.slice D0 (digs 10000 (x).den).length e0]) (x):=⟨_,_,rfl,k0s,k0d⟩
 have k1s:=s1.below bb
 have k1d:=r1.below bb
 have k1z : IsR wx (.agg #[.bool (ngB (y).num),.slice A1 (digs 10000 (y).num.natAbs).length c1]) (y).num:=⟨_,rfl,k1s⟩
 have k1 : IsP wx (.agg #[.bool (ngB (y).num),.slice A1 (digs 10000 (y).num.natAbs).length c1,.slice D1 (digs 10000 (y).den).length e1]) (y):=⟨_,_,rfl,k1s,k1d⟩
 have hsz0:=bb.size
 have sB:=bb.size
 refine flow 11 [Pd.eq (.pointer (some ⟨w.heap.size,0,none⟩)),Pd.eq (.agg #[.bool (ngB (x).num),.slice A0 (digs 10000 (x).num.natAbs).length c0]),Pd.eq (.pointer (some ⟨w.heap.size + 1,0,none⟩)),Pd.eq (.agg #[.bool (ngB (y).num),.slice A1 (digs 10000 (y).num.natAbs).length c1]),pr ((x.num * y.num)),Pd.eq (.pointer (some ⟨w.heap.size,2,none⟩)),Pd.eq (.slice D0 (digs 10000 (x).den).length e0),Pd.eq (.pointer (some ⟨w.heap.size + 1,2,none⟩)),Pd.eq (.slice D1 (digs 10000 (y).den).length e1),ps .i64 (digs 10000 (x.den * y.den)) wx.heap.size,ppf (x * y) wx.heap.size] (by kernel_rfl) (by kernel_rfl) ?ob12 ?done12
 case ob12 =>
  refine zA (zC3 rfl (zB6 rfl) (zB8 rfl rfl) (fun _ => by kernel_rfl) (fun _ => rfl)) ?_
  refine zA (zC rfl (zB6 rfl) (zB7 (j:=0) (by kernel_rfl) rfl rfl) (fun w2 hb => zR0 Tryz.underlying63 rfl (by kernel_rfl) (B0.drew.below hb) rfl) (fun _ _ => rfl)) ?_
  refine zA (zC3 rfl (zB6 rfl) (zB8 rfl rfl) (fun _ => by kernel_rfl) (fun _ => rfl)) ?_
  refine zA (zC rfl (zB6 rfl) (zB7 (j:=2) (by kernel_rfl) rfl rfl) (fun w2 hb => zR0 Tryz.underlying63 rfl (by kernel_rfl) (B1.drew.below hb) rfl) (fun _ _ => rfl)) ?_
  refine zA (zD4 rfl Tryz.func110 (by kernel_rfl) (zB6 rfl) (zB7 (j:=1) (by kernel_rfl) rfl rfl) (zB7 (j:=3) (by kernel_rfl) rfl rfl) (fun w2 u0 u1 hb h0 h1 => by obtain rfl:=h0; obtain rfl:=h1; exact (yR8 _ _ _ _ _ (k0z.drew.below hb) (k1z.drew.below hb) (zB4 hl.1 (by decide)) (zB4 hl2.1 (by decide))).mono fun e w3 h => zX0.pd h)) ?_
  refine zA (zC3 rfl (zB6 rfl) (zB8 rfl rfl) (fun _ => by kernel_rfl) (fun _ => rfl)) ?_
  refine zA (zC rfl (zB6 rfl) (zB7 (j:=5) (by kernel_rfl) rfl rfl) (fun w2 hb => zC5 Tryz.underlying53 rfl ((B0.drew.below hb).cell 2)) (fun _ _ => rfl)) ?_
  refine zA (zC3 rfl (zB6 rfl) (zB8 rfl rfl) (fun _ => by kernel_rfl) (fun _ => rfl)) ?_
  refine zA (zC rfl (zB6 rfl) (zB7 (j:=7) (by kernel_rfl) rfl rfl) (fun w2 hb => zC5 Tryz.underlying53 rfl ((B1.drew.below hb).cell 2)) (fun _ _ => rfl)) ?_
  refine zA (zD4 rfl Tryz.func60 (by kernel_rfl) (zB6 rfl) (zB7 (j:=6) (by kernel_rfl) rfl rfl) (zB7 (j:=8) (by kernel_rfl) rfl rfl) (fun w2 u0 u1 hb h0 h1 => by obtain rfl:=h0; obtain rfl:=h1; exact (qM4 _ _ x.den y.den _ (k0d.drew.below hb) (k1d.drew.below hb) (zB4 (zU0 _) (by have:=hl.2; omega)) (zB4 (zU0 _) (by have:=hl2.2; omega))).mono fun e w3 h => zD1.pd h hb.size)) ?_
  refine zA (zD4 rfl Tryz.func97 (by kernel_rfl) (zB6 rfl) (zB7 (j:=4) (by kernel_rfl) rfl rfl) (zB7 (j:=9) (by kernel_rfl) rfl rfl) (fun w2 u0 u1 hb h0 h1 => by exact (HM.out ▸ qI8 _ (x.num * y.num) _ (x.den * y.den) _ h0 h1.1 (Nat.mul_ne_zero x.den_nz y.den_nz) HLZ.out HLD.out).mono fun e w3 h => zR1.pdf h hb.size)) ?_
  trivial
 case done12 =>
  refine fun w11 hb11 v0 h0 v1 h1 v2 h2 v3 h3 v4 h4 v5 h5 v6 h6 v7 h7 v8 h8 v9 h9 v10 h10 b hbf => ?_
  obtain rfl:=h0; obtain rfl:=h1; obtain rfl:=h2; obtain rfl:=h3; obtain rfl:=h5; obtain rfl:=h6; obtain rfl:=h7; obtain rfl:=h8
  have q4:=h4
  obtain ⟨q9,f9⟩:=h9
  obtain ⟨q10,f10⟩:=h10
  simp only [Act.put,zA0,zA2,zA1] at hbf
  subst hbf
  replace B0:=B0.below hb11
  replace k0s:=k0s.below hb11
  replace k0d:=k0d.below hb11
  replace k0z:=k0z.below hb11
  replace k0:=k0.below hb11
  replace B1:=B1.below hb11
  replace k1s:=k1s.below hb11
  replace k1d:=k1d.below hb11
  replace k1z:=k1z.below hb11
  replace k1:=k1.below hb11
  replace BR0:=BR0.below hb11
  replace bb:=bb.trans (hb11.mono bb.size)
  have hsz11:=bb.size
  have s_9:=sB
  have s_10:=sB
  obtain ⟨u10,t10,rfl,q10,d10⟩:=q10
  obtain ⟨A9,c9,rfl,_⟩:=id q10
  obtain ⟨D9,e9,rfl,_⟩:=id d10
  refine zK4 (i:=11) (by kernel_rfl) rfl rfl rfl rfl rfl rfl (cells:=[.bool (ngB (x * y).num),.slice A9 (digs 10000 (x * y).num.natAbs).length c9,.slice D9 (digs 10000 (x * y).den).length e9]) rfl BR0 rfl (by kernel_rfl) (zI3 rfl rfl rfl) fun w9 hg9 B9 => ?_
  have k9:=off q10 BR0 zE hg9
  have d9:=off d10 BR0 zE hg9
  have f9:=f10.mono (show w.heap.size <= _ from s_10)
  have bb9:=bb.trans ((Below.refl _ _).grown hg9 bb.size (fun g hg => by injection hg with hg; omega))
  obtain ⟨C0,C1,C2,_,_,_⟩:=three B9
  refine zI2 (by kernel_rfl) ?_
  go_wp2
  exact bodyPost_ret (v:=.agg #[.bool (ngB (x * y).num),.slice A9 (digs 10000 (x * y).num.natAbs).length c9,.slice D9 (digs 10000 (x * y).den).length e9]) (by simp [results,Tryz.results62,go_sem,C0,C1,C2]) rfl ⟨_,rfl,⟨_,_,rfl,k9,d9⟩,f9,bb9⟩
theorem yT4 (n : Int) (w : World) (h1 : -9223372036854775807 <= n) (h2 : n <= 9223372036854775807) :
  Calls Tryz.prog 109 #[.int .i64 n] w (zX0 n w):=by
 by_cases hn : n < 0
 ·have HZ : Hid (sg true n.natAbs = n):=by show _ = _; rw [zZ3]; omega
  go_enter Tryz.func109,Tryz.ntmps109
  go_upto_region 1 with (fail)
  obtain ⟨wx,hwx,bb,BR0,hsz⟩:=zN8 w 63 #[.bool false,.slice none 0 0]
  rw [hwx]
  clear hwx
  go_upto_region 2 with (fail)
  refine zC9 4 [Pd.eq (.int .i64 n),Pd.eq (.int .i64 (-n)),ps .i64 (digs 10000 n.natAbs) wx.heap.size,pr (n)] (by kernel_rfl) ?ob16 ?done16
  case ob16 =>
   refine zA (zC2 rfl (zB6 rfl) (zB8 rfl rfl) (fun _ _ h => h)) ?_
   refine zA (zW9 rfl (zB6 rfl) (zB7 (j:=0) (by kernel_rfl) rfl rfl) (fun _ => un_neg _ _ (by omega)) (fun _ => rfl)) ?_
   refine zA (zF rfl Tryz.func27 (by kernel_rfl) (zB6 rfl) (zB7 (j:=1) (by kernel_rfl) rfl rfl) (fun w2 u0 hb h0 => by obtain rfl:=h0; exact (qI6 _ n.natAbs _ (by omega) (by omega)).mono fun e w3 h => zD1.pd h hb.size)) ?_
   refine zA (zD4 rfl Tryz.func135 (by kernel_rfl) (zB6 rfl) (zH7 _) (zB7 (j:=2) (by kernel_rfl) rfl rfl) (fun w2 u0 u1 hb h0 h1 => by obtain rfl:=h0; exact qI1 _ _ _ n _ h1.1 HZ.out)) ?_
   trivial
  case done16 =>
   refine fun w1 hb1 v0 h0 v1 h1 v2 h2 v3 h3 b hbf => ?_
   obtain rfl:=h0; obtain rfl:=h1
   obtain ⟨q2,f2⟩:=h2
   have q3:=h3
   simp only [Act.put,zA0,zA2,zA1] at hbf
   subst hbf
   replace BR0:=BR0.below hb1
   replace bb:=bb.trans (hb1.mono bb.size)
   have hsz1:=bb.size
   obtain ⟨u3,rfl,q3⟩:=q3
   obtain ⟨A9,c9,rfl,_⟩:=id q3
   refine zG8 (i:=4) rfl rfl rfl rfl rfl rfl (cells:=[.bool (ngB n),.slice A9 (digs 10000 n.natAbs).length c9]) rfl BR0 rfl (by kernel_rfl) (zH8 rfl rfl) fun w9 hg9 B9 => ?_
   have k9:=off q3 BR0 no_ints2 hg9
   have bb9:=bb.trans ((Below.refl _ _).grown hg9 bb.size (fun g hg => by injection hg with hg; omega))
   obtain ⟨c0,c1,_,_⟩:=Blk.two B9
   refine zD ?_
   go_wp2
   exact bodyPost_ret (v:=.agg #[.bool (ngB n),.slice A9 (digs 10000 n.natAbs).length c9]) (by simp [results,Tryz.results109,go_sem,c0,c1]) rfl ⟨_,rfl,⟨_,rfl,k9⟩,bb9⟩
 ·have HZ : Hid (sg false n.natAbs = n):=by show _ = _; rw [zZ4]; omega
  go_enter Tryz.func109,Tryz.ntmps109
  go_upto_region 1 with (fail)
  obtain ⟨wx,hwx,bb,BR0,hsz⟩:=zN8 w 63 #[.bool false,.slice none 0 0]
  rw [hwx]
  clear hwx
  go_upto_region 3 with (fail)
  refine zC9 3 [Pd.eq (.int .i64 n),ps .i64 (digs 10000 n.natAbs) wx.heap.size,pr (n)] (by kernel_rfl) ?ob17 ?done17
  case ob17 =>
   refine zA (zC2 rfl (zB6 rfl) (zB8 rfl rfl) (fun _ _ h => h)) ?_
   refine zA (zF rfl Tryz.func27 (by kernel_rfl) (zB6 rfl) (zB7 (j:=0) (by kernel_rfl) rfl rfl) (fun w2 u0 hb h0 => by obtain rfl:=h0; exact (qI6 _ n.natAbs _ (by omega) (by omega)).mono fun e w3 h => zD1.pd h hb.size)) ?_
   refine zA (zD4 rfl Tryz.func135 (by kernel_rfl) (zB6 rfl) (zH7 _) (zB7 (j:=1) (by kernel_rfl) rfl rfl) (fun w2 u0 u1 hb h0 h1 => by obtain rfl:=h0; exact qI1 _ _ _ n _ h1.1 HZ.out)) ?_
   trivial
  case done17 =>
   refine fun w1 hb1 v0 h0 v1 h1 v2 h2 b hbf => ?_
   obtain rfl:=h0
   obtain ⟨q1,f1⟩:=h1
   have q2:=h2
   simp only [Act.put,zA0,zA2,zA1] at hbf
   subst hbf
   replace BR0:=BR0.below hb1
   replace bb:=bb.trans (hb1.mono bb.size)
   have hsz1:=bb.size
   obtain ⟨u2,rfl,q2⟩:=q2
   obtain ⟨A9,c9,rfl,_⟩:=id q2
   refine zG8 (i:=3) rfl rfl rfl rfl rfl rfl (cells:=[.bool (ngB n),.slice A9 (digs 10000 n.natAbs).length c9]) rfl BR0 rfl (by kernel_rfl) (zH8 rfl rfl) fun w9 hg9 B9 => ?_
   have k9:=off q2 BR0 no_ints2 hg9
   have bb9:=bb.trans ((Below.refl _ _).grown hg9 bb.size (fun g hg => by injection hg with hg; omega))
   obtain ⟨c0,c1,_,_⟩:=Blk.two B9
   refine zD ?_
   go_wp2
   exact bodyPost_ret (v:=.agg #[.bool (ngB n),.slice A9 (digs 10000 n.natAbs).length c9]) (by simp [results,Tryz.results109,go_sem,c0,c1]) rfl ⟨_,rfl,⟨_,rfl,k9⟩,bb9⟩
theorem yT5 (n : Int) (d : Int) (w : World)  (dn : Nat) (hd : d = (dn : Int)) (h1 : -9223372036854775807 <= n) (h2 : n <= 9223372036854775807) (h3 : dn ≠ 0) (h4 : dn <= 9223372036854775807) :
  Calls Tryz.prog 61 #[.int .i64 n,.int .i64 d] w (zR1 (mkRat n dn) w):=by
 have HLZ : Hid (zC1 n <= 30000):=zB4 (qI7 (by omega)) (by decide)
 have HLD : Hid ((digs 4294967296 dn).length <= 30000):=zB4 (qI7 (by omega)) (by decide)
 go_enter Tryz.func61,Tryz.ntmps61
 go_upto_region 1 with (fail)
 obtain ⟨wx,hwx,bb,BR0,hsz⟩:=zN8 w 65 #[.bool false,.slice none 0 0,.slice none 0 0]
 rw [hwx]
 clear hwx
 have hsz0:=bb.size
 have sB:=bb.size
 refine zC9 5 [Pd.eq (.int .i64 n),pr (n),Pd.eq (.int .i64 d),ps .i64 (digs 10000 dn) wx.heap.size,ppf (mkRat n dn) wx.heap.size] (by kernel_rfl) ?ob18 ?done18
 case ob18 =>
  refine zA (zC2 rfl (zB6 rfl) (zB8 rfl rfl) (fun _ _ h => h)) ?_
  refine zA (zF rfl Tryz.func109 (by kernel_rfl) (zB6 rfl) (zB7 (j:=0) (by kernel_rfl) rfl rfl) (fun w2 u0 hb h0 => by obtain rfl:=h0; exact (yT4 n _ h1 h2).mono fun e w3 h => zX0.pd h)) ?_
  refine zA (zC2 rfl (zB6 rfl) (zB8 rfl rfl) (fun _ _ h => h)) ?_
  refine zA (zF rfl Tryz.func27 (by kernel_rfl) (zB6 rfl) (zB7 (j:=2) (by kernel_rfl) rfl rfl) (fun w2 u0 hb h0 => by obtain rfl:=h0; exact (qI6 _ dn _ hd h4).mono fun e w3 h => zD1.pd h hb.size)) ?_
  refine zA (zD4 rfl Tryz.func97 (by kernel_rfl) (zB6 rfl) (zB7 (j:=1) (by kernel_rfl) rfl rfl) (zB7 (j:=3) (by kernel_rfl) rfl rfl) (fun w2 u0 u1 hb h0 h1 => by exact (qI8 _ n _ dn _ h0 h1.1 h3 HLZ.out HLD.out).mono fun e w3 h => zR1.pdf h hb.size)) ?_
  trivial
 case done18 =>
  refine fun w11 hb11 v0 h0 v1 h1 v2 h2 v3 h3 v4 h4 b hbf => ?_
  obtain rfl:=h0; obtain rfl:=h2
  have q1:=h1
  obtain ⟨q3,f3⟩:=h3
  obtain ⟨q4,f4⟩:=h4
  simp only [Act.put,zA0,zA2,zA1] at hbf
  subst hbf
  replace BR0:=BR0.below hb11
  replace bb:=bb.trans (hb11.mono bb.size)
  have hsz11:=bb.size
  have s_3:=sB
  have s_4:=sB
  obtain ⟨u4,t4,rfl,q4,d4⟩:=q4
  obtain ⟨A9,c9,rfl,_⟩:=id q4
  obtain ⟨D9,e9,rfl,_⟩:=id d4
  refine zG8 (i:=5) rfl rfl rfl rfl rfl rfl (cells:=[.bool (ngB (mkRat n dn).num),.slice A9 (digs 10000 (mkRat n dn).num.natAbs).length c9,.slice D9 (digs 10000 (mkRat n dn).den).length e9]) rfl BR0 rfl (by kernel_rfl) (zI3 rfl rfl rfl) fun w9 hg9 B9 => ?_
  have k9:=off q4 BR0 zE hg9
  have d9:=off d4 BR0 zE hg9
  have f9:=f4.mono (show w.heap.size <= _ from s_4)
  have bb9:=bb.trans ((Below.refl _ _).grown hg9 bb.size (fun g hg => by injection hg with hg; omega))
  obtain ⟨C0,C1,C2,_,_,_⟩:=three B9
  refine zD ?_
  go_wp2
  exact bodyPost_ret (v:=.agg #[.bool (ngB (mkRat n dn).num),.slice A9 (digs 10000 (mkRat n dn).num.natAbs).length c9,.slice D9 (digs 10000 (mkRat n dn).den).length e9]) (by simp [results,Tryz.results61,go_sem,C0,C1,C2]) rfl ⟨_,rfl,⟨_,_,rfl,k9,d9⟩,f9,bb9⟩
end Go.Proofs.YtagaabooccnamaaGreat.rat
namespace Go.Proofs.YtagaabooccnamaaGreat.flow
open Go.RowKit num mem
section
variable {P : Program} {Q : Exit -> Act -> World -> Prop} {ops : Array Oper} {o : Oper}
theorem yT6 {L : List Oper} {Φ : List Pd} {w0 : World} {a0 : Act} {i : Nat} {t : TypeId} {x : Operand} {k : Nat} {F : World -> Value -> Prop} (hop : o.op = .field t x k) (hw : Wt ops L Φ w0 a0 o true) (hx : Ev L Φ w0 a0 o x F) (hr : ∀ w u,F w u -> ∃ v,(Instr.field t u k).run P w = .ok v w /\ (ph Φ i).p w v) : Ob P Q ops L Φ w0 a0 i o :=
 zN5 hw (by unfold isA; rw [hop]) fun ms w hS => by
  obtain ⟨v,h1,h2⟩:=hr w _ (hx ms w hS)
  exact ⟨v,by unfold execOp; simp only [hop,Sem.run_bind,h1]; rfl,h2⟩
end
end Go.Proofs.YtagaabooccnamaaGreat.flow
namespace Go.Proofs.YtagaabooccnamaaGreat.flow
open Go.RowKit num mem nat txt str
section
variable {P : Program} {Q : Exit -> Act -> World -> Prop} {ops : Array Oper} {o : Oper}
end
section
variable {P : Program} {Q : Exit -> Act -> World -> Prop} {ops : Array Oper} {L : List Oper} {Φ : List Pd} {w0 : World} {a0 : Act} {i : Nat} {o : Oper}
theorem zK5 {t : TypeId} {x y : Operand} {F G : World -> Value -> Prop} (hop : o.op = .indexAddr t x y) (hw : Wt ops L Φ w0 a0 o true) (hx : Ev L Φ w0 a0 o x F) (hy : Ev L Φ w0 a0 o y G)
  (hr : ∀ w u v,F w u -> G w v -> ∃ r,(Instr.indexAt t u v).run P w = .ok r w /\ (ph Φ i).p w r) : Ob P Q ops L Φ w0 a0 i o :=
 zN5 hw (by unfold isA; rw [hop]) fun ms w hS => by
  obtain ⟨v,h1,h2⟩:=hr w _ _ (hx ms w hS) (hy ms w hS)
  exact ⟨v,by unfold execOp; simp only [hop,Sem.run_bind,h1]; rfl,h2⟩
end
end Go.Proofs.YtagaabooccnamaaGreat.flow
namespace Go.Proofs.YtagaabooccnamaaGreat.rat
open Go.RowKit num mem nat txt str flow whl
theorem yB2 {x y m : Nat} (hx : (digs 4294967296 x).length <= m) (hy : (digs 4294967296 y).length <= m) : (digs 4294967296 (x + y)).length <= m + 1:=by
 have h1:=Nat.lt_of_lt_of_le (zJ8 (B:=4294967296) (by omega) x) (Nat.pow_le_pow_right (by omega) hx)
 have h2:=Nat.lt_of_lt_of_le (zJ8 (B:=4294967296) (by omega) y) (Nat.pow_le_pow_right (by omega) hy)
 refine zI0 (by omega) ?_
 rw [Nat.pow_succ]
 omega
theorem yT7 {x y : Int} {m : Nat} (hx : zC1 x <= m) (hy : zC1 y <= m) : zC1 (x + y) <= m + 1 :=
 zB4 (zF7 (by omega) (show (x + y).natAbs <= x.natAbs + y.natAbs by omega)) (yB2 hx hy)
abbrev Elt:=Rat × Value × Value
def IsE (k : IntKind) (B : Nat) (w : World) (p : Elt) : Prop:=IsS w k p.2.1 (digs B p.1.num.natAbs) /\ IsS w k p.2.2 (digs B p.1.den)
theorem IsE.below {k : IntKind} {B : Nat} {w w' : World} {p : Elt} (h : IsE k B w p) (hb : Below w.heap.size w w') : IsE k B w' p:=⟨h.1.below hb,h.2.below hb⟩
def zJ9 (p : Elt) : List Value:=[.bool (ngB p.1.num),p.2.1,p.2.2]
def zE6 (ps : List Elt) : List Value:=ps.flatMap zJ9
theorem yT8 (ps : List Elt) (p : Elt) : zE6 (ps ++ [p]) = zE6 ps ++ zJ9 p:=by simp [zE6]
theorem qI9 : ∀ (ps : List Elt) (i : Nat) (p : Elt),ps[i]? = some p -> (zE6 ps)[i * 3]? = some (.bool (ngB p.1.num)) /\ (zE6 ps)[i * 3 + 1]? = some p.2.1 /\ (zE6 ps)[i * 3 + 2]? = some p.2.2
  | [],i,p,h => by simp at h
  | q :: ps, 0, p, h => by
    obtain rfl : q = p:=by simpa using h
    exact ⟨rfl,rfl,rfl⟩
  | q :: ps, i + 1, p, h => by
    have ih:=qI9 ps i p (by simpa using h)
    have e : zE6 (q :: ps) = .bool (ngB q.1.num) :: q.2.1 :: q.2.2 :: zE6 ps:=rfl
    rw [e,show (i + 1) * 3 = i * 3 + 1 + 1 + 1 from by omega]
    simpa using ih
def zM2 (w : World) (v : Value) (ps : List Elt) : Prop:=∃ A c,v = .slice A ps.length c /\ ps.length <= c /\ c <= maxLen /\ ∀ i p,ps[i]? = some p -> ∃ g o,A = some ⟨g,o,none⟩ /\ w.cell? ⟨g,o + i * 3,none⟩ = some (.bool (ngB p.1.num)) /\ w.cell? ⟨g,o + i * 3 + 1,none⟩ = some p.2.1 /\ w.cell? ⟨g,o + i * 3 + 2,none⟩ = some p.2.2
theorem zM2.below {w w' : World} {v : Value} {ps : List Elt} (h : zM2 w v ps) (hb : Below w.heap.size w w') : zM2 w' v ps:=by
 obtain ⟨A,c,e,h1,h2,h3⟩:=h
 refine ⟨A,c,e,h1,h2,fun i p hp => ?_⟩
 obtain ⟨g,o,e2,c0,c1,c2⟩:=h3 i p hp
 exact ⟨g,o,e2,(hb.cell (World.block_lt_of_cell? w _ c0)).trans c0,(hb.cell (World.block_lt_of_cell? w _ c1)).trans c1,(hb.cell (World.block_lt_of_cell? w _ c2)).trans c2⟩
def SlF (k : IntKind) (B : Nat) (w : World) (v : Value) (qs : List Rat) : Prop:=∃ ps : List Elt,ps.map (·.1) = qs /\ zM2 w v ps /\ ∀ p ∈ ps,IsE k B w p
theorem SlF.below {k : IntKind} {B : Nat} {w w' : World} {v : Value} {qs : List Rat} (h : SlF k B w v qs) (hb : Below w.heap.size w w') : SlF k B w' v qs:=by
 obtain ⟨ps,e,h1,h2⟩:=h
 exact ⟨ps,e,h1.below hb,fun p hp => (h2 p hp).below hb⟩
theorem SlF.shape {k : IntKind} {B : Nat} {w : World} {v : Value} {qs : List Rat} (h : SlF k B w v qs) : ∃ A c,v = .slice A qs.length c /\ qs.length <= c /\ c <= maxLen:=by
 obtain ⟨ps,rfl,⟨A,c,e,h1,h2,_⟩,_⟩:=h
 rw [zA9]
 exact ⟨A,c,e,h1,h2⟩
theorem SlF.at_ {k : IntKind} {B : Nat} {w : World} {A : Option Addr} {n c : Nat} {qs : List Rat} {i : Nat} {q : Rat} (h : SlF k B w (.slice A n c) qs) (hq : qs[i]? = some q) : ∃ g o u t,A = some ⟨g,o,none⟩ /\ i < n /\ w.cell? ⟨g,o + i * 3,none⟩ = some (.bool (ngB q.num)) /\ w.cell? ⟨g,o + i * 3 + 1,none⟩ = some u /\ w.cell? ⟨g,o + i * 3 + 2,none⟩ = some t /\ IsS w k u (digs B q.num.natAbs) /\ IsS w k t (digs B q.den):=by
  obtain ⟨ps,rfl,⟨A',c',e,h1,h2,h3⟩,h4⟩:=h
  injection e with e1 e2 e3
  subst e1; subst e2; subst e3
  rw [zB1] at hq
  cases hp : ps[i]? with
  | none => rw [hp] at hq; cases hq
  | some p =>
    rw [hp] at hq
    obtain rfl : p.1 = q:=by simpa using hq
    obtain ⟨g,o,e4,c0,c1,c2⟩:=h3 i p hp
    have h5:=h4 p (zA5 hp)
    exact ⟨g,o,p.2.1,p.2.2,e4,(zA4.1 hp).1,c0,c1,c2,h5.1,h5.2⟩
theorem zK {P : Program} {t e : TypeId} (hu : P.underlying t = some (.slice e)) (hs : (P.info? e).map (·.size) = some 3) {g o n c k : Nat} (hk : k < n) (w : World) : (Instr.indexAt t (.slice (some ⟨g,o,none⟩) n c) (.int .i64 (k : Int))).run P w = .ok (.pointer (some ⟨g,o + k * 3,none⟩)) w:=by
  cases hq : P.info? e with
  | none => simp [hq] at hs
  | some inf =>
    have hsz : inf.size = 3:=by simpa [hq] using hs
    simp [Instr.indexAt,asIntOf,go_sem,run_underlying hu,sizeOf,typeInfo,hq,hsz,hk]
theorem zT0 {P : Program} {t : TypeId} {g o : Nat} {x y z : Value} {d : TypeDesc} {w : World} (hu : P.underlying t = some d) (hd : d.isRow = true) (hi : (P.info? t).map (·.size) = some 3) (h0 : w.cell? ⟨g,o,none⟩ = some x) (h1 : w.cell? ⟨g,o + 1,none⟩ = some y) (h2 : w.cell? ⟨g,o + 2,none⟩ = some z) : (Instr.loadAt t (.pointer (some ⟨g,o,none⟩))).run P w = .ok (.agg #[x,y,z]) w :=
 run_loadAt_mid w g o t [x,y,z] d (fun j v hj => by
  match j,hj with
  | 0,hj => simp at hj; subst hj; exact h0
  | 1,hj => simp at hj; subst hj; exact h1
  | 2,hj => simp at hj; subst hj; exact h2
  | j + 3,hj => simp at hj) hu hd hi
def zD2 (T : TypeId) (w : World) (base : Nat) (v : Value) (ps : List Elt) : Prop:=w.ownsRow base T 3 v ps.length (zE6 ps)
theorem zD2.below {T : TypeId} {w w' : World} {base : Nat} {v : Value} {ps : List Elt} (h : zD2 T w base v ps) (hb : Below w.heap.size w w') : zD2 T w' base v ps :=
 World.ownsRow.kept (row:=none) h ⟨hb.os,hb.tape,hb.output,hb.size,fun i hi _ => hb.block i hi⟩ (by cases hv : v.ownBlock <;> simp)
theorem zD2.other {T : TypeId} {w w' : World} {base : Nat} {v : Value} {ps : List Elt} {row : Option Nat} (h : zD2 T w base v ps) (hg : w.grownBy w' row) (hne : ∀ g,v.ownBlock = some g -> row ≠ some g) : zD2 T w' base v ps :=
 World.ownsRow.kept (row:=row) h hg (by
  cases hv : v.ownBlock with
  | none => exact .inl rfl
  | some g => exact .inr fun e => hne g hv e.symm)
theorem zD2.under {T : TypeId} {w : World} {base : Nat} {v : Value} {ps : List Elt} (h : zD2 T w base v ps) : ∀ g,v.ownBlock = some g -> g < w.heap.size:=fun g hg => (World.ownsRow.lt h g hg).2
theorem zD2.base_le {T : TypeId} {w : World} {base : Nat} {v : Value} {ps : List Elt} (h : zD2 T w base v ps) : ∀ g,v.ownBlock = some g -> base <= g:=fun g hg => (World.ownsRow.lt h g hg).1
theorem zD2.isVF {T : TypeId} {w : World} {base : Nat} {v : Value} {ps : List Elt} (h : zD2 T w base v ps) : zM2 w v ps:=by
 rcases h.2 with ⟨rfl,h0⟩ | ⟨g,cap,cur,rfl,_,hg,hn,hm,_,_⟩
 ·obtain rfl : ps = []:=List.length_eq_zero_iff.1 h0
  exact ⟨none,0,rfl,by simp,by unfold maxLen; omega,fun i u hu => by simp at hu⟩
 ·refine ⟨_,cap,rfl,hn,hm,fun i p hp => ⟨g,0,rfl,?_⟩⟩
  have e : ∀ j,(⟨g,0,none⟩ : Addr).add j = ⟨g,0 + j,none⟩:=by
   intro j
   unfold Addr.add
   by_cases h : j = 0
   ·simp [h]
   ·simp [h]
  obtain ⟨f0,f1,f2⟩:=qI9 ps i p hp
  have k0:=World.ownsRow.cells h (g:=g) rfl _ _ f0
  have k1:=World.ownsRow.cells h (g:=g) rfl _ _ f1
  have k2:=World.ownsRow.cells h (g:=g) rfl _ _ f2
  rw [e] at k0 k1 k2
  exact ⟨k0,by rw [Nat.add_assoc]; exact k1,by rw [Nat.add_assoc]; exact k2⟩
theorem qO9 (T : TypeId) (w : World) (base : Nat) (hb : base <= w.heap.size) : zD2 T (w.alloc (.cells #[] T)) base (.slice (some ⟨w.heap.size,0,none⟩) 0 0) []:=by
 have h:=World.ownsRow_lit (e:=T) (size:=3) w #[] 0 hb (by simp) (by simp)
 simpa [zD2,zE6] using h
theorem yB3 (T : TypeId) (w : World) (base : Nat) : zD2 T w base (.slice none 0 0) []:=World.ownsRow_nil w base T 3
def zG5 (k : IntKind) (B : Nat) (w : World) (v : Value) (ps : List Elt) : Prop:=∀ p ∈ ps,IsE k B w p /\ Far v p.2.1 /\ Far v p.2.2
theorem zG5.nil (k : IntKind) (B : Nat) (w : World) (v : Value) : zG5 k B w v []:=fun p hp => by cases hp
theorem zG5.below {k : IntKind} {B : Nat} {w w' : World} {v : Value} {ps : List Elt} (h : zG5 k B w v ps) (hb : Below w.heap.size w w') : zG5 k B w' v ps:=fun p hp => ⟨(h p hp).1.below hb,(h p hp).2⟩
theorem zG5.snoc {k : IntKind} {B : Nat} {w w' : World} {v v' : Value} {ps : List Elt} {p : Elt} (h : zG5 k B w v ps) (hk : qG9 w w' v v') (hp : IsE k B w p) (f1 : Far v p.2.1) (f2 : Far v p.2.2) : zG5 k B w' v' (ps ++ [p]):=by
 intro r hr
 rcases List.mem_append.1 hr with hr | hr
 ·obtain ⟨⟨a1,a2⟩,b1,b2⟩:=h r hr
  have x1:=hk _ _ _ a1 b1
  have x2:=hk _ _ _ a2 b2
  exact ⟨⟨x1.1,x2.1⟩,x1.2,x2.2⟩
 ·obtain rfl:=List.mem_singleton.1 hr
  have x1:=hk _ _ _ hp.1 f1
  have x2:=hk _ _ _ hp.2 f2
  exact ⟨⟨x1.1,x2.1⟩,x1.2,x2.2⟩
theorem zD2.sl {T : TypeId} {k : IntKind} {B : Nat} {w : World} {base : Nat} {v : Value} {ps : List Elt} (h : zD2 T w base v ps) (hf : zG5 k B w v ps) : SlF k B w v (ps.map (·.1)):=⟨ps,rfl,h.isVF,fun p hp => (hf p hp).1⟩
section
variable {P : Program}
end
theorem zU8 : ∃ i,Tryz.prog.info? 83 = some i /\ i.zero = some (.agg #[.bool false,.slice none 0 0,.slice none 0 0]) /\ i.size = 3 /\ i.bytes = 56:=info_parts (P:=Tryz.prog) (e:=83) (z:=.agg #[.bool false,.slice none 0 0,.slice none 0 0]) (size:=3) (bytes:=56) (by kernel_rfl)
theorem qP : ∃ i,Tryz.prog.info? 65 = some i /\ i.zero = some (.agg #[.bool false,.slice none 0 0,.slice none 0 0]) /\ i.size = 3 /\ i.bytes = 56:=info_parts (P:=Tryz.prog) (e:=65) (z:=.agg #[.bool false,.slice none 0 0,.slice none 0 0]) (size:=3) (bytes:=56) (by kernel_rfl)
def zK0 (d : Nat) : Nat:=if d = 0 then 1 else d
theorem qJ (d : Nat) : zK0 d ≠ 0:=by unfold zK0; split <;> omega
theorem yB4 {d m : Nat} (h : (digs 4294967296 d).length <= m) (hm : 1 <= m) : (digs 4294967296 (zK0 d)).length <= m:=by
 unfold zK0
 split
 ·exact zB4 (zI0 (k:=1) (by omega) (by omega)) hm
 ·exact h
def qD8 (b : Bool) (l m : List Nat) (most : Nat) : Rat:=mkRat (zS9 b l most) (zK0 (zW5 m most))
theorem yT9 (b : Bool) (l m : List Nat) {most : Nat} (hm : 1 <= most) : zC7 (qD8 b l m most) most:=zR (qJ _) (yA7 _ _ _) (yB4 (qN2 _ _) hm)
theorem yU (b : Bool) (v u : Value) (l m : List Nat) (mI : Int) (most : Nat) (w : World) (hmI : mI = (most : Int)) (h0 : IsS w .u64 v l) (u0 : Lt 18446744073709551616 l) (h1 : IsS w .u64 u m) (u1 : Lt 18446744073709551616 m) (hmost : most <= 1000) (hm1 : 1 <= most) :
  Calls Tryz.prog 51 #[.agg #[.bool b,v,u],.int .i64 mI] w (RetQ (qD8 b l m most) w):=by
 obtain ⟨A0,c0,rfl,_⟩:=id h0
 obtain ⟨D0,e0,rfl,_⟩:=id h1
 have HM:=Lib.hid hmI
 clear hmI
 obtain ⟨y,hy⟩ : ∃ y,y = zW5 m most:=⟨_,rfl⟩
 have my : (digs 4294967296 y).length <= most:=by rw [hy]; exact qN2 _ _
 have HY:=Lib.hid hy.symm
 obtain ⟨x,hx⟩ : ∃ x,x = zS9 b l most:=⟨_,rfl⟩
 have lx : zC1 x <= most:=by rw [hx]; exact yA7 _ _ _
 have HX:=Lib.hid hx.symm
 have HQ : Hid (qD8 b l m most = mkRat x (zK0 y)):=by show _ = _; unfold qD8; rw [hx,hy]
 clear hx hy
 go_enter Tryz.func51,Tryz.ntmps51
 go_upto_region 1 with (fail)
 obtain ⟨wx,hwx,bb,B0,B1,hsz⟩:=zI8 w 83 83 #[.bool b,.slice A0 l.length c0,.slice D0 m.length e0] #[.bool false,.slice none 0 0,.slice none 0 0]
 rw [hwx]
 clear hwx
 have k0s:=h0.below bb
 have k0d:=h1.below bb
 obtain ⟨x00,x01,x02,_,_,_⟩:=three B0
 have hs0:=bb.size
 go_wp2_with fail
 refine (HY.out ▸ qW6 _ m _ most _ HM.out k0d u1 (zB4 hmost (by decide))).mono ?_
 rintro e w1 ⟨v1,rfl,k1,f1,b1⟩
 obtain ⟨A1,c1,rfl,_⟩:=id k1
 replace B0:=B0.below b1
 replace B1:=B1.below b1
 replace k0s:=k0s.below b1
 replace bb:=bb.trans (b1.mono bb.size)
 have hs1:=bb.size
 clear x00 x01 x02 k0d
 have HL1 : Hid (zC1 x <= 30000):=zB4 lx (by omega)
 have HL2 : Hid ((digs 4294967296 (zK0 y)).length <= 30000):=zB4 (yB4 my (by omega)) (by omega)
 have HLQ : Hid (zC7 (mkRat x (zK0 y)) 30000):=zR (qJ y) HL1.out HL2.out
 by_cases hy0 : y = 0
 ·have HZ : Hid ((digs 4294967296 y).length = 0):=by show _ = _; rw [hy0,zH1]; rfl
  have HO : Hid (digs 4294967296 (zK0 y) = [1]):=by show _ = _; rw [hy0]; exact digs_one 1 (by omega) (by omega)
  have hz0 : (digs 4294967296 y).length = 0:=HZ.out
  clear hy0
  have bA:=zC8 (zB3 w1.heap.size) (.cells #[.int .u64 1] 98)
  have k1o:=(qU3 w1 w1.heap.size 98 .u64 (show (1 : Int) = ((1 : Nat) : Int) from rfl) (zB3 _)).isS
  rw [<- HO.out] at k1o
  replace k0s:=k0s.below bA
  obtain ⟨x10,x11,x12,_,_,_⟩:=three (B0.below bA)
  replace B1:=B1.below bA
  replace bb:=bb.trans (bA.mono bb.size)
  have hs2:=bb.size
  clear k1 f1
  go_wp2_with fail
  refine (HX.out ▸ yA8 b _ l _ most _ HM.out k0s u0 (zB4 hmost (by decide))).mono ?_
  rintro e w2 ⟨v2,rfl,k2,f2,b2⟩
  replace B1:=B1.below b2
  replace k1o:=k1o.below b2
  replace bb:=bb.trans (b2.mono bb.size)
  have hs3:=bb.size
  go_wp2_with fail
  refine (yA1 _ x _ k2 HL1.out).mono ?_
  rintro e w3 ⟨v3,rfl,k3,b3⟩
  replace B1:=B1.below b3
  replace k1o:=k1o.below b3
  replace bb:=bb.trans (b3.mono bb.size)
  have hs4:=bb.size
  go_wp2_with fail
  refine (qB5 _ (zK0 y) _ k1o (zB4 HL2.out (by decide))).mono ?_
  rintro e w4 ⟨v4,rfl,k4,f4,b4⟩
  replace B1:=B1.below b4
  replace k3:=k3.below b4
  replace bb:=bb.trans (b4.mono bb.size)
  have hs5:=bb.size
  go_wp2_with fail
  refine (qI8 _ x _ (zK0 y) _ k3 k4 (qJ y) HL1.out HL2.out).mono ?_
  rintro e w5 ⟨v5,rfl,k5,f5,b5⟩
  replace B1:=B1.below b5
  replace bb:=bb.trans (b5.mono bb.size)
  have hs6:=bb.size
  have hg5:=B1.lt
  go_wp2_with fail
  refine (yB1 _ _ _ k5 HLQ.out).mono ?_
  rintro e w6 ⟨v6,rfl,⟨u6,t6,rfl,k6,d6⟩,f6,b6⟩
  obtain ⟨A6,c6,rfl,_⟩:=id k6
  obtain ⟨D6,e6,rfl,_⟩:=id d6
  replace B1:=B1.below b6
  replace bb:=bb.trans (b6.mono bb.size)
  obtain ⟨y0,y1,y2,z0,z1,z2⟩:=three B1
  go_wp2
  exact bodyPost_ret (v:=.agg #[.bool (ngB (mkRat x (zK0 y)).num),.slice A6 (digs 4294967296 (mkRat x (zK0 y)).num.natAbs).length c6,.slice D6 (digs 4294967296 (mkRat x (zK0 y)).den).length e6]) (by simp [results,Tryz.results51,go_sem,y0,y1,y2]) rfl (by rw [HQ.out]; exact endQ bb (by omega) hg5 k6 d6 f6)
 ·have HZ : 0 < (digs 4294967296 y).length:=qC3 (by omega)
  have HO : Hid (zK0 y = y):=if_neg hy0
  clear hy0
  obtain ⟨x10,x11,x12,_,_,_⟩:=three B0
  have k1o : IsS w1 .u64 (.slice A1 (digs 4294967296 y).length c1) (digs 4294967296 (zK0 y)):=by rw [HO.out]; exact k1
  go_wp2_with fail
  refine (HX.out ▸ yA8 b _ l _ most _ HM.out k0s u0 (zB4 hmost (by decide))).mono ?_
  rintro e w2 ⟨v2,rfl,k2,f2,b2⟩
  replace B1:=B1.below b2
  replace k1o:=k1o.below b2
  replace bb:=bb.trans (b2.mono bb.size)
  have hs3:=bb.size
  go_wp2_with fail
  refine (yA1 _ x _ k2 HL1.out).mono ?_
  rintro e w3 ⟨v3,rfl,k3,b3⟩
  replace B1:=B1.below b3
  replace k1o:=k1o.below b3
  replace bb:=bb.trans (b3.mono bb.size)
  have hs4:=bb.size
  go_wp2_with fail
  refine (qB5 _ (zK0 y) _ k1o (zB4 HL2.out (by decide))).mono ?_
  rintro e w4 ⟨v4,rfl,k4,f4,b4⟩
  replace B1:=B1.below b4
  replace k3:=k3.below b4
  replace bb:=bb.trans (b4.mono bb.size)
  have hs5:=bb.size
  go_wp2_with fail
  refine (qI8 _ x _ (zK0 y) _ k3 k4 (qJ y) HL1.out HL2.out).mono ?_
  rintro e w5 ⟨v5,rfl,k5,f5,b5⟩
  replace B1:=B1.below b5
  replace bb:=bb.trans (b5.mono bb.size)
  have hs6:=bb.size
  have hg5:=B1.lt
  go_wp2_with fail
  refine (yB1 _ _ _ k5 HLQ.out).mono ?_
  rintro e w6 ⟨v6,rfl,⟨u6,t6,rfl,k6,d6⟩,f6,b6⟩
  obtain ⟨A6,c6,rfl,_⟩:=id k6
  obtain ⟨D6,e6,rfl,_⟩:=id d6
  replace B1:=B1.below b6
  replace bb:=bb.trans (b6.mono bb.size)
  obtain ⟨y0,y1,y2,z0,z1,z2⟩:=three B1
  go_wp2
  exact bodyPost_ret (v:=.agg #[.bool (ngB (mkRat x (zK0 y)).num),.slice A6 (digs 4294967296 (mkRat x (zK0 y)).num.natAbs).length c6,.slice D6 (digs 4294967296 (mkRat x (zK0 y)).den).length e6]) (by simp [results,Tryz.results51,go_sem,y0,y1,y2]) rfl (by rw [HQ.out]; exact endQ bb (by omega) hg5 k6 d6 f6)
theorem qJ0 (z : Int) {d : Nat} (hd : d ≠ 0) : (mkRat z d).num = z / ((z.natAbs.gcd d : Nat) : Int):=by
 rw [Rat.num_mkRat,if_neg hd,Nat.gcd_comm]
theorem qP0 (z : Int) {d : Nat} (hd : d ≠ 0) : z = (mkRat z d).num * ((z.natAbs.gcd d : Nat) : Int):=by
 rw [qJ0 z hd,Int.ediv_mul_cancel (Int.ofNat_dvd_left.2 (Nat.gcd_dvd_left _ _))]
theorem yB5 (z : Int) {d : Nat} (hd : d ≠ 0) : d = (mkRat z d).den * (z.natAbs.gcd d):=by
 rw [zU6 z hd,Nat.div_mul_cancel (Nat.gcd_dvd_right _ _)]
theorem yU0 {q : Rat} {n : Int} {d : Nat} (hd : d ≠ 0) (h : q = mkRat n d) (hc : Nat.gcd n.natAbs d = 1) : q.num = n /\ q.den = d:=by
 subst h
 constructor
 ·rw [qJ0 n hd,hc]; exact Int.ediv_one n
 ·rw [zU6 n hd,hc,Nat.div_one]
theorem yU1 (x y : Rat) : (x * y).num = (mkRat x.num y.den).num * (mkRat y.num x.den).num /\ (x * y).den = (mkRat y.num x.den).den * (mkRat x.num y.den).den:=by
 have e1:=qP0 x.num y.den_nz
 have e2:=yB5 x.num y.den_nz
 have e3:=qP0 y.num x.den_nz
 have e4:=yB5 y.num x.den_nz
 have r1:=(mkRat x.num y.den).reduced
 have r2:=(mkRat y.num x.den).reduced
 have n1:=(mkRat x.num y.den).den_nz
 have n2:=(mkRat y.num x.den).den_nz
 have x1:=x.reduced
 have y1:=y.reduced
 refine yU0 (Nat.mul_ne_zero n2 n1) ?_ ?_
 ·rw [Nat.mul_comm,<- Rat.mkRat_mul_mkRat,Rat.mkRat_self,Rat.mkRat_self,Rat.mkRat_mul_mkRat,Nat.mul_comm y.den,Rat.mul_def']
 ·have d1 : (mkRat x.num y.den).num.natAbs ∣ x.num.natAbs:=Int.natAbs_dvd_natAbs.2 ⟨_,e1⟩
  have d2 : (mkRat y.num x.den).den ∣ x.den:=⟨_,e4⟩
  have d3 : (mkRat y.num x.den).num.natAbs ∣ y.num.natAbs:=Int.natAbs_dvd_natAbs.2 ⟨_,e3⟩
  have d4 : (mkRat x.num y.den).den ∣ y.den:=⟨_,e2⟩
  rw [Int.natAbs_mul]
  have c1 : Nat.Coprime (mkRat x.num y.den).num.natAbs (mkRat y.num x.den).den:=Nat.Coprime.coprime_dvd_left d1 (Nat.Coprime.coprime_dvd_right d2 x1)
  have c2 : Nat.Coprime (mkRat y.num x.den).num.natAbs (mkRat x.num y.den).den:=Nat.Coprime.coprime_dvd_left d3 (Nat.Coprime.coprime_dvd_right d4 y1)
  exact (Nat.Coprime.mul_right c1 r1).mul_left (Nat.Coprime.mul_right r2 c2)
theorem yU2 (x y : Rat) {g a b : Nat} (hg : g = x.den.gcd y.den) (ha : a = x.den / g) (hb : b = y.den / g) : (x + y).num = (mkRat (x.num * (b : Int) + y.num * (a : Int)) g).num /\ (x + y).den = a * b * (mkRat (x.num * (b : Int) + y.num * (a : Int)) g).den:=by
 have gp : 0 < g:=by rw [hg]; exact Nat.gcd_pos_of_pos_left _ x.den_pos
 have haux:=Rat.add.aux x y hg ha hb
 have e1 : x.den = a * g:=by rw [ha,Nat.div_mul_cancel (by rw [hg]; exact Nat.gcd_dvd_left _ _)]
 have e2 : y.den = b * g:=by rw [hb,Nat.div_mul_cancel (by rw [hg]; exact Nat.gcd_dvd_right _ _)]
 obtain ⟨S,hS⟩ : ∃ S,S = x.num * (b : Int) + y.num * (a : Int):=⟨_,rfl⟩
 rw [<- hS]
 have haux : S.natAbs.gcd g = S.natAbs.gcd (a * y.den):=by rw [hS]; exact haux
 have e3 : x + y = mkRat S (a * y.den):=by
  rw [Rat.add_def',show x.num * (y.den : Int) + y.num * (x.den : Int) = S * (g : Int) by rw [hS,e1,e2,Int.natCast_mul,Int.natCast_mul,Int.add_mul,Int.mul_assoc,Int.mul_assoc],show x.den * y.den = a * y.den * g by rw [e1]; rw [zB5,Nat.mul_comm g,<- zB5],Rat.mkRat_mul_right (by omega)]
 have ne : a * y.den ≠ 0:=Nat.mul_ne_zero (fun e => x.den_nz (by rw [e1,e,Nat.zero_mul])) y.den_nz
 rw [e3]
 constructor
 ·rw [qJ0 S ne,qJ0 S (by omega),haux]
 ·rw [zU6 S ne,zU6 S (by omega),<- haux,e2,<- zB5,Nat.mul_div_assoc _ (Nat.gcd_dvd_right _ _)]
theorem yU3 (n : Int) (d : Nat) (hd : d ≠ 0) : mkRat (-n) d = -mkRat n d:=Rat.neg_mkRat n d |>.symm
theorem yU4 {x y : Rat} : x = y ↔ x.num = y.num /\ x.den = y.den:=⟨fun h => by rw [h]; exact ⟨rfl,rfl⟩,fun h => Rat.ext h.1 h.2⟩
def zU9 (z : Int) (d : Nat) (w : World) (e : Ending) (w' : World) : Prop:=∃ v u,e = .returned (.tuple #[v,u]) /\ IsZ w' v z /\ IsS w' .u64 u (digs 4294967296 d) /\ zP w.heap.size v /\ zD7 w.heap.size u /\ Below w.heap.size w w'
def pzs (z : Int) (d : Nat) (B : Nat) : Pd:=⟨fun w t => ∃ v u,t = .tuple #[v,u] /\ IsZ w v z /\ IsS w .u64 u (digs 4294967296 d) /\ zP B v /\ zD7 B u,fun h hb => by obtain ⟨v,u,e,h1,h2,h3,h4⟩:=h; exact ⟨v,u,e,h1.below hb,h2.below hb,h3,h4⟩⟩
theorem zU9.pd {z : Int} {d : Nat} {w : World} {e : Ending} {w' : World} {B : Nat} (h : zU9 z d w e w') (hB : B <= w.heap.size) : zI7 (pzs z d B) w e w':=by
 obtain ⟨v,u,h1,h2,h3,h4,h5,h6⟩:=h
 exact ⟨_,h1,⟨v,u,rfl,h2,h3,h4.mono hB,h5.mono hB⟩,h6⟩
def zT1 (q : Rat) (n : Int) (w : World) (e : Ending) (w' : World) : Prop:=∃ v,e = .returned (.tuple #[v,.int .i64 n]) /\ IsQ w' v q /\ zP9 w.heap.size v /\ Below w.heap.size w w'
def pqf (q : Rat) (n : Int) (B : Nat) : Pd:=⟨fun w t => ∃ v,t = .tuple #[v,.int .i64 n] /\ IsQ w v q /\ zP9 B v,fun h hb => by obtain ⟨v,e,h1,h2⟩:=h; exact ⟨v,e,h1.below hb,h2⟩⟩
theorem zT1.pd {q : Rat} {n : Int} {w : World} {e : Ending} {w' : World} {B : Nat} (h : zT1 q n w e w') (hB : B <= w.heap.size) : zI7 (pqf q n B) w e w':=by
 obtain ⟨v,h1,h2,h3,h4⟩:=h
 exact ⟨_,h1,⟨v,rfl,h2,h3.mono hB⟩,h4⟩
theorem zT1.e {q : Rat} {n : Int} {w : World} {e : Ending} {w' : World} (h : zT1 q n w e w') : qD1 q n w e w':=by
 obtain ⟨v,h1,h2,_,h4⟩:=h
 exact ⟨v,h1,h2,h4⟩
theorem zE2.to {x y : Int} {w : World} {e : Ending} {w' : World} (h : zE2 x w e w') (k : x = y) : zE2 y w e w':=k ▸ h
theorem zD1.to {l m : List Nat} {w : World} {e : Ending} {w' : World} (h : zD1 .u64 l w e w') (k : l = m) : zD1 .u64 m w e w':=k ▸ h
theorem RetQ.to {x y : Rat} {w : World} {e : Ending} {w' : World} (h : RetQ x w e w') (k : x = y) : RetQ y w e w':=k ▸ h
def pbq (b : Bool) (S : Value) (l : List Nat) (B : Nat) : Pd:=⟨fun w v => ∃ A c,v = .agg #[.bool b,S,.slice A l.length c] /\ IsS w .u64 (.slice A l.length c) l /\ zD7 B (.slice A l.length c),fun h hb => by obtain ⟨A,c,e,h1,h2⟩:=h; exact ⟨A,c,e,h1.below hb,h2⟩⟩
theorem yU5 (a0 : Value) (x : Nat) (w : World) (h0 : IsS w .u64 a0 (digs 4294967296 x)) :
  Calls Tryz.prog 149 #[a0] w (zD8 (.agg #[.bool false,a0]) w):=by
 have s0:=h0
 obtain ⟨A0,c0,rfl,_⟩:=id s0
 go_enter Tryz.func149,Tryz.ntmps149
 go_upto_region 1 with (fail)
 obtain ⟨wx,hwx,bb,BR0,hsz⟩:=zN8 w 60 #[.bool false,.slice none 0 0]
 rw [hwx]
 clear hwx
 have k0:=s0.below bb
 have hsz0:=bb.size
 have sB:=bb.size
 refine zC9 2 [Pd.eq (.slice A0 (digs 4294967296 x).length c0),Pd.eq (.agg #[.bool false,.slice A0 (digs 4294967296 x).length c0])] (by kernel_rfl) ?ob1 ?done1
 case ob1 =>
  refine zA (zC2 rfl (zB6 rfl) (zB8 rfl rfl) (fun _ _ h => h)) ?_
  refine zA (yS rfl (zB6 rfl) (zB7 (j:=0) (by kernel_rfl) rfl rfl) (fun w2 u hb hu => by obtain rfl:=hu; exact ⟨.agg #[.bool false,.slice A0 (digs 4294967296 x).length c0],by kernel_rfl,rfl⟩)) ?_
  trivial
 case done1 =>
  refine fun w1 hb1 v0 h0 v1 h1 b hbf => ?_
  obtain rfl:=h0; obtain rfl:=h1
  simp only [Act.put,zA0,zA2,zA1] at hbf
  subst hbf
  replace BR0:=BR0.below hb1
  replace k0:=k0.below hb1
  replace bb:=bb.trans (hb1.mono bb.size)
  have hsz1:=bb.size
  refine zG8 (i:=2) rfl rfl rfl rfl rfl rfl (cells:=[.bool false,.slice A0 (digs 4294967296 x).length c0]) rfl BR0 rfl (by kernel_rfl) (zH8 rfl rfl) fun w9 hg9 B9 => ?_
  have bb9:=bb.trans ((Below.refl _ _).grown hg9 bb.size (fun g hg => by injection hg with hg; omega))
  obtain ⟨C0,C1,_,_⟩:=Blk.two B9
  refine zD ?_
  go_wp2
  exact bodyPost_ret (v:=.agg #[.bool false,.slice A0 (digs 4294967296 x).length c0]) (by simp [results,Tryz.results149,go_sem,C0,C1]) rfl ⟨rfl,bb9⟩
theorem qD9 (a0 : Value) (x : Nat) (w : World) (h0 : IsS w .u64 a0 (digs 4294967296 x)) : Calls Tryz.prog 149 #[a0] w (zI7 (pi ((x : Nat) : Int)) w) :=
 (yU5 a0 x w h0).mono fun e w' h => ⟨_,h.1,zF4 (h0.below h.2) (Int.natAbs_natCast _) (qO1 (by omega)).symm,h.2⟩
theorem qP1 (a0 : Value) (x : Nat) (a1 : Value) (y : Nat) (w : World) (h0 : IsS w .u64 a0 (digs 4294967296 x)) (h1 : IsS w .u64 a1 (digs 4294967296 y)) (hl : (digs 4294967296 x).length <= 100000) (hl2 : (digs 4294967296 y).length <= 100000) :
  Calls Tryz.prog 152 #[a0,a1] w (zD1 .u64 (digs 4294967296 (x * y)) w):=by
 have s0:=h0
 obtain ⟨A0,c0,rfl,_⟩:=id s0
 have s1:=h1
 obtain ⟨A1,c1,rfl,_⟩:=id s1
 have bb : Below w.heap.size w w:=Below.refl _ _
 have HM : Hid (((x * y : Nat) : Int) = ((x : Nat) : Int) * ((y : Nat) : Int)):=Int.natCast_mul x y
 have HL1 : Hid (zC1 ((x : Nat) : Int) <= 100000):=by show _ <= _; rw [zP8]; omega
 have HL2 : Hid (zC1 ((y : Nat) : Int) <= 100000):=by show _ <= _; rw [zP8]; omega
 go_enter Tryz.func152,Tryz.ntmps152
 go_upto_region 1 with (fail)
 have k0:=s0.below bb
 have k1:=s1.below bb
 have hsz0:=bb.size
 have sB:=bb.size
 refine zC9 7 [Pd.eq (.slice A0 (digs 4294967296 x).length c0),pi (((x : Nat) : Int)),Pd.eq (.slice A1 (digs 4294967296 y).length c1),pi (((y : Nat) : Int)),pz (((x * y : Nat) : Int)) w.heap.size,ps .u64 (digs 4294967296 (x * y)) w.heap.size,ps .u64 (digs 4294967296 (x * y)) w.heap.size] (by kernel_rfl) ?ob2 ?done2
 case ob2 =>
  refine zA (zC2 rfl (zB6 rfl) (zB8 rfl rfl) (fun _ _ h => h)) ?_
  refine zA (zF rfl Tryz.func149 (by kernel_rfl) (zB6 rfl) (zB7 (j:=0) (by kernel_rfl) rfl rfl) (fun w2 u0 hb h0 => by obtain rfl:=h0; exact qD9 _ (x) _ (k0.below hb))) ?_
  refine zA (zC2 rfl (zB6 rfl) (zB8 rfl rfl) (fun _ _ h => h)) ?_
  refine zA (zF rfl Tryz.func149 (by kernel_rfl) (zB6 rfl) (zB7 (j:=2) (by kernel_rfl) rfl rfl) (fun w2 u0 hb h0 => by obtain rfl:=h0; exact qD9 _ (y) _ (k1.below hb))) ?_
  refine zA (zD4 rfl Tryz.func56 (by kernel_rfl) (zB6 rfl) (zB7 (j:=1) (by kernel_rfl) rfl rfl) (zB7 (j:=3) (by kernel_rfl) rfl rfl) (fun w2 u0 u1 hb h0 h1 => by exact (zX2 _ _ _ _ _ _ h0 h1 HL1.out HL2.out HM.out).mono fun e w3 h => zE2.pd h hb.size)) ?_
  refine zA (yT6 rfl (zB6 rfl) (zB7 (j:=4) (by kernel_rfl) rfl rfl) (fun w2 u hu => by obtain ⟨⟨u',rfl,q'⟩,f'⟩:=hu; exact ⟨u',by kernel_rfl,q',f' _ _ rfl⟩)) ?_
  refine zA (zE8 rfl (zB6 rfl) (zB7 (j:=5) (by kernel_rfl) rfl rfl) (fun _ _ h => h)) ?_
  trivial
 case done2 =>
  refine fun w1 hb1 v0 h0 v1 h1 v2 h2 v3 h3 v4 h4 v5 h5 v6 h6 b hbf => ?_
  obtain rfl:=h0; obtain rfl:=h2
  have q1:=h1
  have q3:=h3
  obtain ⟨q4,f4⟩:=h4
  obtain ⟨q5,f5⟩:=h5
  obtain ⟨q6,f6⟩:=h6
  simp only [Act.put,zA0,zA2,zA1] at hbf
  subst hbf
  replace k0:=k0.below hb1
  replace k1:=k1.below hb1
  replace bb:=bb.trans (hb1.mono bb.size)
  have hsz1:=bb.size
  have s_4:=sB
  have s_5:=sB
  have s_6:=sB
  refine zD ?_
  go_wp2
  go_ret
  exact ⟨_,rfl,q6,f6.mono s_6,bb⟩
theorem qE (a0 : Value) (z : Int) (a1 : Value) (d : Nat) (U : Int) (L : Nat) (w : World) (h0 : IsZ w a0 z) (h1 : IsS w .u64 a1 (digs 4294967296 d)) (hd : d ≠ 0) (hl : zC1 z <= 20000) (hl2 : (digs 4294967296 d).length <= 20000) (hU : U = (mkRat z d).num) (hL : L = (mkRat z d).den) :
  Calls Tryz.prog 120 #[a0,a1] w (zU9 U L w):=by
 obtain ⟨u0,rfl,s0⟩:=h0
 obtain ⟨A0,c0,rfl,_⟩:=id s0
 have s1:=h1
 obtain ⟨A1,c1,rfl,_⟩:=id s1
 obtain ⟨G,hG⟩ : ∃ G,G = Nat.gcd z.natAbs d:=⟨_,rfl⟩
 have hGp : 0 < G:=by rw [hG]; exact Nat.gcd_pos_of_pos_right _ (by omega)
 have hGd : G <= d:=by rw [hG]; exact Nat.le_of_dvd (by omega) (Nat.gcd_dvd_right _ _)
 have HL1 : Hid ((digs 4294967296 z.natAbs).length <= 90000):=zB4 hl (by decide)
 have HL2 : Hid ((digs 4294967296 d).length <= 90000):=zB4 hl2 (by decide)
 have HL3 : Hid (zC1 ((G : Nat) : Int) <= 20000):=by show _ <= _; rw [zP8]; exact zB4 (zF7 (by omega) hGd) hl2
 have HL4 : Hid ((digs 4294967296 G).length <= 90000):=zB4 (zF7 (by omega) hGd) HL2.out
 have HG : Hid (zM9 [z.natAbs,d] = G):=by show _ = _; rw [hG]; simp [zM9]
 have HU : Hid (z = U * ((G : Nat) : Int)):=by show _ = _; rw [hU,hG]; exact qP0 z hd
 have HM : Hid (d % G = 0):=by show _ = _; rw [hG]; exact Nat.mod_eq_zero_of_dvd (Nat.gcd_dvd_right _ _)
 have HQ : Hid (L = d / G):=by show _ = _; rw [hL,hG]; exact zU6 z hd
 have HN : Hid (((G : Nat) : Int) ≠ 0):=by show _ ≠ _; omega
 clear hG hU hL hGd
 go_enter Tryz.func120,Tryz.ntmps120
 go_upto_region 1 with (fail)
 obtain ⟨wx,hwx,bb,B0,BR0,hsz⟩:=zI8 w 60 60 #[.bool (ngB z),.slice A0 (digs 4294967296 (z).natAbs).length c0] #[.bool false,.slice none 0 0]
 rw [hwx]
 clear hwx
 have k0s:=s0.below bb
 have k0 : IsZ wx (.agg #[.bool (ngB z),.slice A0 (digs 4294967296 (z).natAbs).length c0]) (z):=zF4 k0s rfl rfl
 have k1:=s1.below bb
 have hsz0:=bb.size
 obtain ⟨x00,x01,_,_⟩:=Blk.two B0
 go_wp2_with fail
 have hbA:=zC8 (zB3 wx.heap.size) (.cells #[.slice A0 (digs 4294967296 (z).natAbs).length c0,.slice A1 (digs 4294967296 d).length c1] 50)
 refine (qO7 _ [_,_] [z.natAbs,d] _ (zQ7 wx 50 [_,_]) (qG5 (k0s.below hbA) (k1.below hbA)) (by simp) (by intro q hq; simp at hq; rcases hq with rfl | rfl; exact HL1.out; exact HL2.out)).mono ?_
 rintro e w1 ⟨v1,rfl,kg,kgf,b1⟩
 have hb1:=hbA.trans (b1.mono hbA.size)
 rw [HG.out] at kg
 clear x00 x01
 replace B0:=B0.below hb1
 replace k0s:=k0s.below hb1
 replace k0:=k0.below hb1
 replace BR0:=BR0.below hb1
 replace k1:=k1.below hb1
 replace bb:=bb.trans (hb1.mono bb.size)
 have hsz1:=bb.size
 obtain ⟨Akg,ckg,rfl,_⟩:=id kg
 have sB:=bb.size
 go_upto_region 2 with (fail)
 have lt1_2:=Blk.lt B0
 have lt1_4:=Blk.lt BR0
 refine flowl 8 [Pd.eq (.agg #[.bool (ngB z),.slice A0 (digs 4294967296 (z).natAbs).length c0]),Pd.eq (.slice Akg (digs 4294967296 G).length ckg),pi (((G : Nat) : Int)),pze (U) 0 w1.heap.size,pze (U) 0 w1.heap.size,pz (U) w1.heap.size,Pd.eq (.int .i64 0),pn 60 #[.bool false,.slice none 0 0] w1.heap.size] (by kernel_rfl) 6 rfl (by kernel_rfl) (fun _ _ _ _ h => h) (yT1 rfl rfl (zB7 (j:=4) (by kernel_rfl) rfl rfl) (fun w2 u hu => by obtain ⟨v,rfl,q1,q2⟩:=hu; exact ⟨_,fun _ => rfl,rfl⟩)) ?ob3 ?done3
 case ob3 =>
  refine zA (zC rfl (zB6 rfl) (zB8 rfl rfl) (fun w2 hb => zF8 Tryz.underlying60 rfl (by kernel_rfl) (B0.drew.below hb)) (fun _ _ => rfl)) ?_
  refine zA (zC2 rfl (zB6 rfl) (zB8 rfl rfl) (fun _ _ h => h)) ?_
  refine zA (zF rfl Tryz.func149 (by kernel_rfl) (zB6 rfl) (zB7 (j:=1) (by kernel_rfl) rfl rfl) (fun w2 u0 hb h0 => by obtain rfl:=h0; exact qD9 _ (G) _ (kg.drew.below hb))) ?_
  refine zA (zD4 rfl Tryz.func148 (by kernel_rfl) (zB6 rfl) (zB7 (j:=0) (by kernel_rfl) rfl rfl) (zB7 (j:=2) (by kernel_rfl) rfl rfl) (fun w2 u0 u1 hb h0 h1 => by obtain rfl:=h0; exact (yA9 _ z _ _ U _ (k0.drew.below hb) h1 hl HL3.out HN.out HU.out).mono fun e w3 h => qD.pd h hb.size)) ?_
  refine zA (zC2 rfl (zB6 rfl) (zB7 (j:=3) (by kernel_rfl) rfl rfl) (fun _ _ h => h)) ?_
  refine zA (zG7 rfl (zB6 rfl) (zB7 (j:=4) (by kernel_rfl) rfl rfl) (fun w2 u hu => by obtain ⟨v,rfl,q1,q2⟩:=hu; exact ⟨v,rfl,q1,q2⟩)) ?_
  refine zA (zG7 rfl (zB6 rfl) (zB7 (j:=4) (by kernel_rfl) rfl rfl) (fun w2 u hu => by obtain ⟨v,rfl,q1,q2⟩:=hu; exact ⟨_,rfl,rfl⟩)) ?_
  refine zA (zN6 (z:=.agg #[.bool false,.slice none 0 0]) rfl rfl (fun _ => by kernel_rfl) (fun _ _ hB h => ⟨_,rfl,hB,h⟩)) ?_
  trivial
 case done3 =>
  refine fun w2 hb2 v0 h0 v1 h1 v2 h2 v3 h3 v4 h4 v5 h5 v6 h6 v7 h7 d7 b hbf => ?_
  obtain rfl:=h0; obtain rfl:=h1; obtain rfl:=h6
  have q2:=h2
  clear h3
  clear h4
  obtain ⟨q5,f5⟩:=h5
  obtain ⟨g3_7,rfl,hg7,B7⟩:=h7
  simp only [Act.put,zA0,zA2,zA1] at hbf
  subst hbf
  replace B0:=B0.below hb2
  replace k0s:=k0s.below hb2
  replace k0:=k0.below hb2
  replace BR0:=BR0.below hb2
  replace k1:=k1.below hb2
  replace kg:=kg.below hb2
  replace bb:=bb.trans (hb2.mono bb.size)
  have hsz2:=bb.size
  have s_5:=sB
  have BA7:=B7
  obtain ⟨u5,rfl,q5⟩:=q5
  obtain ⟨A7,c7,rfl,_⟩:=id q5
  refine zK4 (i:=8) (by kernel_rfl) rfl rfl rfl rfl rfl rfl (cells:=[.bool (ngB U),.slice A7 (digs 4294967296 (U).natAbs).length c7]) rfl BA7 rfl (by kernel_rfl) (zH8 rfl rfl) fun w3 hg3 BN3 => ?_
  replace q5:=off q5 BA7 no_ints2 hg3
  replace k1:=off k1 BA7 no_ints2 hg3
  replace kg:=off kg BA7 no_ints2 hg3
  replace k0s:=off k0s BA7 no_ints2 hg3
  replace k0 : IsZ w3 (.agg #[.bool (ngB z),.slice A0 (digs 4294967296 (z).natAbs).length c0]) (z):=⟨_,rfl,k0s⟩
  replace B0:=B0.grown hg3 (by omega)
  replace BR0:=BR0.grown hg3 (by omega)
  replace bb:=bb.trans ((Below.refl _ _).grown hg3 bb.size (fun g hg => by injection hg with hg; omega))
  have hsz3:=bb.size
  have B7 : Blk w3 (g3_7) _ _:=BN3
  have k7s:=q5
  have k7 : IsZ w3 (.agg #[.bool (ngB U),.slice A7 (digs 4294967296 (U).natAbs).length c7]) (U):=⟨_,rfl,k7s⟩
  refine qH8 (i:=9) (.int .i64 0) (by kernel_rfl) rfl rfl rfl rfl rfl fun b hbf => ?_
  simp only [Act.put,zA0,zA2,zA1] at hbf
  subst hbf
  refine zI2 (by kernel_rfl) ?_
  have f7_:=(f5 _ _ rfl).mono s_5
  have sB:=bb.size
  go_upto_region 3 with (fail)
  refine zC9 8 [Pd.eq (.slice A1 (digs 4294967296 d).length c1),Pd.eq (.slice Akg (digs 4294967296 G).length ckg),pt .u64 (digs 4294967296 L) 0 w3.heap.size,pt .u64 (digs 4294967296 L) 0 w3.heap.size,ps .u64 (digs 4294967296 L) w3.heap.size,Pd.eq (.int .i64 0),ps .u64 (digs 4294967296 L) w3.heap.size,Pd.eq (.int .i64 0)] (by kernel_rfl) ?ob4 ?done4
  case ob4 =>
   refine zA (zC2 rfl (zB6 rfl) (zB8 rfl rfl) (fun _ _ h => h)) ?_
   refine zA (zC2 rfl (zB6 rfl) (zB8 rfl rfl) (fun _ _ h => h)) ?_
   refine zA (zD4 rfl Tryz.func55 (by kernel_rfl) (zB6 rfl) (zB7 (j:=0) (by kernel_rfl) rfl rfl) (zB7 (j:=1) (by kernel_rfl) rfl rfl) (fun w2 u0 u1 hb h0 h1 => by obtain rfl:=h0; obtain rfl:=h1; exact (zZ0 _ _ d G _ (k1.below hb) (kg.below hb) HL2.out HL4.out hGp L HM.out HQ.out).mono fun e w3 h => zN3.pd h hb.size)) ?_
   refine zA (zC2 rfl (zB6 rfl) (zB7 (j:=2) (by kernel_rfl) rfl rfl) (fun _ _ h => h)) ?_
   refine zA (zG7 rfl (zB6 rfl) (zB7 (j:=3) (by kernel_rfl) rfl rfl) (fun w2 u hu => by obtain ⟨v,rfl,q1,q2⟩:=hu; exact ⟨v,rfl,q1,q2⟩)) ?_
   refine zA (zG7 rfl (zB6 rfl) (zB7 (j:=3) (by kernel_rfl) rfl rfl) (fun w2 u hu => by obtain ⟨v,rfl,q1,q2⟩:=hu; exact ⟨_,rfl,rfl⟩)) ?_
   refine zA (zE8 rfl (zB6 rfl) (zB7 (j:=4) (by kernel_rfl) rfl rfl) (fun _ _ h => h)) ?_
   refine zA (zE8 rfl (zB6 rfl) (zB7 (j:=5) (by kernel_rfl) rfl rfl) (fun _ _ h => h)) ?_
   trivial
  case done4 =>
   refine fun w4 hb4 v0 h0 v1 h1 v2 h2 v3 h3 v4 h4 v5 h5 v6 h6 v7 h7 b hbf => ?_
   obtain rfl:=h0; obtain rfl:=h1; obtain rfl:=h5; obtain rfl:=h7
   clear h2
   clear h3
   obtain ⟨q4,f4⟩:=h4
   obtain ⟨q6,f6⟩:=h6
   simp only [Act.put,zA0,zA2,zA1] at hbf
   subst hbf
   replace B0:=B0.below hb4
   replace k0s:=k0s.below hb4
   replace k0:=k0.below hb4
   replace BR0:=BR0.below hb4
   replace B7:=B7.below hb4
   replace k7s:=k7s.below hb4
   replace k7:=k7.below hb4
   replace k1:=k1.below hb4
   replace kg:=kg.below hb4
   replace bb:=bb.trans (hb4.mono bb.size)
   have hsz4:=bb.size
   have s_4:=sB
   have s_6:=sB
   refine zD ?_
   obtain ⟨A9,c9,rfl,_⟩:=id q6
   have n9:=q6
   have n9f:=f6
   have n9z_:=s_6
   have sB:=bb.size
   go_upto_region 4 with (fail)
   refine zC9 2 [Pd.eq (.agg #[.bool (ngB U),.slice A7 (digs 4294967296 (U).natAbs).length c7]),Pd.eq (.slice A9 (digs 4294967296 L).length c9)] (by kernel_rfl) ?ob5 ?done5
   case ob5 =>
    refine zA (zC rfl (zB6 rfl) (zB8 rfl rfl) (fun w2 hb => zF8 Tryz.underlying60 rfl (by kernel_rfl) (B7.below hb)) (fun _ _ => rfl)) ?_
    refine zA (zC2 rfl (zB6 rfl) (zB8 rfl rfl) (fun _ _ h => h)) ?_
    trivial
   case done5 =>
    refine fun w5 hb5 v0 h0 v1 h1 b hbf => ?_
    obtain rfl:=h0; obtain rfl:=h1
    simp only [Act.put,zA0,zA2,zA1] at hbf
    subst hbf
    replace B0:=B0.below hb5
    replace k0s:=k0s.below hb5
    replace k0:=k0.below hb5
    replace BR0:=BR0.below hb5
    replace B7:=B7.below hb5
    replace k7s:=k7s.below hb5
    replace k7:=k7.below hb5
    replace k1:=k1.below hb5
    replace kg:=kg.below hb5
    replace n9:=n9.below hb5
    replace bb:=bb.trans (hb5.mono bb.size)
    have hsz5:=bb.size
    refine zG8 (i:=2) rfl rfl rfl rfl rfl rfl (cells:=[.bool (ngB U),.slice A7 (digs 4294967296 (U).natAbs).length c7]) rfl BR0 rfl (by kernel_rfl) (zH8 rfl rfl) fun wx9 hg9 BX9 => ?_
    have m9:=off k7s BR0 no_ints2 hg9
    have l9:=off n9 BR0 no_ints2 hg9
    have bb9:=bb.trans ((Below.refl _ _).grown hg9 bb.size (fun g hg => by injection hg with hg; omega))
    obtain ⟨C0,C1,_,_⟩:=Blk.two BX9
    refine zP7 (i:=3) (.slice A9 (digs 4294967296 L).length c9) rfl rfl rfl rfl rfl fun b hbf => ?_
    simp only [Act.put,zA0,zA2,zA1] at hbf
    subst hbf
    refine zD ?_
    go_wp2
    exact bodyPost_ret (v:=.tuple #[.agg #[.bool (ngB U),.slice A7 (digs 4294967296 (U).natAbs).length c7],.slice A9 (digs 4294967296 L).length c9]) (by simp [results,Tryz.results120,go_sem,C0,C1]) rfl ⟨_,_,rfl,zF4 m9 rfl rfl,l9,zL1 f7_,n9f.mono n9z_,bb9⟩
theorem yB6 (a0 : Value) (q : Rat) (w : World) (h0 : IsQ w a0 q) (hl : zC7 q 100000) :
  Calls Tryz.prog 126 #[a0] w (RetQ (-q) w):=by
 obtain ⟨u0,t0,rfl,s0,r0⟩:=h0
 obtain ⟨A0,c0,rfl,_⟩:=id s0
 obtain ⟨D0,e0,rfl,_⟩:=id r0
 have HN : Hid (-q.num = (-q).num):=(zZ6 q).1.symm
 have HD : Hid (q.den = (-q).den):=(zZ6 q).2.symm
 go_enter Tryz.func126,Tryz.ntmps126
 go_upto_region 1 with (fail)
 obtain ⟨wx,hwx,bb,B0,BR0,hsz⟩:=zI8 w 83 83 #[.bool (ngB (q).num),.slice A0 (digs 4294967296 (q).num.natAbs).length c0,.slice D0 (digs 4294967296 (q).den).length e0] #[.bool false,.slice none 0 0,.slice none 0 0]
 rw [hwx]
 clear hwx
 have k0s:=s0.below bb
 have k0d:=r0.below bb
 have k0z : IsZ wx (.agg #[.bool (ngB (q).num),.slice A0 (digs 4294967296 (q).num.natAbs).length c0]) (q).num:=⟨_,rfl,k0s⟩
 have k0 : IsQ wx (.agg #[.bool (ngB (q).num),.slice A0 (digs 4294967296 (q).num.natAbs).length c0,.slice D0 (digs 4294967296 (q).den).length e0]) (q):=⟨_,_,rfl,k0s,k0d⟩
 have hsz0:=bb.size
 have sB:=bb.size
 refine flow 7 [Pd.eq (.pointer (some ⟨w.heap.size,0,none⟩)),Pd.eq (.agg #[.bool (ngB (q).num),.slice A0 (digs 4294967296 (q).num.natAbs).length c0]),pz ((-q).num) wx.heap.size,Pd.eq (.pointer (some ⟨w.heap.size,2,none⟩)),Pd.eq (.slice D0 (digs 4294967296 (q).den).length e0),ps .u64 (digs 4294967296 (-q).den) wx.heap.size,pq (-q) wx.heap.size] (by kernel_rfl) (by kernel_rfl) ?ob6 ?done6
 case ob6 =>
  refine zA (zC3 rfl (zB6 rfl) (zB8 rfl rfl) (fun _ => by kernel_rfl) (fun _ => rfl)) ?_
  refine zA (zC rfl (zB6 rfl) (zB7 (j:=0) (by kernel_rfl) rfl rfl) (fun w2 hb => zR0 Tryz.underlying60 rfl (by kernel_rfl) (B0.drew.below hb) rfl) (fun _ _ => rfl)) ?_
  refine zA (zF rfl Tryz.func121 (by kernel_rfl) (zB6 rfl) (zB7 (j:=1) (by kernel_rfl) rfl rfl) (fun w2 u0 hb h0 => by obtain rfl:=h0; exact (yA0 _ q.num _ (k0z.drew.below hb) (zB4 hl.1 (by decide))).mono fun e w3 h => zE2.pd (zE2.to h HN.out) hb.size)) ?_
  refine zA (zC3 rfl (zB6 rfl) (zB8 rfl rfl) (fun _ => by kernel_rfl) (fun _ => rfl)) ?_
  refine zA (zC rfl (zB6 rfl) (zB7 (j:=3) (by kernel_rfl) rfl rfl) (fun w2 hb => zC5 Tryz.underlying50 rfl ((B0.drew.below hb).cell 2)) (fun _ _ => rfl)) ?_
  refine zA (zF rfl Tryz.func106 (by kernel_rfl) (zB6 rfl) (zB7 (j:=4) (by kernel_rfl) rfl rfl) (fun w2 u0 hb h0 => by obtain rfl:=h0; exact (zU _ _ _ (k0d.drew.below hb) (zB4 hl.2 (by decide))).mono fun e w3 h => zD1.pd (zD1.to h (congrArg (digs 4294967296) HD.out)) hb.size)) ?_
  refine zA (zL3 rfl (zB6 rfl) (zB7 (j:=2) (by kernel_rfl) rfl rfl) (zB7 (j:=5) (by kernel_rfl) rfl rfl) (fun w2 u v hb hu hv => by obtain ⟨u7,rfl,hu7⟩:=hu.1; obtain ⟨A7,c7,rfl,_⟩:=id hu7; obtain ⟨A8,c8,rfl,_⟩:=id hv.1; exact ⟨.agg #[.bool (ngB (-q).num),.slice A7 (digs 4294967296 (-q).num.natAbs).length c7,.slice A8 (digs 4294967296 (-q).den).length c8],by kernel_rfl,⟨⟨_,_,rfl,hu7,hv.1⟩,zL2 (hu.2 _ _ rfl) hv.2⟩⟩)) ?_
  trivial
 case done6 =>
  refine fun w11 hb11 v0 h0 v1 h1 v2 h2 v3 h3 v4 h4 v5 h5 v6 h6 b hbf => ?_
  obtain rfl:=h0; obtain rfl:=h1; obtain rfl:=h3; obtain rfl:=h4
  obtain ⟨q2,f2⟩:=h2
  obtain ⟨q5,f5⟩:=h5
  obtain ⟨q6,f6⟩:=h6
  simp only [Act.put,zA0,zA2,zA1] at hbf
  subst hbf
  replace B0:=B0.below hb11
  replace k0s:=k0s.below hb11
  replace k0d:=k0d.below hb11
  replace k0z:=k0z.below hb11
  replace k0:=k0.below hb11
  replace BR0:=BR0.below hb11
  replace bb:=bb.trans (hb11.mono bb.size)
  have hsz11:=bb.size
  have s_2:=sB
  have s_5:=sB
  have s_6:=sB
  obtain ⟨u6,t6,rfl,q6,d6⟩:=q6
  obtain ⟨A9,c9,rfl,_⟩:=id q6
  obtain ⟨D9,e9,rfl,_⟩:=id d6
  refine zK4 (i:=7) (by kernel_rfl) rfl rfl rfl rfl rfl rfl (cells:=[.bool (ngB (-q).num),.slice A9 (digs 4294967296 (-q).num.natAbs).length c9,.slice D9 (digs 4294967296 (-q).den).length e9]) rfl BR0 rfl (by kernel_rfl) (zI3 rfl rfl rfl) fun w9 hg9 B9 => ?_
  have k9:=off q6 BR0 zE hg9
  have d9:=off d6 BR0 zE hg9
  have f9:=f6.mono (show w.heap.size <= _ from s_6)
  have bb9:=bb.trans ((Below.refl _ _).grown hg9 bb.size (fun g hg => by injection hg with hg; omega))
  obtain ⟨C0,C1,C2,_,_,_⟩:=three B9
  refine zI2 (by kernel_rfl) ?_
  go_wp2
  exact bodyPost_ret (v:=.agg #[.bool (ngB (-q).num),.slice A9 (digs 4294967296 (-q).num.natAbs).length c9,.slice D9 (digs 4294967296 (-q).den).length e9]) (by simp [results,Tryz.results126,go_sem,C0,C1,C2]) rfl ⟨_,rfl,⟨_,_,rfl,k9,d9⟩,f9,bb9⟩
theorem zT2 (a0 : Value) (x : Rat) (t : Int) (w : World) (h0 : IsQ w a0 x) (ht : t = zJ5 x.num 0) :
  Calls Tryz.prog 133 #[a0] w (zD8 (.int .i64 t) w):=by
 obtain ⟨u0,t0,rfl,s0,r0⟩:=h0
 obtain ⟨A0,c0,rfl,_⟩:=id s0
 obtain ⟨D0,e0,rfl,_⟩:=id r0
 have HT:=Lib.hid ht
 clear ht
 go_enter Tryz.func133,Tryz.ntmps133
 go_upto_region 1 with (fail)
 obtain ⟨wx,hwx,bb,B0,hsz⟩:=zN8 w 83 #[.bool (ngB (x).num),.slice A0 (digs 4294967296 (x).num.natAbs).length c0,.slice D0 (digs 4294967296 (x).den).length e0]
 rw [hwx]
 clear hwx
 have k0s:=s0.below bb
 have k0d:=r0.below bb
 have k0z : IsZ wx (.agg #[.bool (ngB (x).num),.slice A0 (digs 4294967296 (x).num.natAbs).length c0]) (x).num:=⟨_,rfl,k0s⟩
 have k0 : IsQ wx (.agg #[.bool (ngB (x).num),.slice A0 (digs 4294967296 (x).num.natAbs).length c0,.slice D0 (digs 4294967296 (x).den).length e0]) (x):=⟨_,_,rfl,k0s,k0d⟩
 have hsz0:=bb.size
 have sB:=bb.size
 refine zC9 4 [Pd.eq (.pointer (some ⟨w.heap.size,0,none⟩)),Pd.eq (.agg #[.bool (ngB (x).num),.slice A0 (digs 4294967296 (x).num.natAbs).length c0]),Pd.eq (.int .i64 t),Pd.eq (.int .i64 t)] (by kernel_rfl) ?ob7 ?done7
 case ob7 =>
  refine zA (zC3 rfl (zB6 rfl) (zB8 rfl rfl) (fun _ => by kernel_rfl) (fun _ => rfl)) ?_
  refine zA (zC rfl (zB6 rfl) (zB7 (j:=0) (by kernel_rfl) rfl rfl) (fun w2 hb => zR0 Tryz.underlying60 rfl (by kernel_rfl) (B0.below hb) rfl) (fun _ _ => rfl)) ?_
  refine zA (zF rfl Tryz.func74 (by kernel_rfl) (zB6 rfl) (zB7 (j:=1) (by kernel_rfl) rfl rfl) (fun w2 u0 hb h0 => by obtain rfl:=h0; exact (zZ9 _ x.num t _ (k0z.below hb) HT.out).mono fun e w3 h => zD8.pd h)) ?_
  refine zA (zE8 rfl (zB6 rfl) (zB7 (j:=2) (by kernel_rfl) rfl rfl) (fun _ _ h => h)) ?_
  trivial
 case done7 =>
  refine fun w1 hb1 v0 h0 v1 h1 v2 h2 v3 h3 b hbf => ?_
  obtain rfl:=h0; obtain rfl:=h1; obtain rfl:=h2; obtain rfl:=h3
  simp only [Act.put,zA0,zA2,zA1] at hbf
  subst hbf
  replace B0:=B0.below hb1
  replace k0s:=k0s.below hb1
  replace k0d:=k0d.below hb1
  replace k0z:=k0z.below hb1
  replace k0:=k0.below hb1
  replace bb:=bb.trans (hb1.mono bb.size)
  have hsz1:=bb.size
  refine zD ?_
  go_wp2
  go_ret
  exact ⟨rfl,bb⟩
def qP2 (w : World) (g : Nat) (q : Rat) : Prop:=∃ u t,Blk w g 65 #[.bool (ngB q.num),u,t] /\ IsS w .i64 u (digs 10000 q.num.natAbs) /\ IsS w .i64 t (digs 10000 q.den)
def qA2 (w : World) (g : Nat) (q : Rat) : Prop:=∃ u t,Blk w g 83 #[.bool (ngB q.num),u,t] /\ IsS w .u64 u (digs 4294967296 q.num.natAbs) /\ IsS w .u64 t (digs 4294967296 q.den)
theorem qP2.below {w w' : World} {g : Nat} {q : Rat} (h : qP2 w g q) (hb : Below w.heap.size w w') : qP2 w' g q:=by
 obtain ⟨u,t,h1,h2,h3⟩:=h
 exact ⟨u,t,h1.below hb,h2.below hb,h3.below hb⟩
theorem qA2.below {w w' : World} {g : Nat} {q : Rat} (h : qA2 w g q) (hb : Below w.heap.size w w') : qA2 w' g q:=by
 obtain ⟨u,t,h1,h2,h3⟩:=h
 exact ⟨u,t,h1.below hb,h2.below hb,h3.below hb⟩
def sumq (l : List Rat) : Rat:=l.foldl (· + ·) 0
theorem qA3 {l : List Rat} {k : Nat} {q : Rat} (h : l[k]? = some q) : l.take (k + 1) = l.take k ++ [q]:=by rw [List.take_add_one,h]; rfl
theorem yB7 {f : Rat -> Rat -> Rat} : ∀ {p q : List Rat} {r : Rat},r ∈ List.zipWith f p q -> ∃ x ∈ p,∃ y ∈ q,r = f x y
  | [],_,_,h => by simp at h
  | _ :: _,[],_,h => by simp at h
  | x :: p, y :: q, r, h => by
    rw [List.zipWith_cons_cons] at h
    rcases List.mem_cons.1 h with h | h
    · exact ⟨x,List.mem_cons_self,y,List.mem_cons_self,h⟩
    · obtain ⟨a,ha,b,hb,e⟩:=yB7 h
      exact ⟨a,List.mem_cons_of_mem _ ha,b,List.mem_cons_of_mem _ hb,e⟩
theorem zip_at {f : Rat -> Rat -> Rat} {p q : List Rat} {k : Nat} {x y : Rat} (hx : p[k]? = some x) (hy : q[k]? = some y) : (List.zipWith f p q)[k]? = some (f x y):=by rw [List.getElem?_zipWith,hx,hy]
theorem zip_len {f : Rat -> Rat -> Rat} {p q : List Rat} (h : p.length = q.length) : (List.zipWith f p q).length = p.length:=by rw [List.length_zipWith,h,Nat.min_self]
def zI4 (p : List Rat) (k : Rat) (q : List Rat) : List Rat:=List.zipWith (fun x y => x - k * y) p q
def zG9 (p : List Rat) (k : Rat) : List Rat:=p.map (fun x => x * k)
def yB8 (l : List Rat) : Prop:=(∀ q ∈ l,¬ q < 0 /\ ¬ 1 < q) /\ sumq l = 1
instance (l : List Rat) : Decidable (yB8 l):=by unfold yB8; infer_instance
end Go.Proofs.YtagaabooccnamaaGreat.rat
namespace Go.Proofs.YtagaabooccnamaaGreat.rat
open Go.RowKit Go.ChangeShapes Go.WideShapes Go.ChangeAt Go.Joins Go.Deep num mem nat txt str flow whl
def zT3 (w : World) (v : Value) : Prop:=∃ A n c,v = .slice A n c /\ n <= c /\ c <= maxLen /\ ∀ i,i < n -> ∃ ad b u t l m,A = some ad /\ w.cell? (ad.add (i * 3)) = some (.bool b) /\ w.cell? (ad.add (i * 3 + 1)) = some u /\ w.cell? (ad.add (i * 3 + 2)) = some t /\ IsS w .u64 u l /\ Lt 18446744073709551616 l /\ IsS w .u64 t m /\ Lt 18446744073709551616 m
theorem trod_q {H : Type} {enc : TypeId × Value -> H} {P : Program} {W : World} {fuel : Nat} {t e : TypeId} {f0 f1 g0 g1 : Field} {c0 c1 c2 : Value} {x : DataW H × List MemPlace} (hs : P.underlying t = some (.struct #[f0,f1])) (ho : (f0.offset == 0 && f1.offset == 2 && P.cellsOf f0.type == 2 && P.cellsOf f1.type == 1) = true)
    (hs2 : P.underlying f0.type = some (.struct #[g0,g1])) (hone : oneCellFields P #[g0,g1] = true) (hb : P.underlying g0.type = some .bool) (hsl : P.underlying g1.type = some (.slice e)) (hsl2 : P.underlying f1.type = some (.slice e)) (he : P.underlying e = some (.int .u64)) (ce : P.cellsOf e = 1)
    (hf : DataW.trod enc P W 0 (fun _ => true) true fuel t [c0,c1,c2] = some x) : ∃ b l m,c0 = .bool b /\ IsS W .u64 c1 l /\ Lt 18446744073709551616 l /\ IsS W .u64 c2 m /\ Lt 18446744073709551616 m:=by
  simp only [Bool.and_eq_true,beq_iff_eq] at ho
  obtain ⟨⟨⟨o0,o1⟩,k0⟩,k1⟩:=ho
  obtain ⟨xs,n,_,hx,_,hlen,hg⟩:=DataW.trod_struct hs hf
  have h0:=hg 0 f0 rfl
  have h1:=hg 1 f1 rfl
  simp [o0,o1,k0,k1] at h0 h1
  match xs,hlen with
  | [y0, y1], _ =>
    have h0' : DataW.trod enc P W 0 (fun _ => true) true n f0.type [c0,c1] = some y0:=by simpa using h0
    have h1' : DataW.trod enc P W 0 (fun _ => true) true n f1.type [c2] = some y1:=by simpa using h1
    obtain ⟨zs,n2,_,hz,_,hlen2,hg2⟩:=DataW.trod_struct hs2 h0'
    obtain ⟨p0,q0⟩:=hone_of hone 0 g0 rfl
    obtain ⟨p1,q1⟩:=hone_of hone 1 g1 rfl
    have j0:=hg2 0 g0 rfl
    have j1:=hg2 1 g1 rfl
    simp [p0,p1,q0,q1] at j0 j1
    match zs,hlen2 with
    | [z0, z1], _ =>
      have j0' : DataW.trod enc P W 0 (fun _ => true) true n2 g0.type [c0] = some z0:=by simpa using j0
      have j1' : DataW.trod enc P W 0 (fun _ => true) true n2 g1.type [c1] = some z1:=by simpa using j1
      obtain ⟨b,e0,_⟩:=DataW.trod_bool hb j0'
      injection e0 with e0 _
      subst e0
      obtain ⟨l,a1,a2⟩:=yB hsl he ce j1'
      obtain ⟨m,b1,b2⟩:=yB hsl2 he ce h1'
      exact ⟨b,l,m,rfl,a1,a2,b1,b2⟩
theorem arg_qs {H : Type} {enc : TypeId × Value -> H} {P : Program} {W : World} {base : Nat} {ts t e : TypeId} {f0 f1 g0 g1 : Field} {v : Value} {d : DataW H} {p : List MemPlace} (ht : P.underlying ts = some (.slice t)) (hs : P.underlying t = some (.struct #[f0,f1])) (hC : P.cellsOf t = 3) (ho : (f0.offset == 0 && f1.offset == 2 && P.cellsOf f0.type == 2 && P.cellsOf f1.type == 1) = true)
    (hs2 : P.underlying f0.type = some (.struct #[g0,g1])) (hone : oneCellFields P #[g0,g1] = true) (hb : P.underlying g0.type = some .bool) (hsl : P.underlying g1.type = some (.slice e)) (hsl2 : P.underlying f1.type = some (.slice e)) (he : P.underlying e = some (.int .u64)) (ce : P.cellsOf e = 1)
    (hv : Value.okWide P W .any base ts v) (h : DataW.Trod enc P W 0 (fun _ => true) true ts v d p) : zT3 W v:=by
  obtain ⟨a0,len,cap,rfl⟩:=okWide_slice ht hv
  obtain ⟨fuel,hf⟩:=h
  rcases Go.Deep.open_slice ht hf with ⟨hcs,hx⟩ | ⟨a,len',cap',m,n,D,Pl,hcs,_,hl,hm,hmm,hx,hrows⟩
  · simp [Value.cells] at hcs
    obtain ⟨rfl,rfl,rfl⟩:=hcs
    exact ⟨none,0,0,rfl,by omega,by simp,fun i hi => by omega⟩
  · simp [Value.cells] at hcs
    obtain ⟨rfl,rfl,rfl⟩:=hcs
    refine ⟨some a,len,cap,rfl,hl,hm,fun i hi => ?_⟩
    obtain ⟨cs',h1,h2⟩:=hrows i (by simp at hmm; omega)
    rw [hC] at h1
    obtain ⟨_,hlen,hcell⟩:=World.cells?_some h1
    match cs',hlen with
    | [c0, c1, c2], _ =>
      obtain ⟨b,l,m',e0,k1,k2,k3,k4⟩:=trod_q hs ho hs2 hone hb hsl hsl2 he ce h2
      subst e0
      have g0:=hcell 0 (by omega)
      have g1:=hcell 1 (by omega)
      have g2:=hcell 2 (by omega)
      rw [add_add] at g0 g1 g2
      exact ⟨a,b,c1,c2,l,m',rfl,by simpa using g0,by simpa using g1,by simpa using g2,k1,k2,k3,k4⟩
theorem yU6 {P : Program} {t e : TypeId} (hu : P.underlying t = some (.slice e)) (hs : (P.info? e).map (·.size) = some 3) (ad : Addr) {n c k : Nat} (hk : k < n) (w : World) : (Instr.indexAt t (.slice (some ad) n c) (.int .i64 (k : Int))).run P w = .ok (.pointer (some (ad.add (k * 3)))) w:=by
  cases hq : P.info? e with
  | none => simp [hq] at hs
  | some inf =>
    have hsz : inf.size = 3:=by simpa [hq] using hs
    simp [Instr.indexAt,asIntOf,go_sem,run_underlying hu,sizeOf,typeInfo,hq,hsz,hk]
theorem yU7 {P : Program} {t : TypeId} {p : Addr} {k : Nat} {x y z : Value} {d : TypeDesc} {w : World} (hu : P.underlying t = some d) (hd : d.isRow = true) (hi : (P.info? t).map (·.size) = some 3) (h0 : w.cell? (p.add k) = some x) (h1 : w.cell? (p.add (k + 1)) = some y) (h2 : w.cell? (p.add (k + 2)) = some z) : (Instr.loadAt t (.pointer (some (p.add k)))).run P w = .ok (.agg #[x,y,z]) w:=by
  have hl : (loadCells (p.add k) 3).run P w = .ok [x,y,z].toArray w :=
    run_loadCells_list (P:=P) w (p.add k) [x,y,z] (fun j v hj => by
      rw [add_add]
      match j,hj with
      | 0,hj => simp at hj; subst hj; exact h0
      | 1,hj => simp at hj; subst hj; exact h1
      | 2,hj => simp at hj; subst hj; exact h2
      | j + 3,hj => simp at hj)
  cases hq : P.info? t with
  | none => simp [hq] at hi
  | some i =>
    have hs : i.size = 3:=by simpa [hq] using hi
    have hagg : (isAgg t).run P w = .ok true w:=by
      unfold isAgg
      rw [Sem.run_bind,run_underlying hu w]
      cases d <;> simp_all
    have hv : (loadVar t (p.add k)).run P w = .ok (.agg #[x,y,z]) w:=by simp [loadVar,Sem.run_bind,hagg,sizeOf,typeInfo,hq,hs,hl]
    simp only [Instr.loadAt,Instr.sureAddr,Sem.run_bind,Sem.run_pure,Result.andThen_ok,hv]
end Go.Proofs.YtagaabooccnamaaGreat.rat
namespace Go.Proofs.YtagaabooccnamaaGreat.rat
open Go.RowKit num mem nat txt str flow whl
section
variable {P : Program}
def zI5 (w w' : World) (v v' : Value) : Prop:=qG9 w w' v v' /\ w.grownBy w' v.ownBlock /\ ∀ g,g < w.heap.size -> v.ownBlock ≠ some g -> v'.ownBlock ≠ some g
theorem yU8 {w : World} {base : Nat} {t ty T : TypeId} (hT : P.underlying t = some (.slice T)) (hI : ∃ i,P.info? T = some i /\ i.zero = some (.agg #[.bool false,.slice none 0 0,.slice none 0 0]) /\ i.size = 3 /\ i.bytes = 56) {v : Value} {p : Elt} {ps : List Elt} (hown : zD2 T w base v ps) {ad : Addr} {c : Nat}
  (h0 : w.cell? (ad.add 0) = some (.bool (ngB p.1.num))) (h1 : w.cell? (ad.add 1) = some p.2.1) (h2 : w.cell? (ad.add 2) = some p.2.2) (k1 : p.2.1.oneCell' = true) (k2 : p.2.2.oneCell' = true) (hlen : ps.length <= 1000000000) (hbase : base <= w.heap.size) :
  ∃ v' w',(Builtin.append_ #[t,t] ty #[v,.slice (some ad) 1 c]).run P w = .ok v' w' /\ zD2 T w' base v' (ps ++ [p]) /\ zI5 w w' v v':=by
 obtain ⟨i,hi,hz,hs,hb⟩:=hI
 obtain ⟨v',w',g1,g2,g3,_,g5⟩:=run_append_own_at (P:=P) w base t ty T i (.agg #[.bool false,.slice none 0 0,.slice none 0 0]) 3 56 hT hi hz hs hb rfl (by decide) v ps.length (zE6 ps) hown ad 1 c [.bool (ngB p.1.num),p.2.1,p.2.2] rfl (fun j u hu => by
  match j,hu with
  | 0,hu => simp at hu; subst hu; exact h0
  | 1,hu => simp at hu; subst hu; exact h1
  | 2,hu => simp at hu; subst hu; exact h2
  | j + 3,hu => simp at hu) (zI3 rfl k1 k2) (by unfold maxLen; omega) (by omega) hbase
 refine ⟨v',w',g1,by unfold zD2; rw [zA8,yT8]; exact g2,qN7 g3 g5,g3,fun g hg hne e1 => ?_⟩
 rcases g5 with h | h
 ·exact hne (h ▸ e1)
 ·rw [h] at e1; injection e1 with e1; omega
theorem qP3 {w : World} {o : Oper} {a : Act} {K : Act -> World -> Prop} {Q : Exit -> Act -> World -> Prop} (s x : Operand) {t : TypeId}
  (ho : o.op = .call { callee:=.builtin .append,args:=#[s,x],argTypes:=#[t,t] })
  {base : Nat} {T : TypeId} (hT : P.underlying t = some (.slice T)) (hI : ∃ i,P.info? T = some i /\ i.zero = some (.agg #[.bool false,.slice none 0 0,.slice none 0 0]) /\ i.size = 3 /\ i.bytes = 56) {v : Value} {p : Elt} {ps : List Elt} (hs : a.eval s = v) (hown : zD2 T w base v ps) {ad : Addr} {c : Nat} (hx : a.eval x = .slice (some ad) 1 c)
  (h0 : w.cell? (ad.add 0) = some (.bool (ngB p.1.num))) (h1 : w.cell? (ad.add 1) = some p.2.1) (h2 : w.cell? (ad.add 2) = some p.2.2) (k1 : p.2.1.oneCell' = true) (k2 : p.2.2.oneCell' = true) (hlen : ps.length <= 1000000000) (hbase : base <= w.heap.size)
  (h : ∀ v' w',zD2 T w' base v' (ps ++ [p]) -> Below base w w' -> Hid (zI5 w w' v v') -> K (a.put o.dst v') w') : o.wp P a w K Q:=by
 obtain ⟨v',w',hrun,g2,g3⟩:=yU8 (P:=P) (ty:=o.type) hT hI hown (c:=c) h0 h1 h2 k1 k2 hlen hbase
 unfold Oper.wp execOp
 simp only [ho,resolve,invoke,builtin,Sem.run_bind,Sem.run_pure,Result.andThen_ok,List.map_toArray,List.map_cons,List.map_nil,hs,hx,hrun]
 exact h v' w' g2 ((Below.refl base w).grown g3.2.1 hbase hown.base_le) g3
theorem yB9 {w : World} {ops : Array Oper} {o : Oper} {a : Act} {K : Act -> World -> Prop} {Q : Exit -> Act -> World -> Prop} {E : Prop} (hgd : o.guard = none) (s x : Operand) {t : TypeId}
  (ho : o.op = .call { callee:=.builtin .append,args:=#[s,x],argTypes:=#[t,t] })
  {base : Nat} {T : TypeId} (hT : P.underlying t = some (.slice T)) (hI : ∃ i,P.info? T = some i /\ i.zero = some (.agg #[.bool false,.slice none 0 0,.slice none 0 0]) /\ i.size = 3 /\ i.bytes = 56) {v : Value} {p : Elt} {ps : List Elt} (hs : a.eval s = v) (hown : zD2 T w base v ps) {ad : Addr} {c : Nat} (hx : a.eval x = .slice (some ad) 1 c)
  (h0 : w.cell? (ad.add 0) = some (.bool (ngB p.1.num))) (h1 : w.cell? (ad.add 1) = some p.2.1) (h2 : w.cell? (ad.add 2) = some p.2.2) (k1 : p.2.1.oneCell' = true) (k2 : p.2.2.oneCell' = true) (hlen : ps.length <= 1000000000) (hbase : base <= w.heap.size)
  (h : ∀ v' w',zD2 T w' base v' (ps ++ [p]) -> Below base w w' -> Hid (zI5 w w' v v') -> K (a.put o.dst v') w') :
  if Region.wanted o (yielded ops a.tmps) = true then Oper.wp P o a w K Q else E:=by
 have hw : Region.wanted o (yielded ops a.tmps) = true:=by simp [Region.wanted,hgd]
 rw [if_pos hw]
 exact qP3 s x ho hT hI hs hown hx h0 h1 h2 k1 k2 hlen hbase h
end
theorem qP4 (w : World) (T : TypeId) (x y z : Value) : (w.alloc (.cells #[x,y,z] T)).cell? ((⟨w.heap.size,0,none⟩ : Addr).add 0) = some x /\ (w.alloc (.cells #[x,y,z] T)).cell? ((⟨w.heap.size,0,none⟩ : Addr).add 1) = some y /\ (w.alloc (.cells #[x,y,z] T)).cell? ((⟨w.heap.size,0,none⟩ : Addr).add 2) = some z:=by
 have h:=Blk.new w T #[x,y,z]
 obtain ⟨a,b,c,_,_,_⟩:=three h
 exact ⟨a,b,c⟩
theorem zG5.keep {k : IntKind} {B : Nat} {w w' : World} {v v' : Value} {ps : List Elt} (h : zG5 k B w v ps) (hk : qG9 w w' v v') : zG5 k B w' v' ps:=fun r hr => by
 obtain ⟨⟨a1,a2⟩,b1,b2⟩:=h r hr
 have x1:=hk _ _ _ a1 b1
 have x2:=hk _ _ _ a2 b2
 exact ⟨⟨x1.1,x2.1⟩,x1.2,x2.2⟩
def zR2 (w wr : World) (v4 v5 : Value) (ps rs : List Elt) : Prop:=zD2 83 wr w.heap.size v4 ps /\ zD2 65 wr w.heap.size v5 rs /\ (zG5 .u64 4294967296 wr v4 ps /\ zG5 .u64 4294967296 wr v5 ps) /\ (zG5 .i64 10000 wr v4 rs /\ zG5 .i64 10000 wr v5 rs) /\ (∀ g,v4.ownBlock = some g -> v5.ownBlock ≠ some g) /\ Below w.heap.size w wr
theorem zR2.below {w wr w' : World} {v4 v5 : Value} {ps rs : List Elt} (h : zR2 w wr v4 v5 ps rs) (hb : Below wr.heap.size wr w') : zR2 w w' v4 v5 ps rs :=
 ⟨h.1.below hb,h.2.1.below hb,⟨h.2.2.1.1.below hb,h.2.2.1.2.below hb⟩,⟨h.2.2.2.1.1.below hb,h.2.2.2.1.2.below hb⟩,h.2.2.2.2.1,h.2.2.2.2.2.trans (hb.mono h.2.2.2.2.2.size)⟩
theorem zR2.one {w wr w' : World} {v4 v5 v' : Value} {ps rs : List Elt} {p : Elt} (h : zR2 w wr v4 v5 ps rs) (hrow : zD2 83 w' w.heap.size v' (ps ++ [p])) (hg : zI5 wr w' v4 v') (hb : Below w.heap.size wr w') (hp : IsE .u64 4294967296 wr p) (f4 : Far v4 p.2.1 /\ Far v4 p.2.2) (f5 : Far v5 p.2.1 /\ Far v5 p.2.2) : zR2 w w' v' v5 (ps ++ [p]) rs:=by
 obtain ⟨h1,h2,⟨h3,h4⟩,⟨h5,h6⟩,h7,h8⟩:=h
 obtain ⟨k1,k2,k3⟩:=hg
 have keep : ∀ {k : IntKind} {B : Nat} {r : Elt},IsE k B wr r -> Far v4 r.2.1 -> Far v4 r.2.2 -> IsE k B w' r /\ Far v' r.2.1 /\ Far v' r.2.2:=fun a b c => by
  have x1:=k1 _ _ _ a.1 b
  have x2:=k1 _ _ _ a.2 c
  exact ⟨⟨x1.1,x2.1⟩,x1.2,x2.2⟩
 refine ⟨hrow,h2.other k2 (fun g hg e => h7 g e hg),⟨h3.snoc k1 hp f4.1 f4.2,?_⟩,⟨h5.keep k1,?_⟩,?_,h8.trans hb⟩
 ·intro r hr
  rcases List.mem_append.1 hr with hr | hr
  ·exact ⟨(keep (h3 r hr).1 (h3 r hr).2.1 (h3 r hr).2.2).1,(h4 r hr).2⟩
  ·obtain rfl:=List.mem_singleton.1 hr
   exact ⟨(keep hp f4.1 f4.2).1,f5⟩
 ·intro r hr
  exact ⟨(keep (h5 r hr).1 (h5 r hr).2.1 (h5 r hr).2.2).1,(h6 r hr).2⟩
 ·intro g e4 e5
  have hlt:=h2.under g e5
  exact k3 g hlt (fun e => h7 g e e5) e4
theorem zR2.two {w wr w' : World} {v4 v5 v' : Value} {ps rs : List Elt} {p : Elt} (h : zR2 w wr v4 v5 ps rs) (hrow : zD2 65 w' w.heap.size v' (rs ++ [p])) (hg : zI5 wr w' v5 v') (hb : Below w.heap.size wr w') (hp : IsE .i64 10000 wr p) (f4 : Far v4 p.2.1 /\ Far v4 p.2.2) (f5 : Far v5 p.2.1 /\ Far v5 p.2.2) : zR2 w w' v4 v' ps (rs ++ [p]):=by
 obtain ⟨h1,h2,⟨h3,h4⟩,⟨h5,h6⟩,h7,h8⟩:=h
 obtain ⟨k1,k2,k3⟩:=hg
 have keep : ∀ {k : IntKind} {B : Nat} {r : Elt},IsE k B wr r -> Far v5 r.2.1 -> Far v5 r.2.2 -> IsE k B w' r /\ Far v' r.2.1 /\ Far v' r.2.2:=fun a b c => by
  have x1:=k1 _ _ _ a.1 b
  have x2:=k1 _ _ _ a.2 c
  exact ⟨⟨x1.1,x2.1⟩,x1.2,x2.2⟩
 refine ⟨h1.other k2 (fun g hg e => h7 g hg e),hrow,⟨?_,h4.keep k1⟩,⟨?_,h6.snoc k1 hp f5.1 f5.2⟩,?_,h8.trans hb⟩
 ·intro r hr
  exact ⟨(keep (h4 r hr).1 (h4 r hr).2.1 (h4 r hr).2.2).1,(h3 r hr).2⟩
 ·intro r hr
  rcases List.mem_append.1 hr with hr | hr
  ·exact ⟨(keep (h6 r hr).1 (h6 r hr).2.1 (h6 r hr).2.2).1,(h5 r hr).2⟩
  ·obtain rfl:=List.mem_singleton.1 hr
   exact ⟨(keep hp f5.1 f5.2).1,f4⟩
 ·intro g e4 e5
  have hlt:=h1.under g e4
  exact k3 g hlt (fun e => h7 g e4 e) e5
def IsI (w : World) (v : Value) (l : List Int) : Prop:=∃ A c,v = .slice A l.length c /\ l.length <= c /\ c <= maxLen /\ (∀ z ∈ l,-9223372036854775808 <= z /\ z <= 9223372036854775807) /\ ∀ (i : Nat) (z : Int),l[i]? = some z -> ∃ ad,A = some ad /\ w.cell? (ad.add i) = some (.int .i64 z)
theorem IsI.below {w w' : World} {v : Value} {l : List Int} (h : IsI w v l) (hb : Below w.heap.size w w') : IsI w' v l:=by
 obtain ⟨A,c,e,h1,h2,hr,h3⟩:=h
 refine ⟨A,c,e,h1,h2,hr,fun i z hz => ?_⟩
 obtain ⟨ad,e2,c0⟩:=h3 i z hz
 exact ⟨ad,e2,(hb.cell (World.block_lt_of_cell? w _ c0)).trans c0⟩
theorem IsI.shape {w : World} {v : Value} {l : List Int} (h : IsI w v l) : ∃ A c,v = .slice A l.length c /\ l.length <= c /\ c <= maxLen:=by
 obtain ⟨A,c,e,h1,h2,_⟩:=h
 exact ⟨A,c,e,h1,h2⟩
theorem qP5 {P : Program} {t e : TypeId} (hu : P.underlying t = some (.slice e)) (hs : (P.info? e).map (·.size) = some 1) (ad : Addr) {n c k : Nat} (hk : k < n) (w : World) : (Instr.indexAt t (.slice (some ad) n c) (.int .i64 (k : Int))).run P w = .ok (.pointer (some (ad.add k))) w:=by
  cases hq : P.info? e with
  | none => simp [hq] at hs
  | some inf =>
    have hsz : inf.size = 1:=by simpa [hq] using hs
    simp [Instr.indexAt,asIntOf,go_sem,run_underlying hu,sizeOf,typeInfo,hq,hsz,hk]
def Sorts (ss qs : List Rat) : Prop:=ss.Perm qs /\ ss.Pairwise (· <= ·)
theorem Sorts.len {ss qs : List Rat} (h : Sorts ss qs) : ss.length = qs.length:=h.1.length_eq
theorem qJ1 (p : List Rat) (k : Rat) : (zG9 p k).length = p.length:=zA9 _
theorem qP6 {p q : List Rat} {k : Rat} (h : p.length = q.length) : (zI4 p k q).length = p.length:=zip_len h
theorem lenQ_01 {x : Rat} (h : x = 0 \/ x = 1) : zC7 x 1:=by
 rcases h with rfl | rfl
 ·exact ⟨by show zC1 0 <= _; rw [qZ1]; omega,zI0 (k:=1) (by omega) (by decide +kernel)⟩
 ·exact ⟨zI0 (k:=1) (by omega) (by decide +kernel),zI0 (k:=1) (by omega) (by decide +kernel)⟩
def zD3 : List (List Rat) -> Nat
 | [] => 0
 | r :: _ => r.length
def qP7 (t : List (List Rat)) : Prop:=∀ r ∈ t,r.length = zD3 t
def zH2 (t : List (List Rat)) : Prop:=t.length <= 200 /\ zD3 t <= 200 /\ qP7 t
instance (t : List (List Rat)) : Decidable (qP7 t):=inferInstanceAs (Decidable (∀ r ∈ t,r.length = zD3 t))
instance (t : List (List Rat)) : Decidable (zH2 t):=inferInstanceAs (Decidable (_ /\ _ /\ _))
def jst {α : Type} (P t : List (List α)) (k : Nat) : List (List α):=List.zipWith (· ++ ·) (P.take k) (t.take k) ++ P.drop k
def zE4 {α : Type} (P t : List (List α)) : List (List α):=List.zipWith (· ++ ·) P t
theorem yU9 {α : Type} (P t : List (List α)) : jst P t 0 = P:=by simp [jst]
theorem yV {α : Type} {P t : List (List α)} {k : Nat} (h : P.length = t.length) (hk : k = t.length) : jst P t k = zE4 P t:=by
 subst hk
 unfold jst zE4
 rw [zA7 (by omega),zA7 (zB3 _),List.drop_eq_nil_of_le (by omega),List.append_nil]
theorem qJ2 {α : Type} {P t : List (List α)} {k : Nat} (h : P.length = t.length) (hk : k <= t.length) : (List.zipWith (· ++ ·) (P.take k) (t.take k)).length = k:=by
 rw [List.length_zipWith,List.length_take,List.length_take]; omega
theorem jst_at {α : Type} {P t : List (List α)} {k : Nat} {p : List α} (h : P.length = t.length) (hp : P[k]? = some p) : (jst P t k)[k]? = some p:=by
 have hk:=(zA4.1 hp).1
 unfold jst
 rw [List.getElem?_append_right (by rw [qJ2 h (by omega)]; exact zB3 _),qJ2 h (by omega),Nat.sub_self,List.getElem?_drop,Nat.add_zero,hp]
theorem jst_set {α : Type} {P t : List (List α)} {k : Nat} {p r : List α} (h : P.length = t.length) (hp : P[k]? = some p) (hr : t[k]? = some r) : (jst P t k).set k (p ++ r) = jst P t (k + 1):=by
 have hk:=(zA4.1 hp).1
 have hd : P.drop k = p :: P.drop (k + 1):=by
  have e : P[k] = p:=by rw [zA3 hk] at hp; exact Option.some.inj hp
  rw [<- e]
  exact List.drop_eq_getElem_cons hk
 unfold jst
 rw [List.set_append_right _ _ (by rw [qJ2 h (by omega)]; exact zB3 _),qJ2 h (by omega),Nat.sub_self,hd,zA2,List.take_add_one,hp,List.take_add_one,hr,List.zipWith_append (by rw [List.length_take,List.length_take]; omega)]
 simp
theorem yC {α : Type} (t : List (List α)) : zE4 (zB t.length []) t = t:=by
 refine List.ext_getElem? fun i => ?_
 unfold zE4
 rw [List.getElem?_zipWith]
 cases ht : t[i]? with
 | none => cases (zB t.length ([] : List α))[i]? <;> rfl
 | some r => rw [List.getElem?_replicate,if_pos (zA4.1 ht).1]; rfl
def zI6 (t : List (List Rat)) (m : Nat) : Prop:=∀ r ∈ t,∀ x ∈ r,zC7 x m
theorem zI6.mono {t : List (List Rat)} {m n : Nat} (h : zI6 t m) (hmn : m <= n) : zI6 t n:=fun r hr x hx => (h r hr x hx).mono hmn
def zN9 (n : Nat) (ts : List (List (List Rat))) : List (List Rat):=ts.foldl zE4 (zB n [])
def zV (T : List (List Rat)) (i j : Nat) : Option Rat:=(T[i]?).bind fun r => r[j]?
def setq (T : List (List Rat)) (i j : Nat) (v : Rat) : List (List Rat):=T.modify i fun r => r.set j v
def cntR (r : List Rat) : Nat:=r.countP fun q => decide (q ≠ 0)
def cntT (T : List (List Rat)) : Nat:=(T.map cntR).sum
def shp (T : List (List Rat)) (R C : Nat) : Prop:=T.length = R /\ ∀ r ∈ T,r.length = C
theorem yC0 {T : List (List Rat)} {i j : Nat} {r : List Rat} {q : Rat} (h : T[i]? = some r) (hq : r[j]? = some q) : zV T i j = some q:=by unfold zV; rw [h]; exact hq
theorem zH3 {T : List (List Rat)} {R C i : Nat} (hs : shp T R C) (hi : i < R) : ∃ r,T[i]? = some r /\ r.length = C:=by
 have h1 : T[i]? = some (T[i]'(by rw [hs.1]; exact hi)):=zA3 _
 exact ⟨_,h1,hs.2 _ (zA5 h1)⟩
theorem setq_at {T : List (List Rat)} {i j : Nat} {r : List Rat} (v : Rat) (h : T[i]? = some r) : setq T i j v = T.set i (r.set j v):=by
 unfold setq
 apply List.ext_getElem?
 intro k
 rw [List.getElem?_modify,List.getElem?_set]
 by_cases e : i = k
 ·subst e
  rw [if_pos rfl,h,if_pos (zA4.1 h).1]; simp
 ·rw [if_neg e]
  cases T[k]? <;> simp [e]
theorem shp_ext {T U : List (List Rat)} {R C : Nat} (h : shp T R C) (h' : shp U R C) (he : ∀ i j,i < R -> j < C -> zV T i j = zV U i j) : T = U:=by
 apply List.ext_getElem?
 intro i
 by_cases hi : i < R
 ·obtain ⟨r,h1,h2⟩:=zH3 h hi
  obtain ⟨s,h3,h4⟩:=zH3 h' hi
  rw [h1,h3]
  congr 1
  apply List.ext_getElem?
  intro j
  by_cases hj : j < C
  ·have h5:=he i j hi hj
   unfold zV at h5
   rw [h1,h3] at h5
   exact h5
  ·rw [List.getElem?_eq_none (by omega),List.getElem?_eq_none (by omega)]
 ·rw [List.getElem?_eq_none (by rw [h.1]; omega),List.getElem?_eq_none (by rw [h'.1]; omega)]
/-! Sums over places. -/
def zC0 : Nat -> (Nat -> Rat) -> Rat
 | 0,_ => 0
 | n + 1,f => zC0 n f + f n
theorem zG0 : ∀ {n : Nat} {f g : Nat -> Rat},(∀ i,i < n -> f i = g i) -> zC0 n f = zC0 n g
  | 0,_,_,_ => rfl
  | n + 1, f, g, h => by
    show zC0 n f + f n = zC0 n g + g n
    rw [zG0 (fun i hi => h i (by omega)),h n (by omega)]
theorem zV0 : ∀ (n : Nat) (f g : Nat -> Rat),zC0 n (fun i => f i + g i) = zC0 n f + zC0 n g
  | 0,_,_ => by show (0 : Rat) = 0 + 0; grind
  | n + 1, f, g => by
    show zC0 n _ + (f n + g n) = (zC0 n f + f n) + (zC0 n g + g n)
    rw [zV0 n f g]; grind
theorem zK6 : ∀ (n : Nat) (c : Rat) (f : Nat -> Rat),zC0 n (fun i => c * f i) = c * zC0 n f
  | 0,c,_ => by show (0 : Rat) = c * 0; grind
  | n + 1, c, f => by
    show zC0 n _ + c * f n = c * (zC0 n f + f n)
    rw [zK6 n c f]; grind
theorem zX3 : ∀ {n : Nat} {f : Nat -> Rat},(∀ i,i < n -> f i = 0) -> zC0 n f = 0
  | 0,_,_ => rfl
  | n + 1, f, h => by
    show zC0 n f + f n = 0
    rw [zX3 (fun i hi => h i (by omega)),h n (by omega)]; grind
theorem zQ : ∀ {n : Nat} {f : Nat -> Rat} {a : Nat},a < n -> (∀ i,i < n -> i ≠ a -> f i = 0) -> zC0 n f = f a
  | 0,_,_,h,_ => by omega
  | n + 1, f, a, ha, h => by
    show zC0 n f + f n = f a
    by_cases e : a = n
    · subst e
      rw [zX3 (fun i hi => h i (by omega) (by omega))]; grind
    · rw [zQ (a:=a) (by omega) (fun i hi hn => h i (by omega) hn),h n (by omega) (fun e' => e e'.symm)]; grind
theorem yV0 {n : Nat} {f : Nat -> Rat} {a b : Nat} (ha : a < n) (hb : b < n) (hab : a ≠ b) (h : ∀ i,i < n -> i ≠ a -> i ≠ b -> f i = 0) : zC0 n f = f a + f b:=by
 have e : zC0 n f = zC0 n (fun i => (if i = a then f a else 0) + (if i = b then f b else 0)):=zG0 fun i hi => by
  by_cases e1 : i = a
  ·subst e1; rw [if_pos rfl,if_neg hab]; grind
  ·by_cases e2 : i = b
   ·subst e2; rw [if_neg e1,if_pos rfl]; grind
   ·rw [if_neg e1,if_neg e2,h i hi e1 e2]; grind
 rw [e,zV0,zQ (a:=a) ha (fun i _ hn => if_neg hn),zQ (a:=b) hb (fun i _ hn => if_neg hn),if_pos rfl,if_pos rfl]
theorem yC1 : ∀ (n m : Nat) (f : Nat -> Nat -> Rat),zC0 n (fun i => zC0 m (f i)) = zC0 m (fun j => zC0 n (fun i => f i j))
  | 0,m,f => (zX3 fun _ _ => rfl).symm
  | n + 1, m, f => by
    show zC0 n _ + zC0 m (f n) = _
    rw [yC1 n m f,<- zV0]
    rfl
/-! Tables as functions: what they make nought,steps,that steps are one. -/
def zV1 (n C : Nat) (M : Nat -> Nat -> Rat) (x : Nat -> Rat) : Prop:=∀ i,i < n -> zC0 C (fun j => M i j * x j) = 0
def zH0 (n C : Nat) (M M' : Nat -> Nat -> Rat) : Prop:=∀ x,zV1 n C M x ↔ zV1 n C M' x
theorem zH0.refl (n C : Nat) (M : Nat -> Nat -> Rat) : zH0 n C M M:=fun _ => Iff.rfl
theorem zH0.trans {n C : Nat} {M M' M'' : Nat -> Nat -> Rat} (h : zH0 n C M M') (h' : zH0 n C M' M'') : zH0 n C M M'':=fun x => (h x).trans (h' x)
theorem zH0.symm {n C : Nat} {M M' : Nat -> Nat -> Rat} (h : zH0 n C M M') : zH0 n C M' M:=fun x => (h x).symm
theorem qA4 {n C : Nat} {M M' : Nat -> Nat -> Rat} (h : ∀ i j,i < n -> j < C -> M i j = M' i j) : zH0 n C M M':=fun x => by
 have e : ∀ i,i < n -> zC0 C (fun j => M i j * x j) = zC0 C (fun j => M' i j * x j):=fun i hi => zG0 fun j hj => by rw [h i j hi hj]
 exact ⟨fun k i hi => (e i hi) ▸ k i hi,fun k i hi => (e i hi).symm ▸ k i hi⟩
def zE3 (M : Nat -> Nat -> Rat) (a b : Nat) : Nat -> Nat -> Rat:=fun i => if i = a then M b else if i = b then M a else M i
def zF6 (M : Nat -> Nat -> Rat) (a : Nat) (c : Rat) : Nat -> Nat -> Rat:=fun i j => if i = a then M i j * c else M i j
def zH9 (M : Nat -> Nat -> Rat) (p : Nat) (t : Nat -> Rat) : Nat -> Nat -> Rat:=fun i j => M i j - t i * M p j
theorem yC2 {n C : Nat} (M : Nat -> Nat -> Rat) {a b : Nat} (ha : a < n) (hb : b < n) : zH0 n C M (zE3 M a b):=fun x => by
 constructor
 ·intro h i hi
  unfold zE3
  by_cases e1 : i = a
  ·simp only [if_pos e1]; exact h b hb
  ·by_cases e2 : i = b
   ·simp only [if_neg e1,if_pos e2]; exact h a ha
   ·simp only [if_neg e1,if_neg e2]; exact h i hi
 ·intro h i hi
  by_cases e1 : i = a
  ·have:=h b hb
   unfold zE3 at this
   by_cases e : b = a
   ·rw [if_pos e] at this; rw [e1,<- e]; exact this
   ·rw [if_neg e,if_pos rfl] at this; rw [e1]; exact this
  ·by_cases e2 : i = b
   ·have:=h a ha
    unfold zE3 at this
    rw [if_pos rfl] at this; rw [e2]; exact this
   ·have:=h i hi
    unfold zE3 at this
    rw [if_neg e1,if_neg e2] at this; exact this
theorem yC3 {n C : Nat} (M : Nat -> Nat -> Rat) {a : Nat} {c : Rat} (hc : c ≠ 0) : zH0 n C M (zF6 M a c):=fun x => by
 have e : ∀ i,zC0 C (fun j => zF6 M a c i j * x j) = (if i = a then c else 1) * zC0 C (fun j => M i j * x j):=fun i => by
  rw [<- zK6]
  refine zG0 fun j _ => ?_
  unfold zF6
  by_cases e1 : i = a
  ·rw [if_pos e1,if_pos e1]; grind
  ·rw [if_neg e1,if_neg e1]; grind
 constructor
 ·intro h i hi
  rw [e i,h i hi]; grind
 ·intro h i hi
  have:=h i hi
  rw [e i] at this
  by_cases e1 : i = a
  ·rw [if_pos e1] at this
   rcases Rat.mul_eq_zero.1 this with h0 | h0
   ·exact absurd h0 hc
   ·exact h0
  ·rw [if_neg e1] at this; grind
theorem qP8 {C : Nat} (M : Nat -> Nat -> Rat) (p i : Nat) (t : Nat -> Rat) (x : Nat -> Rat) : zC0 C (fun j => zH9 M p t i j * x j) = zC0 C (fun j => M i j * x j) - t i * zC0 C (fun j => M p j * x j):=by
 have e : zC0 C (fun j => M i j * x j) - t i * zC0 C (fun j => M p j * x j) = zC0 C (fun j => M i j * x j) + (-(t i)) * zC0 C (fun j => M p j * x j):=by grind
 rw [e,<- zK6,<- zV0]
 refine zG0 fun j _ => ?_
 unfold zH9
 grind
theorem qP9 {n C : Nat} (M : Nat -> Nat -> Rat) {p : Nat} {t : Nat -> Rat} (hp : p < n) (ht : t p = 0) : zH0 n C M (zH9 M p t):=fun x => by
 constructor
 ·intro h i hi
  rw [qP8,h i hi,h p hp]; grind
 ·intro h i hi
  have h0:=h p hp
  rw [qP8,ht] at h0
  have h1:=h i hi
  rw [qP8] at h1
  have h2 : zC0 C (fun j => M p j * x j) = 0:=by grind
  rw [h2] at h1; grind
structure Ech (n at_ : Nat) (M : Nat -> Nat -> Rat) (k : Nat) (p : Nat -> Nat) : Prop where
 le : k <= n
 rise : ∀ i j,i < j -> j < k -> p i < p j
 lt : ∀ i,i < k -> p i < at_
 one : ∀ i,i < k -> M i (p i) = 1
 lead : ∀ i,i < k -> ∀ j,j < p i -> M i j = 0
 rest : ∀ i,k <= i -> i < n -> ∀ j,j < at_ -> M i j = 0
def Red (n : Nat) (M : Nat -> Nat -> Rat) (k : Nat) (p : Nat -> Nat) (u : Nat) : Prop:=∀ m,u <= m -> m < k -> ∀ i,i < n -> i ≠ m -> M i (p m) = 0
theorem Ech.zero (n : Nat) (M : Nat -> Nat -> Rat) (p : Nat -> Nat) : Ech n 0 M 0 p:=⟨by omega,fun _ _ _ h => by omega,fun _ h => by omega,fun _ h => by omega,fun _ h => by omega,fun _ _ _ _ h => by omega⟩
theorem Ech.skip {n a k : Nat} {M : Nat -> Nat -> Rat} {p : Nat -> Nat} (h : Ech n a M k p) (h0 : ∀ i,k <= i -> i < n -> M i a = 0) : Ech n (a + 1) M k p :=
 ⟨h.le, h.rise, fun i hi => by have := h.lt i hi; omega, h.one, h.lead, fun i h1 h2 j hj => by
  by_cases e : j = a
  ·subst e; exact h0 i h1 h2
  ·exact h.rest i h1 h2 j (by omega)⟩
theorem Ech.congr {n a k C : Nat} {M M' : Nat -> Nat -> Rat} {p p' : Nat -> Nat} (h : Ech n a M k p) (ha : a <= C) (hM : ∀ i j,i < n -> j < C -> M i j = M' i j) (hp : ∀ i,i < k -> p i = p' i) : Ech n a M' k p':=by
 have hle:=h.le
 refine ⟨h.le,fun i j hi hj => by rw [<- hp i (by omega),<- hp j hj]; exact h.rise i j hi hj,fun i hi => by rw [<- hp i hi]; exact h.lt i hi,fun i hi => ?_,fun i hi j hj => ?_,fun i h1 h2 j hj => ?_⟩
 ·rw [<- hp i hi,<- hM i _ (by omega) (by have:=h.lt i hi; omega)]; exact h.one i hi
 ·rw [<- hp i hi] at hj
  rw [<- hM i j (by omega) (by have:=h.lt i hi; omega)]; exact h.lead i hi j hj
 ·rw [<- hM i j h2 (by omega)]; exact h.rest i h1 h2 j hj
theorem Red.congr {n k u C : Nat} {M M' : Nat -> Nat -> Rat} {p p' : Nat -> Nat} (h : Red n M k p u) (hlt : ∀ i,i < k -> p i < C) (hM : ∀ i j,i < n -> j < C -> M i j = M' i j) (hp : ∀ i,i < k -> p i = p' i) : Red n M' k p' u:=fun m h1 h2 i h3 h4 => by
 rw [<- hp m h2,<- hM i _ h3 (hlt m h2)]; exact h m h1 h2 i h3 h4
theorem Ech.swap {n a k f : Nat} {M : Nat -> Nat -> Rat} {p : Nat -> Nat} (h : Ech n a M k p) (hf : k <= f) (hn : f < n) : Ech n a (zE3 M k f) k p:=by
 refine ⟨h.le,h.rise,h.lt,fun i hi => ?_,fun i hi j hj => ?_,fun i h1 h2 j hj => ?_⟩
 ·unfold zE3; rw [if_neg (by omega),if_neg (by omega)]; exact h.one i hi
 ·unfold zE3; rw [if_neg (by omega),if_neg (by omega)]; exact h.lead i hi j hj
 ·unfold zE3
  by_cases e : i = k
  ·rw [if_pos e]; exact h.rest f hf hn j hj
  ·rw [if_neg e]
   by_cases e2 : i = f
   ·rw [if_pos e2]; exact h.rest k (by omega) (by omega) j hj
   ·rw [if_neg e2]; exact h.rest i h1 h2 j hj
theorem Ech.scale {n a k : Nat} {M : Nat -> Nat -> Rat} {p : Nat -> Nat} (h : Ech n a M k p) (c : Rat) : Ech n a (zF6 M k c) k p:=by
 refine ⟨h.le,h.rise,h.lt,fun i hi => ?_,fun i hi j hj => ?_,fun i h1 h2 j hj => ?_⟩
 ·unfold zF6; rw [if_neg (by omega)]; exact h.one i hi
 ·unfold zF6; rw [if_neg (by omega)]; exact h.lead i hi j hj
 ·unfold zF6
  by_cases e : i = k
  ·rw [if_pos e,h.rest i h1 h2 j hj]; grind
  ·rw [if_neg e]; exact h.rest i h1 h2 j hj
theorem Ech.clear {n a k : Nat} {M : Nat -> Nat -> Rat} {p : Nat -> Nat} {t : Nat -> Rat} (h : Ech n a M k p) (hk : k < n) (h1 : M k a = 1) (ht : t k = 0) (hb : ∀ i,k < i -> i < n -> t i = M i a) : Ech n (a + 1) (zH9 M k t) (k + 1) (fun i => if i < k then p i else a):=by
 have z : ∀ j,j < a -> M k j = 0:=fun j hj => h.rest k (by omega) hk j hj
 refine ⟨by omega,fun i j hi hj => ?_,fun i hi => ?_,fun i hi => ?_,fun i hi j hj => ?_,fun i h2 h3 j hj => ?_⟩
 ·by_cases e : j < k
  ·rw [if_pos e,if_pos (by omega)]; exact h.rise i j hi e
  ·rw [if_neg e,if_pos (by omega)]; exact h.lt i (by omega)
 ·by_cases e : i < k
  ·simp only [if_pos e]; have:=h.lt i e; omega
  ·simp only [if_neg e]; omega
 ·unfold zH9
  by_cases e : i < k
  ·simp only [if_pos e]; rw [h.one i e,z _ (h.lt i e)]; grind
  ·simp only [if_neg e]
   obtain rfl : i = k:=by omega
   rw [ht,h1]; grind
 ·unfold zH9
  by_cases e : i < k
  ·simp only [if_pos e] at hj
   rw [h.lead i e j hj,z j (by have:=h.lt i e; omega)]; grind
  ·simp only [if_neg e] at hj
   obtain rfl : i = k:=by omega
   rw [z j hj]; grind
 ·unfold zH9
  by_cases e : j = a
  ·subst e
   rw [hb i (by omega) h3,h1]; grind
  ·rw [h.rest i (by omega) h3 j (by omega),z j (by omega)]; grind
theorem Red.swap {n k f : Nat} {M : Nat -> Nat -> Rat} {p : Nat -> Nat} (h : Red n M k p 0) (hf : k <= f) (hn : f < n) : Red n (zE3 M k f) k p 0:=fun m h1 h2 i h3 h4 => by
 unfold zE3
 by_cases e : i = k
 ·rw [if_pos e]; exact h m h1 h2 f hn (by omega)
 ·rw [if_neg e]
  by_cases e2 : i = f
  ·rw [if_pos e2]; exact h m h1 h2 k (by omega) (by omega)
  ·rw [if_neg e2]; exact h m h1 h2 i h3 h4
theorem Red.scale {n k : Nat} {M : Nat -> Nat -> Rat} {p : Nat -> Nat} (h : Red n M k p 0) (c : Rat) : Red n (zF6 M k c) k p 0:=fun m h1 h2 i h3 h4 => by
 unfold zF6
 by_cases e : i = k
 ·rw [if_pos e,h m h1 h2 i h3 h4]; grind
 ·rw [if_neg e]; exact h m h1 h2 i h3 h4
theorem Red.clear {n a k : Nat} {M : Nat -> Nat -> Rat} {p : Nat -> Nat} {t : Nat -> Rat} (h : Red n M k p 0) (he : Ech n a M k p) (hk : k < n) (h1 : M k a = 1) (ht : t k = 0) (hb : ∀ i,i ≠ k -> i < n -> t i = M i a) : Red n (zH9 M k t) (k + 1) (fun i => if i < k then p i else a) 0:=fun m h2 h3 i h4 h5 => by
 unfold zH9
 by_cases e : m < k
 ·simp only [if_pos e]
  rw [h m h2 e i h4 h5,h m h2 e k hk (by omega)]; grind
 ·simp only [if_neg e]
  obtain rfl : m = k:=by omega
  rw [hb i h5 h4,h1]; grind
theorem Ech.up {n a k m : Nat} {M : Nat -> Nat -> Rat} {p : Nat -> Nat} {t : Nat -> Rat} (h : Ech n a M k p) (hm : m < k) (ht : ∀ i,m <= i -> t i = 0) : Ech n a (zH9 M m t) k p:=by
 have z : ∀ i j,i < m -> j <= p i -> M m j = 0:=fun i j hi hj => h.lead m hm j (by have:=h.rise i m hi hm; omega)
 refine ⟨h.le,h.rise,h.lt,fun i hi => ?_,fun i hi j hj => ?_,fun i h1 h2 j hj => ?_⟩
 ·unfold zH9
  by_cases e : i < m
  ·rw [h.one i hi,z i _ e (zB3 _)]; grind
  ·rw [h.one i hi,ht i (by omega)]; grind
 ·unfold zH9
  by_cases e : i < m
  ·rw [h.lead i hi j hj,z i j e (by omega)]; grind
  ·rw [h.lead i hi j hj,ht i (by omega)]; grind
 ·unfold zH9
  rw [h.rest i h1 h2 j hj,ht i (by omega)]; grind
theorem Red.up {n a k m : Nat} {M : Nat -> Nat -> Rat} {p : Nat -> Nat} {t : Nat -> Rat} (h : Red n M k p (m + 1)) (he : Ech n a M k p) (hm : m < k) (ht : ∀ i,m <= i -> t i = 0) (hb : ∀ i,i < m -> t i = M i (p m)) : Red n (zH9 M m t) k p m:=fun q h1 h2 i h3 h4 => by
 have hle:=he.le
 unfold zH9
 by_cases e : q = m
 ·subst e
  by_cases e2 : i < q
  ·rw [hb i e2,he.one q hm]; grind
  ·rw [ht i (by omega)]
   by_cases e3 : i < k
   ·rw [he.lead i e3 _ (he.rise q i (by omega) e3)]; grind
   ·rw [he.rest i (by omega) h3 _ (he.lt q hm)]; grind
 ·rw [h q (by omega) h2 i h3 h4,h q (by omega) h2 m (by omega) (by omega)]; grind
def nv (M : Nat -> Nat -> Rat) (k : Nat) (p : Nat -> Nat) (j : Nat) : Nat -> Rat:=fun c => if c = j then 1 else -(zC0 k (fun i => if p i = c then M i j else 0))
theorem Ech.inj {n a k : Nat} {M : Nat -> Nat -> Rat} {p : Nat -> Nat} (h : Ech n a M k p) {i j : Nat} (hi : i < k) (hj : j < k) (e : p i = p j) : i = j:=by
 rcases Nat.lt_trichotomy i j with hl | hl | hl
 ·have:=h.rise i j hl hj; omega
 ·exact hl
 ·have:=h.rise j i hl hi; omega
theorem qQ {M : Nat -> Nat -> Rat} {k : Nat} {p : Nat -> Nat} {j : Nat} : nv M k p j j = 1:=if_pos rfl
theorem yC4 {n a k : Nat} {M : Nat -> Nat -> Rat} {p : Nat -> Nat} (h : Ech n a M k p) {i j : Nat} (hi : i < k) (hne : p i ≠ j) : nv M k p j (p i) = - M i j:=by
 unfold nv
 rw [if_neg hne,zQ (a:=i) hi (fun m hm hn => if_neg fun e => hn (h.inj hm hi e)),if_pos rfl]
theorem yC5 {M : Nat -> Nat -> Rat} {k : Nat} {p : Nat -> Nat} {j c : Nat} (hc : c ≠ j) (hf : ∀ i,i < k -> p i ≠ c) : nv M k p j c = 0:=by
 unfold nv
 rw [if_neg hc,zX3 (fun i hi => if_neg (hf i hi))]; grind
theorem yC6 {n C k : Nat} {M : Nat -> Nat -> Rat} {p : Nat -> Nat} (h : Ech n C M k p) (hr : Red n M k p 0) {j : Nat} (hj : j < C) (hf : ∀ i,i < k -> p i ≠ j) : zV1 n C M (nv M k p j):=fun i hi => by
  by_cases e : i < k
  · rw [yV0 (a := p i) (b := j) (h.lt i e) hj (hf i e) (fun c hc h1 h2 => ?_), yC4 h e (hf i e), qQ, h.one i e]
    · grind
    · by_cases hp : ∃ m,m < k /\ p m = c
      · obtain ⟨m,hm,rfl⟩:=hp
        rw [hr m (by omega) hm i hi (fun e2 => h1 (by rw [e2]))]; grind
      · rw [yC5 h2 (fun m hm e2 => hp ⟨m,hm,e2⟩)]; grind
  · exact zX3 fun c hc => by rw [h.rest i (by omega) hi c hc]; grind
theorem yV1 {n a k : Nat} {M : Nat -> Nat -> Rat} {p : Nat -> Nat} (h : Ech n a M k p) {j c : Nat} (hc : j < c) : nv M k p j c = 0:=by
 by_cases hp : ∃ m,m < k /\ p m = c
 ·obtain ⟨m,hm,rfl⟩:=hp
  rw [yC4 h hm (by omega),h.lead m hm j hc]; grind
 ·exact yC5 (by omega) (fun m hm e2 => hp ⟨m,hm,e2⟩)
/-! What each change of rows does to a number that is made of a table; determinants by the first row. -/
def zK8 (M : Nat -> Nat -> Rat) (a b : Nat) (t : Rat) : Nat -> Nat -> Rat:=fun i j => if i = a then M i j - t * M b j else M i j
structure RowFn (n C : Nat) (f : (Nat -> Nat -> Rat) -> Rat) : Prop where
 congr : ∀ M M',(∀ i j,i < n -> j < C -> M i j = M' i j) -> f M = f M'
 scale : ∀ M a c,a < n -> f (zF6 M a c) = c * f M
 add : ∀ M a b t,a < n -> b < n -> a ≠ b -> f (zK8 M a b t) = f M
theorem RowFn.zero {n C : Nat} {f : (Nat -> Nat -> Rat) -> Rat} (h : RowFn n C f) {M : Nat -> Nat -> Rat} {a : Nat} (ha : a < n) (h0 : ∀ j,j < C -> M a j = 0) : f M = 0:=by
 have h1:=h.scale M a 0 ha
 rw [h.congr (zF6 M a 0) M (fun i j hi hj => by
  unfold zF6
  by_cases e : i = a
  ·rw [if_pos e,e,h0 j hj]; grind
  ·rw [if_neg e])] at h1
 rw [h1]; grind
theorem RowFn.clear {n C : Nat} {f : (Nat -> Nat -> Rat) -> Rat} (h : RowFn n C f) (M : Nat -> Nat -> Rat) {p : Nat} {t : Nat -> Rat} (hp : p < n) (ht : t p = 0) : f (zH9 M p t) = f M:=by
  have key : ∀ m,m <= n -> f (fun i j => if i < m then zH9 M p t i j else M i j) = f M:=by
    intro m
    induction m with
    | zero => intro _; exact h.congr _ _ fun i j _ _ => if_neg (by omega)
    | succ m ih =>
      intro hm
      rw [<- ih (by omega)]
      by_cases e : m = p
      · refine h.congr _ _ fun i j hi hj => ?_
        by_cases e1 : i < m
        · simp only [if_pos e1,if_pos (show i < m + 1 by omega)]
        · by_cases e2 : i = m
          · subst e2
            simp only [if_neg e1,if_pos (show i < i + 1 by omega)]
            unfold zH9
            rw [e,ht]; grind
          · simp only [if_neg e1,if_neg (show ¬ i < m + 1 by omega)]
      · rw [<- h.add (fun i j => if i < m then zH9 M p t i j else M i j) m p (t m) (by omega) hp e]
        refine h.congr _ _ fun i j hi hj => ?_
        unfold zK8
        by_cases e2 : i = m
        · subst e2
          simp only [if_pos (show i < i + 1 by omega),if_neg (show ¬ i < i by omega)]
          by_cases e3 : p < i
          · simp only [if_pos e3]
            unfold zH9
            rw [ht]; grind
          · simp only [if_neg e3]
            rfl
        · simp only [if_neg e2]
          by_cases e1 : i < m
          · simp only [if_pos e1,if_pos (show i < m + 1 by omega)]
          · simp only [if_neg e1,if_neg (show ¬ i < m + 1 by omega)]
  rw [<- key n (zB3 _)]
  exact h.congr _ _ fun i j hi _ => (if_pos hi).symm
theorem RowFn.swap {n C : Nat} {f : (Nat -> Nat -> Rat) -> Rat} (h : RowFn n C f) (M : Nat -> Nat -> Rat) {a b : Nat} (ha : a < n) (hb : b < n) (hab : a ≠ b) : f (zE3 M a b) = - f M:=by
 have e1:=h.add M a b (-1) ha hb hab
 have e2:=h.add (zK8 M a b (-1)) b a 1 hb ha (fun e => hab e.symm)
 have e3:=h.add (zK8 (zK8 M a b (-1)) b a 1) a b (-1) ha hb hab
 have e4:=h.scale (zK8 (zK8 (zK8 M a b (-1)) b a 1) a b (-1)) b (-1) hb
 have e5 : f (zE3 M a b) = f (zF6 (zK8 (zK8 (zK8 M a b (-1)) b a 1) a b (-1)) b (-1)):=h.congr _ _ fun i j hi hj => by
  have hba : b ≠ a:=fun e => hab e.symm
  unfold zE3 zF6 zK8
  by_cases k1 : i = a
  ·subst k1
   simp only [if_neg hab,if_neg hba]
   grind
  ·by_cases k2 : i = b
   ·subst k2
    simp only [if_neg hba]
    grind
   ·simp only [if_neg k1,if_neg k2]
 rw [e5,e4,e3,e2,e1]; grind
def zG6 (j c : Nat) : Nat:=if c < j then c else c + 1
def qA5 (a b : Nat) : Nat:=if b < a then b else b - 1
def sgN (j : Nat) : Rat:=if j % 2 = 0 then 1 else -1
def zK9 (M : Nat -> Nat -> Rat) (j : Nat) : Nat -> Nat -> Rat:=fun i c => M (i + 1) (zG6 j c)
def zC6 : Nat -> (Nat -> Nat -> Rat) -> Rat
 | 0,_ => 1
 | n + 1,M => zC0 (n + 1) (fun j => sgN j * M 0 j * zC6 n (zK9 M j))
theorem zX4 {j c n : Nat} (hc : c < n) : zG6 j c < n + 1:=by unfold zG6; split <;> omega
theorem yV2 (j c : Nat) : zG6 j c ≠ j:=by unfold zG6; split <;> omega
theorem yV3 (a l : Nat) : qA5 a (zG6 a l) = l:=by
 unfold qA5 zG6
 by_cases h : l < a
 ·rw [if_pos h,if_pos h]
 ·rw [if_neg h,if_neg (by omega)]; omega
theorem yV4 {a b : Nat} (h : a < b) (c : Nat) : zG6 a (zG6 (b - 1) c) = zG6 b (zG6 a c):=by
 unfold zG6
 by_cases h1 : c < a
 ·simp only [if_pos h1,if_pos (show c < b - 1 by omega),if_pos (show c < b by omega)]
 ·by_cases h2 : c < b - 1
  ·simp only [if_neg h1,if_pos h2,if_pos (show c + 1 < b by omega)]
  ·simp only [if_neg h1,if_neg h2,if_neg (show ¬ c + 1 < a by omega),if_neg (show ¬ c + 1 < b by omega)]
theorem yV5 {b : Nat} (h : 0 < b) : sgN (b - 1) = - sgN b:=by
 unfold sgN
 by_cases h1 : b % 2 = 0
 ·rw [if_pos h1,if_neg (by omega)]
 ·rw [if_neg h1,if_pos (by omega)]; grind
theorem zK1 : ∀ (n : Nat) {M M' : Nat -> Nat -> Rat},(∀ i j,i < n -> j < n -> M i j = M' i j) -> zC6 n M = zC6 n M'
  | 0,_,_,_ => rfl
  | n + 1, M, M', h => zG0 fun j hj => by
    rw [h 0 j (by omega) hj,zK1 n (M:=zK9 M j) (M':=zK9 M' j) (fun i c hi hc => h (i + 1) _ (by omega) (zX4 hc))]
theorem qQ0 : ∀ (n : Nat) {M M1 M2 : Nat -> Nat -> Rat} (a : Nat) (x y : Rat),a < n -> (∀ j,j < n -> M a j = x * M1 a j + y * M2 a j) -> (∀ i j,i < n -> j < n -> i ≠ a -> M i j = M1 i j /\ M i j = M2 i j) -> zC6 n M = x * zC6 n M1 + y * zC6 n M2
  | 0,_,_,_,_,_,_,h,_,_ => by omega
  | n + 1, M, M1, M2, 0, x, y, _, h1, h2 => by
    show zC0 _ _ = x * zC0 _ _ + y * zC0 _ _
    rw [<- zK6,<- zK6,<- zV0]
    refine zG0 fun j hj => ?_
    rw [h1 j hj,zK1 n (M:=zK9 M j) (M':=zK9 M1 j) (fun i c hi hc => (h2 (i + 1) _ (by omega) (zX4 hc) (by omega)).1),zK1 n (M:=zK9 M2 j) (M':=zK9 M1 j) (fun i c hi hc => by
      have:=h2 (i + 1) (zG6 j c) (by omega) (zX4 hc) (by omega)
      exact this.2.symm.trans this.1)]
    grind
  | n + 1, M, M1, M2, a + 1, x, y, ha, h1, h2 => by
    show zC0 _ _ = x * zC0 _ _ + y * zC0 _ _
    rw [<- zK6,<- zK6,<- zV0]
    refine zG0 fun j hj => ?_
    rw [qQ0 n (M:=zK9 M j) (M1:=zK9 M1 j) (M2:=zK9 M2 j) a x y (by omega) (fun c hc => h1 _ (zX4 hc)) (fun i c hi hc hne => h2 (i + 1) _ (by omega) (zX4 hc) (by omega)),<- (h2 0 j (by omega) hj (by omega)).1,<- (h2 0 j (by omega) hj (by omega)).2]
    grind
theorem yC7 : ∀ (n j : Nat) (F : Nat -> Rat),j < n + 1 -> zC0 n (fun l => F (zG6 j l)) + F j = zC0 (n + 1) F
  | 0, j, F, h => by
    obtain rfl : j = 0:=by omega
    rfl
  | n + 1, j, F, h => by
    show (zC0 n _ + F (zG6 j n)) + F j = zC0 (n + 1) F + F (n + 1)
    by_cases e : j = n + 1
    · subst e
      have h1 : zC0 n (fun l => F (zG6 (n + 1) l)) = zC0 n F:=zG0 fun l hl => by unfold zG6; rw [if_pos (by omega)]
      rw [h1]
      unfold zG6
      rw [if_pos (by omega)]
      rfl
    · have h1:=yC7 n j F (by omega)
      rw [<- h1]
      have h2 : zG6 j n = n + 1:=by unfold zG6; rw [if_neg (by omega)]
      rw [h2]; grind
def zO2 (n : Nat) (M : Nat -> Nat -> Rat) (a b : Nat) : Rat:=if b = a then 0 else sgN a * sgN (qA5 a b) * zC6 n (fun i c => M (i + 2) (zG6 a (zG6 (qA5 a b) c)))
theorem yV6 (n : Nat) (M : Nat -> Nat -> Rat) (a b : Nat) : zO2 n M b a = - zO2 n M a b:=by
 have main : ∀ a b,a < b -> zO2 n M b a = - zO2 n M a b:=by
  intro a b h
  unfold zO2
  rw [if_neg (by omega),if_neg (by omega)]
  have e1 : qA5 b a = a:=if_pos h
  have e2 : qA5 a b = b - 1:=if_neg (by omega)
  rw [e1,e2,yV5 (by omega),zK1 n (M:=fun i c => M (i + 2) (zG6 a (zG6 (b - 1) c))) (M':=fun i c => M (i + 2) (zG6 b (zG6 a c))) (fun i c _ _ => by rw [yV4 h])]
  grind
 rcases Nat.lt_trichotomy a b with h | h | h
 ·exact main a b h
 ·subst h; unfold zO2; rw [if_pos rfl]; grind
 ·have:=main b a h
  rw [this]; grind
theorem yC8 (n : Nat) (M : Nat -> Nat -> Rat) : zC6 (n + 2) M = zC0 (n + 2) (fun j => zC0 (n + 2) (fun b => M 0 j * M 1 b * zO2 n M j b)):=by
 show zC0 (n + 2) _ = _
 refine zG0 fun j hj => ?_
 show sgN j * M 0 j * zC0 (n + 1) _ = _
 rw [<- yC7 (n + 1) j _ hj,<- zK6]
 have h0 : zO2 n M j j = 0:=if_pos rfl
 simp only [h0]
 rw [show M 0 j * M 1 j * 0 = 0 by grind,Rat.add_zero]
 refine zG0 fun l hl => ?_
 unfold zO2
 rw [if_neg (yV2 j l),yV3]
 show sgN j * M 0 j * (sgN l * M 1 (zG6 j l) * zC6 n (fun i c => M (i + 2) (zG6 j (zG6 l c)))) = _
 grind
theorem yV7 (n : Nat) (M : Nat -> Nat -> Rat) : zC6 (n + 2) (zE3 M 0 1) = - zC6 (n + 2) M:=by
 rw [yC8,yC8,yC1]
 have e : - zC0 (n + 2) (fun j => zC0 (n + 2) (fun b => M 0 j * M 1 b * zO2 n M j b)) = (-1) * zC0 (n + 2) (fun j => zC0 (n + 2) (fun b => M 0 j * M 1 b * zO2 n M j b)):=by grind
 rw [e,<- zK6]
 refine zG0 fun j hj => ?_
 rw [<- zK6]
 refine zG0 fun b hb => ?_
 have e0 : zE3 M 0 1 0 b = M 1 b:=rfl
 have e1 : zE3 M 0 1 1 j = M 0 j:=rfl
 have e2 : zO2 n (zE3 M 0 1) b j = zO2 n M b j:=rfl
 rw [e0,e1,e2,yV6 n M j b]; grind
theorem qQ1 : ∀ (i n : Nat) (M : Nat -> Nat -> Rat),i + 1 < n -> zC6 n (zE3 M i (i + 1)) = - zC6 n M
  | 0,0,_,h => by omega
  | 0,1,_,h => by omega
  | 0,n + 2,M,_ => yV7 n M
  | i + 1,0,_,h => by omega
  | i + 1, n + 1, M, h => by
    show zC0 _ _ = - zC0 _ _
    have e : - zC0 (n + 1) (fun j => sgN j * M 0 j * zC6 n (zK9 M j)) = (-1) * zC0 (n + 1) (fun j => sgN j * M 0 j * zC6 n (zK9 M j)):=by grind
    rw [e,<- zK6]
    refine zG0 fun j hj => ?_
    have e0 : zE3 M (i + 1) (i + 1 + 1) 0 j = M 0 j:=by unfold zE3; rw [if_neg (by omega),if_neg (by omega)]
    have e1 : zK9 (zE3 M (i + 1) (i + 1 + 1)) j = zE3 (zK9 M j) i (i + 1):=by
      funext r c
      unfold zK9 zE3
      by_cases k1 : r = i
      · rw [if_pos (by omega),if_pos k1]
      · by_cases k2 : r = i + 1
        · rw [if_neg (by omega),if_pos (by omega),if_neg k1,if_pos k2]
        · rw [if_neg (by omega),if_neg (by omega),if_neg k1,if_neg k2]
    rw [e0,e1,qQ1 i n (zK9 M j) (by omega)]; grind
theorem qQ2 : ∀ (d a n : Nat) (M : Nat -> Nat -> Rat),a + d + 1 < n -> (∀ j,j < n -> M a j = M (a + d + 1) j) -> zC6 n M = 0
  | 0, a, n, M, h, he => by
    have h1:=qQ1 a n M h
    rw [zK1 n (M := zE3 M a (a + 1)) (M' := M) (fun i j hi hj => by
      unfold zE3
      by_cases k1 : i = a
      · rw [if_pos k1,k1]; exact (he j hj).symm
      · by_cases k2 : i = a + 1
        · rw [if_neg k1,if_pos k2,k2]; exact he j hj
        · rw [if_neg k1,if_neg k2])] at h1
    grind
  | d + 1, a, n, M, h, he => by
    have h1:=qQ1 (a + d + 1) n M (by omega)
    have h2:=qQ2 d a n (zE3 M (a + d + 1) (a + d + 1 + 1)) (by omega) (fun j hj => by
      unfold zE3
      rw [if_neg (by omega),if_neg (by omega),if_pos rfl]
      exact he j hj)
    rw [h2] at h1
    grind
theorem zR3 (n : Nat) : RowFn n n (zC6 n):=by
 refine ⟨fun M M' h => zK1 n h,fun M a c ha => ?_,fun M a b t ha hb hab => ?_⟩
 ·have h:=qQ0 n (M:=zF6 M a c) (M1:=M) (M2:=M) a c 0 ha (fun j _ => by unfold zF6; rw [if_pos rfl]; grind) (fun i j _ _ hne => by unfold zF6; rw [if_neg hne]; exact ⟨rfl,rfl⟩)
  rw [h]; grind
 ·have h:=qQ0 n (M:=zK8 M a b t) (M1:=M) (M2:=fun i j => if i = a then M b j else M i j) a 1 (-t) ha (fun j _ => by unfold zK8; rw [if_pos rfl,if_pos rfl]; grind) (fun i j _ _ hne => by unfold zK8; rw [if_neg hne,if_neg hne]; exact ⟨rfl,rfl⟩)
  have h0 : zC6 n (fun i j => if i = a then M b j else M i j) = 0:=by
   rcases Nat.lt_or_gt_of_ne hab with hl | hl
   ·refine qQ2 (b - a - 1) a n _ (by omega) (fun j _ => ?_)
    rw [show a + (b - a - 1) + 1 = b by omega,if_pos rfl,if_neg (fun e => hab e.symm)]
   ·refine qQ2 (a - b - 1) b n _ (by omega) (fun j _ => ?_)
    rw [show b + (a - b - 1) + 1 = a by omega,if_pos rfl,if_neg (fun e => hab e.symm)]
  rw [h,h0]; grind
def idF : Nat -> Nat -> Rat:=fun i j => if i = j then 1 else 0
theorem qE0 : ∀ n,zC6 n idF = 1
  | 0 => rfl
  | n + 1 => by
    show zC0 (n + 1) _ = 1
    rw [zQ (a:=0) (by omega) (fun j _ hne => by
      have : idF 0 j = 0:=if_neg (fun e => hne e.symm)
      rw [this]; grind)]
    have e : zK9 idF 0 = idF:=by
      funext i c
      have e0 : zG6 0 c = c + 1:=if_neg (by omega)
      unfold zK9
      rw [e0]
      unfold idF
      by_cases k : i = c
      · rw [if_pos k,if_pos (by omega)]
      · rw [if_neg k,if_neg (by omega)]
    rw [e,qE0 n]
    show sgN 0 * 1 * 1 = 1
    unfold sgN
    grind
def zO3 (n : Nat) (M B : Nat -> Nat -> Rat) : Nat -> Nat -> Rat:=fun i j => zC0 n (fun l => M i l * B l j)
theorem yV8 (n : Nat) (B : Nat -> Nat -> Rat) : RowFn n n (fun M => zC6 n (zO3 n M B)):=by
 have hd:=zR3 n
 refine ⟨fun M M' h => hd.congr _ _ fun i j hi hj => zG0 fun l hl => by rw [h i l hi hl],fun M a c ha => ?_,fun M a b t ha hb hab => ?_⟩
 ·rw [<- hd.scale _ a c ha]
  refine hd.congr _ _ fun i j hi hj => ?_
  unfold zO3 zF6
  by_cases e : i = a
  ·simp only [if_pos e]
   rw [show zC0 n (fun l => M i l * B l j) * c = c * zC0 n (fun l => M i l * B l j) by grind,<- zK6]
   exact zG0 fun l _ => by grind
  ·simp only [if_neg e]
 ·rw [<- hd.add (zO3 n M B) a b t ha hb hab]
  refine hd.congr _ _ fun i j hi hj => ?_
  unfold zO3 zK8
  by_cases e : i = a
  ·simp only [if_pos e]
   rw [show zC0 n (fun l => M i l * B l j) - t * zC0 n (fun l => M b l * B l j) = zC0 n (fun l => M i l * B l j) + (-t) * zC0 n (fun l => M b l * B l j) by grind,<- zK6,<- zV0]
   exact zG0 fun l _ => by grind
  ·simp only [if_neg e]
theorem mulF_id (n : Nat) (B : Nat -> Nat -> Rat) {i j : Nat} (hi : i < n) : zO3 n idF B i j = B i j:=by
 unfold zO3
 rw [zQ (a:=i) hi (fun l _ hne => by
  have : idF i l = 0:=if_neg (fun e => hne e.symm)
  rw [this]; grind)]
 have : idF i i = 1:=if_pos rfl
 rw [this]; grind
theorem Ech.full {n k : Nat} {M : Nat -> Nat -> Rat} {p : Nat -> Nat} (h : Ech n n M k p) (hk : k = n) {i : Nat} (hi : i < n) : p i = i:=by
  subst hk
  have a1 : ∀ i,i < k -> i <= p i:=by
    intro i
    induction i with
    | zero => intro _; omega
    | succ i ih =>
      intro hi
      have:=ih (by omega)
      have:=h.rise i (i + 1) (by omega) hi
      omega
  have a2 : ∀ d i,i + d + 1 = k -> p i <= i:=by
    intro d
    induction d with
    | zero => intro i e; have:=h.lt i (by omega); omega
    | succ d ih =>
      intro i e
      have:=ih (i + 1) (by omega)
      have:=h.rise i (i + 1) (by omega) (by omega)
      omega
  have:=a1 i hi
  have:=a2 (k - i - 1) i (by omega)
  omega
theorem RowFn.unit {n k : Nat} {f : (Nat -> Nat -> Rat) -> Rat} (h : RowFn n n f) {p : Nat -> Nat} (hk : k = n) : ∀ (m : Nat) (M : Nat -> Nat -> Rat),m <= k -> Ech n n M k p -> Red n M k p m -> f M = f idF
  | 0, M, _, he, hr => h.congr _ _ fun i j hi hj => by
    have hp:=he.full hk hj
    by_cases e : i = j
    · subst e
      have:=he.one i (by omega)
      rw [hp] at this
      rw [this]; exact (if_pos rfl).symm
    · have:=hr j (by omega) (by omega) i hi e
      rw [hp] at this
      rw [this]; exact (if_neg e).symm
  | m + 1, M, hm, he, hr => by
    obtain ⟨t,ht⟩ : ∃ t : Nat -> Rat,t = fun i => if i < m then M i (p m) else 0:=⟨_,rfl⟩
    have h1 : ∀ i,m <= i -> t i = 0:=fun i hi => by rw [ht]; exact if_neg (by omega)
    have h2 : ∀ i,i < m -> t i = M i (p m):=fun i hi => by rw [ht]; exact if_pos hi
    rw [<- h.clear M (p:=m) (t:=t) (by omega) (h1 m (zB3 _))]
    exact RowFn.unit h hk m _ (by omega) (he.up (by omega) h1) (hr.up he (by omega) h1 h2)
theorem RowFn.steps {n k : Nat} {f : (Nat -> Nat -> Rat) -> Rat} (h : RowFn n n f) {M : Nat -> Nat -> Rat} {p : Nat -> Nat} (he : Ech n n M k p) : f M = if k = n then f idF else 0:=by
 by_cases hk : k = n
 ·rw [if_pos hk]
  exact h.unit hk k M (zB3 _) he (fun m h1 h2 => by omega)
 ·rw [if_neg hk]
  have:=he.le
  exact h.zero (a:=k) (by omega) (fun j hj => he.rest k (zB3 _) (by omega) j hj)
def zB9 (T : List (List Rat)) : Nat -> Nat -> Rat:=fun i j => (T.getD i []).getD j 0
theorem zJ6 {T : List (List Rat)} {i : Nat} {r : List Rat} (h : T[i]? = some r) : T.getD i [] = r:=by
 rw [zA6,h]; rfl
theorem zO4 {T : List (List Rat)} {i : Nat} {r : List Rat} (h : T[i]? = some r) (j : Nat) : zB9 T i j = r.getD j 0:=by
 unfold zB9
 rw [zJ6 h]
theorem qQ3 {T : List (List Rat)} {i j : Nat} {r : List Rat} {q : Rat} (h : T[i]? = some r) (hq : r[j]? = some q) : zB9 T i j = q:=by
 rw [zO4 h,zA6,hq]; rfl
theorem qE1 {T : List (List Rat)} {n C i j : Nat} (hs : shp T n C) (hi : i < n) (hj : j < C) : ∃ r,T[i]? = some r /\ r.length = C /\ r[j]? = some (zB9 T i j):=by
 obtain ⟨r,h1,h2⟩:=zH3 hs hi
 have h3 : r[j]? = some (r[j]'(by rw [h2]; exact hj)):=zA3 _
 exact ⟨r,h1,h2,by rw [qQ3 h1 h3]; exact h3⟩
theorem qJ3 {T : List (List Rat)} {i : Nat} (r : List Rat) (hi : i < T.length) (j : Nat) : zB9 (T.set i r) i j = r.getD j 0:=zO4 (List.getElem?_set_self hi) j
theorem qJ4 {T : List (List Rat)} {i k : Nat} (r : List Rat) (h : i ≠ k) (j : Nat) : zB9 (T.set k r) i j = zB9 T i j:=by
 have e : (T.set k r).getD i [] = T.getD i []:=by
  rw [zA6,List.getElem?_set_ne (fun e => h e.symm),<- zA6]
 unfold zB9
 rw [e]
theorem qE2 {T : List (List Rat)} {n C i : Nat} {r : List Rat} (hs : shp T n C) (hr : r.length = C) : shp (T.set i r) n C :=
 ⟨by rw [zB2]; exact hs.1, fun x hx => by
  rcases List.mem_or_eq_of_mem_set hx with hx | rfl
  ·exact hs.2 x hx
  ·exact hr⟩
theorem yV9 {T U : List (List Rat)} {n C : Nat} (h : shp T n C) (h' : shp U n C) (he : ∀ i j,i < n -> j < C -> zB9 T i j = zB9 U i j) : T = U :=
 shp_ext h h' fun i j hi hj => by
  obtain ⟨r,h1,_,h2⟩:=qE1 h hi hj
  obtain ⟨s,h3,_,h4⟩:=qE1 h' hi hj
  rw [yC0 h1 h2,yC0 h3 h4,he i j hi hj]
theorem yW {p q : List Rat} {k : Rat} {j : Nat} (h : p.length = q.length) (hj : j < p.length) : (zI4 p k q).getD j 0 = p.getD j 0 - k * q.getD j 0:=by
 unfold zI4
 rw [zA6,List.getElem?_zipWith,zA3 hj,zA3 (by omega : j < q.length),zA6,zA6,zA3 hj,zA3 (by omega : j < q.length)]
 rfl
theorem yW0 {p : List Rat} {k : Rat} {j : Nat} (hj : j < p.length) : (zG9 p k).getD j 0 = p.getD j 0 * k:=by
 unfold zG9
 rw [zA6,zB1,zA3 hj,zA6,zA3 hj]
 rfl
theorem yW1 {p q : List Rat} (h : p.length = q.length) : zI4 p 0 q = p:=by
 refine List.ext_getElem? fun j => ?_
 unfold zI4
 rw [List.getElem?_zipWith]
 by_cases hj : j < p.length
 ·rw [zA3 hj,zA3 (by omega : j < q.length)]
  show some _ = _
  congr 1
  grind
 ·rw [List.getElem?_eq_none (by omega)]
def zH4 (T : List (List Rat)) (a b : Nat) : List (List Rat):=(T.set a (T.getD b [])).set b (T.getD a [])
theorem qJ5 {T : List (List Rat)} {n C a b : Nat} (hs : shp T n C) (ha : a < n) (hb : b < n) : shp (zH4 T a b) n C:=by
 obtain ⟨r,h1,h2⟩:=zH3 hs ha
 obtain ⟨s,h3,h4⟩:=zH3 hs hb
 unfold zH4
 rw [zA6,h3,zA6,h1]
 exact qE2 (qE2 hs h4) h2
theorem qQ4 {T : List (List Rat)} {n C a b : Nat} (hs : shp T n C) (ha : a < n) (hb : b < n) (i j : Nat) : zB9 (zH4 T a b) i j = zE3 (zB9 T) a b i j:=by
 unfold zH4 zE3
 by_cases e2 : i = b
 ·subst e2
  rw [qJ3 _ (by rw [zB2,hs.1]; exact hb)]
  by_cases e1 : i = a
  ·subst e1; rw [if_pos rfl]; rfl
  ·rw [if_neg e1,if_pos rfl]; rfl
 ·rw [qJ4 _ e2]
  by_cases e1 : i = a
  ·subst e1
   rw [qJ3 _ (by rw [hs.1]; exact ha),if_pos rfl]; rfl
  ·rw [qJ4 _ e1,if_neg e1,if_neg e2]
def zO5 (T : List (List Rat)) (a : Nat) (c : Rat) : List (List Rat):=T.set a (zG9 (T.getD a []) c)
theorem yC9 {T : List (List Rat)} {n C a : Nat} (c : Rat) (hs : shp T n C) (ha : a < n) : shp (zO5 T a c) n C:=by
 obtain ⟨r,h1,h2⟩:=zH3 hs ha
 unfold zO5
 rw [zA6,h1]
 exact qE2 hs (by rw [qJ1]; exact h2)
theorem yW2 {T : List (List Rat)} {n C a : Nat} (c : Rat) (hs : shp T n C) (ha : a < n) (i j : Nat) (hj : j < C) : zB9 (zO5 T a c) i j = zF6 (zB9 T) a c i j:=by
 unfold zO5 zF6
 by_cases e : i = a
 ·subst e
  obtain ⟨r,h1,h2⟩:=zH3 hs ha
  rw [qJ3 _ (by rw [hs.1]; exact ha),if_pos rfl,zO4 h1,zJ6 h1]
  exact yW0 (by omega)
 ·rw [qJ4 _ e,if_neg e]
def zH (T : List (List Rat)) (P : Nat -> Bool) (p : List Rat) (a : Nat) : Nat -> List (List Rat)
 | 0 => T
 | x + 1 => if P x then (zH T P p a x).set x (zI4 (T.getD x []) (zB9 T x a) p) else zH T P p a x
theorem qJ6 (T : List (List Rat)) (P : Nat -> Bool) (p : List Rat) (a : Nat) : ∀ x,(zH T P p a x).length = T.length
  | 0 => rfl
  | x + 1 => by
    unfold zH
    split
    · rw [zB2]; exact qJ6 T P p a x
    · exact qJ6 T P p a x
theorem qJ7 (T : List (List Rat)) (P : Nat -> Bool) (p : List Rat) (a : Nat) : ∀ (x i : Nat),x <= i -> (zH T P p a x)[i]? = T[i]?
  | 0,_,_ => rfl
  | x + 1, i, h => by
    unfold zH
    split
    · rw [List.getElem?_set_ne (by omega)]; exact qJ7 T P p a x i (by omega)
    · exact qJ7 T P p a x i (by omega)
theorem qE3 {T : List (List Rat)} {P : Nat -> Bool} {p : List Rat} {n C a : Nat} (hs : shp T n C) (hp : p.length = C) : ∀ x,x <= n -> shp (zH T P p a x) n C
  | 0,_ => hs
  | x + 1, h => by
    unfold zH
    split
    · obtain ⟨r,h1,h2⟩:=zH3 hs (show x < n by omega)
      refine qE2 (qE3 hs hp x (by omega)) ?_
      rw [zA6,h1]
      show (zI4 r _ p).length = C
      rw [qP6 (by omega)]; exact h2
    · exact qE3 hs hp x (by omega)
theorem yD {T : List (List Rat)} {P : Nat -> Bool} {p : List Rat} {n C a : Nat} (hs : shp T n C) (hp : p.length = C) : ∀ (x i j : Nat),x <= n -> j < C -> zB9 (zH T P p a x) i j = if i < x /\ P i = true then zB9 T i j - zB9 T i a * p.getD j 0 else zB9 T i j
  | 0,i,j,_,_ => by rw [if_neg (by omega)]; rfl
  | x + 1, i, j, h, hj => by
    have ih:=yD (P:=P) (a:=a) hs hp x i j (by omega) hj
    unfold zH
    by_cases hP : P x = true
    · rw [if_pos hP]
      by_cases e : i = x
      · subst e
        obtain ⟨r,h1,h2⟩:=zH3 hs (show i < n by omega)
        rw [qJ3 _ (by rw [qJ6,hs.1]; omega),if_pos ⟨by omega,hP⟩,zJ6 h1,zO4 h1 j]
        exact yW (by omega) (by omega)
      · rw [qJ4 _ e,ih]
        by_cases e2 : i < x /\ P i = true
        · rw [if_pos e2,if_pos ⟨by omega,e2.2⟩]
        · rw [if_neg e2,if_neg (fun e3 => e2 ⟨by omega,e3.2⟩)]
    · rw [if_neg hP, ih]
      by_cases e2 : i < x /\ P i = true
      · rw [if_pos e2,if_pos ⟨by omega,e2.2⟩]
      · rw [if_neg e2,if_neg (fun e3 => e2 ⟨by
          have:=e3.1
          by_cases e4 : i = x
          · subst e4; exact absurd e3.2 hP
          · omega,e3.2⟩)]
theorem qQ5 {T : List (List Rat)} {P : Nat -> Bool} {p r : List Rat} {a x : Nat} (hP : P x = true) (hr : T[x]? = some r) : zH T P p a (x + 1) = (zH T P p a x).set x (zI4 r (zB9 T x a) p):=by
 show (if P x = true then _ else _) = _
 rw [if_pos hP,zJ6 hr]
theorem yW3 {T : List (List Rat)} {P : Nat -> Bool} {p r : List Rat} {a x : Nat} (hP : P x = true) (hr : T[x]? = some r) (h0 : zB9 T x a = 0) (hl : r.length = p.length) : zH T P p a (x + 1) = zH T P p a x:=by
 rw [qQ5 hP hr,h0,yW1 hl]
 apply List.ext_getElem?
 intro k
 rw [List.getElem?_set]
 by_cases e : x = k
 ·subst e
  rw [if_pos rfl,qJ7 T P p a x x (zB3 _),hr,if_pos (by rw [qJ6]; exact (zA4.1 hr).1)]
 ·rw [if_neg e]
theorem yD0 {T : List (List Rat)} {P : Nat -> Bool} {p : List Rat} {a x : Nat} (hP : P x = false) : zH T P p a (x + 1) = zH T P p a x:=by
 show (if P x = true then _ else _) = _
 rw [if_neg (by rw [hP]; decide)]
/-! How long the numbers of a row grow: all over one number. -/
def zL (r : List Rat) (S : Nat) : Prop:=∃ d : Nat,0 < d /\ (digs 4294967296 d).length <= S /\ ∀ x ∈ r,∃ z : Int,x = mkRat z d /\ zC1 z <= S
theorem zL.mono {r : List Rat} {S S' : Nat} (h : zL r S) (hS : S <= S') : zL r S':=by
 obtain ⟨d,h1,h2,h3⟩:=h
 exact ⟨d,h1,by omega,fun x hx => by obtain ⟨z,e,hz⟩:=h3 x hx; exact ⟨z,e,by omega⟩⟩
theorem zL.len {r : List Rat} {S : Nat} (h : zL r S) : ∀ x ∈ r,zC7 x S:=fun x hx => by
 obtain ⟨d,h1,h2,h3⟩:=h
 obtain ⟨z,rfl,hz⟩:=h3 x hx
 exact zR (by omega) hz h2
theorem yD1 : ∀ {r : List Rat} {m : Nat},(∀ x ∈ r,zC7 x m) -> zL r (m * r.length + 1)
  | [],m,_ => ⟨1,by omega,by
      have:=zI0 (B:=4294967296) (x:=1) (k:=1) (by omega) (by decide +kernel)
      omega,fun x hx => by simp at hx⟩
  | q :: r, m, h => by
    obtain ⟨d,h1,h2,h3⟩:=yD1 (r:=r) (m:=m) fun x hx => h x (List.mem_cons_of_mem _ hx)
    have hq:=h q List.mem_cons_self
    have e : m * (q :: r).length + 1 = m * r.length + 1 + m:=by rw [List.length_cons,Nat.mul_succ]; omega
    rw [e]
    refine ⟨d * q.den,Nat.mul_pos h1 q.den_pos,?_,fun x hx => ?_⟩
    · have h4:=zT9 d q.den
      have h5:=hq.2
      omega
    · rcases List.mem_cons.1 hx with rfl | hx
      · refine ⟨x.num * (d : Int),?_,?_⟩
        · rw [Nat.mul_comm d x.den,Rat.mkRat_mul_right (by omega),Rat.mkRat_self]
        · have h4:=zO1 hq.1 (show zC1 ((d : Nat) : Int) <= m * r.length + 1 by rw [zP8]; exact h2)
          omega
      · obtain ⟨z,rfl,hz⟩:=h3 x hx
        refine ⟨z * (q.den : Int),?_,?_⟩
        · rw [Rat.mkRat_mul_right q.den_nz]
        · have h4:=zO1 hz (show zC1 ((q.den : Nat) : Int) <= m by rw [zP8]; exact hq.2)
          omega
theorem zR4 (z : Int) {d : Nat} (h : d ≠ 0) : mkRat z d = (z : Rat) / (d : Rat):=Rat.mkRat_eq_div z d
theorem zL.scale {r : List Rat} {S : Nat} {x : Rat} (h : zL r S) (hx : x ∈ r) (h0 : x ≠ 0) : zL (zG9 r x⁻¹) S:=by
 obtain ⟨d,h1,h2,h3⟩:=h
 obtain ⟨b,rfl,hb⟩:=h3 x hx
 have hb0 : b ≠ 0:=fun e => h0 (by rw [e]; exact Rat.zero_mkRat d)
 have hd : ((d : Nat) : Rat) ≠ 0:=by
  intro e
  have : d = 0:=by exact_mod_cast e
  omega
 have hbr : ((b : Int) : Rat) ≠ 0:=by
  intro e
  have : b = 0:=by exact_mod_cast e
  exact hb0 this
 refine ⟨b.natAbs,by omega,hb,fun y hy => ?_⟩
 obtain ⟨u,hu,rfl⟩:=List.mem_map.1 hy
 obtain ⟨a,rfl,ha⟩:=h3 u hu
 rcases Int.natAbs_eq b with e | e
 ·refine ⟨a,?_,ha⟩
  have e2 : ((b.natAbs : Nat) : Rat) = ((b : Int) : Rat):=by
   conv => rhs; rw [e]
   exact (Rat.intCast_natCast _).symm
  rw [zR4 a (by omega),zR4 b (by omega),zR4 a (by omega),e2]
  grind
 ·refine ⟨-a,?_,by rw [qC9]; exact ha⟩
  have e2 : ((b.natAbs : Nat) : Rat) = -((b : Int) : Rat):=by
   conv => rhs; rw [e]
   rw [Rat.intCast_neg]
   show _ = - -(((b.natAbs : Nat) : Int) : Rat)
   rw [Rat.intCast_natCast]; grind
  rw [zR4 a (by omega),zR4 b (by omega),zR4 (-a) (by omega),e2,Rat.intCast_neg]
  grind
theorem qQ6 {x y : Int} {m : Nat} (h : zC1 x <= m) (h' : zC1 y <= m) : zC1 (x - y) <= m + 1:=by
 have h1:=yB2 h h'
 unfold zC1
 refine zB4 (zF7 (by omega) ?_) h1
 omega
theorem zL.less {r p : List Rat} {S S' : Nat} {x : Rat} (h : zL r S) (hp : zL p S') (hx : x ∈ r) : zL (zI4 r x p) (S + S' + 1):=by
 obtain ⟨d,h1,h2,h3⟩:=h
 obtain ⟨e,g1,g2,g3⟩:=hp
 obtain ⟨b,rfl,hb⟩:=h3 x hx
 have hd : ((d : Nat) : Rat) ≠ 0:=by
  intro e
  have : d = 0:=by exact_mod_cast e
  omega
 have he : ((e : Nat) : Rat) ≠ 0:=by
  intro k
  have : e = 0:=by exact_mod_cast k
  omega
 refine ⟨d * e,Nat.mul_pos h1 g1,by have:=zT9 d e; omega,fun y hy => ?_⟩
 obtain ⟨u,hu,v,hv,rfl⟩:=yB7 hy
 obtain ⟨a,rfl,ha⟩:=h3 u hu
 obtain ⟨c,rfl,hc⟩:=g3 v hv
 refine ⟨a * (e : Int) - b * c,?_,?_⟩
 ·rw [zR4 a (by omega),zR4 b (by omega),zR4 c (by omega),zR4 _ (by have:=Nat.mul_pos h1 g1; omega),Rat.intCast_sub,Rat.intCast_mul,Rat.intCast_mul,Rat.intCast_natCast,Rat.natCast_mul]
  grind
 ·refine qQ6 (m:=S + S') (zO1 ha (by rw [zP8]; exact g2)) (zO1 hb hc)
def zH5 (T : List (List Rat)) (S : Nat) : Prop:=∀ r ∈ T,zL r S
theorem zH5.mono {T : List (List Rat)} {S S' : Nat} (h : zH5 T S) (hS : S <= S') : zH5 T S':=fun r hr => (h r hr).mono hS
theorem zH5.len {T : List (List Rat)} {S : Nat} (h : zH5 T S) : zI6 T S:=fun r hr => (h r hr).len
theorem yW4 {T : List (List Rat)} {n C m : Nat} (hs : shp T n C) (h : zI6 T m) : zH5 T (m * C + 1):=fun r hr => by
 rw [<- hs.2 r hr]; exact yD1 (h r hr)
def pv (ps : List Nat) : Nat -> Nat:=fun i => ps.getD i 0
theorem pv_snoc (ps : List Nat) (a i : Nat) (hi : i < ps.length + 1) : (if i < ps.length then pv ps i else a) = pv (ps ++ [a]) i:=by
 unfold pv
 by_cases h : i < ps.length
 ·rw [if_pos h,zA6,zA6,zB0 h]
 ·obtain rfl : i = ps.length:=by omega
  rw [if_neg h,zA6,List.getElem?_append_right (by omega)]
  simp
theorem yD2 {T : List (List Rat)} {P : Nat -> Bool} {p : List Rat} {n C a k : Nat} (hs : shp T n C) (hk : T[k]? = some p) (ha : a < C) {x : Nat} (hx : x <= n) (i j : Nat) (hj : j < C) : zB9 (zH T P p a x) i j = zH9 (zB9 T) k (fun i => if i < x /\ P i = true then zB9 T i a else 0) i j:=by
 have hp : p.length = C:=hs.2 p (zA5 hk)
 rw [yD hs hp x i j hx hj]
 unfold zH9
 rw [zO4 hk j]
 by_cases e : i < x /\ P i = true
 ·simp only [if_pos e]
 ·simp only [if_neg e]; grind
theorem qE4 {T : List (List Rat)} {P : Nat -> Bool} {p : List Rat} {a : Nat} : ∀ x,(∀ i,i < x -> P i = false) -> zH T P p a x = T
 | 0,_ => rfl
 | x + 1,h => by rw [yD0 (h x (by omega))]; exact qE4 x fun i hi => h i (by omega)
theorem yD3 {T : List (List Rat)} {n C a b S : Nat} (hs : shp T n C) (ha : a < n) (hb : b < n) (h : zH5 T S) : zH5 (zH4 T a b) S:=by
 obtain ⟨r,h1,_⟩:=zH3 hs ha
 obtain ⟨s,h3,_⟩:=zH3 hs hb
 unfold zH4
 rw [zJ6 h1,zJ6 h3]
 intro x hx
 rcases List.mem_or_eq_of_mem_set hx with hx | rfl
 ·rcases List.mem_or_eq_of_mem_set hx with hx | rfl
  ·exact h x hx
  ·exact h _ (zA5 h3)
 ·exact h _ (zA5 h1)
theorem yW5 {T : List (List Rat)} {n C k a S : Nat} (hs : shp T n C) (hk : k < n) (ha : a < C) (h0 : zB9 T k a ≠ 0) (h : zH5 T S) : zH5 (zO5 T k (zB9 T k a)⁻¹) S:=by
 obtain ⟨r,h1,_,h2⟩:=qE1 hs hk ha
 unfold zO5
 rw [zJ6 h1]
 intro x hx
 rcases List.mem_or_eq_of_mem_set hx with hx | rfl
 ·exact h x hx
 ·exact (h r (zA5 h1)).scale (zA5 h2) h0
theorem qJ8 {T : List (List Rat)} {P : Nat -> Bool} {p : List Rat} {n C a S : Nat} (hs : shp T n C) (ha : a < C) (h : zH5 T S) (hp : zL p S) : ∀ x,x <= n -> zH5 (zH T P p a x) (S + S + 1)
  | 0,_ => h.mono (by omega)
  | x + 1, hx => by
    have ih:=qJ8 (P:=P) hs ha h hp x (by omega)
    obtain ⟨r,h1,_,h2⟩:=qE1 hs (show x < n by omega) ha
    by_cases e : P x = true
    · rw [qQ5 e h1]
      intro y hy
      rcases List.mem_or_eq_of_mem_set hy with hy | rfl
      · exact ih y hy
      · exact (h r (zA5 h1)).less hp (zA5 h2)
    · rw [yD0 (by simpa using e)]; exact ih
def zL4 (T : List (List Rat)) (P : Nat -> Bool) (k f a n : Nat) : List (List Rat) :=
 zH (zO5 (zH4 T k f) k (zB9 (zH4 T k f) k a)⁻¹) P ((zO5 (zH4 T k f) k (zB9 (zH4 T k f) k a)⁻¹).getD k []) a n
theorem yW6 {T : List (List Rat)} {k : Nat} (h : k < T.length) : zH4 T k k = T:=by
 unfold zH4
 have e : T.getD k [] = T[k]:=by rw [zA6,zA3 h]; rfl
 rw [e]
 apply List.ext_getElem?
 intro i
 rw [List.getElem?_set,List.getElem?_set,zB2]
 by_cases hi : k = i
 ·subst hi
  rw [if_pos rfl,if_pos h,zA3 h]
 ·rw [if_neg hi,if_neg hi]
structure PivAt (T : List (List Rat)) (P : Nat -> Bool) (n C k f a : Nat) (p : Nat -> Nat) : Prop where
 sh : shp T n C
 ech : Ech n a (zB9 T) k p
 ha : a < C
 hk : k <= f
 hf : f < n
 hne : zB9 T f a ≠ 0
 hP : P k = false
theorem PivAt.inv {T : List (List Rat)} {P : Nat -> Bool} {n C k f a : Nat} {p : Nat -> Nat} (h : PivAt T P n C k f a p) : zB9 T f a * (zB9 T f a)⁻¹ = 1:=Rat.mul_inv_cancel _ h.hne
theorem PivAt.inv_ne {T : List (List Rat)} {P : Nat -> Bool} {n C k f a : Nat} {p : Nat -> Nat} (h : PivAt T P n C k f a p) : (zB9 T f a)⁻¹ ≠ 0:=fun e => by
 have h1:=h.inv
 rw [e] at h1
 revert h1
 rw [Rat.mul_zero]
 decide
theorem PivAt.head {T : List (List Rat)} {P : Nat -> Bool} {n C k f a : Nat} {p : Nat -> Nat} (h : PivAt T P n C k f a p) : zB9 (zH4 T k f) k a = zB9 T f a:=by
 have h1:=h.hk
 have h2:=h.hf
 rw [qQ4 h.sh (by omega) h.hf]
 exact congrFun (if_pos rfl) a
theorem PivAt.parts {T : List (List Rat)} {P : Nat -> Bool} {n C k f a : Nat} {p : Nat -> Nat} (h : PivAt T P n C k f a p) :
  ∃ (t : Nat -> Rat),t k = 0 /\ (∀ i,i < n -> P i = true -> t i = zF6 (zE3 (zB9 T) k f) k (zB9 T f a)⁻¹ i a) /\
   (∀ i j,j < C -> zB9 (zL4 T P k f a n) i j = zH9 (zF6 (zE3 (zB9 T) k f) k (zB9 T f a)⁻¹) k t i j) /\ shp (zL4 T P k f a n) n C /\ zF6 (zE3 (zB9 T) k f) k (zB9 T f a)⁻¹ k a = 1:=by
 have h1:=h.hk
 have h2:=h.hf
 have hk : k < n:=by omega
 have s1:=qJ5 h.sh hk h2
 have s2:=yC9 (zB9 (zH4 T k f) k a)⁻¹ s1 hk
 have e2 : ∀ i j,j < C -> zB9 (zO5 (zH4 T k f) k (zB9 (zH4 T k f) k a)⁻¹) i j = zF6 (zE3 (zB9 T) k f) k (zB9 T f a)⁻¹ i j:=fun i j hj => by
  rw [yW2 _ s1 hk i j hj,h.head]
  unfold zF6
  rw [qQ4 h.sh hk h2]
 obtain ⟨r,hr,hrl⟩:=zH3 s2 hk
 have hP : ¬ (k < n /\ P k = true):=fun e => by rw [h.hP] at e; exact absurd e.2 (by decide)
 refine ⟨fun i => if i < n /\ P i = true then zB9 (zO5 (zH4 T k f) k (zB9 (zH4 T k f) k a)⁻¹) i a else 0,if_neg hP,fun i h3 h4 => ?_,fun i j hj => ?_,?_,?_⟩
 ·show (if i < n /\ P i = true then _ else _) = _
  rw [if_pos ⟨h3,h4⟩,e2 i a h.ha]
 ·unfold zL4
  rw [zJ6 hr,yD2 s2 hr h.ha (zB3 n) i j hj]
  unfold zH9
  rw [e2 i j hj,e2 k j hj]
 ·unfold zL4
  rw [zJ6 hr]
  exact qE3 s2 hrl n (zB3 n)
 ·unfold zF6 zE3
  rw [if_pos rfl,if_pos rfl]
  exact h.inv
theorem PivAt.ker {T : List (List Rat)} {P : Nat -> Bool} {n C k f a : Nat} {p : Nat -> Nat} (h : PivAt T P n C k f a p) : zH0 n C (zB9 T) (zB9 (zL4 T P k f a n)):=by
 obtain ⟨t,t0,t1,e,_,_⟩:=h.parts
 have h1:=h.hk
 have h2:=h.hf
 exact (yC2 (zB9 T) (show k < n by omega) h2).trans ((yC3 _ h.inv_ne).trans ((qP9 _ (show k < n by omega) t0).trans (qA4 fun i j _ hj => (e i j hj).symm)))
theorem PivAt.ech' {T : List (List Rat)} {P : Nat -> Bool} {n C k f a : Nat} {p : Nat -> Nat} (h : PivAt T P n C k f a p) (hb : ∀ i,k < i -> i < n -> P i = true) : Ech n (a + 1) (zB9 (zL4 T P k f a n)) (k + 1) (fun i => if i < k then p i else a):=by
 obtain ⟨t,t0,t1,e,_,e1⟩:=h.parts
 have h1:=h.hk
 have h2:=h.hf
 have h3:=h.ha
 exact (((h.ech.swap h1 h2).scale (zB9 T f a)⁻¹).clear (by omega) e1 t0 (fun i hi hn => t1 i hn (hb i hi hn))).congr (C:=C) (by omega) (fun i j _ hj => (e i j hj).symm) (fun _ _ => rfl)
theorem PivAt.fn {T : List (List Rat)} {P : Nat -> Bool} {n C k f a : Nat} {p : Nat -> Nat} (h : PivAt T P n C k f a p) {C' : Nat} {F : (Nat -> Nat -> Rat) -> Rat} (hC : C' <= C) (hF : RowFn n C' F) : F (zB9 T) = (if f = k then 1 else -1) * zB9 T f a * F (zB9 (zL4 T P k f a n)):=by
 obtain ⟨t,t0,t1,e,_,e1⟩:=h.parts
 have h1:=h.hk
 have h2:=h.hf
 have g1 : F (zB9 (zL4 T P k f a n)) = (zB9 T f a)⁻¹ * F (zE3 (zB9 T) k f):=by
  rw [hF.congr _ _ (fun i j _ hj => e i j (by omega)),hF.clear _ (show k < n by omega) t0,hF.scale _ _ _ (by omega)]
 have hi:=h.inv
 rw [g1]
 by_cases ef : f = k
 ·subst ef
  have g2 : F (zE3 (zB9 T) f f) = F (zB9 T):=hF.congr _ _ fun i j _ _ => by
   unfold zE3
   by_cases e5 : i = f
   ·rw [if_pos e5,e5]
   ·rw [if_neg e5,if_neg e5]
  rw [g2,if_pos rfl]; grind
 ·rw [hF.swap _ (show k < n by omega) h2 (fun e => ef e.symm),if_neg ef]; grind
theorem PivAt.rows {T : List (List Rat)} {P : Nat -> Bool} {n C k f a S : Nat} {p : Nat -> Nat} (h : PivAt T P n C k f a p) (hl : zH5 T S) : zH5 (zO5 (zH4 T k f) k (zB9 (zH4 T k f) k a)⁻¹) S /\ zH5 (zL4 T P k f a n) (S + S + 1) /\ ((∀ i,i < n -> P i = false) -> zH5 (zL4 T P k f a n) S):=by
 have h1:=h.hk
 have h2:=h.hf
 have hk : k < n:=by omega
 have s1:=qJ5 h.sh hk h2
 have s2:=yC9 (zB9 (zH4 T k f) k a)⁻¹ s1 hk
 have r1:=yD3 h.sh hk h2 hl
 have r2:=yW5 s1 hk h.ha (by rw [h.head]; exact h.hne) r1
 obtain ⟨r,hr,hrl⟩:=zH3 s2 hk
 refine ⟨r2,?_,fun hn => ?_⟩
 ·unfold zL4
  rw [zJ6 hr]
  exact qJ8 s2 h.ha r2 (r2 r (zA5 hr)) n (zB3 n)
 ·unfold zL4
  rw [qE4 n hn]
  exact r2
structure Dwn (T0 T : List (List Rat)) (n C a : Nat) (ps : List Nat) (d : Rat) (S : Nat) : Prop where
 sh : shp T n C
 ech : Ech n a (zB9 T) ps.length (pv ps)
 ker : zH0 n C (zB9 T0) (zB9 T)
 fn : ∀ (C' : Nat) (F : (Nat -> Nat -> Rat) -> Rat),C' <= C -> RowFn n C' F -> F (zB9 T0) = d * F (zB9 T)
 ne : d ≠ 0
 len : ∃ S',zH5 T S' /\ S' + 1 <= (S + 1) * 2 ^ (min ps.length (n - 1))
theorem Dwn.start {T : List (List Rat)} {n C S : Nat} (hs : shp T n C) (hl : zH5 T S) : Dwn T T n C 0 [] 1 S :=
 ⟨hs,Ech.zero n _ _,zH0.refl _ _ _,fun C' F _ _ => (Rat.one_mul _).symm,by decide,⟨S,hl,by simp⟩⟩
theorem Dwn.skip {T0 T : List (List Rat)} {n C a S : Nat} {ps : List Nat} {d : Rat} (h : Dwn T0 T n C a ps d S) (h0 : ∀ i,ps.length <= i -> i < n -> zB9 T i a = 0) : Dwn T0 T n C (a + 1) ps d S :=
 ⟨h.sh,h.ech.skip h0,h.ker,h.fn,h.ne,h.len⟩
theorem Dwn.at_ {T0 T : List (List Rat)} {n C a f S : Nat} {ps : List Nat} {d : Rat} (h : Dwn T0 T n C a ps d S) (ha : a < C) (hk : ps.length <= f) (hf : f < n) (hne : zB9 T f a ≠ 0) : PivAt T (fun i => decide (ps.length < i)) n C ps.length f a (pv ps) :=
 ⟨h.sh,h.ech,ha,hk,hf,hne,by simp⟩
theorem qQ7 {S S' m : Nat} (h : S' + 1 <= (S + 1) * 2 ^ m) : S' + S' + 1 + 1 <= (S + 1) * 2 ^ (m + 1):=by
 rw [Nat.pow_succ,<- zB5]; omega
theorem Dwn.pivot {T0 T : List (List Rat)} {n C a f S : Nat} {ps : List Nat} {d : Rat} (h : Dwn T0 T n C a ps d S) (ha : a < C) (hk : ps.length <= f) (hf : f < n) (hne : zB9 T f a ≠ 0) : Dwn T0 (zL4 T (fun i => decide (ps.length < i)) ps.length f a n) n C (a + 1) (ps ++ [a]) ((if f = ps.length then d else -d) * zB9 T f a) S:=by
 have g:=h.at_ ha hk hf hne
 obtain ⟨t,t0,t1,e,s3,e1⟩:=g.parts
 have hl : (ps ++ [a]).length = ps.length + 1:=by simp
 refine ⟨s3,?_,h.ker.trans g.ker,fun C' F hC hF => ?_,?_,?_⟩
 ·rw [hl]
  exact (g.ech' (fun i hi _ => by simpa using hi)).congr (C:=C) (by omega) (fun _ _ _ _ => rfl) (fun i hi => pv_snoc ps a i hi)
 ·rw [h.fn C' F hC hF,g.fn hC hF]
  by_cases ef : f = ps.length
  ·rw [if_pos ef,if_pos ef]; grind
  ·rw [if_neg ef,if_neg ef]; grind
 ·intro e0
  rcases Rat.mul_eq_zero.1 e0 with h1 | h1
  ·have:=h.ne
   by_cases ef : f = ps.length
   ·rw [if_pos ef] at h1; exact this h1
   ·rw [if_neg ef] at h1; grind
  ·exact hne h1
 ·obtain ⟨S',r,hS⟩:=h.len
  obtain ⟨_,r2,r3⟩:=g.rows r
  rw [hl]
  by_cases hn : ps.length + 1 < n
  ·refine ⟨_,r2,?_⟩
   rw [show min (ps.length + 1) (n - 1) = ps.length + 1 by omega]
   rw [show min ps.length (n - 1) = ps.length by omega] at hS
   exact qQ7 hS
  ·refine ⟨_,r3 (fun i hi => by simp; omega),?_⟩
   rw [show min (ps.length + 1) (n - 1) = n - 1 by omega]
   rw [show min ps.length (n - 1) = n - 1 by omega] at hS
   exact hS
structure Upw (T0 T : List (List Rat)) (n C a : Nat) (ps : List Nat) (u S : Nat) : Prop where
 sh : shp T n C
 ech : Ech n a (zB9 T) ps.length (pv ps)
 red : Red n (zB9 T) ps.length (pv ps) u
 ker : zH0 n C (zB9 T0) (zB9 T)
 len : ∃ S',zH5 T S' /\ S' + 1 <= (S + 1) * 2 ^ (ps.length - max u 1)
theorem Upw.start {T0 T : List (List Rat)} {n C a S : Nat} {ps : List Nat} (hs : shp T n C) (he : Ech n a (zB9 T) ps.length (pv ps)) (hk : zH0 n C (zB9 T0) (zB9 T)) (hl : zH5 T S) : Upw T0 T n C a ps ps.length S :=
 ⟨hs,he,fun m h1 h2 => by omega,hk,S,hl,by rw [show ps.length - max ps.length 1 = 0 by omega]; simp⟩
def upT (T : List (List Rat)) (m b : Nat) : List (List Rat):=zH T (fun _ => true) (T.getD m []) b m
theorem Upw.step {T0 T : List (List Rat)} {n C a m S : Nat} {ps : List Nat} (h : Upw T0 T n C a ps (m + 1) S) (ha : a <= C) (hm : m < ps.length) : Upw T0 (upT T m (pv ps m)) n C a ps m S:=by
 have hle:=h.ech.le
 have hlt:=h.ech.lt m hm
 obtain ⟨r,hr,hrl⟩:=zH3 h.sh (show m < n by omega)
 have e : ∀ i j,j < C -> zB9 (upT T m (pv ps m)) i j = zH9 (zB9 T) m (fun i => if i < m then zB9 T i (pv ps m) else 0) i j:=fun i j hj => by
  unfold upT
  rw [zJ6 hr,yD2 h.sh hr (show pv ps m < C by omega) (show m <= n by omega) i j hj]
  unfold zH9
  by_cases e : i < m
  ·simp [e]
  ·simp [e]
 have t1 : ∀ i,m <= i -> (fun i => if i < m then zB9 T i (pv ps m) else 0) i = 0:=fun i hi => if_neg (by omega)
 have t2 : ∀ i,i < m -> (fun i => if i < m then zB9 T i (pv ps m) else 0) i = zB9 T i (pv ps m):=fun i hi => if_pos hi
 refine ⟨?_,?_,?_,?_,?_⟩
 ·unfold upT
  rw [zJ6 hr]
  exact qE3 h.sh hrl m (by omega)
 ·exact (h.ech.up hm t1).congr (C:=C) ha (fun i j _ hj => (e i j hj).symm) (fun _ _ => rfl)
 ·exact (h.red.up h.ech hm t1 t2).congr (C:=C) (fun i hi => by have:=h.ech.lt i hi; omega) (fun i j _ hj => (e i j hj).symm) (fun _ _ => rfl)
 ·exact h.ker.trans ((qP9 _ (show m < n by omega) (t1 m (zB3 m))).trans (qA4 fun i j _ hj => (e i j hj).symm))
 ·obtain ⟨S',r1,hS⟩:=h.len
  by_cases h0 : m = 0
  ·subst h0
   exact ⟨S',r1,hS⟩
  ·refine ⟨S' + S' + 1,?_,?_⟩
   ·unfold upT
    rw [zJ6 hr]
    exact qJ8 h.sh (by omega) r1 (r1 r (zA5 hr)) m (by omega)
   ·rw [show ps.length - max m 1 = (ps.length - max (m + 1) 1) + 1 by omega]
    exact qQ7 hS
end Go.Proofs.YtagaabooccnamaaGreat.rat
namespace Go.Proofs.YtagaabooccnamaaGreat.flow
open Go.RowKit num mem whl rat
def pone (φ : Pd) : Pd:=⟨fun w v => ∃ g x y z,v = .slice (some ⟨g,0,none⟩) 1 1 /\ w.cell? ((⟨g,0,none⟩ : Addr).add 0) = some x /\ w.cell? ((⟨g,0,none⟩ : Addr).add 1) = some y /\ w.cell? ((⟨g,0,none⟩ : Addr).add 2) = some z /\ φ.p w (.agg #[x,y,z]),fun h hb => by
 obtain ⟨g,x,y,z,h0,h1,h2,h3,h4⟩:=h
 exact ⟨g,x,y,z,h0,(hb.cell (World.block_lt_of_cell? _ _ h1)).trans h1,(hb.cell (World.block_lt_of_cell? _ _ h2)).trans h2,(hb.cell (World.block_lt_of_cell? _ _ h3)).trans h3,φ.up h4 hb⟩⟩
section
variable {P : Program} {Q : Exit -> Act -> World -> Prop} {ops : Array Oper} {L : List Oper} {Φ : List Pd} {w0 : World} {a0 : Act} {i : Nat} {o : Oper}
theorem yD4 {t T : TypeId} {x : Operand} {φ : Pd} {F : World -> Value -> Prop} (hop : o.op = .buildSlice t 1 #[(0,x)]) (hg : o.guard = none) (hx : Ev L Φ w0 a0 o x F) (hu : P.underlying t = some (.slice T)) (hI : ∃ i,P.info? T = some i /\ i.zero = some (.agg #[.bool false,.slice none 0 0,.slice none 0 0]) /\ i.size = 3 /\ i.bytes = 56)
  (hF : ∀ w v,F w v -> φ.p w v /\ ∃ a b c,v = .agg #[a,b,c] /\ a.oneCell' = true /\ b.oneCell' = true /\ c.oneCell' = true) (hP : ∀ w v,(pone φ).p w v -> (ph Φ i).p w v) : Ob P Q ops L Φ w0 a0 i o:=by
 intro ms w hS
 rw [if_pos (zB6 (ops:=ops) (L:=L) (Φ:=Φ) (w0:=w0) (a0:=a0) hg ms w hS)]
 obtain ⟨h1,a,b,c,hv,ka,kb,kc⟩:=hF _ _ (hx ms w hS)
 obtain ⟨inf,hi,hz,hs,hb⟩:=hI
 have hr : (execOp (zD6 a0 L ms).eval o).run P w = .ok (.value (.slice (some ⟨w.heap.size,0,none⟩) 1 1)) (w.alloc (.cells #[a,b,c] T)):=by
  generalize zD6 a0 L ms = A at hv
  have hz0 : (zeroValue T).run P w = .ok (.agg #[.bool false,.slice none 0 0,.slice none 0 0]) w:=by simp [zeroValue,go_sem,typeInfo,hi,hz]
  simp only [hop,execOp,List.map_toArray,List.map_cons,List.map_nil,hv]
  generalize A.eval = ev
  simp [go_sem,run_underlying hu,sizeOf,typeInfo,hi,newRow,hs,hz0]
 unfold Oper.wp
 rw [hr]
 obtain ⟨c0,c1,c2⟩:=qP4 w T a b c
 have hbb:=zC8 (w:=w) (zB3 _) (.cells #[a,b,c] T)
 exact ⟨_,rfl,hbb,hP _ _ ⟨_,a,b,c,rfl,c0,c1,c2,φ.up (hv ▸ h1) hbb⟩,fun h => by unfold isA at h; rw [hop] at h; cases h⟩
theorem yW7 {fuel : Nat} {listed : Array Bool} {a : Act} {w : World} (s x : Operand) {t : TypeId} (hr : Region.ready .any ops listed = [i]) (ho : ops[i]? = some o) (hg : o.guard = none) (hop : o.op = .call { callee:=.builtin .append,args:=#[s,x],argTypes:=#[t,t] })
  {base : Nat} {T : TypeId} (hT : P.underlying t = some (.slice T)) (hI : ∃ i,P.info? T = some i /\ i.zero = some (.agg #[.bool false,.slice none 0 0,.slice none 0 0]) /\ i.size = 3 /\ i.bytes = 56) {v : Value} {p : Elt} {ps : List Elt} (hs : a.eval s = v) (hown : zD2 T w base v ps) {ad : Addr} {c : Nat} (hx : a.eval x = .slice (some ad) 1 c)
  (h0 : w.cell? (ad.add 0) = some (.bool (ngB p.1.num))) (h1 : w.cell? (ad.add 1) = some p.2.1) (h2 : w.cell? (ad.add 2) = some p.2.2) (k1 : p.2.1.oneCell' = true) (k2 : p.2.2.oneCell' = true) (hlen : ps.length <= 1000000000) (hbase : base <= w.heap.size)
  (h : ∀ v' w' b,zD2 T w' base v' (ps ++ [p]) -> Below base w w' -> Hid (zI5 w w' v v') -> a.put o.dst v' = b -> wpAny P .any ops Q fuel (listed.setIfInBounds i true) b w') : wpAny P .any ops Q (fuel + 1) listed a w :=
 qH7 hr ho hg (qP3 s x hop hT hI hs hown hx h0 h1 h2 k1 k2 hlen hbase fun v' w' r b k => h v' w' _ r b k rfl)
end
end Go.Proofs.YtagaabooccnamaaGreat.flow
namespace Go.Proofs.YtagaabooccnamaaGreat.rat
open Go.RowKit num mem nat txt str flow whl
end Go.Proofs.YtagaabooccnamaaGreat.rat
namespace Go.Proofs.YtagaabooccnamaaGreat.whl
open Go.RowKit num mem nat txt str flow
def prf (z : Int) (B : Nat) : Pd:=⟨fun w v => IsR w v z /\ zP B v,fun h hb => ⟨h.1.below hb,h.2⟩⟩
def qJ9 (z : Int) (w : World) (e : Ending) (w' : World) : Prop:=∃ v,e = .returned v /\ IsR w' v z /\ zP w.heap.size v /\ Below w.heap.size w w'
theorem qJ9.pd {z : Int} {w : World} {e : Ending} {w' : World} {B : Nat} (h : qJ9 z w e w') (hB : B <= w.heap.size) : zI7 (prf z B) w e w':=by
 obtain ⟨v,h1,h2,h3,h4⟩:=h
 exact ⟨v,h1,⟨h2,h3.mono hB⟩,h4⟩
theorem yW8 (b : Bool) (u : Value) (x : Nat) (z : Int) (w : World) {B : Nat} (h : IsS w .i64 u (digs 10000 x)) (hf : zD7 B u) (hz : sg b x = z) : Calls Tryz.prog 135 #[.bool b,u] w (zI7 (prf z B) w) :=
 (qZ9 b u x w h).mono fun e w' h' => ⟨_,h'.1,⟨zQ9 (h.below h'.2) (by rw [<- hz,zS7]) (by rw [hz]),zL1 hf⟩,h'.2⟩
end Go.Proofs.YtagaabooccnamaaGreat.whl
namespace Go.Proofs.YtagaabooccnamaaGreat.rat
open Go.RowKit num mem nat txt str flow whl
theorem yW9 (a0 : Value) (x : Int) (w : World) (h0 : IsZ w a0 x) (hl : zC1 x <= 30000) :
  Calls Tryz.prog 98 #[a0] w (qJ9 x w):=by
 obtain ⟨u0,rfl,s0⟩:=h0
 obtain ⟨A0,c0,rfl,_⟩:=id s0
 have HL : Hid ((digs 4294967296 x.natAbs).length <= 100000):=by show _ <= _; unfold zC1 at hl; omega
 have HZ : Hid (sg (ngB x) x.natAbs = x):=by show _ = _; exact zU5 x
 go_enter Tryz.func98,Tryz.ntmps98
 go_upto_region 1 with (fail)
 obtain ⟨wx,hwx,bb,B0,B1,hsz⟩:=zI8 w 60 63 #[.bool (ngB x),.slice A0 (digs 4294967296 (x).natAbs).length c0] #[.bool false,.slice none 0 0]
 rw [hwx]
 clear hwx
 have k0s:=s0.below bb
 have k0 : IsZ wx (.agg #[.bool (ngB x),.slice A0 (digs 4294967296 (x).natAbs).length c0]) (x):=zF4 k0s rfl rfl
 have hszb:=bb.size
 refine flow 6 [Pd.eq (.pointer (some ⟨w.heap.size,0,none⟩)),Pd.eq (.bool (ngB x)),Pd.eq (.pointer (some ⟨w.heap.size,1,none⟩)),Pd.eq (.slice A0 (digs 4294967296 (x).natAbs).length c0),ps .i64 (digs 10000 x.natAbs) wx.heap.size,prf (x) wx.heap.size] (by kernel_rfl) (by kernel_rfl) ?ob1 ?done1
 case ob1 =>
  refine zA (zC3 rfl (zB6 rfl) (zB8 rfl rfl) (fun _ => by kernel_rfl) (fun _ => rfl)) ?_
  refine zA (zC rfl (zB6 rfl) (zB7 (j:=0) (by kernel_rfl) rfl rfl) (fun w2 hb => zC5 Tryz.underlying4 rfl ((B0.drew.below hb).cell 0)) (fun _ _ => rfl)) ?_
  refine zA (zC3 rfl (zB6 rfl) (zB8 rfl rfl) (fun _ => by kernel_rfl) (fun _ => rfl)) ?_
  refine zA (zC rfl (zB6 rfl) (zB7 (j:=2) (by kernel_rfl) rfl rfl) (fun w2 hb => zC5 Tryz.underlying50 rfl ((B0.drew.below hb).cell 1)) (fun _ _ => rfl)) ?_
  refine zA (zF rfl Tryz.func100 (by kernel_rfl) (zB6 rfl) (zB7 (j:=3) (by kernel_rfl) rfl rfl) (fun w2 u0 hb h0 => by obtain rfl:=h0; exact (qB5 _ _ _ (k0s.drew.below hb) HL.out).mono fun e w3 h => zD1.pd h hb.size)) ?_
  refine zA (zD4 rfl Tryz.func135 (by kernel_rfl) (zB6 rfl) (zB7 (j:=1) (by kernel_rfl) rfl rfl) (zB7 (j:=4) (by kernel_rfl) rfl rfl) (fun w2 u0 u1 hb h0 h1 => by obtain rfl:=h0; exact yW8 _ _ _ (x) _ h1.1 h1.2 HZ.out)) ?_
  trivial
 case done1 =>
  refine fun w1 hb1 v0 h0 v1 h1 v2 h2 v3 h3 v4 h4 v5 h5 b hbf => ?_
  obtain rfl:=h0; obtain rfl:=h1; obtain rfl:=h2; obtain rfl:=h3
  obtain ⟨q4,f4⟩:=h4
  obtain ⟨q5,f5⟩:=h5
  simp only [Act.put,zA0,zA2,zA1] at hbf
  subst hbf
  obtain ⟨u5,rfl,q5⟩:=q5
  obtain ⟨A9,c9,rfl,_⟩:=id q5
  have B9:=B1.below hb1
  refine zK4 (i:=6) (by kernel_rfl) rfl rfl rfl rfl rfl rfl (cells:=[.bool (ngB (x)),.slice A9 (digs 10000 (x).natAbs).length c9]) rfl B9 rfl (by kernel_rfl) (zH8 rfl rfl) fun w9 hg9 BB9 => ?_
  have k9:=off q5 B9 no_ints2 hg9
  have f9:=(f5 _ _ rfl).mono (show w.heap.size <= wx.heap.size from bb.size)
  have bb9:=((bb.trans (hb1.mono bb.size)).trans ((Below.refl _ _).grown hg9 (zB4 bb.size hb1.size) (fun g hg => by injection hg with hg; omega)))
  obtain ⟨c0,c1,_,_⟩:=Blk.two BB9
  refine zI2 (by kernel_rfl) ?_
  go_wp2
  exact bodyPost_ret (v:=.agg #[.bool (ngB (x)),.slice A9 (digs 10000 (x).natAbs).length c9]) (by simp [results,Tryz.results98,go_sem,c0,c1]) rfl ⟨_,rfl,zQ9 k9 rfl rfl,zL1 f9,bb9⟩
theorem yX (a0 : Value) (q : Rat) (w : World) (h0 : IsQ w a0 q) (hl : zC7 q 30000) :
  Calls Tryz.prog 52 #[a0] w (zR1 q w):=by
 obtain ⟨u0,t0,rfl,s0,r0⟩:=h0
 obtain ⟨A0,c0,rfl,_⟩:=id s0
 obtain ⟨D0,e0,rfl,_⟩:=id r0
 go_enter Tryz.func52,Tryz.ntmps52
 go_upto_region 1 with (fail)
 obtain ⟨wx,hwx,bb,B0,BR0,hsz⟩:=zI8 w 83 65 #[.bool (ngB (q).num),.slice A0 (digs 4294967296 (q).num.natAbs).length c0,.slice D0 (digs 4294967296 (q).den).length e0] #[.bool false,.slice none 0 0,.slice none 0 0]
 rw [hwx]
 clear hwx
 have k0s:=s0.below bb
 have k0d:=r0.below bb
 have k0z : IsZ wx (.agg #[.bool (ngB (q).num),.slice A0 (digs 4294967296 (q).num.natAbs).length c0]) (q).num:=⟨_,rfl,k0s⟩
 have k0 : IsQ wx (.agg #[.bool (ngB (q).num),.slice A0 (digs 4294967296 (q).num.natAbs).length c0,.slice D0 (digs 4294967296 (q).den).length e0]) (q):=⟨_,_,rfl,k0s,k0d⟩
 have hsz0:=bb.size
 have sB:=bb.size
 refine flow 7 [Pd.eq (.pointer (some ⟨w.heap.size,0,none⟩)),Pd.eq (.agg #[.bool (ngB (q).num),.slice A0 (digs 4294967296 (q).num.natAbs).length c0]),prf ((q).num) wx.heap.size,Pd.eq (.pointer (some ⟨w.heap.size,2,none⟩)),Pd.eq (.slice D0 (digs 4294967296 (q).den).length e0),ps .i64 (digs 10000 (q).den) wx.heap.size,ppf (q) wx.heap.size] (by kernel_rfl) (by kernel_rfl) ?ob2 ?done2
 case ob2 =>
  refine zA (zC3 rfl (zB6 rfl) (zB8 rfl rfl) (fun _ => by kernel_rfl) (fun _ => rfl)) ?_
  refine zA (zC rfl (zB6 rfl) (zB7 (j:=0) (by kernel_rfl) rfl rfl) (fun w2 hb => zR0 Tryz.underlying60 rfl (by kernel_rfl) (B0.drew.below hb) rfl) (fun _ _ => rfl)) ?_
  refine zA (zF rfl Tryz.func98 (by kernel_rfl) (zB6 rfl) (zB7 (j:=1) (by kernel_rfl) rfl rfl) (fun w2 u0 hb h0 => by obtain rfl:=h0; exact (yW9 _ _ _ (k0z.drew.below hb) (zB4 hl.1 (by decide))).mono fun e w3 h => qJ9.pd h hb.size)) ?_
  refine zA (zC3 rfl (zB6 rfl) (zB8 rfl rfl) (fun _ => by kernel_rfl) (fun _ => rfl)) ?_
  refine zA (zC rfl (zB6 rfl) (zB7 (j:=3) (by kernel_rfl) rfl rfl) (fun w2 hb => zC5 Tryz.underlying50 rfl ((B0.drew.below hb).cell 2)) (fun _ _ => rfl)) ?_
  refine zA (zF rfl Tryz.func100 (by kernel_rfl) (zB6 rfl) (zB7 (j:=4) (by kernel_rfl) rfl rfl) (fun w2 u0 hb h0 => by obtain rfl:=h0; exact (qB5 _ _ _ (k0d.drew.below hb) (zB4 hl.2 (by decide))).mono fun e w3 h => zD1.pd h hb.size)) ?_
  refine zA (zL3 rfl (zB6 rfl) (zB7 (j:=2) (by kernel_rfl) rfl rfl) (zB7 (j:=5) (by kernel_rfl) rfl rfl) (fun w2 u v hb hu hv => by obtain ⟨u7,rfl,hu7⟩:=hu.1; obtain ⟨A7,c7,rfl,_⟩:=id hu7; obtain ⟨A8,c8,rfl,_⟩:=id hv.1; exact ⟨.agg #[.bool (ngB (q).num),.slice A7 (digs 10000 (q).num.natAbs).length c7,.slice A8 (digs 10000 (q).den).length c8],by kernel_rfl,⟨⟨_,_,rfl,hu7,hv.1⟩,zL2 (hu.2 _ _ rfl) hv.2⟩⟩)) ?_
  trivial
 case done2 =>
  refine fun w11 hb11 v0 h0 v1 h1 v2 h2 v3 h3 v4 h4 v5 h5 v6 h6 b hbf => ?_
  obtain rfl:=h0; obtain rfl:=h1; obtain rfl:=h3; obtain rfl:=h4
  obtain ⟨q2,f2⟩:=h2
  obtain ⟨q5,f5⟩:=h5
  obtain ⟨q6,f6⟩:=h6
  simp only [Act.put,zA0,zA2,zA1] at hbf
  subst hbf
  replace B0:=B0.below hb11
  replace k0s:=k0s.below hb11
  replace k0d:=k0d.below hb11
  replace k0z:=k0z.below hb11
  replace k0:=k0.below hb11
  replace BR0:=BR0.below hb11
  replace bb:=bb.trans (hb11.mono bb.size)
  have hsz11:=bb.size
  have s_2:=sB
  have s_5:=sB
  have s_6:=sB
  obtain ⟨u6,t6,rfl,q6,d6⟩:=q6
  obtain ⟨A9,c9,rfl,_⟩:=id q6
  obtain ⟨D9,e9,rfl,_⟩:=id d6
  refine zK4 (i:=7) (by kernel_rfl) rfl rfl rfl rfl rfl rfl (cells:=[.bool (ngB (q).num),.slice A9 (digs 10000 (q).num.natAbs).length c9,.slice D9 (digs 10000 (q).den).length e9]) rfl BR0 rfl (by kernel_rfl) (zI3 rfl rfl rfl) fun w9 hg9 B9 => ?_
  have k9:=off q6 BR0 zE hg9
  have d9:=off d6 BR0 zE hg9
  have f9:=f6.mono (show w.heap.size <= _ from s_6)
  have bb9:=bb.trans ((Below.refl _ _).grown hg9 bb.size (fun g hg => by injection hg with hg; omega))
  obtain ⟨C0,C1,C2,_,_,_⟩:=three B9
  refine zI2 (by kernel_rfl) ?_
  go_wp2
  exact bodyPost_ret (v:=.agg #[.bool (ngB (q).num),.slice A9 (digs 10000 (q).num.natAbs).length c9,.slice D9 (digs 10000 (q).den).length e9]) (by simp [results,Tryz.results52,go_sem,C0,C1,C2]) rfl ⟨_,rfl,⟨_,_,rfl,k9,d9⟩,f9,bb9⟩
theorem SlF.drew {k : IntKind} {B : Nat} {w : World} {v : Value} {qs : List Rat} (h : SlF k B w v qs) : SlF k B w.drew v qs:=h
theorem SlF.off {k : IntKind} {B : Nat} {w w' : World} {v : Value} {qs : List Rat} {g : Nat} {e : TypeId} {cs : Array Value} (h : SlF k B w v qs) (hB : w.heap[g]? = some (.cells cs e (0,0))) (hno : ∀ c ∈ cs,∀ n,c ≠ .int k n) (hg : w.grownBy w' (some g)) (hne : v.ownBlock ≠ some g) : SlF k B w' v qs:=by
 obtain ⟨ps,e1,⟨A,c,rfl,h1,h2,h3⟩,h4⟩:=h
 have key : ∀ (g2 o2 : Nat) (x : Value),A = some ⟨g2,o2,none⟩ -> ∀ j,w.cell? ⟨g2,j,none⟩ = some x -> w'.cell? ⟨g2,j,none⟩ = some x:=fun g2 o2 x hA j hc => by
  subst hA
  have hne2 : g2 ≠ g:=fun e => hne (by subst e; rfl)
  have hb:=hg.block g2 (World.block_lt_of_cell? w _ hc) (fun e => hne2 (by injection e))
  rw [<- hc]
  simp only [World.cell?,hb]
 refine ⟨ps,e1,⟨A,c,rfl,h1,h2,fun i p hp => ?_⟩,fun p hp => ⟨Go.Proofs.YtagaabooccnamaaGreat.flow.off (h4 p hp).1 hB hno hg,Go.Proofs.YtagaabooccnamaaGreat.flow.off (h4 p hp).2 hB hno hg⟩⟩
 obtain ⟨g2,o2,hA,c0,c1,c2⟩:=h3 i p hp
 exact ⟨g2,o2,hA,key g2 o2 _ hA _ c0,key g2 o2 _ hA _ c1,key g2 o2 _ hA _ c2⟩
theorem SlF.at2 {k : IntKind} {B : Nat} {w : World} {g o n c : Nat} {qs : List Rat} {i : Nat} {q : Rat} (h : SlF k B w (.slice (some ⟨g,o,none⟩) n c) qs) (hq : qs[i]? = some q) : ∃ u t,i < n /\ w.cell? ⟨g,o + i * 3,none⟩ = some (.bool (ngB q.num)) /\ w.cell? ⟨g,o + i * 3 + 1,none⟩ = some u /\ w.cell? ⟨g,o + i * 3 + 2,none⟩ = some t /\ IsS w k u (digs B q.num.natAbs) /\ IsS w k t (digs B q.den):=by
 obtain ⟨g',o',u,t,hA,h1,h2,h3,h4,h5,h6⟩:=h.at_ hq
 injection hA with hA
 injection hA with e1 e2
 subst e1
 subst e2
 exact ⟨u,t,h1,h2,h3,h4,h5,h6⟩
theorem SlF.place {k : IntKind} {B : Nat} {w : World} {v : Value} {qs : List Rat} (h : SlF k B w v qs) (hne : qs ≠ []) : ∃ g o c,v = .slice (some ⟨g,o,none⟩) qs.length c /\ g < w.heap.size /\ qs.length <= c /\ c <= maxLen:=by
  obtain ⟨A,c,rfl,h1,h2⟩:=h.shape
  cases qs with
  | nil => exact absurd rfl hne
  | cons q qs =>
    obtain ⟨g,o,u,t,rfl,_,hc,_⟩:=h.at_ (i:=0) (q:=q) rfl
    exact ⟨g,o,c,rfl,World.block_lt_of_cell? w _ hc,h1,h2⟩
theorem SlF.any {k : IntKind} {B : Nat} {w w' : World} {v : Value} (h : SlF k B w v []) : SlF k B w' v []:=by
 obtain ⟨ps,hp,⟨A,c,h1,h2,h3,_⟩,_⟩:=h
 obtain rfl : ps = []:=List.map_eq_nil_iff.1 hp
 exact ⟨[],rfl,⟨A,c,h1,h2,h3,fun i p hp => by simp at hp⟩,fun p hp => by cases hp⟩
theorem SlF.lt {k : IntKind} {B : Nat} {w : World} {g o n c : Nat} {qs : List Rat} (h : SlF k B w (.slice (some ⟨g,o,none⟩) n c) qs) (hne : qs ≠ []) : g < w.heap.size:=by
 obtain ⟨g',o',c',hv,h1,_⟩:=h.place hne
 injection hv with hA
 injection hA with hA
 injection hA with e1
 rw [e1]; exact h1
theorem SlF.take {k : IntKind} {B : Nat} {w : World} {A : Option Addr} {n c : Nat} {qs : List Rat} (h : SlF k B w (.slice A n c) qs) {m : Nat} (hm : m <= qs.length) : SlF k B w (.slice A m c) (qs.take m):=by
 obtain ⟨ps,rfl,⟨A',c',hv,h1,h2,h3⟩,h4⟩:=h
 injection hv with e1 e2 e3
 subst e1; subst e2; subst e3
 rw [zA9] at hm
 refine ⟨ps.take m,by rw [List.map_take],⟨A,c,by rw [List.length_take,Nat.min_eq_left hm],by rw [List.length_take]; omega,h2,fun i p hp => h3 i p ?_⟩,fun p hp => h4 p (List.mem_of_mem_take hp)⟩
 rw [List.getElem?_take] at hp
 split at hp
 ·exact hp
 ·cases hp
section
variable {P : Program}
theorem yD5 {t : TypeId} (x y : Operand) (a b : Nat) (h : a + b <= 9223372036854775807) (w : World) : (do eqGuard .add t x y (.int .i64 (a : Int)) (.int .i64 (b : Int)); binOp .add t (.int .i64 (a : Int)) (.int .i64 (b : Int))).run P w = .ok (.int .i64 ((a + b : Nat) : Int)) w:=by
 have h0 : (eqGuard .add t x y (.int .i64 (a : Int)) (.int .i64 (b : Int))).run P w = .ok () w:=by simp [eqGuard]
 have e : IntKind.i64.wrap ((a : Int) + (b : Int)) = ((a + b : Nat) : Int):=by rw [IntKind.wrap_i64]; omega
 rw [Sem.run_bind,h0,Result.andThen_ok]
 simp [binOp,Op.intArith,go_sem,e]
end
def Two (w : World) (v : Value) (p q : List Rat) : Prop:=∃ u0 u1,IsV w v [u0,u1] /\ SlF .u64 4294967296 w u0 p /\ SlF .u64 4294967296 w u1 q
theorem Two.below {w w' : World} {v : Value} {p q : List Rat} (h : Two w v p q) (hb : Below w.heap.size w w') : Two w' v p q:=by
 obtain ⟨u0,u1,h1,h2,h3⟩:=h
 exact ⟨u0,u1,h1.below hb,h2.below hb,h3.below hb⟩
section
variable {P : Program} {Q : Exit -> Act -> World -> Prop} {ops : Array Oper} {L : List Oper} {Φ : List Pd} {w0 : World} {a0 : Act} {i : Nat} {o : Oper}
end
end Go.Proofs.YtagaabooccnamaaGreat.rat
namespace Go.Proofs.YtagaabooccnamaaGreat.rat
open Go.RowKit Go.ChangeShapes Go.WideShapes Go.ChangeAt Go.Joins Go.Deep num mem nat txt str flow whl
theorem zT3.below {w w' : World} {v : Value} (h : zT3 w v) (hb : Below w.heap.size w w') : zT3 w' v:=by
 obtain ⟨A,n,c,e,h1,h2,h3⟩:=h
 refine ⟨A,n,c,e,h1,h2,fun i hi => ?_⟩
 obtain ⟨ad,b,u,t,l,m,e2,c0,c1,c2,k1,k2,k3,k4⟩:=h3 i hi
 exact ⟨ad,b,u,t,l,m,e2,(hb.cell (World.block_lt_of_cell? w _ c0)).trans c0,(hb.cell (World.block_lt_of_cell? w _ c1)).trans c1,(hb.cell (World.block_lt_of_cell? w _ c2)).trans c2,k1.below hb,k2,k3.below hb,k4⟩
def vi (l : List Int) : List Value:=l.map (.int .i64)
theorem vi_len (l : List Int) : (vi l).length = l.length:=zA9 _
theorem IsI.take {w : World} {A : Option Addr} {n c : Nat} {l : List Int} (h : IsI w (.slice A n c) l) {m : Nat} (hm : m <= l.length) : IsI w (.slice A m c) (l.take m):=by
 obtain ⟨A',c',hv,h1,h2,h3,h4⟩:=h
 injection hv with e1 e2 e3
 subst e1; subst e2; subst e3
 refine ⟨A,c,by rw [List.length_take,Nat.min_eq_left hm],by rw [List.length_take]; omega,h2,fun z hz => h3 z (List.mem_of_mem_take hz),fun i z hz => h4 i z ?_⟩
 rw [List.getElem?_take] at hz
 split at hz
 ·exact hz
 ·cases hz
section
variable {P : Program}
end
theorem info_int : ∃ i,Tryz.prog.info? 3 = some i /\ i.zero = some (.int .i64 0) /\ i.size = 1 /\ i.bytes = 8:=info_parts (P:=Tryz.prog) (e:=3) (z:=.int .i64 0) (size:=1) (bytes:=8) (by kernel_rfl)
end Go.Proofs.YtagaabooccnamaaGreat.rat
namespace Go.Proofs.YtagaabooccnamaaGreat.flow
open Go.RowKit num mem rat
section
variable {P : Program} {Q : Exit -> Act -> World -> Prop} {ops : Array Oper} {L : List Oper} {Φ : List Pd} {w0 : World} {a0 : Act} {i : Nat} {o : Oper}
end
end Go.Proofs.YtagaabooccnamaaGreat.flow
namespace Go.Proofs.YtagaabooccnamaaGreat.rat
open Go.RowKit num mem nat txt str flow whl
theorem IsI.off {w w' : World} {v : Value} {l : List Int} {g : Nat} {e : TypeId} {cs : Array Value} (h : IsI w v l) (hB : w.heap[g]? = some (.cells cs e (0,0))) (hno : ∀ c ∈ cs,∀ n,c ≠ .int .i64 n) (hg : w.grownBy w' (some g)) : IsI w' v l:=by
 obtain ⟨A,c,rfl,h1,h2,h3,h4⟩:=h
 refine ⟨A,c,rfl,h1,h2,h3,fun i z hz => ?_⟩
 obtain ⟨ad,rfl,hc⟩:=h4 i z hz
 refine ⟨ad,rfl,hg.cell hc fun e1 => ?_⟩
 injection e1 with e1
 have hcell : ∀ q : Addr,q.block = g -> w.cell? q = some (.int .i64 z) -> False:=by
  intro p hp hpc
  unfold World.cell? at hpc
  rw [hp,hB] at hpc
  simp only [] at hpc
  split at hpc
  ·cases hpc
  ·exact hno _ (Array.mem_of_getElem? hpc) _ rfl
 exact hcell _ e1 hc
def RetFewN (n : Nat) (w : World) (e : Ending) (w' : World) : Prop:=∃ V U qs,e = .returned (.tuple #[V,U]) /\ SlF .u64 4294967296 w' V qs /\ SlF .i64 10000 w' U qs /\ qs.length = n /\ (∀ q ∈ qs,zC7 q 1) /\ Below w.heap.size w w' /\ (∀ g,V.ownBlock = some g -> w.heap.size <= g /\ g < w'.heap.size) /\ (∀ g,U.ownBlock = some g -> w.heap.size <= g /\ g < w'.heap.size)
def zL6 (B : Nat) (ps : List Elt) : Prop:=∀ p ∈ ps,zD7 B p.2.1 /\ zD7 B p.2.2
theorem zL6.nil (B : Nat) : zL6 B []:=fun p hp => by cases hp
theorem zL6.snoc {B : Nat} {ps : List Elt} {p : Elt} (h : zL6 B ps) (h1 : zD7 B p.2.1) (h2 : zD7 B p.2.2) : zL6 B (ps ++ [p]):=fun a ha => by
 rcases List.mem_append.1 ha with ha | ha
 ·exact h a ha
 ·rw [List.mem_singleton.1 ha]; exact ⟨h1,h2⟩
def IsN (k : IntKind) (B : Nat) (w : World) (B0 : Nat) (v : Value) (r : List Rat) : Prop:=∃ ps : List Elt,ps.map (·.1) = r /\ zM2 w v ps /\ (∀ p ∈ ps,IsE k B w p /\ zD7 B0 p.2.1 /\ zD7 B0 p.2.2) /\ ∀ g,v.ownBlock = some g -> B0 <= g /\ g < w.heap.size
theorem IsN.sl {k : IntKind} {B : Nat} {w : World} {B0 : Nat} {v : Value} {r : List Rat} (h : IsN k B w B0 v r) : SlF k B w v r:=by
 obtain ⟨ps,h1,h2,h3,_⟩:=h
 exact ⟨ps,h1,h2,fun p hp => (h3 p hp).1⟩
theorem IsN.below {k : IntKind} {B : Nat} {w w' : World} {B0 : Nat} {v : Value} {r : List Rat} (h : IsN k B w B0 v r) (hb : Below w.heap.size w w') : IsN k B w' B0 v r:=by
 obtain ⟨ps,h1,h2,h3,h4⟩:=h
 exact ⟨ps,h1,h2.below hb,fun p hp => ⟨(h3 p hp).1.below hb,(h3 p hp).2⟩,fun g hg => ⟨(h4 g hg).1,Nat.lt_of_lt_of_le (h4 g hg).2 hb.size⟩⟩
theorem IsN.mono {k : IntKind} {B : Nat} {w : World} {B0 B1 : Nat} {v : Value} {r : List Rat} (h : IsN k B w B0 v r) (hb : B1 <= B0) : IsN k B w B1 v r:=by
 obtain ⟨ps,h1,h2,h3,h4⟩:=h
 exact ⟨ps,h1,h2,fun p hp => ⟨(h3 p hp).1,(h3 p hp).2.1.mono hb,(h3 p hp).2.2.mono hb⟩,fun g hg => ⟨zB4 hb (h4 g hg).1,(h4 g hg).2⟩⟩
def RetFewG (n : Nat) (w : World) (e : Ending) (w' : World) : Prop:=∃ V U qs,e = .returned (.tuple #[V,U]) /\ IsN .u64 4294967296 w' w.heap.size V qs /\ IsN .i64 10000 w' w.heap.size U qs /\ qs.length = n /\ (∀ q ∈ qs,zC7 q 1) /\ Below w.heap.size w w'
theorem yX0 (A0 : Option Addr) (n0 c0 M : Nat) (w : World) (h0 : zT3 w (.slice A0 n0 c0)) (hM : M <= 8) :
  Calls Tryz.prog 19 #[.slice A0 n0 c0,.int .i64 (M : Int)] w (RetFewG (min n0 M) w):=by
 obtain ⟨A0_,n0_,c0_,e_,hn0,hc0,hel⟩:=h0
 injection e_ with e1_ e2_ e3_
 subst e1_
 subst e2_
 subst e3_
 have HEL:=Lib.hid hel
 clear hel
 unfold maxLen at hc0
 have bb : Below w.heap.size w w:=Below.refl _ _
 go_enter Tryz.func19,Tryz.ntmps19
 go_wp2
 go_loopw [6,7,8] (fun v4 v5 v6 wr => ∃ (k : Nat) (ps rs : List Elt),k <= M /\ k <= n0 /\ Hid (ps.length = k) /\ Hid (rs.map (·.1) = ps.map (·.1)) /\ Hid (∀ p ∈ ps,zC7 p.1 1) /\ zR2 w wr v4 v5 ps rs /\ zL6 w.heap.size ps /\ zL6 w.heap.size rs /\ v6 = .int .i64 (k : Int)) (fun _ _ v6 _ => M - (intOf v6).toNat)
 case atStart =>
  have r0:=qO9 83 w w.heap.size (zB3 _)
  have r1:=qO9 65 (w.alloc (.cells #[] 83)) w.heap.size (by simp)
  have r0':=r0.below (zC8 (zB3 _) (.cells #[] 65))
  refine ⟨0,[],[],by omega,by omega,rfl,rfl,(by show ∀ p ∈ _,_; intro p hp; cases hp),⟨r0',?_,⟨zG5.nil _ _ _ _,zG5.nil _ _ _ _⟩,⟨zG5.nil _ _ _ _,zG5.nil _ _ _ _⟩,?_,(zC8 (zB3 _) _).alloc (by simp) _⟩,zL6.nil _,zL6.nil _,rfl⟩
  ·simpa using r1
  ·intro g h1 h2
   simp [Value.ownBlock] at h1 h2
   omega
 case round =>
  obtain ⟨k,ps,rs,hk8,hkn,HPL,HRP,HLQ,hTR,hNP,hNR,rfl⟩:=hrel
  obtain ⟨u4,hu4⟩ : ∃ u4,u4 = u6:=⟨_,rfl⟩
  obtain ⟨u5,hu5⟩ : ∃ u5,u5 = u7:=⟨_,rfl⟩
  subst hu4
  subst hu5
  have bb':=hTR.2.2.2.2.2
  clear bb
  have bb:=bb'
  clear bb'
  by_cases hlt : k < n0 /\ k < M
  ·obtain ⟨hlt1,hlt2⟩:=hlt
   obtain ⟨ad,b,ue,te,l,m,hA0,e0,e1,e2,hu,lu,ht,lt⟩:=HEL.out k hlt1
   subst hA0
   obtain ⟨Ae,ce,rfl,_⟩:=id hu
   obtain ⟨De,ee,rfl,_⟩:=id ht
   replace e0:=(bb.cell (World.block_lt_of_cell? w _ e0)).trans e0
   replace e1:=(bb.cell (World.block_lt_of_cell? w _ e1)).trans e1
   replace e2:=(bb.cell (World.block_lt_of_cell? w _ e2)).trans e2
   replace hu:=hu.below bb
   replace ht:=ht.below bb
   obtain ⟨q,hq⟩ : ∃ q,q = qD8 b l m 1:=⟨_,rfl⟩
   have lq : zC7 q 1:=by rw [hq]; exact yT9 _ _ _ (by omega)
   have HQ:=Lib.hid hq.symm
   clear hq
   have bl : Below wr.heap.size wr wr:=Below.refl _ _
   have hszr:=bb.size
   go_upto_region 5 with (fail)
   refine zC9 6 [Pd.eq (.slice (some ad) n0 c0),Pd.eq (.int .i64 (k : Int)),Pd.eq (.pointer (some (ad.add (k * 3)))),Pd.eq (.agg #[.bool b,.slice Ae l.length ce,.slice De m.length ee]),pq (q) wr.heap.size,pn 83 #[.bool false,.slice none 0 0,.slice none 0 0] wr.heap.size] (by kernel_rfl) ?ob1 ?done1
   case ob1 =>
    refine zA (zC2 rfl (zB6 rfl) (zB8 rfl rfl) (fun _ _ h => h)) ?_
    refine zA (zC2 rfl (zB6 rfl) (zB8 rfl rfl) (fun _ _ h => h)) ?_
    refine zA (zK5 rfl (zB6 rfl) (zB7 (j:=0) (by kernel_rfl) rfl rfl) (zB7 (j:=1) (by kernel_rfl) rfl rfl) (fun _ _ _ hx hy => ⟨_,by rw [hx,hy]; exact yU6 Tryz.underlying44 (by kernel_rfl) ad hlt1 _,rfl⟩)) ?_
    refine zA (zC rfl (zB6 rfl) (zB7 (j:=2) (by kernel_rfl) rfl rfl) (fun w2 hb => yU7 Tryz.underlying83 rfl (by kernel_rfl) ((hb.cell (World.block_lt_of_cell? wr _ e0)).trans e0) ((hb.cell (World.block_lt_of_cell? wr _ e1)).trans e1) ((hb.cell (World.block_lt_of_cell? wr _ e2)).trans e2)) (fun _ _ => rfl)) ?_
    refine zA (zD4 rfl Tryz.func51 (by kernel_rfl) (zB6 rfl) (zB7 (j:=3) (by kernel_rfl) rfl rfl) (zH7 _) (fun w2 u0 u1 hb h0 h1 => by obtain rfl:=h0; obtain rfl:=h1; exact (HQ.out ▸ yU b _ _ l m 1 1 _ rfl (hu.below hb) lu (ht.below hb) lt (by omega) (by omega)).mono fun e w3 h => RetQ.pd h hb.size)) ?_
    refine zA (zN6 (z:=.agg #[.bool false,.slice none 0 0,.slice none 0 0]) rfl rfl (fun _ => by kernel_rfl) (fun _ _ hB h => ⟨_,rfl,hB,h⟩)) ?_
    trivial
   case done1 =>
    refine fun w2 hb2 v0 h0 v1 h1 v2 h2 v3 h3 v4 h4 v5 h5 d5 b hbf => ?_
    obtain rfl:=h0; obtain rfl:=h1; obtain rfl:=h2; obtain rfl:=h3
    obtain ⟨q4,f4⟩:=h4
    obtain ⟨g1_5,rfl,hg5,B5⟩:=h5
    simp only [Act.put,zA0,zA2,zA1] at hbf
    subst hbf
    replace bb:=bb.trans (hb2.mono bb.size)
    have hsz2:=bb.size
    replace bl:=bl.trans (hb2.mono bl.size)
    have BA9:=B5
    obtain ⟨u4,t4,rfl,q4,d4⟩:=q4
    obtain ⟨A7,c7,rfl,_⟩:=id q4
    obtain ⟨D7,e7,rfl,_⟩:=id d4
    refine zG8 (i:=6) rfl rfl rfl rfl rfl rfl (cells:=[.bool (ngB (q).num),.slice A7 (digs 4294967296 (q).num.natAbs).length c7,.slice D7 (digs 4294967296 (q).den).length e7]) rfl BA9 rfl (by kernel_rfl) (zI3 rfl rfl rfl) fun w3 hg3 BN3 => ?_
    replace q4:=off q4 BA9 zE hg3
    replace d4:=off d4 BA9 zE hg3
    replace bb:=bb.trans ((Below.refl _ _).grown hg3 bb.size (fun g hg => by injection hg with hg; omega))
    have hsz3:=bb.size
    have B7 : Blk w3 (g1_5) _ _:=BN3
    have k7s:=q4
    have k7d:=d4
    have k7z : IsZ w3 (.agg #[.bool (ngB (q).num),.slice A7 (digs 4294967296 (q).num.natAbs).length c7]) ((q).num):=⟨_,rfl,k7s⟩
    have k7 : IsQ w3 (.agg #[.bool (ngB (q).num),.slice A7 (digs 4294967296 (q).num.natAbs).length c7,.slice D7 (digs 4294967296 (q).den).length e7]) (q):=⟨_,_,rfl,k7s,k7d⟩
    have hq_:=bl.size
    replace bl:=bl.trans ((Below.refl _ _).grown hg3 bl.size (fun g hg => by injection hg with hg; omega))
    clear hq_
    refine zD ?_
    have g1:=(f4 _ _ _ rfl).1
    have g2:=(f4 _ _ _ rfl).2
    have under4:=hTR.1.under
    have under5:=hTR.2.1.under
    have far4 : Far u4 (.slice A7 (digs 4294967296 (q).num.natAbs).length c7) /\ Far u4 (.slice D7 (digs 4294967296 (q).den).length e7):=⟨g1.far under4,g2.far under4⟩
    have far5 : Far u5 (.slice A7 (digs 4294967296 (q).num.natAbs).length c7) /\ Far u5 (.slice D7 (digs 4294967296 (q).den).length e7):=⟨g1.far under5,g2.far under5⟩
    have hT2:=hTR.below bl
    have HT2:=Lib.hid hT2
    have hr4 : zD2 83 w3 w.heap.size u4 ps:=hT2.1
    have hszT : w.heap.size <= w3.heap.size:=hT2.2.2.2.2.2.size
    have hne4 : u4.ownBlock ≠ some g1_5:=fun e => by have:=under4 _ e; omega
    obtain ⟨x70,x71,x72,_,_,_⟩:=three B7
    obtain ⟨P1,hP1⟩ : ∃ P1 : Elt,P1 = (q,.slice A7 (digs 4294967296 (q).num.natAbs).length c7,.slice D7 (digs 4294967296 (q).den).length e7):=⟨_,rfl⟩
    have HP1:=Lib.hid hP1
    have k7d_ : IsE .u64 4294967296 w3 (q,.slice A7 (digs 4294967296 (q).num.natAbs).length c7,.slice D7 (digs 4294967296 (q).den).length e7):=⟨k7s,k7d⟩
    have lq3 : zC7 q 30000:=⟨zB4 lq.1 (by decide),zB4 lq.2 (by decide)⟩
    have HL8 : Hid (ps.length <= 1000000000 /\ rs.length <= 1000000000):=by
     have h1:=HPL.out
     have h2:=congrArg List.length HRP.out
     rw [zA9,zA9] at h2
     exact ⟨by omega,by omega⟩
    clear hT2 hTR e0 e1 e2 hu ht lu lt hP1
    obtain ⟨cA0,cA1,cA2⟩:=qP4 w3 83 (.bool (ngB (q).num)) (.slice A7 (digs 4294967296 (q).num.natAbs).length c7) (.slice D7 (digs 4294967296 (q).den).length e7)
    have bA:=zC8 (w:=w3) (zB3 _) (.cells #[.bool (ngB (q).num),.slice A7 (digs 4294967296 (q).num.natAbs).length c7,.slice D7 (digs 4294967296 (q).den).length e7] 83)
    obtain ⟨wA,hwA⟩ : ∃ wA,wA = w3.alloc (.cells #[.bool (ngB (q).num),.slice A7 (digs 4294967296 (q).num.natAbs).length c7,.slice D7 (digs 4294967296 (q).den).length e7] 83):=⟨_,rfl⟩
    have HWA:=Lib.hid hwA
    rw [<- hwA] at cA0 cA1 cA2 bA
    replace bA:=bA.drew
    have rA:=hr4.below bA
    have eA:=k7d_.below bA
    have tA:=HT2.out.below bA
    have BA_:=B7.below bA
    have hszA : w.heap.size <= wA.drew.heap.size:=tA.2.2.2.2.2.size
    have TA:=Lib.hid tA
    clear tA
    subst hwA
    obtain ⟨xA0,xA1,xA2,_,_,_⟩:=three BA_
    go_upto_region 6 with (fail)
    go_region_law (first
     | (refine yB9 rfl (.tmp 28) (.tmp 30) rfl Tryz.underlying44 zU8 (v:=u4) (p:=(q,.slice A7 (digs 4294967296 (q).num.natAbs).length c7,.slice D7 (digs 4294967296 (q).den).length e7)) (ps:=ps) (by rfl) (by exact rA) (ad:=⟨w3.heap.size,0,none⟩) (c:=1) (by rfl) (by exact cA0) (by exact cA1) (by exact cA2) rfl rfl HL8.out.1 (by exact hszA) ?_; intro v5 w5 row5 bb5 HK5; have T5:=Lib.hid (TA.out.one row5 HK5.out bb5 eA far4 far5); have s5:=(HK5.out.1 _ _ _ eA.1 far4.1).1; have d5:=(HK5.out.1 _ _ _ eA.2 far4.2).1; have B5_:=BA_.other HK5.out.2.1 hne4; obtain ⟨x50,x51,x52,_,_,_⟩:=three B5_)
     | (go_simp; go_at_call 52; refine (yX _ q _ ⟨_,_,rfl,(by exact s5),(by exact d5)⟩ lq3).mono ?_; rintro e w6 ⟨v6,rfl,k6,f6,b6⟩; have T6:=Lib.hid (T5.out.below b6); have row6:=T6.out.2.1; obtain ⟨u6,t6,rfl,q6,d6⟩:=k6; obtain ⟨A6,c6,rfl,_⟩:=id q6; obtain ⟨D6,e6,rfl,_⟩:=id d6; have hsz6 : w.heap.size <= w6.heap.size:=T6.out.2.2.2.2.2.size; obtain ⟨cC0,cC1,cC2⟩:=qP4 w6 65 (.bool (ngB (q).num)) (.slice A6 (digs 10000 (q).num.natAbs).length c6) (.slice D6 (digs 10000 (q).den).length e6); have rC:=row6.below (zC8 (zB3 _) (.cells #[.bool (ngB (q).num),.slice A6 (digs 10000 (q).num.natAbs).length c6,.slice D6 (digs 10000 (q).den).length e6] 65)); have hszC:=zB4 hsz6 (zC8 (w:=w6) (zB3 _) (.cells #[.bool (ngB (q).num),.slice A6 (digs 10000 (q).num.natAbs).length c6,.slice D6 (digs 10000 (q).den).length e6] 65)).size)
     | (refine yB9 rfl (.tmp 32) (.tmp 35) rfl Tryz.underlying45 qP (v:=u5) (p:=(q,.slice A6 (digs 10000 (q).num.natAbs).length c6,.slice D6 (digs 10000 (q).den).length e6)) (ps:=rs) (by rfl) (by exact rC) (ad:=⟨w6.heap.size,0,none⟩) (c:=1) (by rfl) (by exact cC0) (by exact cC1) (by exact cC2) rfl rfl HL8.out.2 (by exact hszC) ?_; intro v7 w7 row7 bb7 HK7))
    all_goals
     have ba6:=zC8 (w:=w6) (zB3 _) (.cells #[.bool (ngB (q).num),.slice A6 (digs 10000 (q).num.natAbs).length c6,.slice D6 (digs 10000 (q).den).length e6] 65)
     have TC:=T6.out.below ba6
     have EC : IsE .i64 10000 (w6.alloc (.cells #[.bool (ngB (q).num),.slice A6 (digs 10000 (q).num.natAbs).length c6,.slice D6 (digs 10000 (q).den).length e6] 65)) (q,.slice A6 (digs 10000 (q).num.natAbs).length c6,.slice D6 (digs 10000 (q).den).length e6):=⟨q6.below ba6,d6.below ba6⟩
     have j1:=(f6 _ _ _ rfl).1
     have j2:=(f6 _ _ _ rfl).2
     have n4:=T5.out.1.under
     have n5:=T5.out.2.1.under
     have T7:=TC.two row7 HK7.out bb7 EC ⟨j1.far n4,j2.far n4⟩ ⟨j1.far n5,j2.far n5⟩
     have NP7:=hNP.snoc (p:=(q,.slice A7 (digs 4294967296 (q).num.natAbs).length c7,.slice D7 (digs 4294967296 (q).den).length e7)) (g1.mono hszr) (g2.mono hszr)
     have hs5 : w.heap.size <= w5.heap.size:=T5.out.2.2.2.2.2.size
     have NR7:=hNR.snoc (p:=(q,.slice A6 (digs 10000 (q).num.natAbs).length c6,.slice D6 (digs 10000 (q).den).length e6)) (j1.mono hs5) (j2.mono hs5)
     have HPL7 : Hid ((ps ++ [((q,.slice A7 (digs 4294967296 (q).num.natAbs).length c7,.slice D7 (digs 4294967296 (q).den).length e7) : Elt)]).length = k + 1):=by show _ = _; rw [zA8,HPL.out]; rfl
     have HRP7 : Hid ((rs ++ [((q,.slice A6 (digs 10000 (q).num.natAbs).length c6,.slice D6 (digs 10000 (q).den).length e6) : Elt)]).map (·.1) = (ps ++ [((q,.slice A7 (digs 4294967296 (q).num.natAbs).length c7,.slice D7 (digs 4294967296 (q).den).length e7) : Elt)]).map (·.1)):=by show _ = _; rw [List.map_append,List.map_append,HRP.out]; rfl
     have HLQ7 : Hid (∀ p ∈ ps ++ [((q,.slice A7 (digs 4294967296 (q).num.natAbs).length c7,.slice D7 (digs 4294967296 (q).den).length e7) : Elt)],zC7 p.1 1):=fun p hp => by
      rcases List.mem_append.1 hp with hp | hp
      ·exact HLQ.out p hp
      ·rw [List.mem_singleton.1 hp]; exact lq
     have hme : M - (k + 1) < M - k:=by omega
     go_wp2
     go_roundw
     case rel => exact ⟨k + 1,_,_,by omega,by omega,HPL7,HRP7,HLQ7,T7,NP7,NR7,rfl⟩
     case measure => exact hme
  ·have hV0:=fun g h => zA (hTR.1.base_le g h) (hTR.1.under g h)
   have hU0:=fun g h => zA (hTR.2.1.base_le g h) (hTR.2.1.under g h)
   have HEND : Hid (IsN .u64 4294967296 wr w.heap.size u4 (ps.map (·.1)) /\ IsN .i64 10000 wr w.heap.size u5 (ps.map (·.1)) /\ (ps.map (·.1)).length = min n0 M /\ (∀ q ∈ ps.map (·.1),zC7 q 1)):=by
    show _ /\ _ /\ _ /\ _
    refine ⟨⟨ps,rfl,hTR.1.isVF,fun p hp => ⟨(hTR.2.2.1.1 p hp).1,hNP p hp⟩,fun g hg => ⟨hTR.1.base_le g hg,hTR.1.under g hg⟩⟩,⟨rs,HRP.out,hTR.2.1.isVF,fun p hp => ⟨(hTR.2.2.2.1.2 p hp).1,hNR p hp⟩,fun g hg => ⟨hTR.2.1.base_le g hg,hTR.2.1.under g hg⟩⟩,by rw [zA9,HPL.out]; omega,fun x hx => ?_⟩
    obtain ⟨p,hp,rfl⟩:=List.mem_map.1 hx
    exact HLQ.out p hp
   clear hTR HRP HLQ HPL hNP hNR hV0 hU0
   have hx : ¬ k < n0 \/ (k < n0 /\ ¬ k < M):=by omega
   rcases hx with hx | ⟨hx1,hx2⟩
   all_goals
    go_wp2
    go_ret2
    exact ⟨_,_,_,rfl,HEND.out.1,HEND.out.2.1,HEND.out.2.2.1,HEND.out.2.2.2,bb⟩
theorem yX1 (A0 : Option Addr) (n0 c0 M : Nat) (w : World) (h0 : zT3 w (.slice A0 n0 c0)) (hM : M <= 8) : Calls Tryz.prog 19 #[.slice A0 n0 c0,.int .i64 (M : Int)] w (RetFewN (min n0 M) w) :=
 (yX0 A0 n0 c0 M w h0 hM).mono fun e w' h => by
  obtain ⟨V,U,qs,h1,h2,h3,h4,h5,h6⟩:=h
  obtain ⟨_,_,_,_,hV⟩:=id h2
  obtain ⟨_,_,_,_,hU⟩:=id h3
  exact ⟨V,U,qs,h1,h2.sl,h3.sl,h4,h5,h6,hV,hU⟩
end Go.Proofs.YtagaabooccnamaaGreat.rat
