/- Package vect: vanishes, Scale, Dot, Lead. Condition: as each says. -/
import Derived.Test.YtagaabooccnamaaGreatKC4
import Derived.Deep.RegionHeld3
import Derived.BigRegion
import Derived.Deep.CutRange
open Go.Proofs.Tryz
open Go.Lib renaming hid -> hQ9
set_option linter.unusedVariables false
set_option linter.unusedSimpArgs false
set_option maxRecDepth 100000
set_option maxHeartbeats 6400000
open And renaming intro -> zA
open List renaming setIfInBounds_toArray -> zA0, set_cons_succ -> zA1, set_cons_zero -> zA2, getElem?_eq_getElem -> zA3, getElem?_eq_some_iff -> zA4, mem_of_getElem? -> zA5, take_of_length_le -> zA7, length_append -> zA8, length_map -> zA9, replicate -> zB, getElem?_append_left -> zB0
open Nat renaming le_refl -> zB1, le_trans -> zB2
open Go.World renaming block_lt_of_cell? -> bQ0
open Classical renaming byContradiction -> bQ1
open List renaming length_set -> bQ5, length_take -> bQ7, getElem?_map -> bQ8, take_add_one -> bQ9, getElem?_append_right -> bW0, getElem?_toArray -> bW8, map_append -> bX5
open Nat renaming lt_of_lt_of_le -> bY2, zero_add -> bY5
namespace Go.Proofs.YtagaabooccnamaaGreat
namespace rat
open Go.RowKit num mem nat txt str flow whl
theorem jE8 {p q:List Rat} {m n:Nat} (h:∀ x∈p,zC2 x m) (h2:∀ x∈q,zC2 x n):∀ x∈zP0 p q,zC2 x (m+n):=by
 intro r hr;obtain ⟨x,hx,y,hy,rfl⟩:=qM4 hr;exact qA6 (h x hx) (h2 y hy)
theorem qH5 {x:Rat} : (zJ3 x.num 0 == 0)=decide (x=0):=by
 by_cases h:x=0
 ·rw [h,decide_eq_true rfl];rfl
 ·rw [decide_eq_false h,beq_eq_false_iff_ne];intro e;have hz:x.num≠0:=fun k=>h (Rat.num_eq_zero.1 k)
  rcases Int.lt_or_gt_of_ne hz with k | k
  ·rw [qE8 k] at e;cases e
  ·rw [qE9 k] at e;cases e
theorem qV6 {x y:Rat} : x*y=0 ↔ x=0\/y=0:=by
 constructor
 ·intro h;exact Rat.mul_eq_zero.1 h
 ·rintro (rfl|rfl)
  ·exact Rat.zero_mul _
  ·exact Rat.mul_zero _
theorem qO6 (a0 a1:Value) (x y:Rat) (b:Bool) (w:World) (h0:IsQ w a0 x) (h1:IsQ w a1 y) (hb:b=decide (x*y=0)) :
  Calls prog 174 #[a0,a1] w (zD3 (.bool b) w):=by
 obtain ⟨s,hs⟩:∃ s,s=zJ3 x.num 0:=⟨_,rfl⟩;obtain ⟨t,ht⟩:∃ t,t=zJ3 y.num 0:=⟨_,rfl⟩;have HS:=hQ9 hs;have HT:=hQ9 ht;have HB:=hQ9 hb;clear hb;by_cases hx:x=0
 ·obtain ⟨u0,t0,rfl,s0,r0⟩:=h0;obtain ⟨A0,c0,rfl,_⟩:=id s0;obtain ⟨D0,e0,rfl,_⟩:=id r0;obtain ⟨u1,t1,rfl,s1,r1⟩:=h1;obtain ⟨A1,c1,rfl,_⟩:=id s1;obtain ⟨D1,e1,rfl,_⟩:=id r1;have H1:Hid ((s == 0)=true):=by show _=_;rw [hs,qH5,decide_eq_true hx]
  have HW:Hid (b=true):=by show _=_;rw [HB.out];exact decide_eq_true (qV6.2 (.inl hx))
  clear hs ht hx
  go_enter func174,ntmps174
  go_upto_region 1 with (fail)
  obtain ⟨wx,hwx,bb,B0,B1,hsz⟩:=zI4 w 83 83 #[.bool (ngB (x).num),.slice A0 (digs 4294967296 (x).num.natAbs).length c0,.slice D0 (digs 4294967296 (x).den).length e0] #[.bool (ngB (y).num),.slice A1 (digs 4294967296 (y).num.natAbs).length c1,.slice D1 (digs 4294967296 (y).den).length e1];rw [hwx];clear hwx;have k0s:=s0.bQ bb;have k0d:=r0.bQ bb;have k0z:IsZ wx (.agg #[.bool (ngB (x).num),.slice A0 (digs 4294967296 (x).num.natAbs).length c0]) (x).num:=⟨_,rfl,k0s⟩;have k0:IsQ wx (.agg #[.bool (ngB (x).num),.slice A0 (digs 4294967296 (x).num.natAbs).length c0,.slice D0 (digs 4294967296 (x).den).length e0]) (x):=⟨_,_,rfl,k0s,k0d⟩;have k1s:=s1.bQ bb;have k1d:=r1.bQ bb;have k1z:IsZ wx (.agg #[.bool (ngB (y).num),.slice A1 (digs 4294967296 (y).num.natAbs).length c1]) (y).num:=⟨_,rfl,k1s⟩;have k1:IsQ wx (.agg #[.bool (ngB (y).num),.slice A1 (digs 4294967296 (y).num.natAbs).length c1,.slice D1 (digs 4294967296 (y).den).length e1]) (y):=⟨_,_,rfl,k1s,k1d⟩;have hsz0:=bb.size;have sB:=bb.size;refine zC3 9 [Pd.eq (.agg #[.bool (ngB (x).num),.slice A0 (digs 4294967296 (x).num.natAbs).length c0,.slice D0 (digs 4294967296 (x).den).length e0]),Pd.eq (.int .i64 s),Pd.eq (.bool true),Pd.eq (.bool true),Pd.any,Pd.any,Pd.any,Pd.eq (.bool true),Pd.eq (.bool true)] (by kernel_rfl) ?ob1 ?done1
  case ob1 =>
   refine zA (zB7 rfl (zB3 rfl) (zB5 rfl rfl) (fun w2 hb=>zF0 underlying83 rfl (by kernel_rfl) (B0.bQ hb)) (fun _ _=>rfl)) ?_;refine zA (zE7 rfl func133 (by kernel_rfl) (zB3 rfl) (zB4 (j:=0) (by kernel_rfl) rfl rfl) (fun w2 u0 hb h0=>by obtain rfl:=h0;exact (zR6 _ x s _ (k0.bQ hb) HS.out).mono fun e w3 h=>zD3.pd h)) ?_;refine zA (zE6 rfl (zB3 rfl) (zB4 (j:=1) (by kernel_rfl) rfl rfl) (zF8 _) (fun _ _ _ hx hy=>⟨.bool true,by rw [hx,hy,zM9,H1.out],rfl⟩)) ?_;refine zA (zB8 rfl (zB3 rfl) (zB4 (j:=2) (by kernel_rfl) rfl rfl) (fun _ _ h=>h)) ?_;refine zA (zJ6 (zD8 (c:=true) (b:=false) (g:=3) rfl (by kernel_rfl) rfl rfl rfl (by exact fun _ _ h=>h)) (fun _=>trivial) rfl) ?_;refine zA (zJ6 (zD8 (c:=true) (b:=false) (g:=3) rfl (by kernel_rfl) rfl rfl rfl (by exact fun _ _ h=>h)) (fun _=>trivial) rfl) ?_;refine zA (zJ6 (zD8 (c:=true) (b:=false) (g:=3) rfl (by kernel_rfl) rfl rfl rfl (by exact fun _ _ h=>h)) (fun _=>trivial) rfl) ?_;refine zA (zO2 (b:=true) rfl (zB3 rfl) (zB4 (j:=3) (by kernel_rfl) rfl rfl) (zF8 _) (fun _ _ h=>h)) ?_;refine zA (zD6 rfl (zB3 rfl) (zB4 (j:=7) (by kernel_rfl) rfl rfl) (fun _ _ h=>h)) ?_
   trivial
  case done1 =>
   refine fun w1 hb1 v0 h0 v1 h1 v2 h2 v3 h3 v4 h4 v5 h5 v6 h6 v7 h7 v8 h8 b hbf => ?_;obtain rfl:=h0;obtain rfl:=h1;obtain rfl:=h2;obtain rfl:=h3;obtain rfl:=h7;obtain rfl:=h8;clear h4;clear h5;clear h6;simp only [Act.put,zA0,zA2,zA1] at hbf;subst hbf;replace B0:=B0.bQ hb1;replace k0s:=k0s.bQ hb1;replace k0d:=k0d.bQ hb1;replace k0z:=k0z.bQ hb1;replace k0:=k0.bQ hb1;replace B1:=B1.bQ hb1;replace k1s:=k1s.bQ hb1;replace k1d:=k1d.bQ hb1;replace k1z:=k1z.bQ hb1;replace k1:=k1.bQ hb1;replace bb:=bb.trans (hb1.mono bb.size);have hsz1:=bb.size;refine zC4 ?_;go_wp2;go_ret;exact ⟨by rw [HW.out];rfl,bb⟩
 ·by_cases hy:y=0
  ·obtain ⟨u0,t0,rfl,s0,r0⟩:=h0;obtain ⟨A0,c0,rfl,_⟩:=id s0;obtain ⟨D0,e0,rfl,_⟩:=id r0;obtain ⟨u1,t1,rfl,s1,r1⟩:=h1;obtain ⟨A1,c1,rfl,_⟩:=id s1;obtain ⟨D1,e1,rfl,_⟩:=id r1;have H1:Hid ((s == 0)=false):=by show _=_;rw [hs,qH5,decide_eq_false hx]
   have H2:Hid ((t == 0)=true):=by show _=_;rw [ht,qH5,decide_eq_true hy]
   have HW:Hid (b=true):=by show _=_;rw [HB.out];exact decide_eq_true (qV6.2 (.inr hy))
   clear hs ht hx hy
   go_enter func174,ntmps174
   go_upto_region 1 with (fail)
   obtain ⟨wx,hwx,bb,B0,B1,hsz⟩:=zI4 w 83 83 #[.bool (ngB (x).num),.slice A0 (digs 4294967296 (x).num.natAbs).length c0,.slice D0 (digs 4294967296 (x).den).length e0] #[.bool (ngB (y).num),.slice A1 (digs 4294967296 (y).num.natAbs).length c1,.slice D1 (digs 4294967296 (y).den).length e1];rw [hwx];clear hwx;have k0s:=s0.bQ bb;have k0d:=r0.bQ bb;have k0z:IsZ wx (.agg #[.bool (ngB (x).num),.slice A0 (digs 4294967296 (x).num.natAbs).length c0]) (x).num:=⟨_,rfl,k0s⟩;have k0:IsQ wx (.agg #[.bool (ngB (x).num),.slice A0 (digs 4294967296 (x).num.natAbs).length c0,.slice D0 (digs 4294967296 (x).den).length e0]) (x):=⟨_,_,rfl,k0s,k0d⟩;have k1s:=s1.bQ bb;have k1d:=r1.bQ bb;have k1z:IsZ wx (.agg #[.bool (ngB (y).num),.slice A1 (digs 4294967296 (y).num.natAbs).length c1]) (y).num:=⟨_,rfl,k1s⟩;have k1:IsQ wx (.agg #[.bool (ngB (y).num),.slice A1 (digs 4294967296 (y).num.natAbs).length c1,.slice D1 (digs 4294967296 (y).den).length e1]) (y):=⟨_,_,rfl,k1s,k1d⟩;have hsz0:=bb.size;have sB:=bb.size;refine zC3 9 [Pd.eq (.agg #[.bool (ngB (x).num),.slice A0 (digs 4294967296 (x).num.natAbs).length c0,.slice D0 (digs 4294967296 (x).den).length e0]),Pd.eq (.int .i64 s),Pd.eq (.bool false),Pd.eq (.bool false),Pd.eq (.agg #[.bool (ngB (y).num),.slice A1 (digs 4294967296 (y).num.natAbs).length c1,.slice D1 (digs 4294967296 (y).den).length e1]),Pd.eq (.int .i64 t),Pd.eq (.bool true),Pd.eq (.bool true),Pd.eq (.bool true)] (by kernel_rfl) ?ob2 ?done2
   case ob2 =>
    refine zA (zB7 rfl (zB3 rfl) (zB5 rfl rfl) (fun w2 hb=>zF0 underlying83 rfl (by kernel_rfl) (B0.bQ hb)) (fun _ _=>rfl)) ?_;refine zA (zE7 rfl func133 (by kernel_rfl) (zB3 rfl) (zB4 (j:=0) (by kernel_rfl) rfl rfl) (fun w2 u0 hb h0=>by obtain rfl:=h0;exact (zR6 _ x s _ (k0.bQ hb) HS.out).mono fun e w3 h=>zD3.pd h)) ?_;refine zA (zE6 rfl (zB3 rfl) (zB4 (j:=1) (by kernel_rfl) rfl rfl) (zF8 _) (fun _ _ _ hx hy=>⟨.bool false,by rw [hx,hy,zM9,H1.out],rfl⟩)) ?_;refine zA (zB8 rfl (zB3 rfl) (zB4 (j:=2) (by kernel_rfl) rfl rfl) (fun _ _ h=>h)) ?_;refine zA (zB7 rfl (zD8 (c:=false) (b:=false) (g:=3) rfl (by kernel_rfl) rfl rfl rfl (by exact fun _ _ h=>h)) (zB5 rfl rfl) (fun w2 hb=>zF0 underlying83 rfl (by kernel_rfl) (B1.bQ hb)) (fun _ _=>rfl)) ?_;refine zA (zE7 rfl func133 (by kernel_rfl) (zD8 (c:=false) (b:=false) (g:=3) rfl (by kernel_rfl) rfl rfl rfl (by exact fun _ _ h=>h)) (zB4 (j:=4) (by kernel_rfl) rfl rfl) (fun w2 u0 hb h0=>by obtain rfl:=h0;exact (zR6 _ y t _ (k1.bQ hb) HT.out).mono fun e w3 h=>zD3.pd h)) ?_;refine zA (zE6 rfl (zD8 (c:=false) (b:=false) (g:=3) rfl (by kernel_rfl) rfl rfl rfl (by exact fun _ _ h=>h)) (zB4 (j:=5) (by kernel_rfl) rfl rfl) (zF8 _) (fun _ _ _ hx hy=>⟨.bool true,by rw [hx,hy,zM9,H2.out],rfl⟩)) ?_;refine zA (zO2 (b:=false) rfl (zB3 rfl) (zB4 (j:=3) (by kernel_rfl) rfl rfl) (zB4 (j:=6) (by kernel_rfl) rfl rfl) (fun _ _ h=>h)) ?_;refine zA (zD6 rfl (zB3 rfl) (zB4 (j:=7) (by kernel_rfl) rfl rfl) (fun _ _ h=>h)) ?_
    trivial
   case done2 =>
    refine fun w1 hb1 v0 h0 v1 h1 v2 h2 v3 h3 v4 h4 v5 h5 v6 h6 v7 h7 v8 h8 b hbf => ?_;obtain rfl:=h0;obtain rfl:=h1;obtain rfl:=h2;obtain rfl:=h3;obtain rfl:=h4;obtain rfl:=h5;obtain rfl:=h6;obtain rfl:=h7;obtain rfl:=h8;simp only [Act.put,zA0,zA2,zA1] at hbf;subst hbf;replace B0:=B0.bQ hb1;replace k0s:=k0s.bQ hb1;replace k0d:=k0d.bQ hb1;replace k0z:=k0z.bQ hb1;replace k0:=k0.bQ hb1;replace B1:=B1.bQ hb1;replace k1s:=k1s.bQ hb1;replace k1d:=k1d.bQ hb1;replace k1z:=k1z.bQ hb1;replace k1:=k1.bQ hb1;replace bb:=bb.trans (hb1.mono bb.size);have hsz1:=bb.size;refine zC4 ?_;go_wp2;go_ret;exact ⟨by rw [HW.out];rfl,bb⟩
  ·obtain ⟨u0,t0,rfl,s0,r0⟩:=h0;obtain ⟨A0,c0,rfl,_⟩:=id s0;obtain ⟨D0,e0,rfl,_⟩:=id r0;obtain ⟨u1,t1,rfl,s1,r1⟩:=h1;obtain ⟨A1,c1,rfl,_⟩:=id s1;obtain ⟨D1,e1,rfl,_⟩:=id r1;have H1:Hid ((s == 0)=false):=by show _=_;rw [hs,qH5,decide_eq_false hx]
   have H2:Hid ((t == 0)=false):=by show _=_;rw [ht,qH5,decide_eq_false hy]
   have HW:Hid (b=false):=by show _=_;rw [HB.out];exact decide_eq_false (fun h=>by rcases qV6.1 h with h | h;exact hx h;exact hy h)
   clear hs ht hx hy
   go_enter func174,ntmps174
   go_upto_region 1 with (fail)
   obtain ⟨wx,hwx,bb,B0,B1,hsz⟩:=zI4 w 83 83 #[.bool (ngB (x).num),.slice A0 (digs 4294967296 (x).num.natAbs).length c0,.slice D0 (digs 4294967296 (x).den).length e0] #[.bool (ngB (y).num),.slice A1 (digs 4294967296 (y).num.natAbs).length c1,.slice D1 (digs 4294967296 (y).den).length e1];rw [hwx];clear hwx;have k0s:=s0.bQ bb;have k0d:=r0.bQ bb;have k0z:IsZ wx (.agg #[.bool (ngB (x).num),.slice A0 (digs 4294967296 (x).num.natAbs).length c0]) (x).num:=⟨_,rfl,k0s⟩;have k0:IsQ wx (.agg #[.bool (ngB (x).num),.slice A0 (digs 4294967296 (x).num.natAbs).length c0,.slice D0 (digs 4294967296 (x).den).length e0]) (x):=⟨_,_,rfl,k0s,k0d⟩;have k1s:=s1.bQ bb;have k1d:=r1.bQ bb;have k1z:IsZ wx (.agg #[.bool (ngB (y).num),.slice A1 (digs 4294967296 (y).num.natAbs).length c1]) (y).num:=⟨_,rfl,k1s⟩;have k1:IsQ wx (.agg #[.bool (ngB (y).num),.slice A1 (digs 4294967296 (y).num.natAbs).length c1,.slice D1 (digs 4294967296 (y).den).length e1]) (y):=⟨_,_,rfl,k1s,k1d⟩;have hsz0:=bb.size;have sB:=bb.size;refine zC3 9 [Pd.eq (.agg #[.bool (ngB (x).num),.slice A0 (digs 4294967296 (x).num.natAbs).length c0,.slice D0 (digs 4294967296 (x).den).length e0]),Pd.eq (.int .i64 s),Pd.eq (.bool false),Pd.eq (.bool false),Pd.eq (.agg #[.bool (ngB (y).num),.slice A1 (digs 4294967296 (y).num.natAbs).length c1,.slice D1 (digs 4294967296 (y).den).length e1]),Pd.eq (.int .i64 t),Pd.eq (.bool false),Pd.eq (.bool false),Pd.eq (.bool false)] (by kernel_rfl) ?ob3 ?done3
   case ob3 =>
    refine zA (zB7 rfl (zB3 rfl) (zB5 rfl rfl) (fun w2 hb=>zF0 underlying83 rfl (by kernel_rfl) (B0.bQ hb)) (fun _ _=>rfl)) ?_;refine zA (zE7 rfl func133 (by kernel_rfl) (zB3 rfl) (zB4 (j:=0) (by kernel_rfl) rfl rfl) (fun w2 u0 hb h0=>by obtain rfl:=h0;exact (zR6 _ x s _ (k0.bQ hb) HS.out).mono fun e w3 h=>zD3.pd h)) ?_;refine zA (zE6 rfl (zB3 rfl) (zB4 (j:=1) (by kernel_rfl) rfl rfl) (zF8 _) (fun _ _ _ hx hy=>⟨.bool false,by rw [hx,hy,zM9,H1.out],rfl⟩)) ?_;refine zA (zB8 rfl (zB3 rfl) (zB4 (j:=2) (by kernel_rfl) rfl rfl) (fun _ _ h=>h)) ?_;refine zA (zB7 rfl (zD8 (c:=false) (b:=false) (g:=3) rfl (by kernel_rfl) rfl rfl rfl (by exact fun _ _ h=>h)) (zB5 rfl rfl) (fun w2 hb=>zF0 underlying83 rfl (by kernel_rfl) (B1.bQ hb)) (fun _ _=>rfl)) ?_;refine zA (zE7 rfl func133 (by kernel_rfl) (zD8 (c:=false) (b:=false) (g:=3) rfl (by kernel_rfl) rfl rfl rfl (by exact fun _ _ h=>h)) (zB4 (j:=4) (by kernel_rfl) rfl rfl) (fun w2 u0 hb h0=>by obtain rfl:=h0;exact (zR6 _ y t _ (k1.bQ hb) HT.out).mono fun e w3 h=>zD3.pd h)) ?_;refine zA (zE6 rfl (zD8 (c:=false) (b:=false) (g:=3) rfl (by kernel_rfl) rfl rfl rfl (by exact fun _ _ h=>h)) (zB4 (j:=5) (by kernel_rfl) rfl rfl) (zF8 _) (fun _ _ _ hx hy=>⟨.bool false,by rw [hx,hy,zM9,H2.out],rfl⟩)) ?_;refine zA (zO2 (b:=false) rfl (zB3 rfl) (zB4 (j:=3) (by kernel_rfl) rfl rfl) (zB4 (j:=6) (by kernel_rfl) rfl rfl) (fun _ _ h=>h)) ?_;refine zA (zD6 rfl (zB3 rfl) (zB4 (j:=7) (by kernel_rfl) rfl rfl) (fun _ _ h=>h)) ?_
    trivial
   case done3 =>
    refine fun w1 hb1 v0 h0 v1 h1 v2 h2 v3 h3 v4 h4 v5 h5 v6 h6 v7 h7 v8 h8 b hbf => ?_;obtain rfl:=h0;obtain rfl:=h1;obtain rfl:=h2;obtain rfl:=h3;obtain rfl:=h4;obtain rfl:=h5;obtain rfl:=h6;obtain rfl:=h7;obtain rfl:=h8;simp only [Act.put,zA0,zA2,zA1] at hbf;subst hbf;replace B0:=B0.bQ hb1;replace k0s:=k0s.bQ hb1;replace k0d:=k0d.bQ hb1;replace k0z:=k0z.bQ hb1;replace k0:=k0.bQ hb1;replace B1:=B1.bQ hb1;replace k1s:=k1s.bQ hb1;replace k1d:=k1d.bQ hb1;replace k1z:=k1z.bQ hb1;replace k1:=k1.bQ hb1;replace bb:=bb.trans (hb1.mono bb.size);have hsz1:=bb.size;refine zC4 ?_;go_wp2;go_ret;exact ⟨by rw [HW.out];rfl,bb⟩
theorem jE9 (a0 a1:Value) (p:List Rat) (K:Rat) (m n:Nat) (w:World) (h0:SlF .u64 4294967296 w a0 p) (h1:IsQ w a1 K) (hl:p.length<=1000/\(∀ x∈p,zC2 x m)/\zC2 K n/\m<=4900/\n<=4900) :
  Calls prog 129 #[a0,a1] w (qH4 (zF1 p K) w):=by
 obtain ⟨u1,t1,rfl,s1,r1⟩:=h1;obtain ⟨A1,c1,rfl,_⟩:=id s1;obtain ⟨D1,e1,rfl,_⟩:=id r1;have sl0:=h0;obtain ⟨A0,c0,rfl,hc0,hm0⟩:=h0.shape;unfold maxLen at hm0;have HL:=hQ9 hl;have lK:zC2 K n:=hl.2.2.1;have hm9:m<=4900:=hl.2.2.2.1;have hn9:n<=4900:=hl.2.2.2.2;have hl8:p.length<=1000:=hl.1;have HRL:Hid ((zF1 p K).length=p.length):=qB0 p K;clear hl
 go_enter func129,ntmps129
 go_upto_region 1 with (fail)
 obtain ⟨wx,hwx,bb,B1,hsz⟩:=zK4 w 83 #[.bool (ngB (K).num),.slice A1 (digs 4294967296 (K).num.natAbs).length c1,.slice D1 (digs 4294967296 (K).den).length e1];rw [hwx];clear hwx;have k1s:=s1.bQ bb;have k1d:=r1.bQ bb;have k1z:IsZ wx (.agg #[.bool (ngB (K).num),.slice A1 (digs 4294967296 (K).num.natAbs).length c1]) (K).num:=⟨_,rfl,k1s⟩;have k1:IsQ wx (.agg #[.bool (ngB (K).num),.slice A1 (digs 4294967296 (K).num.natAbs).length c1,.slice D1 (digs 4294967296 (K).den).length e1]) (K):=⟨_,_,rfl,k1s,k1d⟩;have hsz0:=bb.size
 go_wp2_with (at_make;refine qV3 rfl _ _ rfl underlying44 zQ6 p.length rfl rfl (by omega) ?_;intro wm RN hbm)
 have hwg:w.heap.size<=wx.heap.size:=bb.size;have hlb3:=B1.lt;replace B1:=B1.bQ hbm;replace k1s:=k1s.bQ hbm;replace k1d:=k1d.bQ hbm;replace k1z:=k1z.bQ hbm;replace k1:=k1.bQ hbm;replace bb:=bb.trans (hbm.mono bb.size);have hsz1:=bb.size;obtain ⟨g,hg⟩:∃ g,g=wx.heap.size:=⟨_,rfl⟩;rw [<- hg] at RN |-;have hg_:wx.heap.size<=g:=by omega
 clear hg;have hg:=hg_;clear hg_;have hgw:w.heap.size<=g:=by omega
 have RN0:zD2 wm g p.length ((zF1 p K).take 0):=RN;clear RN;go_wp2
 go_loopw [13] (fun v13 wr => ∃ k:Nat,k<=p.length/\zD2 wr g p.length ((zF1 p K).take k)/\Blk wr (w.heap.size) 83 #[.bool (ngB (K).num),.slice A1 (digs 4294967296 (K).num.natAbs).length c1,.slice D1 (digs 4294967296 (K).den).length e1]/\Below w.heap.size w wr/\v13=.int .i64 (k:Int)) (fun v13 _=>p.length-(intOf v13).toNat)
 case atStart=>exact ⟨0,by omega,RN0,B1,bb,rfl⟩
 case round =>
  obtain ⟨k,hk,hR,hB3,hbw,rfl⟩:=hrel;clear RN0 bb B1 k1s k1d k1z k1;have RN:=hR;have bb:=hbw;clear hR hbw;have B1:=hB3;have k1s:=s1.bQ bb;have k1d:=r1.bQ bb;have k1z:IsZ wr (.agg #[.bool (ngB (K).num),.slice A1 (digs 4294967296 (K).num.natAbs).length c1]) (K).num:=⟨_,rfl,k1s⟩;have k1:IsQ wr (.agg #[.bool (ngB (K).num),.slice A1 (digs 4294967296 (K).num.natAbs).length c1,.slice D1 (digs 4294967296 (K).den).length e1]) (K):=⟨_,_,rfl,k1s,k1d⟩;have hlc3:=B1.lt;clear hB3;have hszr:=bb.size;have hgl:=RN.lt;by_cases hlt:k<p.length
  ·obtain ⟨x,hq0_⟩:∃ x,p[k]?=some x:=⟨_,zA3 hlt⟩;obtain ⟨g0_,o0_,ue0,te0,hA0_,_,e00,e01,e02,es0,ed0⟩:=(sl0.bQ bb).at_ hq0_;subst hA0_;have HQ0:=hQ9 hq0_;clear hq0_;obtain ⟨Ae0,ce0,rfl,_⟩:=id es0;obtain ⟨De0,ee0,rfl,_⟩:=id ed0;have ke0:IsQ wr (.agg #[.bool (ngB x.num),.slice Ae0 (digs 4294967296 x.num.natAbs).length ce0,.slice De0 (digs 4294967296 x.den).length ee0]) x:=⟨_,_,rfl,es0,ed0⟩;have lx:zC2 x m:=HL.out.2.1 x (zA5 HQ0.out);have HAT:Hid ((zF1 p K)[k]?=some (x*K)):=by show _=_;rw [zF1,bQ8,HQ0.out];rfl
   have HTK:Hid ((zF1 p K).take (k+1)=(zF1 p K).take k ++ [(x*K)]):=zQ7 HAT.out;have HLK:Hid (k=((zF1 p K).take k).length):=by show _=_;rw [bQ7,HRL.out];omega
   have sB:=bb.size;go_upto_region 4 with (fail);have lt2_3:=Blk.lt B1;refine zC3 5 [Pd.eq (.int .i64 (k:Int)),Pd.eq (.pointer (some ⟨g0_,o0_+k*3,none⟩)),Pd.eq (.agg #[.bool (ngB x.num),.slice Ae0 (digs 4294967296 x.num.natAbs).length ce0,.slice De0 (digs 4294967296 x.den).length ee0]),pn 83 #[.bool false,.slice none 0 0,.slice none 0 0] wr.heap.size,Pd.eq (.int .i64 (k:Int))] (by kernel_rfl) ?ob4 ?done4
   case ob4 =>
    refine zA (zB8 rfl (zB3 rfl) (zB5 rfl rfl) (fun _ _ h=>h)) ?_;refine zA (zI rfl (zB3 rfl) (zB5 rfl rfl) (zB5 rfl rfl) (fun _ _ _ hx hy=>⟨_,by rw [hx,hy];exact zG6 underlying44 (by kernel_rfl) hlt _,rfl⟩)) ?_;refine zA (zB7 rfl (zB3 rfl) (zB4 (j:=1) (by kernel_rfl) rfl rfl) (fun w2 hb=>zM1 underlying83 rfl (by kernel_rfl) ((hb.cell (bQ0 wr _ e00)).trans e00) ((hb.cell (bQ0 wr _ e01)).trans e01) ((hb.cell (bQ0 wr _ e02)).trans e02)) (fun _ _=>rfl)) ?_;refine zA (zL3 (z:=.agg #[.bool false,.slice none 0 0,.slice none 0 0]) rfl rfl (fun _=>by kernel_rfl) (fun _ _ hB h=>⟨_,rfl,hB,h⟩)) ?_;refine zA (zD6 rfl (zB3 rfl) (zB4 (j:=0) (by kernel_rfl) rfl rfl) (fun _ _ h=>h)) ?_
    trivial
   case done4 =>
    refine fun w3 hb3 v0 h0 v1 h1 v2 h2 v3 h3 d3 v4 h4 b hbf => ?_;obtain rfl:=h0;obtain rfl:=h1;obtain rfl:=h2;obtain rfl:=h4;obtain ⟨g4_3,rfl,hg3,B3⟩:=h3;simp only [Act.put,zA0,zA2,zA1] at hbf;subst hbf;replace B1:=B1.bQ hb3;replace k1s:=k1s.bQ hb3;replace k1d:=k1d.bQ hb3;replace k1z:=k1z.bQ hb3;replace k1:=k1.bQ hb3;replace RN:=RN.bQ hb3;replace es0:=es0.bQ hb3;replace ed0:=ed0.bQ hb3;replace bb:=bb.trans (hb3.mono bb.size);have hsz3:=bb.size;have BA7:=B3;have q2:=es0;have d2:=ed0;refine zH0 (i:=5) rfl rfl rfl rfl rfl rfl (cells:=[.bool (ngB (x).num),.slice Ae0 (digs 4294967296 (x).num.natAbs).length ce0,.slice De0 (digs 4294967296 (x).den).length ee0]) rfl BA7 rfl (by kernel_rfl) (zH rfl rfl rfl) fun w4 hg4 BN4 => ?_;replace q2:=off q2 BA7 zC9 hg4;replace d2:=off d2 BA7 zC9 hg4;replace RN:=zD2.offb RN BA7 zC9 hg4 (by omega);replace k1s:=off k1s BA7 zC9 hg4;replace k1d:=off k1d BA7 zC9 hg4;replace k1z:IsZ w4 (.agg #[.bool (ngB (K).num),.slice A1 (digs 4294967296 (K).num.natAbs).length c1]) ((K).num):=⟨_,rfl,k1s⟩;replace k1:IsQ w4 (.agg #[.bool (ngB (K).num),.slice A1 (digs 4294967296 (K).num.natAbs).length c1,.slice D1 (digs 4294967296 (K).den).length e1]) (K):=⟨_,_,rfl,k1s,k1d⟩;replace B1:=B1.grown hg4 (by omega);replace bb:=bb.trans ((Below.refl _ _).grown hg4 bb.size (fun g hg=>by injection hg with hg;omega));have hsz4:=bb.size;have Be0:Blk w4 (g4_3) _ _:=BN4;have ke0s:=q2;have ke0d:=d2;have ke0z:IsZ w4 (.agg #[.bool (ngB (x).num),.slice Ae0 (digs 4294967296 (x).num.natAbs).length ce0]) ((x).num):=⟨_,rfl,ke0s⟩;have ke0:IsQ w4 (.agg #[.bool (ngB (x).num),.slice Ae0 (digs 4294967296 (x).num.natAbs).length ce0,.slice De0 (digs 4294967296 (x).den).length ee0]) (x):=⟨_,_,rfl,ke0s,ke0d⟩;refine zC4 ?_;have hle:=Be0.lt;have hneE:g≠g4_3:=by omega
    have sB:=bb.size;go_upto_region 5 with (fail);refine zC3 6 [Pd.eq (.slice (some ⟨g,0,none⟩) p.length p.length),Pd.eq (.int .i64 (k:Int)),Pd.eq (.agg #[.bool (ngB (x).num),.slice Ae0 (digs 4294967296 (x).num.natAbs).length ce0,.slice De0 (digs 4294967296 (x).den).length ee0]),Pd.eq (.agg #[.bool (ngB (K).num),.slice A1 (digs 4294967296 (K).num.natAbs).length c1,.slice D1 (digs 4294967296 (K).den).length e1]),pq ((x*K)) w4.heap.size,Pd.eq (.pointer (some ⟨g,0+k*3,none⟩))] (by kernel_rfl) ?ob5 ?done5
    case ob5 =>
     refine zA (zB8 rfl (zB3 rfl) (zB5 rfl rfl) (fun _ _ h=>h)) ?_;refine zA (zB8 rfl (zB3 rfl) (zB5 rfl rfl) (fun _ _ h=>h)) ?_;refine zA (zB7 rfl (zB3 rfl) (zB5 rfl rfl) (fun w2 hb=>zF0 underlying83 rfl (by kernel_rfl) (Be0.bQ hb)) (fun _ _=>rfl)) ?_;refine zA (zB7 rfl (zB3 rfl) (zB5 rfl rfl) (fun w2 hb=>zF0 underlying83 rfl (by kernel_rfl) (B1.bQ hb)) (fun _ _=>rfl)) ?_;refine zA (zC7 rfl func127 (by kernel_rfl) (zB3 rfl) (zB4 (j:=2) (by kernel_rfl) rfl rfl) (zB4 (j:=3) (by kernel_rfl) rfl rfl) (fun w2 u0 u1 hb h0 h1=>by obtain rfl:=h0;obtain rfl:=h1;exact (qO3 _ x _ K _ (ke0.bQ hb) (k1.bQ hb) (lx.mono (by omega)) (lK.mono (by omega))).mono fun e w3 h=>RetQ.pd h hb.size)) ?_;refine zA (zI rfl (zB3 rfl) (zB4 (j:=0) (by kernel_rfl) rfl rfl) (zB4 (j:=1) (by kernel_rfl) rfl rfl) (fun _ _ _ hx hy=>⟨_,by rw [hx,hy];exact zG6 (k:=k) underlying44 (by kernel_rfl) hlt _,rfl⟩)) ?_
     trivial
    case done5 =>
     refine fun w5 hb5 v0 h0 v1 h1 v2 h2 v3 h3 v4 h4 v5 h5 b hbf => ?_;obtain rfl:=h0;obtain rfl:=h1;obtain rfl:=h2;obtain rfl:=h3;obtain rfl:=h5;obtain ⟨q4,f4⟩:=h4;simp only [Act.put,zA0,zA2,zA1] at hbf;subst hbf;replace B1:=B1.bQ hb5;replace k1s:=k1s.bQ hb5;replace k1d:=k1d.bQ hb5;replace k1z:=k1z.bQ hb5;replace k1:=k1.bQ hb5;replace Be0:=Be0.bQ hb5;replace ke0s:=ke0s.bQ hb5;replace ke0d:=ke0d.bQ hb5;replace ke0z:=ke0z.bQ hb5;replace ke0:=ke0.bQ hb5;replace RN:=RN.bQ hb5;replace bb:=bb.trans (hb5.mono bb.size);have hsz5:=bb.size;have s_4:=sB;obtain ⟨u4,t4,rfl,q4,d4⟩:=q4;obtain ⟨A9,c9,rfl,_⟩:=id q4;obtain ⟨D9,e9,rfl,_⟩:=id d4;refine qH1 (j:=6) rfl rfl rfl rfl (g:=g) (i:=k) (q:=(x*K)) rfl rfl (by kernel_rfl) RN hlt q4 d4 fun w6 hg6 hP6 => ?_;replace k1s:=RN.keep hg6 k1s;replace k1d:=RN.keep hg6 k1d;replace k1z:IsZ w6 (.agg #[.bool (ngB (K).num),.slice A1 (digs 4294967296 (K).num.natAbs).length c1]) ((K).num):=⟨_,rfl,k1s⟩;replace k1:IsQ w6 (.agg #[.bool (ngB (K).num),.slice A1 (digs 4294967296 (K).num.natAbs).length c1,.slice D1 (digs 4294967296 (K).den).length e1]) (K):=⟨_,_,rfl,k1s,k1d⟩;replace B1:=B1.grown hg6 (by omega);replace ke0s:=RN.keep hg6 ke0s;replace ke0d:=RN.keep hg6 ke0d;replace ke0z:IsZ w6 (.agg #[.bool (ngB (x).num),.slice Ae0 (digs 4294967296 (x).num.natAbs).length ce0]) ((x).num):=⟨_,rfl,ke0s⟩;replace ke0:IsQ w6 (.agg #[.bool (ngB (x).num),.slice Ae0 (digs 4294967296 (x).num.natAbs).length ce0,.slice De0 (digs 4294967296 (x).den).length ee0]) (x):=⟨_,_,rfl,ke0s,ke0d⟩;replace Be0:=Be0.grown hg6 (by omega);replace bb:=bb.trans ((Below.refl _ _).grown hg6 bb.size (fun g hg=>by injection hg with hg;omega));have hsz6:=bb.size;replace RN:=hP6.1 HLK.out;clear hP6;refine zC4 ?_;rw [<- HTK.out] at RN;have hsk:p.length-(k+1)<p.length-k:=by omega
     go_wp2;go_roundw;case rel=>exact ⟨k+1,by omega,RN,B1,bb,by go_num⟩
     case measure=>simp [intOf];omega
  ·rw [zA7 (by rw [HRL.out];omega)] at RN
   have HRN:Hid (zD2 wr g (zF1 p K).length (zF1 p K)):=by
    show zD2 _ _ _ _
    rw [HRL.out];exact RN
   clear RN;go_wp2;go_ret;exact ⟨g,by rw [HRL.out];rfl,HRN.out,hgw,bb⟩
theorem jF (a0 a1 : Value) (p q : List Rat) (m n : Nat) (w : World) (h0 : SlF .u64 4294967296 w a0 p) (h1 : SlF .u64 4294967296 w a1 q) (he : p.length = q.length) (hl : p.length <= 1000 /\ (∀ x ∈ p, zC2 x m) /\ (∀ x ∈ q, zC2 x n) /\ (m + n + 1) * p.length + 1 <= 4800) :
    Calls prog 146 #[a0,a1] w (zU1 (zI5 p q) 0 w):=by
  have sl0:=h0;obtain ⟨A0,c0,rfl,hc0,hm0⟩:=h0.shape;unfold maxLen at hm0;have sl1:=h1;obtain ⟨A1,c1,rfl,hc1,hm1⟩:=h1.shape;unfold maxLen at hm1;have HNE:Hid ((((p.length:Nat):Int) != ((q.length:Nat):Int))=false):=by show _=_;rw [bne_eq_false_iff_eq];omega
  have HE:=hQ9 he;have HLE:=hQ9 hl;have hl8:p.length<=1000:=hl.1;clear he hl
  go_enter func146,ntmps146
  go_upto_region 1 with (fail)
  obtain ⟨wx,hwx,bb,BR0,hsz⟩:=zK4 w 83 #[.bool false,.slice none 0 0,.slice none 0 0];rw [hwx];clear hwx;have hsz0:=bb.size;have sB:=bb.size;refine zC3 5 [Pd.eq (.slice A0 p.length c0),Pd.eq (.int .i64 ((p.length:Nat):Int)),Pd.eq (.slice A1 q.length c1),Pd.eq (.int .i64 ((q.length:Nat):Int)),Pd.eq (.bool false)] (by kernel_rfl) ?ob8 ?done8
  case ob8 =>
    refine zA (zB8 rfl (zB3 rfl) (zB5 rfl rfl) (fun _ _ h=>h)) ?_;refine zA (zJ rfl (zB3 rfl) (zB4 (j:=0) (by kernel_rfl) rfl rfl) (fun _ _ hx=>⟨_,by rw [hx];exact zJ0 underlying44 _ _ _ _,rfl⟩)) ?_;refine zA (zB8 rfl (zB3 rfl) (zB5 rfl rfl) (fun _ _ h=>h)) ?_;refine zA (zJ rfl (zB3 rfl) (zB4 (j:=2) (by kernel_rfl) rfl rfl) (fun _ _ hx=>⟨_,by rw [hx];exact zJ0 underlying44 _ _ _ _,rfl⟩)) ?_;refine zA (zE6 rfl (zB3 rfl) (zB4 (j:=1) (by kernel_rfl) rfl rfl) (zB4 (j:=3) (by kernel_rfl) rfl rfl) (fun _ _ _ hx hy=>⟨.bool false,by rw [hx,hy,zY5,HNE.out],rfl⟩)) ?_
    trivial
  case done8 =>
    refine fun w1 hb1 v0 h0 v1 h1 v2 h2 v3 h3 v4 h4 b hbf => ?_;obtain rfl:=h0;obtain rfl:=h1;obtain rfl:=h2;obtain rfl:=h3;obtain rfl:=h4;simp only [Act.put,zA0,zA2,zA1] at hbf;subst hbf;replace BR0:=BR0.bQ hb1;replace bb:=bb.trans (hb1.mono bb.size);have hsz1:=bb.size;refine zC4 ?_;have sB:=bb.size;go_upto_region 3 with (fail);have lt1_4:=Blk.lt BR0;refine zC3 2 [pq ((0:Rat)) w1.heap.size,pn 83 #[.bool false,.slice none 0 0,.slice none 0 0] w1.heap.size] (by kernel_rfl) ?ob9 ?done9
    case ob9 =>
      refine zA (zE7 rfl func41 (by kernel_rfl) (zB3 rfl) (zF8 _) (fun w2 u0 hb h0=>by obtain rfl:=h0;exact (yH6 _).mono fun e w3 h=>RetQ.pd h hb.size)) ?_;refine zA (zL3 (z:=.agg #[.bool false,.slice none 0 0,.slice none 0 0]) rfl rfl (fun _=>by kernel_rfl) (fun _ _ hB h=>⟨_,rfl,hB,h⟩)) ?_
      trivial
    case done9 =>
      refine fun w2 hb2 v0 h0 v1 h1 d1 b hbf => ?_;obtain ⟨q0,f0⟩:=h0;obtain ⟨g9_1,rfl,hg1,B1⟩:=h1;simp only [Act.put,zA0,zA2,zA1] at hbf;subst hbf;replace BR0:=BR0.bQ hb2;replace bb:=bb.trans (hb2.mono bb.size);have hsz2:=bb.size;have s_0:=sB;have BA6:=B1;obtain ⟨u0,t0,rfl,q0,d0⟩:=q0;obtain ⟨A6,c6,rfl,_⟩:=id q0;obtain ⟨D6,e6,rfl,_⟩:=id d0;refine zH0 (i:=2) rfl rfl rfl rfl rfl rfl (cells:=[.bool (ngB ((0:Rat)).num),.slice A6 (digs 4294967296 ((0:Rat)).num.natAbs).length c6,.slice D6 (digs 4294967296 ((0:Rat)).den).length e6]) rfl BA6 rfl (by kernel_rfl) (zH rfl rfl rfl) fun w3 hg3 BN3 => ?_;replace q0:=off q0 BA6 zC9 hg3;replace d0:=off d0 BA6 zC9 hg3;replace BR0:=BR0.grown hg3 (by omega);replace bb:=bb.trans ((Below.refl _ _).grown hg3 bb.size (fun g hg=>by injection hg with hg;omega));have hsz3:=bb.size;have B6:Blk w3 (g9_1) _ _:=BN3;have k6s:=q0;have k6d:=d0;have k6z:IsZ w3 (.agg #[.bool (ngB ((0:Rat)).num),.slice A6 (digs 4294967296 ((0:Rat)).num.natAbs).length c6]) (((0:Rat)).num):=⟨_,rfl,k6s⟩;have k6:IsQ w3 (.agg #[.bool (ngB ((0:Rat)).num),.slice A6 (digs 4294967296 ((0:Rat)).num.natAbs).length c6,.slice D6 (digs 4294967296 ((0:Rat)).den).length e6]) ((0:Rat)):=⟨_,_,rfl,k6s,k6d⟩;refine zC4 ?_;go_wp2
      go_loopw [18] (fun v18 wr => ∃ k:Nat,k<=p.length/\HoldQ wr g9_1 (zN2 ((zP0 p q).take k))/\Blk wr w.heap.size 83 #[.bool false,.slice none 0 0,.slice none 0 0]/\Below w.heap.size w wr/\g9_1<wr.heap.size/\v18=.int .i64 (k:Int)) (fun v18 _=>p.length-(intOf v18).toNat)
      case atStart=>exact ⟨0,by omega,⟨_,_,B6,k6s,k6d⟩,BR0,bb,B6.lt,rfl⟩
      case round =>
        obtain ⟨k,hk,hH,hR,hbw,hGl,rfl⟩:=hrel;clear B6 k6s k6d k6z k6 BR0 bb;have BR0:=hR;have bb:=hbw;obtain ⟨s,hs⟩:∃ s,s=zN2 ((zP0 p q).take k):=⟨_,rfl⟩;rw [<- hs] at hH;have HS:=hQ9 hs;clear hs hR hbw
        have ls:zC2 s 4800:=by
          rw [HS.out];refine (yF (fun x hx=>jE8 HLE.out.2.1 HLE.out.2.2.1 x (List.mem_of_mem_take hx))).mono ?_;refine zB2 (Nat.add_le_add_right (Nat.mul_le_mul_left _ ?_) _) HLE.out.2.2.2;rw [bQ7];omega
        obtain ⟨u6,t6,B6,k6s,k6d⟩:=hH;obtain ⟨A6,c6,rfl,_⟩:=id k6s;obtain ⟨D6,e6,rfl,_⟩:=id k6d;have k6z:IsZ wr (.agg #[.bool (ngB (s).num),.slice A6 (digs 4294967296 (s).num.natAbs).length c6]) (s).num:=⟨_,rfl,k6s⟩;have k6:IsQ wr (.agg #[.bool (ngB (s).num),.slice A6 (digs 4294967296 (s).num.natAbs).length c6,.slice D6 (digs 4294967296 (s).den).length e6]) (s):=⟨_,_,rfl,k6s,k6d⟩;have hszr:=bb.size;by_cases hlt:k<p.length
        · have hlt2:k<q.length:=by have:=HE.out;omega
          obtain ⟨x,hq0_⟩:∃ x,p[k]?=some x:=⟨_,zA3 hlt⟩;obtain ⟨g0_,o0_,ue0,te0,hA0_,_,e00,e01,e02,es0,ed0⟩:=(sl0.bQ bb).at_ hq0_;subst hA0_;have HQ0:=hQ9 hq0_;clear hq0_;obtain ⟨Ae0,ce0,rfl,_⟩:=id es0;obtain ⟨De0,ee0,rfl,_⟩:=id ed0;have ke0:IsQ wr (.agg #[.bool (ngB x.num),.slice Ae0 (digs 4294967296 x.num.natAbs).length ce0,.slice De0 (digs 4294967296 x.den).length ee0]) x:=⟨_,_,rfl,es0,ed0⟩;obtain ⟨y,hy⟩:∃ y,q[k]?=some y:=⟨_,zA3 hlt2⟩;have HY:=hQ9 hy;have lx:zC2 x m:=HLE.out.2.1 x (zA5 HQ0.out);have ly:zC2 y n:=HLE.out.2.2.1 y (zA5 hy);have lxy:zC2 (x*y) (m+n):=qA6 lx ly
          have hmn:m+n<=4800:=by
            have h1:=HLE.out.2.2.2;have h2:=Nat.le_mul_of_pos_right (m+n+1) (show 0<p.length by omega);omega
          clear hy;have hneq:q≠[]:=List.length_pos_iff.1 (by omega);have sB:=bb.size;go_upto_region 6 with (fail);have lt4_4:=Blk.lt BR0;have lt4_6:=Blk.lt B6;refine zC3 5 [Pd.eq (.int .i64 (k:Int)),Pd.eq (.pointer (some ⟨g0_,o0_+k*3,none⟩)),Pd.eq (.agg #[.bool (ngB x.num),.slice Ae0 (digs 4294967296 x.num.natAbs).length ce0,.slice De0 (digs 4294967296 x.den).length ee0]),pn 83 #[.bool false,.slice none 0 0,.slice none 0 0] wr.heap.size,Pd.eq (.int .i64 (k:Int))] (by kernel_rfl) ?ob10 ?done10
          case ob10 =>
            refine zA (zB8 rfl (zB3 rfl) (zB5 rfl rfl) (fun _ _ h=>h)) ?_;refine zA (zI rfl (zB3 rfl) (zB5 rfl rfl) (zB5 rfl rfl) (fun _ _ _ hx hy=>⟨_,by rw [hx,hy];exact zG6 underlying44 (by kernel_rfl) hlt _,rfl⟩)) ?_;refine zA (zB7 rfl (zB3 rfl) (zB4 (j:=1) (by kernel_rfl) rfl rfl) (fun w2 hb=>zM1 underlying83 rfl (by kernel_rfl) ((hb.cell (bQ0 wr _ e00)).trans e00) ((hb.cell (bQ0 wr _ e01)).trans e01) ((hb.cell (bQ0 wr _ e02)).trans e02)) (fun _ _=>rfl)) ?_;refine zA (zL3 (z:=.agg #[.bool false,.slice none 0 0,.slice none 0 0]) rfl rfl (fun _=>by kernel_rfl) (fun _ _ hB h=>⟨_,rfl,hB,h⟩)) ?_;refine zA (zD6 rfl (zB3 rfl) (zB4 (j:=0) (by kernel_rfl) rfl rfl) (fun _ _ h=>h)) ?_
            trivial
          case done10 =>
            refine fun w5 hb5 v0 h0 v1 h1 v2 h2 v3 h3 d3 v4 h4 b hbf => ?_;obtain rfl:=h0;obtain rfl:=h1;obtain rfl:=h2;obtain rfl:=h4;obtain ⟨g10_3,rfl,hg3,B3⟩:=h3;simp only [Act.put,zA0,zA2,zA1] at hbf;subst hbf;replace BR0:=BR0.bQ hb5;replace B6:=B6.bQ hb5;replace k6s:=k6s.bQ hb5;replace k6d:=k6d.bQ hb5;replace k6z:=k6z.bQ hb5;replace k6:=k6.bQ hb5;replace es0:=es0.bQ hb5;replace ed0:=ed0.bQ hb5;replace bb:=bb.trans (hb5.mono bb.size);have hsz5:=bb.size;have BA8:=B3;have q2:=es0;have d2:=ed0;refine zH0 (i:=5) rfl rfl rfl rfl rfl rfl (cells:=[.bool (ngB (x).num),.slice Ae0 (digs 4294967296 (x).num.natAbs).length ce0,.slice De0 (digs 4294967296 (x).den).length ee0]) rfl BA8 rfl (by kernel_rfl) (zH rfl rfl rfl) fun w6 hg6 BN6 => ?_;replace q2:=off q2 BA8 zC9 hg6;replace d2:=off d2 BA8 zC9 hg6;replace BR0:=BR0.grown hg6 (by omega);replace k6s:=off k6s BA8 zC9 hg6;replace k6d:=off k6d BA8 zC9 hg6;replace k6z:IsZ w6 (.agg #[.bool (ngB (s).num),.slice A6 (digs 4294967296 (s).num.natAbs).length c6]) ((s).num):=⟨_,rfl,k6s⟩;replace k6:IsQ w6 (.agg #[.bool (ngB (s).num),.slice A6 (digs 4294967296 (s).num.natAbs).length c6,.slice D6 (digs 4294967296 (s).den).length e6]) (s):=⟨_,_,rfl,k6s,k6d⟩;replace B6:=B6.grown hg6 (by omega);replace bb:=bb.trans ((Below.refl _ _).grown hg6 bb.size (fun g hg=>by injection hg with hg;omega));have hsz6:=bb.size;have Be0:Blk w6 (g10_3) _ _:=BN6;have ke0s:=q2;have ke0d:=d2;have ke0z:IsZ w6 (.agg #[.bool (ngB (x).num),.slice Ae0 (digs 4294967296 (x).num.natAbs).length ce0]) ((x).num):=⟨_,rfl,ke0s⟩;have ke0:IsQ w6 (.agg #[.bool (ngB (x).num),.slice Ae0 (digs 4294967296 (x).num.natAbs).length ce0,.slice De0 (digs 4294967296 (x).den).length ee0]) (x):=⟨_,_,rfl,ke0s,ke0d⟩;refine zC4 ?_;obtain ⟨g1_,o1_,cp1_,hA1_,_,_,_⟩:=sl1.place hneq;injection hA1_ with e1_ _ e3_;subst e1_;subst e3_;obtain ⟨uy,ty,hlty,zy0,zy1,zy2,zys,zyd⟩:=(sl1.bQ bb).at2 HY.out;obtain ⟨Ay,cy,rfl,_⟩:=id zys;obtain ⟨Dy,ey,rfl,_⟩:=id zyd;have zy:IsQ w6 (.agg #[.bool (ngB (y).num),.slice Ay (digs 4294967296 (y).num.natAbs).length cy,.slice Dy (digs 4294967296 (y).den).length ey]) (y):=⟨_,_,rfl,zys,zyd⟩;by_cases hv:x*y=0
            · have HV:Hid (true=decide (x*y=0)):=(decide_eq_true hv).symm;have HN:Hid (s=zN2 ((zP0 p q).take (k+1))):=by show _=_;rw [zQ7 (show (zP0 p q)[k]?=some (x*y) from qM5 HQ0.out HY.out),qT0,hv,Rat.add_zero,HS.out]
              clear hv;have sB:=bb.size;go_upto_region 7 with (fail);refine flow 7 [Pd.eq (.agg #[.bool (ngB (x).num),.slice Ae0 (digs 4294967296 (x).num.natAbs).length ce0,.slice De0 (digs 4294967296 (x).den).length ee0]),Pd.eq (.slice (some ⟨g1_,o1_,none⟩) q.length c1),Pd.eq (.int .i64 (k:Int)),Pd.eq (.pointer (some ⟨g1_,o1_+k*3,none⟩)),Pd.eq (.agg #[.bool (ngB (y).num),.slice Ay (digs 4294967296 (y).num.natAbs).length cy,.slice Dy (digs 4294967296 (y).den).length ey]),Pd.eq (.bool true),Pd.eq (.bool false)] (by kernel_rfl) (by kernel_rfl) ?ob11 ?done11
              case ob11 =>
                refine zA (zB7 rfl (zB3 rfl) (zB5 rfl rfl) (fun w2 hb=>zF0 underlying83 rfl (by kernel_rfl) (Be0.drew.bQ hb)) (fun _ _=>rfl)) ?_;refine zA (zB8 rfl (zB3 rfl) (zB5 rfl rfl) (fun _ _ h=>h)) ?_;refine zA (zB8 rfl (zB3 rfl) (zB5 rfl rfl) (fun _ _ h=>h)) ?_;refine zA (zI rfl (zB3 rfl) (zB4 (j:=1) (by kernel_rfl) rfl rfl) (zB4 (j:=2) (by kernel_rfl) rfl rfl) (fun _ _ _ hx hy=>⟨_,by rw [hx,hy];exact zG6 (k:=k) underlying44 (by kernel_rfl) hlty _,rfl⟩)) ?_;refine zA (zB7 rfl (zB3 rfl) (zB4 (j:=3) (by kernel_rfl) rfl rfl) (fun w2 hb=>zM1 underlying83 rfl (by kernel_rfl) ((hb.cell (bQ0 w6 _ zy0)).trans zy0) ((hb.cell (bQ0 w6 _ zy1)).trans zy1) ((hb.cell (bQ0 w6 _ zy2)).trans zy2)) (fun _ _=>rfl)) ?_;refine zA (zC7 rfl func174 (by kernel_rfl) (zB3 rfl) (zB4 (j:=0) (by kernel_rfl) rfl rfl) (zB4 (j:=4) (by kernel_rfl) rfl rfl) (fun w2 u0 u1 hb h0 h1=>by obtain rfl:=h0;obtain rfl:=h1;exact (qO6 _ _ (x) (y) true _ (ke0.drew.bQ hb) (zy.drew.bQ hb) HV.out).mono fun e w3 h=>zD3.pd h)) ?_;refine zA (zV6 rfl (zB3 rfl) (zB4 (j:=5) (by kernel_rfl) rfl rfl) (fun _=>zV7 _ _) (fun _=>rfl)) ?_
                trivial
              case done11 =>
                refine fun w8 hb8 v0 h0 v1 h1 v2 h2 v3 h3 v4 h4 v5 h5 v6 h6 b hbf => ?_;obtain rfl:=h0;obtain rfl:=h1;obtain rfl:=h2;obtain rfl:=h3;obtain rfl:=h4;obtain rfl:=h5;obtain rfl:=h6;simp only [Act.put,zA0,zA2,zA1] at hbf;subst hbf;replace BR0:=BR0.bQ hb8;replace B6:=B6.bQ hb8;replace k6s:=k6s.bQ hb8;replace k6d:=k6d.bQ hb8;replace k6z:=k6z.bQ hb8;replace k6:=k6.bQ hb8;replace Be0:=Be0.bQ hb8;replace ke0s:=ke0s.bQ hb8;replace ke0d:=ke0d.bQ hb8;replace ke0z:=ke0z.bQ hb8;replace ke0:=ke0.bQ hb8;replace bb:=bb.trans (hb8.mono bb.size);have hsz8:=bb.size;refine zG (by kernel_rfl) ?_;have hsk:p.length-(k+1)<p.length-k:=by omega
                go_wp2;go_roundw;case rel=>exact ⟨k+1,by omega,by rw [<- HN.out];exact ⟨_,_,B6,k6s,k6d⟩,BR0,bb,B6.lt,by go_num⟩
                case measure=>simp [intOf];omega
            · have HV:Hid (false=decide (x*y=0)):=(decide_eq_false hv).symm;clear hv;have sB:=bb.size;go_upto_region 7 with (fail);refine flow 7 [Pd.eq (.agg #[.bool (ngB (x).num),.slice Ae0 (digs 4294967296 (x).num.natAbs).length ce0,.slice De0 (digs 4294967296 (x).den).length ee0]),Pd.eq (.slice (some ⟨g1_,o1_,none⟩) q.length c1),Pd.eq (.int .i64 (k:Int)),Pd.eq (.pointer (some ⟨g1_,o1_+k*3,none⟩)),Pd.eq (.agg #[.bool (ngB (y).num),.slice Ay (digs 4294967296 (y).num.natAbs).length cy,.slice Dy (digs 4294967296 (y).den).length ey]),Pd.eq (.bool false),Pd.eq (.bool true)] (by kernel_rfl) (by kernel_rfl) ?ob12 ?done12
              case ob12 =>
                refine zA (zB7 rfl (zB3 rfl) (zB5 rfl rfl) (fun w2 hb=>zF0 underlying83 rfl (by kernel_rfl) (Be0.drew.bQ hb)) (fun _ _=>rfl)) ?_;refine zA (zB8 rfl (zB3 rfl) (zB5 rfl rfl) (fun _ _ h=>h)) ?_;refine zA (zB8 rfl (zB3 rfl) (zB5 rfl rfl) (fun _ _ h=>h)) ?_;refine zA (zI rfl (zB3 rfl) (zB4 (j:=1) (by kernel_rfl) rfl rfl) (zB4 (j:=2) (by kernel_rfl) rfl rfl) (fun _ _ _ hx hy=>⟨_,by rw [hx,hy];exact zG6 (k:=k) underlying44 (by kernel_rfl) hlty _,rfl⟩)) ?_;refine zA (zB7 rfl (zB3 rfl) (zB4 (j:=3) (by kernel_rfl) rfl rfl) (fun w2 hb=>zM1 underlying83 rfl (by kernel_rfl) ((hb.cell (bQ0 w6 _ zy0)).trans zy0) ((hb.cell (bQ0 w6 _ zy1)).trans zy1) ((hb.cell (bQ0 w6 _ zy2)).trans zy2)) (fun _ _=>rfl)) ?_;refine zA (zC7 rfl func174 (by kernel_rfl) (zB3 rfl) (zB4 (j:=0) (by kernel_rfl) rfl rfl) (zB4 (j:=4) (by kernel_rfl) rfl rfl) (fun w2 u0 u1 hb h0 h1=>by obtain rfl:=h0;obtain rfl:=h1;exact (qO6 _ _ (x) (y) false _ (ke0.drew.bQ hb) (zy.drew.bQ hb) HV.out).mono fun e w3 h=>zD3.pd h)) ?_;refine zA (zV6 rfl (zB3 rfl) (zB4 (j:=5) (by kernel_rfl) rfl rfl) (fun _=>zV7 _ _) (fun _=>rfl)) ?_
                trivial
              case done12 =>
                refine fun w8 hb8 v0 h0 v1 h1 v2 h2 v3 h3 v4 h4 v5 h5 v6 h6 b hbf => ?_;obtain rfl:=h0;obtain rfl:=h1;obtain rfl:=h2;obtain rfl:=h3;obtain rfl:=h4;obtain rfl:=h5;obtain rfl:=h6;simp only [Act.put,zA0,zA2,zA1] at hbf;subst hbf;replace BR0:=BR0.bQ hb8;replace B6:=B6.bQ hb8;replace k6s:=k6s.bQ hb8;replace k6d:=k6d.bQ hb8;replace k6z:=k6z.bQ hb8;replace k6:=k6.bQ hb8;replace Be0:=Be0.bQ hb8;replace ke0s:=ke0s.bQ hb8;replace ke0d:=ke0d.bQ hb8;replace ke0z:=ke0z.bQ hb8;replace ke0:=ke0.bQ hb8;replace bb:=bb.trans (hb8.mono bb.size);have hsz8:=bb.size;refine zG (by kernel_rfl) ?_;clear zy zy0 zy1 zy2 zys zyd;obtain ⟨ub,tb,hltb,zb0,zb1,zb2,zbs,zbd⟩:=(sl1.bQ bb).at2 HY.out;obtain ⟨Ab,cb,rfl,_⟩:=id zbs;obtain ⟨Db,eb,rfl,_⟩:=id zbd;have zb:IsQ w8 (.agg #[.bool (ngB (y).num),.slice Ab (digs 4294967296 (y).num.natAbs).length cb,.slice Db (digs 4294967296 (y).den).length eb]) (y):=⟨_,_,rfl,zbs,zbd⟩;have sB:=bb.size;go_upto_region 8 with (fail);refine flow 8 [Pd.eq (.agg #[.bool (ngB (s).num),.slice A6 (digs 4294967296 (s).num.natAbs).length c6,.slice D6 (digs 4294967296 (s).den).length e6]),Pd.eq (.agg #[.bool (ngB (x).num),.slice Ae0 (digs 4294967296 (x).num.natAbs).length ce0,.slice De0 (digs 4294967296 (x).den).length ee0]),Pd.eq (.slice (some ⟨g1_,o1_,none⟩) q.length c1),Pd.eq (.int .i64 (k:Int)),Pd.eq (.pointer (some ⟨g1_,o1_+k*3,none⟩)),Pd.eq (.agg #[.bool (ngB (y).num),.slice Ab (digs 4294967296 (y).num.natAbs).length cb,.slice Db (digs 4294967296 (y).den).length eb]),pqn (x*y),pq ((s+x*y)) w8.heap.size] (by kernel_rfl) (by kernel_rfl) ?ob13 ?done13
                case ob13 =>
                  refine zA (zB7 rfl (zB3 rfl) (zB5 rfl rfl) (fun w2 hb=>zF0 underlying83 rfl (by kernel_rfl) (B6.drew.bQ hb)) (fun _ _=>rfl)) ?_;refine zA (zB7 rfl (zB3 rfl) (zB5 rfl rfl) (fun w2 hb=>zF0 underlying83 rfl (by kernel_rfl) (Be0.drew.bQ hb)) (fun _ _=>rfl)) ?_;refine zA (zB8 rfl (zB3 rfl) (zB5 rfl rfl) (fun _ _ h=>h)) ?_;refine zA (zB8 rfl (zB3 rfl) (zB5 rfl rfl) (fun _ _ h=>h)) ?_;refine zA (zI rfl (zB3 rfl) (zB4 (j:=2) (by kernel_rfl) rfl rfl) (zB4 (j:=3) (by kernel_rfl) rfl rfl) (fun _ _ _ hx hy=>⟨_,by rw [hx,hy];exact zG6 (k:=k) underlying44 (by kernel_rfl) hltb _,rfl⟩)) ?_;refine zA (zB7 rfl (zB3 rfl) (zB4 (j:=4) (by kernel_rfl) rfl rfl) (fun w2 hb=>zM1 underlying83 rfl (by kernel_rfl) ((hb.cell (bQ0 w8 _ zb0)).trans zb0) ((hb.cell (bQ0 w8 _ zb1)).trans zb1) ((hb.cell (bQ0 w8 _ zb2)).trans zb2)) (fun _ _=>rfl)) ?_;refine zA (zC7 rfl func127 (by kernel_rfl) (zB3 rfl) (zB4 (j:=1) (by kernel_rfl) rfl rfl) (zB4 (j:=5) (by kernel_rfl) rfl rfl) (fun w2 u0 u1 hb h0 h1=>by obtain rfl:=h0;obtain rfl:=h1;exact (qO3 _ x _ y _ (ke0.drew.bQ hb) (zb.drew.bQ hb) (lx.mono (by omega)) (ly.mono (by omega))).mono fun e w3 h=>qF3.pd h.n)) ?_;refine zA (zC7 rfl func175 (by kernel_rfl) (zB3 rfl) (zB4 (j:=0) (by kernel_rfl) rfl rfl) (zB4 (j:=6) (by kernel_rfl) rfl rfl) (fun w2 u0 u1 hb h0 h1=>by obtain rfl:=h0;exact (yG8 _ s _ (x*y) _ (k6.drew.bQ hb) h1 (ls.mono (by decide)) (lxy.mono (by omega))).mono fun e w3 h=>RetQ.pd h hb.size)) ?_
                  trivial
                case done13 =>
                  refine fun w9 hb9 v0 h0 v1 h1 v2 h2 v3 h3 v4 h4 v5 h5 v6 h6 v7 h7 b hbf => ?_;obtain rfl:=h0;obtain rfl:=h1;obtain rfl:=h2;obtain rfl:=h3;obtain rfl:=h4;obtain rfl:=h5;have q6:=h6;obtain ⟨q7,f7⟩:=h7;simp only [Act.put,zA0,zA2,zA1] at hbf;subst hbf;replace BR0:=BR0.bQ hb9;replace B6:=B6.bQ hb9;replace k6s:=k6s.bQ hb9;replace k6d:=k6d.bQ hb9;replace k6z:=k6z.bQ hb9;replace k6:=k6.bQ hb9;replace Be0:=Be0.bQ hb9;replace ke0s:=ke0s.bQ hb9;replace ke0d:=ke0d.bQ hb9;replace ke0z:=ke0z.bQ hb9;replace ke0:=ke0.bQ hb9;replace bb:=bb.trans (hb9.mono bb.size);have hsz9:=bb.size;have s_7:=sB;obtain ⟨u7,t7,rfl,q7,d7⟩:=q7;obtain ⟨A4,c4,rfl,_⟩:=id q7;obtain ⟨D4,e4,rfl,_⟩:=id d7;refine zH7 (i:=8) (by kernel_rfl) rfl rfl rfl rfl rfl rfl (cells:=[.bool (ngB ((s+x*y)).num),.slice A4 (digs 4294967296 ((s+x*y)).num.natAbs).length c4,.slice D4 (digs 4294967296 ((s+x*y)).den).length e4]) rfl B6 rfl (by kernel_rfl) (zH rfl rfl rfl) fun w10 hg10 BN10 => ?_;replace q7:=off q7 B6 zC9 hg10;replace d7:=off d7 B6 zC9 hg10;replace BR0:=BR0.grown hg10 (by omega);replace ke0s:=off ke0s B6 zC9 hg10;replace ke0d:=off ke0d B6 zC9 hg10;replace ke0z:IsZ w10 (.agg #[.bool (ngB (x).num),.slice Ae0 (digs 4294967296 (x).num.natAbs).length ce0]) ((x).num):=⟨_,rfl,ke0s⟩;replace ke0:IsQ w10 (.agg #[.bool (ngB (x).num),.slice Ae0 (digs 4294967296 (x).num.natAbs).length ce0,.slice De0 (digs 4294967296 (x).den).length ee0]) (x):=⟨_,_,rfl,ke0s,ke0d⟩;replace Be0:=Be0.grown hg10 (by omega);replace bb:=bb.trans ((Below.refl _ _).grown hg10 bb.size (fun g hg=>by injection hg with hg;omega));have hsz10:=bb.size;have B4:Blk w10 (g9_1) _ _:=BN10;have k4s:=q7;have k4d:=d7;have k4z:IsZ w10 (.agg #[.bool (ngB ((s+x*y)).num),.slice A4 (digs 4294967296 ((s+x*y)).num.natAbs).length c4]) (((s+x*y)).num):=⟨_,rfl,k4s⟩;have k4:IsQ w10 (.agg #[.bool (ngB ((s+x*y)).num),.slice A4 (digs 4294967296 ((s+x*y)).num.natAbs).length c4,.slice D4 (digs 4294967296 ((s+x*y)).den).length e4]) ((s+x*y)):=⟨_,_,rfl,k4s,k4d⟩;refine zG (by kernel_rfl) ?_;have HN:Hid (s+x*y=zN2 ((zP0 p q).take (k+1))):=by show _=_;rw [zQ7 (show (zP0 p q)[k]?=some (x*y) from qM5 HQ0.out HY.out),qT0,HS.out]
                  have hsk:p.length-(k+1)<p.length-k:=by omega
                  go_wp2;go_roundw;case rel=>exact ⟨k+1,by omega,by rw [<- HN.out];exact ⟨_,_,B4,k4s,k4d⟩,BR0,bb,B4.lt,by go_num⟩
                  case measure=>simp [intOf];omega
        · have HN:Hid (s=zI5 p q):=by show _=_;rw [HS.out,zA7 (by rw [show (zP0 p q).length=p.length from qT1 HE.out];omega)];rfl
          have sB:=bb.size;go_upto_region 10 with (fail);refine zC3 1 [Pd.eq (.agg #[.bool (ngB (s).num),.slice A6 (digs 4294967296 (s).num.natAbs).length c6,.slice D6 (digs 4294967296 (s).den).length e6])] (by kernel_rfl) ?ob14 ?done14
          case ob14 =>
            refine zA (zB7 rfl (zB3 rfl) (zB5 rfl rfl) (fun w2 hb=>zF0 underlying83 rfl (by kernel_rfl) (B6.bQ hb)) (fun _ _=>rfl)) ?_
            trivial
          case done14 =>
            refine fun w5 hb5 v0 h0 b hbf => ?_;obtain rfl:=h0;simp only [Act.put,zA0,zA2,zA1] at hbf;subst hbf;replace BR0:=BR0.bQ hb5;replace B6:=B6.bQ hb5;replace k6s:=k6s.bQ hb5;replace k6d:=k6d.bQ hb5;replace k6z:=k6z.bQ hb5;replace k6:=k6.bQ hb5;replace bb:=bb.trans (hb5.mono bb.size);have hsz5:=bb.size;refine zH0 (i:=1) rfl rfl rfl rfl rfl rfl (cells:=[.bool (ngB (s).num),.slice A6 (digs 4294967296 (s).num.natAbs).length c6,.slice D6 (digs 4294967296 (s).den).length e6]) rfl BR0 rfl (by kernel_rfl) (zH rfl rfl rfl) fun w9 hg9 B9 => ?_;have k9:=off k6s BR0 zC9 hg9;have d9:=off k6d BR0 zC9 hg9;have bb9:=bb.trans ((Below.refl _ _).grown hg9 bb.size (fun g hg=>by injection hg with hg;omega));obtain ⟨C0,C1,C2,_,_,_⟩:=three B9;refine zQ4 (i:=2) (.int .i64 0) rfl rfl rfl rfl rfl fun b hbf => ?_;simp only [Act.put,zA0,zA2,zA1] at hbf;subst hbf;refine zC4 ?_;go_wp2;rw [<- HN.out];exact bodyPost_ret (v:=.tuple #[.agg #[.bool (ngB (s).num),.slice A6 (digs 4294967296 (s).num.natAbs).length c6,.slice D6 (digs 4294967296 (s).den).length e6],.int .i64 0]) (by simp [results,results146,go_sem,C0,C1,C2]) rfl ⟨_,rfl,⟨_,_,rfl,k9,d9⟩,bb9⟩
theorem jF0 (a0:Value) (x:Rat) (w:World) (h0:IsQ w a0 x) (hl:zC2 x 100000) :
  Calls prog 179 #[a0] w (RetQ x w):=by
 obtain ⟨u0,t0,rfl,s0,r0⟩:=h0;obtain ⟨A0,c0,rfl,_⟩:=id s0;obtain ⟨D0,e0,rfl,_⟩:=id r0
 go_enter func179,ntmps179
 go_upto_region 1 with (fail)
 obtain ⟨wx,hwx,bb,B0,BR0,hsz⟩:=zI4 w 83 83 #[.bool (ngB (x).num),.slice A0 (digs 4294967296 (x).num.natAbs).length c0,.slice D0 (digs 4294967296 (x).den).length e0] #[.bool false,.slice none 0 0,.slice none 0 0];rw [hwx];clear hwx;have k0s:=s0.bQ bb;have k0d:=r0.bQ bb;have k0z:IsZ wx (.agg #[.bool (ngB (x).num),.slice A0 (digs 4294967296 (x).num.natAbs).length c0]) (x).num:=⟨_,rfl,k0s⟩;have k0:IsQ wx (.agg #[.bool (ngB (x).num),.slice A0 (digs 4294967296 (x).num.natAbs).length c0,.slice D0 (digs 4294967296 (x).den).length e0]) (x):=⟨_,_,rfl,k0s,k0d⟩;have hsz0:=bb.size;have sB:=bb.size;refine flow 13 [Pd.eq (.pointer (some ⟨w.heap.size,0,none⟩)),Pd.eq (.pointer (some ⟨w.heap.size,0,none⟩)),Pd.eq (.bool (ngB (x).num)),Pd.eq (.pointer (some ⟨w.heap.size,0,none⟩)),Pd.eq (.pointer (some ⟨w.heap.size,1,none⟩)),Pd.eq (.slice A0 (digs 4294967296 (x).num.natAbs).length c0),ps .u64 (digs 4294967296 (x).num.natAbs) wx.heap.size,Pd.eq (.pointer (some ⟨w.heap.size,2,none⟩)),Pd.eq (.slice D0 (digs 4294967296 (x).den).length e0),ps .u64 (digs 4294967296 (x).den) wx.heap.size,Pd.eq (.bool (ngB (x).num)),ps .u64 (digs 4294967296 (x).num.natAbs) wx.heap.size,ps .u64 (digs 4294967296 (x).den) wx.heap.size] (by kernel_rfl) (by kernel_rfl) ?ob1 ?done1
 case ob1 =>
  refine zA (zB9 rfl (zB3 rfl) (zB5 rfl rfl) (fun _=>by kernel_rfl) (fun _=>rfl)) ?_;refine zA (zB9 rfl (zB3 rfl) (zB4 (j:=0) (by kernel_rfl) rfl rfl) (fun _=>by kernel_rfl) (fun _=>rfl)) ?_;refine zA (zB7 rfl (zB3 rfl) (zB4 (j:=1) (by kernel_rfl) rfl rfl) (fun w2 hb=>zC1 underlying4 rfl ((B0.drew.bQ hb).cell 0)) (fun _ _=>rfl)) ?_;refine zA (zB9 rfl (zB3 rfl) (zB5 rfl rfl) (fun _=>by kernel_rfl) (fun _=>rfl)) ?_;refine zA (zB9 rfl (zB3 rfl) (zB4 (j:=3) (by kernel_rfl) rfl rfl) (fun _=>by kernel_rfl) (fun _=>rfl)) ?_;refine zA (zB7 rfl (zB3 rfl) (zB4 (j:=4) (by kernel_rfl) rfl rfl) (fun w2 hb=>zC1 underlying50 rfl ((B0.drew.bQ hb).cell 1)) (fun _ _=>rfl)) ?_;refine zA (zE7 rfl func106 (by kernel_rfl) (zB3 rfl) (zB4 (j:=5) (by kernel_rfl) rfl rfl) (fun w2 u0 hb h0=>by obtain rfl:=h0;exact (zV3 _ _ _ (k0s.drew.bQ hb) (zB2 hl.1 (by decide))).mono fun e w3 h=>zD1.pd h hb.size)) ?_;refine zA (zB9 rfl (zB3 rfl) (zB5 rfl rfl) (fun _=>by kernel_rfl) (fun _=>rfl)) ?_;refine zA (zB7 rfl (zB3 rfl) (zB4 (j:=7) (by kernel_rfl) rfl rfl) (fun w2 hb=>zC1 underlying50 rfl ((B0.drew.bQ hb).cell 2)) (fun _ _=>rfl)) ?_;refine zA (zE7 rfl func106 (by kernel_rfl) (zB3 rfl) (zB4 (j:=8) (by kernel_rfl) rfl rfl) (fun w2 u0 hb h0=>by obtain rfl:=h0;exact (zV3 _ _ _ (k0d.drew.bQ hb) (zB2 hl.2 (by decide))).mono fun e w3 h=>zD1.pd h hb.size)) ?_;refine zA (zD6 rfl (zB3 rfl) (zB4 (j:=2) (by kernel_rfl) rfl rfl) (fun _ _ h=>h)) ?_;refine zA (zD6 rfl (zB3 rfl) (zB4 (j:=6) (by kernel_rfl) rfl rfl) (fun _ _ h=>h)) ?_;refine zA (zD6 rfl (zB3 rfl) (zB4 (j:=9) (by kernel_rfl) rfl rfl) (fun _ _ h=>h)) ?_
  trivial
 case done1 =>
  refine fun w1 hb1 v0 h0 v1 h1 v2 h2 v3 h3 v4 h4 v5 h5 v6 h6 v7 h7 v8 h8 v9 h9 v10 h10 v11 h11 v12 h12 b hbf => ?_;obtain rfl:=h0;obtain rfl:=h1;obtain rfl:=h2;obtain rfl:=h3;obtain rfl:=h4;obtain rfl:=h5;obtain rfl:=h7;obtain rfl:=h8;obtain rfl:=h10;obtain ⟨q6,f6⟩:=h6;obtain ⟨q9,f9⟩:=h9;obtain ⟨q11,f11⟩:=h11;obtain ⟨q12,f12⟩:=h12;simp only [Act.put,zA0,zA2,zA1] at hbf;subst hbf;replace B0:=B0.bQ hb1;replace k0s:=k0s.bQ hb1;replace k0d:=k0d.bQ hb1;replace k0z:=k0z.bQ hb1;replace k0:=k0.bQ hb1;replace BR0:=BR0.bQ hb1;replace bb:=bb.trans (hb1.mono bb.size);have hsz1:=bb.size;have s_6:=sB;have s_9:=sB;have s_11:=sB;have s_12:=sB;refine zG (by kernel_rfl) ?_;obtain ⟨A4,c4,rfl,_⟩:=id q11;have n4:=q11;have n4f:=f11;have n4z_:=s_11;obtain ⟨A5,c5,rfl,_⟩:=id q12;have n5:=q12;have n5f:=f12;have n5z_:=s_12;have sB:=bb.size;go_upto_region 2 with (fail);refine zC3 5 [Pd.eq (.bool (ngB (x).num)),Pd.eq (.slice A4 (digs 4294967296 (x).num.natAbs).length c4),Pd.eq (.agg #[.bool (ngB (x).num),.slice A4 (digs 4294967296 (x).num.natAbs).length c4]),Pd.eq (.slice A5 (digs 4294967296 (x).den).length c5),Pd.eq (.agg #[.bool (ngB (x).num),.slice A4 (digs 4294967296 (x).num.natAbs).length c4,.slice A5 (digs 4294967296 (x).den).length c5])] (by kernel_rfl) ?ob2 ?done2
  case ob2 =>
   refine zA (zB8 rfl (zB3 rfl) (zB5 rfl rfl) (fun _ _ h=>h)) ?_;refine zA (zB8 rfl (zB3 rfl) (zB5 rfl rfl) (fun _ _ h=>h)) ?_;refine zA (zK2 rfl (zB3 rfl) (zB4 (j:=0) (by kernel_rfl) rfl rfl) (zB4 (j:=1) (by kernel_rfl) rfl rfl) (fun w2 u v hb hu hv=>by obtain rfl:=hu;obtain rfl:=hv;exact ⟨.agg #[.bool (ngB (x).num),.slice A4 (digs 4294967296 (x).num.natAbs).length c4],by kernel_rfl,rfl⟩)) ?_;refine zA (zB8 rfl (zB3 rfl) (zB5 rfl rfl) (fun _ _ h=>h)) ?_;refine zA (zK2 rfl (zB3 rfl) (zB4 (j:=2) (by kernel_rfl) rfl rfl) (zB4 (j:=3) (by kernel_rfl) rfl rfl) (fun w2 u v hb hu hv=>by obtain rfl:=hu;obtain rfl:=hv;exact ⟨.agg #[.bool (ngB (x).num),.slice A4 (digs 4294967296 (x).num.natAbs).length c4,.slice A5 (digs 4294967296 (x).den).length c5],by kernel_rfl,rfl⟩)) ?_
   trivial
  case done2 =>
   refine fun w2 hb2 v0 h0 v1 h1 v2 h2 v3 h3 v4 h4 b hbf => ?_;obtain rfl:=h0;obtain rfl:=h1;obtain rfl:=h2;obtain rfl:=h3;obtain rfl:=h4;simp only [Act.put,zA0,zA2,zA1] at hbf;subst hbf;replace B0:=B0.bQ hb2;replace k0s:=k0s.bQ hb2;replace k0d:=k0d.bQ hb2;replace k0z:=k0z.bQ hb2;replace k0:=k0.bQ hb2;replace BR0:=BR0.bQ hb2;replace n4:=n4.bQ hb2;replace n5:=n5.bQ hb2;replace bb:=bb.trans (hb2.mono bb.size);have hsz2:=bb.size;refine zH0 (i:=5) rfl rfl rfl rfl rfl rfl (cells:=[.bool (ngB (x).num),.slice A4 (digs 4294967296 (x).num.natAbs).length c4,.slice A5 (digs 4294967296 (x).den).length c5]) rfl BR0 rfl (by kernel_rfl) (zH rfl rfl rfl) fun w9 hg9 B9 => ?_;have k9:=off n4 BR0 zC9 hg9;have d9:=off n5 BR0 zC9 hg9;have bb9:=bb.trans ((Below.refl _ _).grown hg9 bb.size (fun g hg=>by injection hg with hg;omega));obtain ⟨C0,C1,C2,_,_,_⟩:=three B9;refine zC4 ?_;go_wp2;exact bodyPost_ret (v:=.agg #[.bool (ngB (x).num),.slice A4 (digs 4294967296 (x).num.natAbs).length c4,.slice A5 (digs 4294967296 (x).den).length c5]) (by simp [results,results179,go_sem,C0,C1,C2]) rfl ⟨_,rfl,zW3 k9 d9 rfl rfl rfl,zL4 (n4f.mono n4z_) (n5f.mono n5z_),bb9⟩
theorem jF1 (a0 a1 a2:Value) (p:List Rat) (K:Rat) (q:List Rat) (m l n:Nat) (w:World) (h0:SlF .u64 4294967296 w a0 p) (h1:IsQ w a1 K) (h2:SlF .u64 4294967296 w a2 q) (he:p.length=q.length) (hl:p.length<=1000/\(∀ x∈p,zC2 x m)/\zC2 K l/\(∀ x∈q,zC2 x n)/\m<=4900/\l+n<=4900) :
    Calls prog 153 #[a0,a1,a2] w (qB7 (zG2 p K q) w):=by
  obtain ⟨u1,t1,rfl,s1,r1⟩:=h1;obtain ⟨A1,c1,rfl,_⟩:=id s1;obtain ⟨D1,e1,rfl,_⟩:=id r1;have sl0:=h0;obtain ⟨A0,c0,rfl,hc0,hm0⟩:=h0.shape;unfold maxLen at hm0;have sl2:=h2;obtain ⟨A2,c2,rfl,hc2,hm2⟩:=h2.shape;unfold maxLen at hm2;have HNE:Hid ((((p.length:Nat):Int) != ((q.length:Nat):Int))=false):=by show _=_;rw [bne_eq_false_iff_eq];omega
  have HE:=hQ9 he;have HL:=hQ9 hl;have lK:zC2 K l:=hl.2.2.1;have hm9:m<=4900:=hl.2.2.2.2.1;have hn9:l+n<=4900:=hl.2.2.2.2.2;have hl8:p.length<=1000:=hl.1;have HRL:Hid ((zG2 p K q).length=p.length):=qM7 he;clear hl he
  go_enter func153,ntmps153
  go_upto_region 1 with (fail)
  obtain ⟨wx,hwx,bb,B1,hsz⟩:=zK4 w 83 #[.bool (ngB (K).num),.slice A1 (digs 4294967296 (K).num.natAbs).length c1,.slice D1 (digs 4294967296 (K).den).length e1];rw [hwx];clear hwx;have k1s:=s1.bQ bb;have k1d:=r1.bQ bb;have k1z:IsZ wx (.agg #[.bool (ngB (K).num),.slice A1 (digs 4294967296 (K).num.natAbs).length c1]) (K).num:=⟨_,rfl,k1s⟩;have k1:IsQ wx (.agg #[.bool (ngB (K).num),.slice A1 (digs 4294967296 (K).num.natAbs).length c1,.slice D1 (digs 4294967296 (K).den).length e1]) (K):=⟨_,_,rfl,k1s,k1d⟩;have hsz0:=bb.size;have sB:=bb.size;refine zC3 5 [Pd.eq (.slice A0 p.length c0),Pd.eq (.int .i64 ((p.length:Nat):Int)),Pd.eq (.slice A2 q.length c2),Pd.eq (.int .i64 ((q.length:Nat):Int)),Pd.eq (.bool false)] (by kernel_rfl) ?ob4 ?done4
  case ob4 =>
    refine zA (zB8 rfl (zB3 rfl) (zB5 rfl rfl) (fun _ _ h=>h)) ?_;refine zA (zJ rfl (zB3 rfl) (zB4 (j:=0) (by kernel_rfl) rfl rfl) (fun _ _ hx=>⟨_,by rw [hx];exact zJ0 underlying44 _ _ _ _,rfl⟩)) ?_;refine zA (zB8 rfl (zB3 rfl) (zB5 rfl rfl) (fun _ _ h=>h)) ?_;refine zA (zJ rfl (zB3 rfl) (zB4 (j:=2) (by kernel_rfl) rfl rfl) (fun _ _ hx=>⟨_,by rw [hx];exact zJ0 underlying44 _ _ _ _,rfl⟩)) ?_;refine zA (zE6 rfl (zB3 rfl) (zB4 (j:=1) (by kernel_rfl) rfl rfl) (zB4 (j:=3) (by kernel_rfl) rfl rfl) (fun _ _ _ hx hy=>⟨.bool false,by rw [hx,hy,zY5,HNE.out],rfl⟩)) ?_
    trivial
  case done4 =>
    refine fun w1 hb1 v0 h0 v1 h1 v2 h2 v3 h3 v4 h4 b hbf => ?_;obtain rfl:=h0;obtain rfl:=h1;obtain rfl:=h2;obtain rfl:=h3;obtain rfl:=h4;simp only [Act.put,zA0,zA2,zA1] at hbf;subst hbf;replace B1:=B1.bQ hb1;replace k1s:=k1s.bQ hb1;replace k1d:=k1d.bQ hb1;replace k1z:=k1z.bQ hb1;replace k1:=k1.bQ hb1;replace bb:=bb.trans (hb1.mono bb.size);have hsz1:=bb.size;refine zC4 ?_
    go_wp2_with (at_make;refine qV3 rfl _ _ rfl underlying44 zQ6 p.length rfl rfl (by omega) ?_;intro wm RN hbm)
    have hwg:w.heap.size<=w1.heap.size:=bb.size;have hlb4:=B1.lt;replace B1:=B1.bQ hbm;replace k1s:=k1s.bQ hbm;replace k1d:=k1d.bQ hbm;replace k1z:=k1z.bQ hbm;replace k1:=k1.bQ hbm;replace bb:=bb.trans (hbm.mono bb.size);have hsz2:=bb.size;obtain ⟨g,hg⟩:∃ g,g=w1.heap.size:=⟨_,rfl⟩;rw [<- hg] at RN |-;have hg_:w1.heap.size<=g:=by omega
    clear hg;have hg:=hg_;clear hg_;have hgw:w.heap.size<=g:=by omega
    have RN0:zD2 wm g p.length ((zG2 p K q).take 0):=RN;clear RN;go_wp2
    go_loopw [21] (fun v21 wr => ∃ k:Nat,k<=p.length/\zD2 wr g p.length ((zG2 p K q).take k)/\Blk wr (w.heap.size) 83 #[.bool (ngB (K).num),.slice A1 (digs 4294967296 (K).num.natAbs).length c1,.slice D1 (digs 4294967296 (K).den).length e1]/\Below w.heap.size w wr/\v21=.int .i64 (k:Int)) (fun v21 _=>p.length-(intOf v21).toNat)
    case atStart=>exact ⟨0,by omega,RN0,B1,bb,rfl⟩
    case round =>
      obtain ⟨k,hk,hR,hB4,hbw,rfl⟩:=hrel;clear RN0 bb B1 k1s k1d k1z k1;have RN:=hR;have bb:=hbw;clear hR hbw;have B1:=hB4;have k1s:=s1.bQ bb;have k1d:=r1.bQ bb;have k1z:IsZ wr (.agg #[.bool (ngB (K).num),.slice A1 (digs 4294967296 (K).num.natAbs).length c1]) (K).num:=⟨_,rfl,k1s⟩;have k1:IsQ wr (.agg #[.bool (ngB (K).num),.slice A1 (digs 4294967296 (K).num.natAbs).length c1,.slice D1 (digs 4294967296 (K).den).length e1]) (K):=⟨_,_,rfl,k1s,k1d⟩;have hlc4:=B1.lt;clear hB4;have hszr:=bb.size;have hgl:=RN.lt;by_cases hlt:k<p.length
      · obtain ⟨x, hq0_⟩ : ∃ x, p[k]? = some x := ⟨_, zA3 hlt⟩;obtain ⟨g0_,o0_,ue0,te0,hA0_,_,e00,e01,e02,es0,ed0⟩:=(sl0.bQ bb).at_ hq0_;subst hA0_;have HQ0:=hQ9 hq0_;clear hq0_;obtain ⟨Ae0,ce0,rfl,_⟩:=id es0;obtain ⟨De0,ee0,rfl,_⟩:=id ed0;have ke0 : IsQ wr (.agg #[.bool (ngB x.num),.slice Ae0 (digs 4294967296 x.num.natAbs).length ce0,.slice De0 (digs 4294967296 x.den).length ee0]) x:=⟨_,_,rfl,es0,ed0⟩;have hlt2 : k < q.length:=by have:=HE.out; omega
        obtain ⟨y,hy⟩:∃ y,q[k]?=some y:=⟨_,zA3 hlt2⟩;have HY:=hQ9 hy;have lx:zC2 x m:=HL.out.2.1 x (zA5 HQ0.out);have ly:zC2 y n:=HL.out.2.2.2.1 y (zA5 hy);have lky:zC2 (K*y) (l+n):=qA6 lK ly;have HAT:Hid ((zG2 p K q)[k]?=some (x-K*y)):=qM5 HQ0.out hy;clear hy;have hneq:q≠[]:=List.length_pos_iff.1 (by omega);have HTK:Hid ((zG2 p K q).take (k+1)=(zG2 p K q).take k ++ [(x-K*y)]):=zQ7 HAT.out;have HLK:Hid (k=((zG2 p K q).take k).length):=by show _=_;rw [bQ7,HRL.out];omega
        have sB:=bb.size;go_upto_region 6 with (fail);have lt3_4:=Blk.lt B1;refine zC3 5 [Pd.eq (.int .i64 (k:Int)),Pd.eq (.pointer (some ⟨g0_,o0_+k*3,none⟩)),Pd.eq (.agg #[.bool (ngB x.num),.slice Ae0 (digs 4294967296 x.num.natAbs).length ce0,.slice De0 (digs 4294967296 x.den).length ee0]),pn 83 #[.bool false,.slice none 0 0,.slice none 0 0] wr.heap.size,Pd.eq (.int .i64 (k:Int))] (by kernel_rfl) ?ob5 ?done5
        case ob5 =>
          refine zA (zB8 rfl (zB3 rfl) (zB5 rfl rfl) (fun _ _ h=>h)) ?_;refine zA (zI rfl (zB3 rfl) (zB5 rfl rfl) (zB5 rfl rfl) (fun _ _ _ hx hy=>⟨_,by rw [hx,hy];exact zG6 underlying44 (by kernel_rfl) hlt _,rfl⟩)) ?_;refine zA (zB7 rfl (zB3 rfl) (zB4 (j:=1) (by kernel_rfl) rfl rfl) (fun w2 hb=>zM1 underlying83 rfl (by kernel_rfl) ((hb.cell (bQ0 wr _ e00)).trans e00) ((hb.cell (bQ0 wr _ e01)).trans e01) ((hb.cell (bQ0 wr _ e02)).trans e02)) (fun _ _=>rfl)) ?_;refine zA (zL3 (z:=.agg #[.bool false,.slice none 0 0,.slice none 0 0]) rfl rfl (fun _=>by kernel_rfl) (fun _ _ hB h=>⟨_,rfl,hB,h⟩)) ?_;refine zA (zD6 rfl (zB3 rfl) (zB4 (j:=0) (by kernel_rfl) rfl rfl) (fun _ _ h=>h)) ?_
          trivial
        case done5 =>
          refine fun w4 hb4 v0 h0 v1 h1 v2 h2 v3 h3 d3 v4 h4 b hbf => ?_;obtain rfl:=h0;obtain rfl:=h1;obtain rfl:=h2;obtain rfl:=h4;obtain ⟨g5_3,rfl,hg3,B3⟩:=h3;simp only [Act.put,zA0,zA2,zA1] at hbf;subst hbf;replace B1:=B1.bQ hb4;replace k1s:=k1s.bQ hb4;replace k1d:=k1d.bQ hb4;replace k1z:=k1z.bQ hb4;replace k1:=k1.bQ hb4;replace RN:=RN.bQ hb4;replace es0:=es0.bQ hb4;replace ed0:=ed0.bQ hb4;replace bb:=bb.trans (hb4.mono bb.size);have hsz4:=bb.size;have BA10:=B3;have q2:=es0;have d2:=ed0;refine zH0 (i:=5) rfl rfl rfl rfl rfl rfl (cells:=[.bool (ngB (x).num),.slice Ae0 (digs 4294967296 (x).num.natAbs).length ce0,.slice De0 (digs 4294967296 (x).den).length ee0]) rfl BA10 rfl (by kernel_rfl) (zH rfl rfl rfl) fun w5 hg5 BN5 => ?_;replace q2:=off q2 BA10 zC9 hg5;replace d2:=off d2 BA10 zC9 hg5;replace RN:=zD2.offb RN BA10 zC9 hg5 (by omega);replace k1s:=off k1s BA10 zC9 hg5;replace k1d:=off k1d BA10 zC9 hg5;replace k1z:IsZ w5 (.agg #[.bool (ngB (K).num),.slice A1 (digs 4294967296 (K).num.natAbs).length c1]) ((K).num):=⟨_,rfl,k1s⟩;replace k1:IsQ w5 (.agg #[.bool (ngB (K).num),.slice A1 (digs 4294967296 (K).num.natAbs).length c1,.slice D1 (digs 4294967296 (K).den).length e1]) (K):=⟨_,_,rfl,k1s,k1d⟩;replace B1:=B1.grown hg5 (by omega);replace bb:=bb.trans ((Below.refl _ _).grown hg5 bb.size (fun g hg=>by injection hg with hg;omega));have hsz5:=bb.size;have Be0:Blk w5 (g5_3) _ _:=BN5;have ke0s:=q2;have ke0d:=d2;have ke0z:IsZ w5 (.agg #[.bool (ngB (x).num),.slice Ae0 (digs 4294967296 (x).num.natAbs).length ce0]) ((x).num):=⟨_,rfl,ke0s⟩;have ke0:IsQ w5 (.agg #[.bool (ngB (x).num),.slice Ae0 (digs 4294967296 (x).num.natAbs).length ce0,.slice De0 (digs 4294967296 (x).den).length ee0]) (x):=⟨_,_,rfl,ke0s,ke0d⟩;refine zC4 ?_;have hle:=Be0.lt;have hneE:g≠g5_3:=by omega
          obtain ⟨g2_,o2_,cp2_,hA2_,_,_,_⟩:=sl2.place hneq;injection hA2_ with e1_ _ e3_;subst e1_;subst e3_;obtain ⟨uy,ty,hlty,zy0,zy1,zy2,zys,zyd⟩:=(sl2.bQ bb).at2 HY.out;obtain ⟨Ay,cy,rfl,_⟩:=id zys;obtain ⟨Dy,ey,rfl,_⟩:=id zyd;have zy:IsQ w5 (.agg #[.bool (ngB (y).num),.slice Ay (digs 4294967296 (y).num.natAbs).length cy,.slice Dy (digs 4294967296 (y).den).length ey]) (y):=⟨_,_,rfl,zys,zyd⟩;by_cases hv:K*y=0
          · have HV:Hid (true=decide (K*y=0)):=(decide_eq_true hv).symm;have HXE:Hid (x=x-K*y):=by show _=_;rw [hv];grind
            clear hv;have sB:=bb.size;go_upto_region 7 with (fail);refine flow 6 [Pd.eq (.agg #[.bool (ngB (K).num),.slice A1 (digs 4294967296 (K).num.natAbs).length c1,.slice D1 (digs 4294967296 (K).den).length e1]),Pd.eq (.slice (some ⟨g2_,o2_,none⟩) q.length c2),Pd.eq (.int .i64 (k:Int)),Pd.eq (.pointer (some ⟨g2_,o2_+k*3,none⟩)),Pd.eq (.agg #[.bool (ngB (y).num),.slice Ay (digs 4294967296 (y).num.natAbs).length cy,.slice Dy (digs 4294967296 (y).den).length ey]),Pd.eq (.bool true)] (by kernel_rfl) (by kernel_rfl) ?ob6 ?done6
            case ob6 =>
              refine zA (zB7 rfl (zB3 rfl) (zB5 rfl rfl) (fun w2 hb=>zF0 underlying83 rfl (by kernel_rfl) (B1.drew.bQ hb)) (fun _ _=>rfl)) ?_;refine zA (zB8 rfl (zB3 rfl) (zB5 rfl rfl) (fun _ _ h=>h)) ?_;refine zA (zB8 rfl (zB3 rfl) (zB5 rfl rfl) (fun _ _ h=>h)) ?_;refine zA (zI rfl (zB3 rfl) (zB4 (j:=1) (by kernel_rfl) rfl rfl) (zB4 (j:=2) (by kernel_rfl) rfl rfl) (fun _ _ _ hx hy=>⟨_,by rw [hx,hy];exact zG6 (k:=k) underlying44 (by kernel_rfl) hlty _,rfl⟩)) ?_;refine zA (zB7 rfl (zB3 rfl) (zB4 (j:=3) (by kernel_rfl) rfl rfl) (fun w2 hb=>zM1 underlying83 rfl (by kernel_rfl) ((hb.cell (bQ0 w5 _ zy0)).trans zy0) ((hb.cell (bQ0 w5 _ zy1)).trans zy1) ((hb.cell (bQ0 w5 _ zy2)).trans zy2)) (fun _ _=>rfl)) ?_;refine zA (zC7 rfl func174 (by kernel_rfl) (zB3 rfl) (zB4 (j:=0) (by kernel_rfl) rfl rfl) (zB4 (j:=4) (by kernel_rfl) rfl rfl) (fun w2 u0 u1 hb h0 h1=>by obtain rfl:=h0;obtain rfl:=h1;exact (qO6 _ _ (K) (y) true _ (k1.drew.bQ hb) (zy.drew.bQ hb) HV.out).mono fun e w3 h=>zD3.pd h)) ?_
              trivial
            case done6 =>
              refine fun w7 hb7 v0 h0 v1 h1 v2 h2 v3 h3 v4 h4 v5 h5 b hbf => ?_;obtain rfl:=h0;obtain rfl:=h1;obtain rfl:=h2;obtain rfl:=h3;obtain rfl:=h4;obtain rfl:=h5;simp only [Act.put,zA0,zA2,zA1] at hbf;subst hbf;replace B1:=B1.bQ hb7;replace k1s:=k1s.bQ hb7;replace k1d:=k1d.bQ hb7;replace k1z:=k1z.bQ hb7;replace k1:=k1.bQ hb7;replace Be0:=Be0.bQ hb7;replace ke0s:=ke0s.bQ hb7;replace ke0d:=ke0d.bQ hb7;replace ke0z:=ke0z.bQ hb7;replace ke0:=ke0.bQ hb7;replace RN:=RN.bQ hb7;replace bb:=bb.trans (hb7.mono bb.size);have hsz7:=bb.size;refine zG (by kernel_rfl) ?_;clear zy zy0 zy1 zy2 zys zyd;have sB:=bb.size;go_upto_region 8 with (fail);refine zC3 5 [Pd.eq (.slice (some ⟨g,0,none⟩) p.length p.length),Pd.eq (.int .i64 (k:Int)),Pd.eq (.agg #[.bool (ngB (x).num),.slice Ae0 (digs 4294967296 (x).num.natAbs).length ce0,.slice De0 (digs 4294967296 (x).den).length ee0]),pq ((x-K*y)) w7.heap.size,Pd.eq (.pointer (some ⟨g,0+k*3,none⟩))] (by kernel_rfl) ?ob7 ?done7
              case ob7 =>
                refine zA (zB8 rfl (zB3 rfl) (zB5 rfl rfl) (fun _ _ h=>h)) ?_;refine zA (zB8 rfl (zB3 rfl) (zB5 rfl rfl) (fun _ _ h=>h)) ?_;refine zA (zB7 rfl (zB3 rfl) (zB5 rfl rfl) (fun w2 hb=>zF0 underlying83 rfl (by kernel_rfl) (Be0.bQ hb)) (fun _ _=>rfl)) ?_;refine zA (zE7 rfl func179 (by kernel_rfl) (zB3 rfl) (zB4 (j:=2) (by kernel_rfl) rfl rfl) (fun w2 u0 hb h0=>by obtain rfl:=h0;exact (jF0 _ x _ (ke0.bQ hb) (lx.mono (by omega))).mono fun e w3 h=>RetQ.pd (h.to HXE.out) hb.size)) ?_;refine zA (zI rfl (zB3 rfl) (zB4 (j:=0) (by kernel_rfl) rfl rfl) (zB4 (j:=1) (by kernel_rfl) rfl rfl) (fun _ _ _ hx hy=>⟨_,by rw [hx,hy];exact zG6 (k:=k) underlying44 (by kernel_rfl) hlt _,rfl⟩)) ?_
                trivial
              case done7 =>
                refine fun w8 hb8 v0 h0 v1 h1 v2 h2 v3 h3 v4 h4 b hbf => ?_;obtain rfl:=h0;obtain rfl:=h1;obtain rfl:=h2;obtain rfl:=h4;obtain ⟨q3,f3⟩:=h3;simp only [Act.put,zA0,zA2,zA1] at hbf;subst hbf;replace B1:=B1.bQ hb8;replace k1s:=k1s.bQ hb8;replace k1d:=k1d.bQ hb8;replace k1z:=k1z.bQ hb8;replace k1:=k1.bQ hb8;replace Be0:=Be0.bQ hb8;replace ke0s:=ke0s.bQ hb8;replace ke0d:=ke0d.bQ hb8;replace ke0z:=ke0z.bQ hb8;replace ke0:=ke0.bQ hb8;replace RN:=RN.bQ hb8;replace bb:=bb.trans (hb8.mono bb.size);have hsz8:=bb.size;have s_3:=sB;obtain ⟨u3,t3,rfl,q3,d3⟩:=q3;obtain ⟨A9,c9,rfl,_⟩:=id q3;obtain ⟨D9,e9,rfl,_⟩:=id d3;refine qH1 (j:=5) rfl rfl rfl rfl (g:=g) (i:=k) (q:=(x-K*y)) rfl rfl (by kernel_rfl) RN hlt q3 d3 fun w9 hg9 hP9 => ?_;replace k1s:=RN.keep hg9 k1s;replace k1d:=RN.keep hg9 k1d;replace k1z:IsZ w9 (.agg #[.bool (ngB (K).num),.slice A1 (digs 4294967296 (K).num.natAbs).length c1]) ((K).num):=⟨_,rfl,k1s⟩;replace k1:IsQ w9 (.agg #[.bool (ngB (K).num),.slice A1 (digs 4294967296 (K).num.natAbs).length c1,.slice D1 (digs 4294967296 (K).den).length e1]) (K):=⟨_,_,rfl,k1s,k1d⟩;replace B1:=B1.grown hg9 (by omega);replace ke0s:=RN.keep hg9 ke0s;replace ke0d:=RN.keep hg9 ke0d;replace ke0z:IsZ w9 (.agg #[.bool (ngB (x).num),.slice Ae0 (digs 4294967296 (x).num.natAbs).length ce0]) ((x).num):=⟨_,rfl,ke0s⟩;replace ke0:IsQ w9 (.agg #[.bool (ngB (x).num),.slice Ae0 (digs 4294967296 (x).num.natAbs).length ce0,.slice De0 (digs 4294967296 (x).den).length ee0]) (x):=⟨_,_,rfl,ke0s,ke0d⟩;replace Be0:=Be0.grown hg9 (by omega);replace bb:=bb.trans ((Below.refl _ _).grown hg9 bb.size (fun g hg=>by injection hg with hg;omega));have hsz9:=bb.size;replace RN:=hP9.1 HLK.out;clear hP9;refine zC4 ?_;rw [<- HTK.out] at RN;have hsk:p.length-(k+1)<p.length-k:=by omega
                go_wp2;go_roundw;case rel=>exact ⟨k+1,by omega,RN,B1,bb,by go_num⟩
                case measure=>simp [intOf];omega
          · have HV:Hid (false=decide (K*y=0)):=(decide_eq_false hv).symm;clear hv;have sB:=bb.size;go_upto_region 7 with (fail);refine flow 6 [Pd.eq (.agg #[.bool (ngB (K).num),.slice A1 (digs 4294967296 (K).num.natAbs).length c1,.slice D1 (digs 4294967296 (K).den).length e1]),Pd.eq (.slice (some ⟨g2_,o2_,none⟩) q.length c2),Pd.eq (.int .i64 (k:Int)),Pd.eq (.pointer (some ⟨g2_,o2_+k*3,none⟩)),Pd.eq (.agg #[.bool (ngB (y).num),.slice Ay (digs 4294967296 (y).num.natAbs).length cy,.slice Dy (digs 4294967296 (y).den).length ey]),Pd.eq (.bool false)] (by kernel_rfl) (by kernel_rfl) ?ob8 ?done8
            case ob8 =>
              refine zA (zB7 rfl (zB3 rfl) (zB5 rfl rfl) (fun w2 hb=>zF0 underlying83 rfl (by kernel_rfl) (B1.drew.bQ hb)) (fun _ _=>rfl)) ?_;refine zA (zB8 rfl (zB3 rfl) (zB5 rfl rfl) (fun _ _ h=>h)) ?_;refine zA (zB8 rfl (zB3 rfl) (zB5 rfl rfl) (fun _ _ h=>h)) ?_;refine zA (zI rfl (zB3 rfl) (zB4 (j:=1) (by kernel_rfl) rfl rfl) (zB4 (j:=2) (by kernel_rfl) rfl rfl) (fun _ _ _ hx hy=>⟨_,by rw [hx,hy];exact zG6 (k:=k) underlying44 (by kernel_rfl) hlty _,rfl⟩)) ?_;refine zA (zB7 rfl (zB3 rfl) (zB4 (j:=3) (by kernel_rfl) rfl rfl) (fun w2 hb=>zM1 underlying83 rfl (by kernel_rfl) ((hb.cell (bQ0 w5 _ zy0)).trans zy0) ((hb.cell (bQ0 w5 _ zy1)).trans zy1) ((hb.cell (bQ0 w5 _ zy2)).trans zy2)) (fun _ _=>rfl)) ?_;refine zA (zC7 rfl func174 (by kernel_rfl) (zB3 rfl) (zB4 (j:=0) (by kernel_rfl) rfl rfl) (zB4 (j:=4) (by kernel_rfl) rfl rfl) (fun w2 u0 u1 hb h0 h1=>by obtain rfl:=h0;obtain rfl:=h1;exact (qO6 _ _ (K) (y) false _ (k1.drew.bQ hb) (zy.drew.bQ hb) HV.out).mono fun e w3 h=>zD3.pd h)) ?_
              trivial
            case done8 =>
              refine fun w7 hb7 v0 h0 v1 h1 v2 h2 v3 h3 v4 h4 v5 h5 b hbf => ?_;obtain rfl:=h0;obtain rfl:=h1;obtain rfl:=h2;obtain rfl:=h3;obtain rfl:=h4;obtain rfl:=h5;simp only [Act.put,zA0,zA2,zA1] at hbf;subst hbf;replace B1:=B1.bQ hb7;replace k1s:=k1s.bQ hb7;replace k1d:=k1d.bQ hb7;replace k1z:=k1z.bQ hb7;replace k1:=k1.bQ hb7;replace Be0:=Be0.bQ hb7;replace ke0s:=ke0s.bQ hb7;replace ke0d:=ke0d.bQ hb7;replace ke0z:=ke0z.bQ hb7;replace ke0:=ke0.bQ hb7;replace RN:=RN.bQ hb7;replace bb:=bb.trans (hb7.mono bb.size);have hsz7:=bb.size;refine zG (by kernel_rfl) ?_;clear zy zy0 zy1 zy2 zys zyd;obtain ⟨ub,tb,hltb,zb0,zb1,zb2,zbs,zbd⟩:=(sl2.bQ bb).at2 HY.out;obtain ⟨Ab,cb,rfl,_⟩:=id zbs;obtain ⟨Db,eb,rfl,_⟩:=id zbd;have zb:IsQ w7 (.agg #[.bool (ngB (y).num),.slice Ab (digs 4294967296 (y).num.natAbs).length cb,.slice Db (digs 4294967296 (y).den).length eb]) (y):=⟨_,_,rfl,zbs,zbd⟩;have sB:=bb.size;go_upto_region 9 with (fail);refine flow 11 [Pd.eq (.slice (some ⟨g,0,none⟩) p.length p.length),Pd.eq (.int .i64 (k:Int)),Pd.eq (.agg #[.bool (ngB (x).num),.slice Ae0 (digs 4294967296 (x).num.natAbs).length ce0,.slice De0 (digs 4294967296 (x).den).length ee0]),Pd.eq (.agg #[.bool (ngB (K).num),.slice A1 (digs 4294967296 (K).num.natAbs).length c1,.slice D1 (digs 4294967296 (K).den).length e1]),Pd.eq (.slice (some ⟨g2_,o2_,none⟩) q.length c2),Pd.eq (.int .i64 (k:Int)),Pd.eq (.pointer (some ⟨g2_,o2_+k*3,none⟩)),Pd.eq (.agg #[.bool (ngB (y).num),.slice Ab (digs 4294967296 (y).num.natAbs).length cb,.slice Db (digs 4294967296 (y).den).length eb]),pqn (K*y),pq ((x-K*y)) w7.heap.size,Pd.eq (.pointer (some ⟨g,0+k*3,none⟩))] (by kernel_rfl) (by kernel_rfl) ?ob9 ?done9
              case ob9 =>
                refine zA (zB8 rfl (zB3 rfl) (zB5 rfl rfl) (fun _ _ h=>h)) ?_;refine zA (zB8 rfl (zB3 rfl) (zB5 rfl rfl) (fun _ _ h=>h)) ?_;refine zA (zB7 rfl (zB3 rfl) (zB5 rfl rfl) (fun w2 hb=>zF0 underlying83 rfl (by kernel_rfl) (Be0.drew.bQ hb)) (fun _ _=>rfl)) ?_;refine zA (zB7 rfl (zB3 rfl) (zB5 rfl rfl) (fun w2 hb=>zF0 underlying83 rfl (by kernel_rfl) (B1.drew.bQ hb)) (fun _ _=>rfl)) ?_;refine zA (zB8 rfl (zB3 rfl) (zB5 rfl rfl) (fun _ _ h=>h)) ?_;refine zA (zB8 rfl (zB3 rfl) (zB5 rfl rfl) (fun _ _ h=>h)) ?_;refine zA (zI rfl (zB3 rfl) (zB4 (j:=4) (by kernel_rfl) rfl rfl) (zB4 (j:=5) (by kernel_rfl) rfl rfl) (fun _ _ _ hx hy=>⟨_,by rw [hx,hy];exact zG6 (k:=k) underlying44 (by kernel_rfl) hltb _,rfl⟩)) ?_;refine zA (zB7 rfl (zB3 rfl) (zB4 (j:=6) (by kernel_rfl) rfl rfl) (fun w2 hb=>zM1 underlying83 rfl (by kernel_rfl) ((hb.cell (bQ0 w7 _ zb0)).trans zb0) ((hb.cell (bQ0 w7 _ zb1)).trans zb1) ((hb.cell (bQ0 w7 _ zb2)).trans zb2)) (fun _ _=>rfl)) ?_;refine zA (zC7 rfl func127 (by kernel_rfl) (zB3 rfl) (zB4 (j:=3) (by kernel_rfl) rfl rfl) (zB4 (j:=7) (by kernel_rfl) rfl rfl) (fun w2 u0 u1 hb h0 h1=>by obtain rfl:=h0;obtain rfl:=h1;exact (qO3 _ K _ y _ (k1.drew.bQ hb) (zb.drew.bQ hb) (lK.mono (by omega)) (ly.mono (by omega))).mono fun e w3 h=>qF3.pd h.n)) ?_;refine zA (zC7 rfl func180 (by kernel_rfl) (zB3 rfl) (zB4 (j:=2) (by kernel_rfl) rfl rfl) (zB4 (j:=8) (by kernel_rfl) rfl rfl) (fun w2 u0 u1 hb h0 h1=>by obtain rfl:=h0;exact (jD1 _ x _ (K*y) _ (ke0.drew.bQ hb) h1 (lx.mono (by omega)) (lky.mono (by omega))).mono fun e w3 h=>RetQ.pd h hb.size)) ?_;refine zA (zI rfl (zB3 rfl) (zB4 (j:=0) (by kernel_rfl) rfl rfl) (zB4 (j:=1) (by kernel_rfl) rfl rfl) (fun _ _ _ hx hy=>⟨_,by rw [hx,hy];exact zG6 (k:=k) underlying44 (by kernel_rfl) hlt _,rfl⟩)) ?_
                trivial
              case done9 =>
                refine fun w8 hb8 v0 h0 v1 h1 v2 h2 v3 h3 v4 h4 v5 h5 v6 h6 v7 h7 v8 h8 v9 h9 v10 h10 b hbf => ?_;obtain rfl:=h0;obtain rfl:=h1;obtain rfl:=h2;obtain rfl:=h3;obtain rfl:=h4;obtain rfl:=h5;obtain rfl:=h6;obtain rfl:=h7;obtain rfl:=h10;have q8:=h8;obtain ⟨q9,f9⟩:=h9;simp only [Act.put,zA0,zA2,zA1] at hbf;subst hbf;replace B1:=B1.bQ hb8;replace k1s:=k1s.bQ hb8;replace k1d:=k1d.bQ hb8;replace k1z:=k1z.bQ hb8;replace k1:=k1.bQ hb8;replace Be0:=Be0.bQ hb8;replace ke0s:=ke0s.bQ hb8;replace ke0d:=ke0d.bQ hb8;replace ke0z:=ke0z.bQ hb8;replace ke0:=ke0.bQ hb8;replace RN:=RN.bQ hb8;replace bb:=bb.trans (hb8.mono bb.size);have hsz8:=bb.size;have s_9:=sB;obtain ⟨u9,t9,rfl,q9,d9⟩:=q9;obtain ⟨A9,c9,rfl,_⟩:=id q9;obtain ⟨D9,e9,rfl,_⟩:=id d9;refine jD8 (j:=11) (by kernel_rfl) rfl rfl rfl rfl (g:=g) (i:=k) (q:=(x-K*y)) rfl rfl (by kernel_rfl) RN hlt q9 d9 fun w9 hg9 hP9 => ?_;replace k1s:=RN.keep hg9 k1s;replace k1d:=RN.keep hg9 k1d;replace k1z:IsZ w9 (.agg #[.bool (ngB (K).num),.slice A1 (digs 4294967296 (K).num.natAbs).length c1]) ((K).num):=⟨_,rfl,k1s⟩;replace k1:IsQ w9 (.agg #[.bool (ngB (K).num),.slice A1 (digs 4294967296 (K).num.natAbs).length c1,.slice D1 (digs 4294967296 (K).den).length e1]) (K):=⟨_,_,rfl,k1s,k1d⟩;replace B1:=B1.grown hg9 (by omega);replace ke0s:=RN.keep hg9 ke0s;replace ke0d:=RN.keep hg9 ke0d;replace ke0z:IsZ w9 (.agg #[.bool (ngB (x).num),.slice Ae0 (digs 4294967296 (x).num.natAbs).length ce0]) ((x).num):=⟨_,rfl,ke0s⟩;replace ke0:IsQ w9 (.agg #[.bool (ngB (x).num),.slice Ae0 (digs 4294967296 (x).num.natAbs).length ce0,.slice De0 (digs 4294967296 (x).den).length ee0]) (x):=⟨_,_,rfl,ke0s,ke0d⟩;replace Be0:=Be0.grown hg9 (by omega);replace bb:=bb.trans ((Below.refl _ _).grown hg9 bb.size (fun g hg=>by injection hg with hg;omega));have hsz9:=bb.size;replace RN:=hP9.1 HLK.out;clear hP9;refine zG (by kernel_rfl) ?_;rw [<- HTK.out] at RN;have hsk:p.length-(k+1)<p.length-k:=by omega
                go_wp2;go_roundw;case rel=>exact ⟨k+1,by omega,RN,B1,bb,by go_num⟩
                case measure=>simp [intOf];omega
      · rw [zA7 (by rw [HRL.out];omega)] at RN
        have HRN:Hid (zD2 wr g (zG2 p K q).length (zG2 p K q)):=by
          show zD2 _ _ _ _
          rw [HRL.out];exact RN
        clear RN;go_wp2;go_ret2;exact ⟨g,by rw [HRL.out];rfl,HRN.out,hgw,bb⟩
theorem eqf_any (a0 a1:Value) (p q:List Rat) (b:Bool) (w:World) (h0:SlF .u64 4294967296 w a0 p) (h1:SlF .u64 4294967296 w a1 q) (hb:b=decide (p=q)) :
  Calls prog 78 #[a0,a1,.func (.func 79) #[] #[]] w (zD3 (.bool b) w):=by
 have bb:Below w.heap.size w w:=Below.refl _ _;have sl0:=h0;obtain ⟨A0,c0,rfl,hc0,hm0⟩:=h0.shape;unfold maxLen at hm0;have sl1:=h1;obtain ⟨A1,c1,rfl,hc1,hm1⟩:=h1.shape;unfold maxLen at hm1;have HB:=hQ9 hb;clear hb
 go_enter func78,ntmps78
 go_upto_region 1 with (fail)
 have hsz0:=bb.size;by_cases he:p.length=q.length
 ·have HNE:Hid ((((p.length:Nat):Int) != ((q.length:Nat):Int))=false):=by show _=_;rw [bne_eq_false_iff_eq];omega
  have HE:=hQ9 he;clear he;have sB:=bb.size;refine zC3 5 [Pd.eq (.slice A0 p.length c0),Pd.eq (.int .i64 ((p.length:Nat):Int)),Pd.eq (.slice A1 q.length c1),Pd.eq (.int .i64 ((q.length:Nat):Int)),Pd.eq (.bool false)] (by kernel_rfl) ?ob11 ?done11
  case ob11 =>
   refine zA (zB8 rfl (zB3 rfl) (zB5 rfl rfl) (fun _ _ h=>h)) ?_;refine zA (zJ rfl (zB3 rfl) (zB4 (j:=0) (by kernel_rfl) rfl rfl) (fun _ _ hx=>⟨_,by rw [hx];exact zJ0 underlying44 _ _ _ _,rfl⟩)) ?_;refine zA (zB8 rfl (zB3 rfl) (zB5 rfl rfl) (fun _ _ h=>h)) ?_;refine zA (zJ rfl (zB3 rfl) (zB4 (j:=2) (by kernel_rfl) rfl rfl) (fun _ _ hx=>⟨_,by rw [hx];exact zJ0 underlying44 _ _ _ _,rfl⟩)) ?_;refine zA (zE6 rfl (zB3 rfl) (zB4 (j:=1) (by kernel_rfl) rfl rfl) (zB4 (j:=3) (by kernel_rfl) rfl rfl) (fun _ _ _ hx hy=>⟨.bool false,by rw [hx,hy,zY5,HNE.out],rfl⟩)) ?_
   trivial
  case done11 =>
   refine fun w2 hb2 v0 h0 v1 h1 v2 h2 v3 h3 v4 h4 b hbf => ?_;obtain rfl:=h0;obtain rfl:=h1;obtain rfl:=h2;obtain rfl:=h3;obtain rfl:=h4;simp only [Act.put,zA0,zA2,zA1] at hbf;subst hbf;replace bb:=bb.trans (hb2.mono bb.size);have hsz2:=bb.size;refine zC4 ?_;go_wp2
   go_loopw [17] (fun v17 wr => ∃ k:Nat,k<=p.length/\Hid (p.take k=q.take k)/\Below w.heap.size w wr/\v17=.int .i64 (k:Int)) (fun v17 _=>p.length-(intOf v17).toNat)
   case atStart=>exact ⟨0,by omega,rfl,bb,rfl⟩
   case round =>
    obtain ⟨k,hk,HA,hbw,rfl⟩:=hrel;clear bb;have bb:=hbw;clear hbw;have hszr:=bb.size;by_cases hlt:k<p.length
    ·have hlt2:k<q.length:=by have:=HE.out;omega
     have hneq:q≠[]:=List.length_pos_iff.1 (by omega);obtain ⟨y,hy⟩:∃ y,q[k]?=some y:=⟨_,zA3 hlt2⟩;have HY:=hQ9 hy;clear hy;obtain ⟨x,hq0_⟩:∃ x,p[k]?=some x:=⟨_,zA3 hlt⟩;obtain ⟨g0_,o0_,ue0,te0,hA0_,_,e00,e01,e02,es0,ed0⟩:=(sl0.bQ bb).at_ hq0_;subst hA0_;have HQ0:=hQ9 hq0_;clear hq0_;obtain ⟨Ae0,ce0,rfl,_⟩:=id es0;obtain ⟨De0,ee0,rfl,_⟩:=id ed0;have ke0:IsQ wr (.agg #[.bool (ngB x.num),.slice Ae0 (digs 4294967296 x.num.natAbs).length ce0,.slice De0 (digs 4294967296 x.den).length ee0]) x:=⟨_,_,rfl,es0,ed0⟩;have sB:=bb.size;go_upto_region 5 with (fail);refine zC3 5 [Pd.eq (.int .i64 (k:Int)),Pd.eq (.pointer (some ⟨g0_,o0_+k*3,none⟩)),Pd.eq (.agg #[.bool (ngB x.num),.slice Ae0 (digs 4294967296 x.num.natAbs).length ce0,.slice De0 (digs 4294967296 x.den).length ee0]),pn 83 #[.bool false,.slice none 0 0,.slice none 0 0] wr.heap.size,Pd.eq (.int .i64 (k:Int))] (by kernel_rfl) ?ob12 ?done12
     case ob12 =>
      refine zA (zB8 rfl (zB3 rfl) (zB5 rfl rfl) (fun _ _ h=>h)) ?_;refine zA (zI rfl (zB3 rfl) (zB5 rfl rfl) (zB5 rfl rfl) (fun _ _ _ hx hy=>⟨_,by rw [hx,hy];exact zG6 underlying44 (by kernel_rfl) hlt _,rfl⟩)) ?_;refine zA (zB7 rfl (zB3 rfl) (zB4 (j:=1) (by kernel_rfl) rfl rfl) (fun w2 hb=>zM1 underlying83 rfl (by kernel_rfl) ((hb.cell (bQ0 wr _ e00)).trans e00) ((hb.cell (bQ0 wr _ e01)).trans e01) ((hb.cell (bQ0 wr _ e02)).trans e02)) (fun _ _=>rfl)) ?_;refine zA (zL3 (z:=.agg #[.bool false,.slice none 0 0,.slice none 0 0]) rfl rfl (fun _=>by kernel_rfl) (fun _ _ hB h=>⟨_,rfl,hB,h⟩)) ?_;refine zA (zD6 rfl (zB3 rfl) (zB4 (j:=0) (by kernel_rfl) rfl rfl) (fun _ _ h=>h)) ?_
      trivial
     case done12 =>
      refine fun w4 hb4 v0 h0 v1 h1 v2 h2 v3 h3 d3 v4 h4 b hbf => ?_;obtain rfl:=h0;obtain rfl:=h1;obtain rfl:=h2;obtain rfl:=h4;obtain ⟨g12_3,rfl,hg3,B3⟩:=h3;simp only [Act.put,zA0,zA2,zA1] at hbf;subst hbf;replace es0:=es0.bQ hb4;replace ed0:=ed0.bQ hb4;replace bb:=bb.trans (hb4.mono bb.size);have hsz4:=bb.size;have BA8:=B3;have q2:=es0;have d2:=ed0;refine zH0 (i:=5) rfl rfl rfl rfl rfl rfl (cells:=[.bool (ngB (x).num),.slice Ae0 (digs 4294967296 (x).num.natAbs).length ce0,.slice De0 (digs 4294967296 (x).den).length ee0]) rfl BA8 rfl (by kernel_rfl) (zH rfl rfl rfl) fun w5 hg5 BN5 => ?_;replace q2:=off q2 BA8 zC9 hg5;replace d2:=off d2 BA8 zC9 hg5;replace bb:=bb.trans ((Below.refl _ _).grown hg5 bb.size (fun g hg=>by injection hg with hg;omega));have hsz5:=bb.size;have Be0:Blk w5 (g12_3) _ _:=BN5;have ke0s:=q2;have ke0d:=d2;have ke0z:IsZ w5 (.agg #[.bool (ngB (x).num),.slice Ae0 (digs 4294967296 (x).num.natAbs).length ce0]) ((x).num):=⟨_,rfl,ke0s⟩;have ke0:IsQ w5 (.agg #[.bool (ngB (x).num),.slice Ae0 (digs 4294967296 (x).num.natAbs).length ce0,.slice De0 (digs 4294967296 (x).den).length ee0]) (x):=⟨_,_,rfl,ke0s,ke0d⟩;refine zC4 ?_;obtain ⟨g1_,o1_,cp1_,hA1_,_,_,_⟩:=sl1.place hneq;injection hA1_ with e1_ _ e3_;subst e1_;subst e3_;obtain ⟨uy,ty,hlty,zy0,zy1,zy2,zys,zyd⟩:=(sl1.bQ bb).at2 HY.out;obtain ⟨Ay,cy,rfl,_⟩:=id zys;obtain ⟨Dy,ey,rfl,_⟩:=id zyd;have zy:IsQ w5 (.agg #[.bool (ngB (y).num),.slice Ay (digs 4294967296 (y).num.natAbs).length cy,.slice Dy (digs 4294967296 (y).den).length ey]) (y):=⟨_,_,rfl,zys,zyd⟩;have sB:=bb.size;go_upto_region 6 with (fail);have lt5_8:=Blk.lt Be0;refine zC3 5 [Pd.eq (.slice (some ⟨g1_,o1_,none⟩) q.length c1),Pd.eq (.int .i64 (k:Int)),Pd.eq (.pointer (some ⟨g1_,o1_+k*3,none⟩)),Pd.eq (.agg #[.bool (ngB (y).num),.slice Ay (digs 4294967296 (y).num.natAbs).length cy,.slice Dy (digs 4294967296 (y).den).length ey]),pn 83 #[.bool false,.slice none 0 0,.slice none 0 0] w5.heap.size] (by kernel_rfl) ?ob13 ?done13
      case ob13 =>
       refine zA (zB8 rfl (zB3 rfl) (zB5 rfl rfl) (fun _ _ h=>h)) ?_;refine zA (zB8 rfl (zB3 rfl) (zB5 rfl rfl) (fun _ _ h=>h)) ?_;refine zA (zI rfl (zB3 rfl) (zB4 (j:=0) (by kernel_rfl) rfl rfl) (zB4 (j:=1) (by kernel_rfl) rfl rfl) (fun _ _ _ hx hy=>⟨_,by rw [hx,hy];exact zG6 (k:=k) underlying44 (by kernel_rfl) hlty _,rfl⟩)) ?_;refine zA (zB7 rfl (zB3 rfl) (zB4 (j:=2) (by kernel_rfl) rfl rfl) (fun w2 hb=>zM1 underlying83 rfl (by kernel_rfl) ((hb.cell (bQ0 w5 _ zy0)).trans zy0) ((hb.cell (bQ0 w5 _ zy1)).trans zy1) ((hb.cell (bQ0 w5 _ zy2)).trans zy2)) (fun _ _=>rfl)) ?_;refine zA (zL3 (z:=.agg #[.bool false,.slice none 0 0,.slice none 0 0]) rfl rfl (fun _=>by kernel_rfl) (fun _ _ hB h=>⟨_,rfl,hB,h⟩)) ?_
       trivial
      case done13 =>
       refine fun w6 hb6 v0 h0 v1 h1 v2 h2 v3 h3 v4 h4 d4 b hbf => ?_;obtain rfl:=h0;obtain rfl:=h1;obtain rfl:=h2;obtain rfl:=h3;obtain ⟨g13_4,rfl,hg4,B4⟩:=h4;simp only [Act.put,zA0,zA2,zA1] at hbf;subst hbf;replace Be0:=Be0.bQ hb6;replace ke0s:=ke0s.bQ hb6;replace ke0d:=ke0d.bQ hb6;replace ke0z:=ke0z.bQ hb6;replace ke0:=ke0.bQ hb6;replace zys:=zys.bQ hb6;replace zyd:=zyd.bQ hb6;replace bb:=bb.trans (hb6.mono bb.size);have hsz6:=bb.size;have BA9:=B4;have q3:=zys;have d3:=zyd;refine zH0 (i:=5) rfl rfl rfl rfl rfl rfl (cells:=[.bool (ngB (y).num),.slice Ay (digs 4294967296 (y).num.natAbs).length cy,.slice Dy (digs 4294967296 (y).den).length ey]) rfl BA9 rfl (by kernel_rfl) (zH rfl rfl rfl) fun w7 hg7 BN7 => ?_;replace q3:=off q3 BA9 zC9 hg7;replace d3:=off d3 BA9 zC9 hg7;replace ke0s:=off ke0s BA9 zC9 hg7;replace ke0d:=off ke0d BA9 zC9 hg7;replace ke0z:IsZ w7 (.agg #[.bool (ngB (x).num),.slice Ae0 (digs 4294967296 (x).num.natAbs).length ce0]) ((x).num):=⟨_,rfl,ke0s⟩;replace ke0:IsQ w7 (.agg #[.bool (ngB (x).num),.slice Ae0 (digs 4294967296 (x).num.natAbs).length ce0,.slice De0 (digs 4294967296 (x).den).length ee0]) (x):=⟨_,_,rfl,ke0s,ke0d⟩;replace Be0:=Be0.grown hg7 (by omega);replace bb:=bb.trans ((Below.refl _ _).grown hg7 bb.size (fun g hg=>by injection hg with hg;omega));have hsz7:=bb.size;have By:Blk w7 (g13_4) _ _:=BN7;have kys:=q3;have kyd:=d3;have kyz:IsZ w7 (.agg #[.bool (ngB (y).num),.slice Ay (digs 4294967296 (y).num.natAbs).length cy]) ((y).num):=⟨_,rfl,kys⟩;have ky:IsQ w7 (.agg #[.bool (ngB (y).num),.slice Ay (digs 4294967296 (y).num.natAbs).length cy,.slice Dy (digs 4294967296 (y).den).length ey]) (y):=⟨_,_,rfl,kys,kyd⟩;refine zC4 ?_;obtain ⟨u,hu⟩:∃ u,u=decide (x=y):=⟨_,rfl⟩;have HU:=hQ9 hu;by_cases hxy:x=y
       ·have HA2:Hid (p.take (k+1)=q.take (k+1)):=by show _=_;rw [zQ7 HQ0.out,zQ7 HY.out,HA.out,hxy]
        rw [decide_eq_true hxy] at hu;subst hu;clear hxy;have sB:=bb.size;go_upto_region 7 with (fail);refine zC3 5 [Pd.eq (.func (.func 79) #[] #[]),Pd.eq (.agg #[.bool (ngB (x).num),.slice Ae0 (digs 4294967296 (x).num.natAbs).length ce0,.slice De0 (digs 4294967296 (x).den).length ee0]),Pd.eq (.agg #[.bool (ngB (y).num),.slice Ay (digs 4294967296 (y).num.natAbs).length cy,.slice Dy (digs 4294967296 (y).den).length ey]),Pd.eq (.bool true),Pd.eq (.bool false)] (by kernel_rfl) ?ob14 ?done14
        case ob14 =>
         refine zA (zB8 rfl (zB3 rfl) (zB5 rfl rfl) (fun _ _ h=>h)) ?_;refine zA (zB7 rfl (zB3 rfl) (zB5 rfl rfl) (fun w2 hb=>zF0 underlying83 rfl (by kernel_rfl) (Be0.bQ hb)) (fun _ _=>rfl)) ?_;refine zA (zB7 rfl (zB3 rfl) (zB5 rfl rfl) (fun w2 hb=>zF0 underlying83 rfl (by kernel_rfl) (By.bQ hb)) (fun _ _=>rfl)) ?_;refine zA (qO4 rfl (zB4 (j:=0) (by kernel_rfl) rfl rfl) func79 (by kernel_rfl) (zB3 rfl) (zB4 (j:=1) (by kernel_rfl) rfl rfl) (zB4 (j:=2) (by kernel_rfl) rfl rfl) (fun w2 u0 u1 hb h0 h1=>by obtain rfl:=h0;obtain rfl:=h1;exact (yH _ _ x y true _ (ke0.bQ hb) (ky.bQ hb) HU.out).mono fun e w3 h=>zD3.pd h)) ?_;refine zA (zV6 rfl (zB3 rfl) (zB4 (j:=3) (by kernel_rfl) rfl rfl) (fun _=>zV7 _ _) (fun _=>rfl)) ?_
         trivial
        case done14 =>
         refine fun w9 hb9 v0 h0 v1 h1 v2 h2 v3 h3 v4 h4 b hbf => ?_;obtain rfl:=h0;obtain rfl:=h1;obtain rfl:=h2;obtain rfl:=h3;obtain rfl:=h4;simp only [Act.put,zA0,zA2,zA1] at hbf;subst hbf;replace Be0:=Be0.bQ hb9;replace ke0s:=ke0s.bQ hb9;replace ke0d:=ke0d.bQ hb9;replace ke0z:=ke0z.bQ hb9;replace ke0:=ke0.bQ hb9;replace By:=By.bQ hb9;replace kys:=kys.bQ hb9;replace kyd:=kyd.bQ hb9;replace kyz:=kyz.bQ hb9;replace ky:=ky.bQ hb9;replace bb:=bb.trans (hb9.mono bb.size);have hsz9:=bb.size;refine zC4 ?_;have hsk:p.length-(k+1)<p.length-k:=by omega
         go_wp2;go_roundw;case rel=>exact ⟨k+1,by omega,HA2,bb,by go_num⟩
         case measure=>simp [intOf];omega
       ·have HW:Hid (b=false):=by
         show _=_
         rw [HB.out];refine decide_eq_false fun e => ?_;have h0:=HQ0.out;rw [e,HY.out] at h0;exact hxy (Option.some.inj h0).symm
        rw [decide_eq_false hxy] at hu;subst hu;clear hxy;have sB:=bb.size;go_upto_region 7 with (fail);refine zC3 5 [Pd.eq (.func (.func 79) #[] #[]),Pd.eq (.agg #[.bool (ngB (x).num),.slice Ae0 (digs 4294967296 (x).num.natAbs).length ce0,.slice De0 (digs 4294967296 (x).den).length ee0]),Pd.eq (.agg #[.bool (ngB (y).num),.slice Ay (digs 4294967296 (y).num.natAbs).length cy,.slice Dy (digs 4294967296 (y).den).length ey]),Pd.eq (.bool false),Pd.eq (.bool true)] (by kernel_rfl) ?ob15 ?done15
        case ob15 =>
         refine zA (zB8 rfl (zB3 rfl) (zB5 rfl rfl) (fun _ _ h=>h)) ?_;refine zA (zB7 rfl (zB3 rfl) (zB5 rfl rfl) (fun w2 hb=>zF0 underlying83 rfl (by kernel_rfl) (Be0.bQ hb)) (fun _ _=>rfl)) ?_;refine zA (zB7 rfl (zB3 rfl) (zB5 rfl rfl) (fun w2 hb=>zF0 underlying83 rfl (by kernel_rfl) (By.bQ hb)) (fun _ _=>rfl)) ?_;refine zA (qO4 rfl (zB4 (j:=0) (by kernel_rfl) rfl rfl) func79 (by kernel_rfl) (zB3 rfl) (zB4 (j:=1) (by kernel_rfl) rfl rfl) (zB4 (j:=2) (by kernel_rfl) rfl rfl) (fun w2 u0 u1 hb h0 h1=>by obtain rfl:=h0;obtain rfl:=h1;exact (yH _ _ x y false _ (ke0.bQ hb) (ky.bQ hb) HU.out).mono fun e w3 h=>zD3.pd h)) ?_;refine zA (zV6 rfl (zB3 rfl) (zB4 (j:=3) (by kernel_rfl) rfl rfl) (fun _=>zV7 _ _) (fun _=>rfl)) ?_
         trivial
        case done15 =>
         refine fun w9 hb9 v0 h0 v1 h1 v2 h2 v3 h3 v4 h4 b hbf => ?_;obtain rfl:=h0;obtain rfl:=h1;obtain rfl:=h2;obtain rfl:=h3;obtain rfl:=h4;simp only [Act.put,zA0,zA2,zA1] at hbf;subst hbf;replace Be0:=Be0.bQ hb9;replace ke0s:=ke0s.bQ hb9;replace ke0d:=ke0d.bQ hb9;replace ke0z:=ke0z.bQ hb9;replace ke0:=ke0.bQ hb9;replace By:=By.bQ hb9;replace kys:=kys.bQ hb9;replace kyd:=kyd.bQ hb9;replace kyz:=kyz.bQ hb9;replace ky:=ky.bQ hb9;replace bb:=bb.trans (hb9.mono bb.size);have hsz9:=bb.size;refine zC4 ?_;go_wp2;go_ret;exact ⟨by rw [HW.out];rfl,bb⟩
    ·have HW:Hid (b=true):=by
      show _=_
      rw [HB.out]
      have:=HA.out
      rw [zA7 (by omega),zA7 (by have:=HE.out;omega)] at this;exact decide_eq_true this
     go_wp2;go_ret;exact ⟨by rw [HW.out];rfl,bb⟩
 ·have HNE:Hid ((((p.length:Nat):Int) != ((q.length:Nat):Int))=true):=by show _=_;rw [bne_iff_ne];omega
  have HW:Hid (b=false):=by show _=_;rw [HB.out];exact decide_eq_false fun e=>he (by rw [e])
  clear he;have sB:=bb.size;refine zC3 5 [Pd.eq (.slice A0 p.length c0),Pd.eq (.int .i64 ((p.length:Nat):Int)),Pd.eq (.slice A1 q.length c1),Pd.eq (.int .i64 ((q.length:Nat):Int)),Pd.eq (.bool true)] (by kernel_rfl) ?ob10 ?done10
  case ob10 =>
   refine zA (zB8 rfl (zB3 rfl) (zB5 rfl rfl) (fun _ _ h=>h)) ?_;refine zA (zJ rfl (zB3 rfl) (zB4 (j:=0) (by kernel_rfl) rfl rfl) (fun _ _ hx=>⟨_,by rw [hx];exact zJ0 underlying44 _ _ _ _,rfl⟩)) ?_;refine zA (zB8 rfl (zB3 rfl) (zB5 rfl rfl) (fun _ _ h=>h)) ?_;refine zA (zJ rfl (zB3 rfl) (zB4 (j:=2) (by kernel_rfl) rfl rfl) (fun _ _ hx=>⟨_,by rw [hx];exact zJ0 underlying44 _ _ _ _,rfl⟩)) ?_;refine zA (zE6 rfl (zB3 rfl) (zB4 (j:=1) (by kernel_rfl) rfl rfl) (zB4 (j:=3) (by kernel_rfl) rfl rfl) (fun _ _ _ hx hy=>⟨.bool true,by rw [hx,hy,zY5,HNE.out],rfl⟩)) ?_
   trivial
  case done10 =>
   refine fun w2 hb2 v0 h0 v1 h1 v2 h2 v3 h3 v4 h4 b hbf => ?_;obtain rfl:=h0;obtain rfl:=h1;obtain rfl:=h2;obtain rfl:=h3;obtain rfl:=h4;simp only [Act.put,zA0,zA2,zA1] at hbf;subst hbf;replace bb:=bb.trans (hb2.mono bb.size);have hsz2:=bb.size;refine zC4 ?_;go_wp2;go_ret;exact ⟨by rw [HW.out];rfl,bb⟩
theorem yH7 (a0 a1:Value) (p q:List Rat) (b:Bool) (w:World) (h0:SlF .u64 4294967296 w a0 p) (h1:SlF .u64 4294967296 w a1 q) (hb:b=decide (p=q)) :
  Calls prog 39 #[a0,a1] w (zD3 (.bool b) w):=by
 have bb:Below w.heap.size w w:=Below.refl _ _;have sl0:=h0;obtain ⟨A0,c0,rfl,hc0,hm0⟩:=h0.shape;unfold maxLen at hm0;have sl1:=h1;obtain ⟨A1,c1,rfl,hc1,hm1⟩:=h1.shape;unfold maxLen at hm1;have HB:=hQ9 hb;clear hb
 go_enter func39,ntmps39
 go_upto_region 1 with (fail)
 have hsz0:=bb.size;have k0:=sl0.bQ bb;have k1:=sl1.bQ bb;have sB:=bb.size;refine zC3 4 [Pd.eq (.slice A0 p.length c0),Pd.eq (.slice A1 q.length c1),Pd.eq (.bool b),Pd.eq (.bool b)] (by kernel_rfl) ?ob16 ?done16
 case ob16 =>
  refine zA (zB8 rfl (zB3 rfl) (zB5 rfl rfl) (fun _ _ h=>h)) ?_;refine zA (zB8 rfl (zB3 rfl) (zB5 rfl rfl) (fun _ _ h=>h)) ?_;refine zA (yC3 rfl func78 (by kernel_rfl) (zB3 rfl) (zB4 (j:=0) (by kernel_rfl) rfl rfl) (zB4 (j:=1) (by kernel_rfl) rfl rfl) (yH5 _) (fun w2 u0 u1 u2 hb h0 h1 h2=>by obtain rfl:=h0;obtain rfl:=h1;obtain rfl:=h2;exact (eqf_any _ _ p q b _ (k0.bQ hb) (k1.bQ hb) HB.out).mono fun e w3 h=>zD3.pd h)) ?_;refine zA (zD6 rfl (zB3 rfl) (zB4 (j:=2) (by kernel_rfl) rfl rfl) (fun _ _ h=>h)) ?_
  trivial
 case done16 =>
  refine fun w1 hb1 v0 h0 v1 h1 v2 h2 v3 h3 b hbf => ?_;obtain rfl:=h0;obtain rfl:=h1;obtain rfl:=h2;obtain rfl:=h3;simp only [Act.put,zA0,zA2,zA1] at hbf;subst hbf;replace bb:=bb.trans (hb1.mono bb.size);have hsz1:=bb.size;refine zC4 ?_;go_wp2;go_ret;exact ⟨rfl,bb⟩
theorem qV7 {t:List (List Rat)} {r:List Rat} (h:t[0]?=some r):zC t=r.length:=by
  cases t with
  | nil=>simp at h
  | cons s t =>
    obtain rfl:s=r:=by simpa using h
    rfl
theorem zS9 (a0:Value) (t:List (List Rat)) (w:World) (h0:SlT .u64 4294967296 w a0 t) :
  Calls prog 29 #[a0] w (zD3 (.tuple #[.int .i64 ((t.length:Nat):Int),.int .i64 ((zC t:Nat):Int)]) w):=by
 have bb:Below w.heap.size w w:=Below.refl _ _;have st0:=h0;obtain ⟨A0,c0,rfl,hc0,hm0⟩:=h0.shape;unfold maxLen at hm0
 go_enter func29,ntmps29
 go_upto_region 1 with (fail)
 have hsz0:=bb.size;by_cases hn:t=[]
 ·subst hn;have HE:Hid ((((([]:List (List Rat)).length:Nat):Int) == 0)=true):=rfl;have sB:=bb.size;refine zC3 3 [Pd.eq (.slice A0 ([]:List (List Rat)).length c0),Pd.eq (.int .i64 ((([]:List (List Rat)).length:Nat):Int)),Pd.eq (.bool true)] (by kernel_rfl) ?ob1 ?done1
  case ob1 =>
   refine zA (zB8 rfl (zB3 rfl) (zB5 rfl rfl) (fun _ _ h=>h)) ?_;refine zA (zJ rfl (zB3 rfl) (zB4 (j:=0) (by kernel_rfl) rfl rfl) (fun _ _ hx=>⟨_,by rw [hx];exact zJ0 underlying22 _ _ _ _,rfl⟩)) ?_;refine zA (zE6 rfl (zB3 rfl) (zB4 (j:=1) (by kernel_rfl) rfl rfl) (zF8 _) (fun _ _ _ hx hy=>⟨.bool true,by rw [hx,hy,zM9,HE.out],rfl⟩)) ?_
   trivial
  case done1 =>
   refine fun w12 hb12 v0 h0 v1 h1 v2 h2 b hbf => ?_;obtain rfl:=h0;obtain rfl:=h1;obtain rfl:=h2;simp only [Act.put,zA0,zA2,zA1] at hbf;subst hbf;replace bb:=bb.trans (hb12.mono bb.size);have hsz12:=bb.size;refine zC4 ?_;go_wp2;go_ret2;exact ⟨rfl,bb⟩
 ·have hl0:0<t.length:=List.length_pos_iff.2 hn;obtain ⟨r,hr⟩:∃ r,t[0]?=some r:=⟨_,zA3 hl0⟩;have HE:Hid ((((t.length:Nat):Int) == 0)=false):=by show _=_;rw [beq_eq_false_iff_ne];omega
  have HW:Hid (r.length=zC t):=(qV7 hr).symm;obtain ⟨ad0,rfl⟩:=st0.place hn;obtain ⟨Arr,crr,hir,ewr,srr⟩:=st0.at2 hr;clear hr;have sB:=bb.size;refine zC3 3 [Pd.eq (.slice (some ad0) t.length c0),Pd.eq (.int .i64 ((t.length:Nat):Int)),Pd.eq (.bool false)] (by kernel_rfl) ?ob2 ?done2
  case ob2 =>
   refine zA (zB8 rfl (zB3 rfl) (zB5 rfl rfl) (fun _ _ h=>h)) ?_;refine zA (zJ rfl (zB3 rfl) (zB4 (j:=0) (by kernel_rfl) rfl rfl) (fun _ _ hx=>⟨_,by rw [hx];exact zJ0 underlying22 _ _ _ _,rfl⟩)) ?_;refine zA (zE6 rfl (zB3 rfl) (zB4 (j:=1) (by kernel_rfl) rfl rfl) (zF8 _) (fun _ _ _ hx hy=>⟨.bool false,by rw [hx,hy,zM9,HE.out],rfl⟩)) ?_
   trivial
  case done2 =>
   refine fun w12 hb12 v0 h0 v1 h1 v2 h2 b hbf => ?_;obtain rfl:=h0;obtain rfl:=h1;obtain rfl:=h2;simp only [Act.put,zA0,zA2,zA1] at hbf;subst hbf;replace bb:=bb.trans (hb12.mono bb.size);have hsz12:=bb.size;refine zC4 ?_;have ecr:=(bb.cell (bQ0 w _ ewr)).trans ewr;have sB:=bb.size;go_upto_region 3 with (fail);refine flow 8 [Pd.eq (.slice (some ad0) t.length c0),Pd.eq (.int .i64 ((t.length:Nat):Int)),Pd.eq (.slice (some ad0) t.length c0),Pd.eq (.pointer (some (ad0.add 0))),Pd.eq (.slice Arr r.length crr),Pd.eq (.int .i64 ((r.length:Nat):Int)),Pd.eq (.int .i64 ((t.length:Nat):Int)),Pd.eq (.int .i64 ((r.length:Nat):Int))] (by kernel_rfl) (by kernel_rfl) ?ob3 ?done3
   case ob3 =>
    refine zA (zB8 rfl (zB3 rfl) (zB5 rfl rfl) (fun _ _ h=>h)) ?_;refine zA (zJ rfl (zB3 rfl) (zB4 (j:=0) (by kernel_rfl) rfl rfl) (fun _ _ hx=>⟨_,by rw [hx];exact zJ0 underlying22 _ _ _ _,rfl⟩)) ?_;refine zA (zB8 rfl (zB3 rfl) (zB5 rfl rfl) (fun _ _ h=>h)) ?_;refine zA (zI rfl (zB3 rfl) (zB4 (j:=2) (by kernel_rfl) rfl rfl) (zF8 _) (fun _ _ _ hx hy=>⟨_,by rw [hx,hy];exact qB (k:=0) underlying22 (by kernel_rfl) ad0 hir _,rfl⟩)) ?_;refine zA (zB7 rfl (zB3 rfl) (zB4 (j:=3) (by kernel_rfl) rfl rfl) (fun w2 hb=>zC1 underlying44 rfl ((hb.cell (bQ0 w12 _ ecr)).trans ecr)) (fun _ _=>rfl)) ?_;refine zA (zJ rfl (zB3 rfl) (zB4 (j:=4) (by kernel_rfl) rfl rfl) (fun _ _ hx=>⟨_,by rw [hx];exact zJ0 underlying44 _ _ _ _,rfl⟩)) ?_;refine zA (zD6 rfl (zB3 rfl) (zB4 (j:=1) (by kernel_rfl) rfl rfl) (fun _ _ h=>h)) ?_;refine zA (zD6 rfl (zB3 rfl) (zB4 (j:=5) (by kernel_rfl) rfl rfl) (fun _ _ h=>h)) ?_
    trivial
   case done3 =>
    refine fun w13 hb13 v0 h0 v1 h1 v2 h2 v3 h3 v4 h4 v5 h5 v6 h6 v7 h7 b hbf => ?_;obtain rfl:=h0;obtain rfl:=h1;obtain rfl:=h2;obtain rfl:=h3;obtain rfl:=h4;obtain rfl:=h5;obtain rfl:=h6;obtain rfl:=h7;simp only [Act.put,zA0,zA2,zA1] at hbf;subst hbf;replace bb:=bb.trans (hb13.mono bb.size);have hsz13:=bb.size;refine zG (by kernel_rfl) ?_;go_wp2;go_ret2;exact ⟨by rw [HW.out];rfl,bb⟩
theorem yH8 (a0:Value) (t:List (List Rat)) (w:World) (h0:SlT .i64 10000 w a0 t) :
  Calls prog 12 #[a0] w (zD3 (.int .i64 ((zC t:Nat):Int)) w):=by
 have bb:Below w.heap.size w w:=Below.refl _ _;have st0:=h0;obtain ⟨A0,c0,rfl,hc0,hm0⟩:=h0.shape;unfold maxLen at hm0
 go_enter func12,ntmps12
 go_upto_region 1 with (fail)
 have hsz0:=bb.size;by_cases hn:t=[]
 ·subst hn;have HE:Hid ((((([]:List (List Rat)).length:Nat):Int) == 0)=true):=rfl;have sB:=bb.size;refine zC3 3 [Pd.eq (.slice A0 ([]:List (List Rat)).length c0),Pd.eq (.int .i64 ((([]:List (List Rat)).length:Nat):Int)),Pd.eq (.bool true)] (by kernel_rfl) ?ob4 ?done4
  case ob4 =>
   refine zA (zB8 rfl (zB3 rfl) (zB5 rfl rfl) (fun _ _ h=>h)) ?_;refine zA (zJ rfl (zB3 rfl) (zB4 (j:=0) (by kernel_rfl) rfl rfl) (fun _ _ hx=>⟨_,by rw [hx];exact zJ0 underlying23 _ _ _ _,rfl⟩)) ?_;refine zA (zE6 rfl (zB3 rfl) (zB4 (j:=1) (by kernel_rfl) rfl rfl) (zF8 _) (fun _ _ _ hx hy=>⟨.bool true,by rw [hx,hy,zM9,HE.out],rfl⟩)) ?_
   trivial
  case done4 =>
   refine fun w12 hb12 v0 h0 v1 h1 v2 h2 b hbf => ?_;obtain rfl:=h0;obtain rfl:=h1;obtain rfl:=h2;simp only [Act.put,zA0,zA2,zA1] at hbf;subst hbf;replace bb:=bb.trans (hb12.mono bb.size);have hsz12:=bb.size;refine zC4 ?_;go_wp2;go_ret;exact ⟨rfl,bb⟩
 ·have hl0:0<t.length:=List.length_pos_iff.2 hn;obtain ⟨r,hr⟩:∃ r,t[0]?=some r:=⟨_,zA3 hl0⟩;have HE:Hid ((((t.length:Nat):Int) == 0)=false):=by show _=_;rw [beq_eq_false_iff_ne];omega
  have HW:Hid (r.length=zC t):=(qV7 hr).symm;obtain ⟨ad0,rfl⟩:=st0.place hn;obtain ⟨Arr,crr,hir,ewr,srr⟩:=st0.at2 hr;clear hr;have sB:=bb.size;refine zC3 3 [Pd.eq (.slice (some ad0) t.length c0),Pd.eq (.int .i64 ((t.length:Nat):Int)),Pd.eq (.bool false)] (by kernel_rfl) ?ob5 ?done5
  case ob5 =>
   refine zA (zB8 rfl (zB3 rfl) (zB5 rfl rfl) (fun _ _ h=>h)) ?_;refine zA (zJ rfl (zB3 rfl) (zB4 (j:=0) (by kernel_rfl) rfl rfl) (fun _ _ hx=>⟨_,by rw [hx];exact zJ0 underlying23 _ _ _ _,rfl⟩)) ?_;refine zA (zE6 rfl (zB3 rfl) (zB4 (j:=1) (by kernel_rfl) rfl rfl) (zF8 _) (fun _ _ _ hx hy=>⟨.bool false,by rw [hx,hy,zM9,HE.out],rfl⟩)) ?_
   trivial
  case done5 =>
   refine fun w12 hb12 v0 h0 v1 h1 v2 h2 b hbf => ?_;obtain rfl:=h0;obtain rfl:=h1;obtain rfl:=h2;simp only [Act.put,zA0,zA2,zA1] at hbf;subst hbf;replace bb:=bb.trans (hb12.mono bb.size);have hsz12:=bb.size;refine zC4 ?_;have ecr:=(bb.cell (bQ0 w _ ewr)).trans ewr;have sB:=bb.size;go_upto_region 3 with (fail);refine zC3 5 [Pd.eq (.slice (some ad0) t.length c0),Pd.eq (.pointer (some (ad0.add 0))),Pd.eq (.slice Arr r.length crr),Pd.eq (.int .i64 ((r.length:Nat):Int)),Pd.eq (.int .i64 ((r.length:Nat):Int))] (by kernel_rfl) ?ob6 ?done6
   case ob6 =>
    refine zA (zB8 rfl (zB3 rfl) (zB5 rfl rfl) (fun _ _ h=>h)) ?_;refine zA (zI rfl (zB3 rfl) (zB4 (j:=0) (by kernel_rfl) rfl rfl) (zF8 _) (fun _ _ _ hx hy=>⟨_,by rw [hx,hy];exact qB (k:=0) underlying23 (by kernel_rfl) ad0 hir _,rfl⟩)) ?_;refine zA (zB7 rfl (zB3 rfl) (zB4 (j:=1) (by kernel_rfl) rfl rfl) (fun w2 hb=>zC1 underlying45 rfl ((hb.cell (bQ0 w12 _ ecr)).trans ecr)) (fun _ _=>rfl)) ?_;refine zA (zJ rfl (zB3 rfl) (zB4 (j:=2) (by kernel_rfl) rfl rfl) (fun _ _ hx=>⟨_,by rw [hx];exact zJ0 underlying45 _ _ _ _,rfl⟩)) ?_;refine zA (zD6 rfl (zB3 rfl) (zB4 (j:=3) (by kernel_rfl) rfl rfl) (fun _ _ h=>h)) ?_
    trivial
   case done6 =>
    refine fun w13 hb13 v0 h0 v1 h1 v2 h2 v3 h3 v4 h4 b hbf => ?_;obtain rfl:=h0;obtain rfl:=h1;obtain rfl:=h2;obtain rfl:=h3;obtain rfl:=h4;simp only [Act.put,zA0,zA2,zA1] at hbf;subst hbf;replace bb:=bb.trans (hb13.mono bb.size);have hsz13:=bb.size;refine zC4 ?_;go_wp2;go_ret;exact ⟨by rw [HW.out];rfl,bb⟩
theorem yH9 (a0 a1:Value) (p q:List (List Rat)) (b:Bool) (w:World) (h0:SlT .u64 4294967296 w a0 p) (h1:SlT .u64 4294967296 w a1 q) (hb:b=decide (zC p=q.length)) :
  Calls prog 65 #[a0,a1] w (zD3 (.bool b) w):=by
 have bb:Below w.heap.size w w:=Below.refl _ _;have st0:=h0;obtain ⟨A0,c0,rfl,hc0,hm0⟩:=h0.shape;unfold maxLen at hm0;have st1:=h1;obtain ⟨A1,c1,rfl,hc1,hm1⟩:=h1.shape;unfold maxLen at hm1
 have HB:Hid ((((zC p:Nat):Int) == ((q.length:Nat):Int))=b):=by
  show _=_
  rw [hb];by_cases h:zC p=q.length
  ·rw [decide_eq_true h,h];exact beq_self_eq_true _
  ·rw [decide_eq_false h,beq_eq_false_iff_ne];omega
 clear hb
 go_enter func65,ntmps65
 go_upto_region 1 with (fail)
 have hsz0:=bb.size;have sB:=bb.size;refine zC3 7 [Pd.eq (.slice A0 p.length c0),Pd.eq (.tuple #[.int .i64 ((p.length:Nat):Int),.int .i64 ((zC p:Nat):Int)]),Pd.eq (.tuple #[.int .i64 ((p.length:Nat):Int),.int .i64 ((zC p:Nat):Int)]),Pd.eq (.int .i64 ((p.length:Nat):Int)),Pd.eq (.int .i64 ((zC p:Nat):Int)),Pd.eq (.int .i64 ((p.length:Nat):Int)),Pd.eq (.int .i64 ((zC p:Nat):Int))] (by kernel_rfl) ?ob7 ?done7
 case ob7 =>
  refine zA (zB8 rfl (zB3 rfl) (zB5 rfl rfl) (fun _ _ h=>h)) ?_;refine zA (zE7 rfl func29 (by kernel_rfl) (zB3 rfl) (zB4 (j:=0) (by kernel_rfl) rfl rfl) (fun w2 u0 hb h0=>by obtain rfl:=h0;exact (zS9 _ p _ ((st0.bQ bb).bQ hb)).mono fun e w3 h=>zD3.pd h)) ?_;refine zA (zB8 rfl (zB3 rfl) (zB4 (j:=1) (by kernel_rfl) rfl rfl) (fun _ _ h=>h)) ?_;refine zA (zF9 rfl (zB3 rfl) (zB4 (j:=2) (by kernel_rfl) rfl rfl) (fun w2 u hu=>by obtain rfl:=hu;exact ⟨_,rfl,rfl⟩)) ?_;refine zA (zF9 rfl (zB3 rfl) (zB4 (j:=2) (by kernel_rfl) rfl rfl) (fun w2 u hu=>by obtain rfl:=hu;exact ⟨_,rfl,rfl⟩)) ?_;refine zA (zD6 rfl (zB3 rfl) (zB4 (j:=3) (by kernel_rfl) rfl rfl) (fun _ _ h=>h)) ?_;refine zA (zD6 rfl (zB3 rfl) (zB4 (j:=4) (by kernel_rfl) rfl rfl) (fun _ _ h=>h)) ?_
  trivial
 case done7 =>
  refine fun w11 hb11 v0 h0 v1 h1 v2 h2 v3 h3 v4 h4 v5 h5 v6 h6 b hbf => ?_;obtain rfl:=h0;obtain rfl:=h1;obtain rfl:=h2;obtain rfl:=h3;obtain rfl:=h4;obtain rfl:=h5;obtain rfl:=h6;simp only [Act.put,zA0,zA2,zA1] at hbf;subst hbf;replace bb:=bb.trans (hb11.mono bb.size);have hsz11:=bb.size;refine zC4 ?_;have sB:=bb.size;go_upto_region 2 with (fail);refine zC3 5 [Pd.eq (.int .i64 ((zC p:Nat):Int)),Pd.eq (.slice A1 q.length c1),Pd.eq (.int .i64 ((q.length:Nat):Int)),Pd.eq (.bool b),Pd.eq (.bool b)] (by kernel_rfl) ?ob8 ?done8
  case ob8 =>
   refine zA (zB8 rfl (zB3 rfl) (zB5 rfl rfl) (fun _ _ h=>h)) ?_;refine zA (zB8 rfl (zB3 rfl) (zB5 rfl rfl) (fun _ _ h=>h)) ?_;refine zA (zJ rfl (zB3 rfl) (zB4 (j:=1) (by kernel_rfl) rfl rfl) (fun _ _ hx=>⟨_,by rw [hx];exact zJ0 underlying22 _ _ _ _,rfl⟩)) ?_;refine zA (zE6 rfl (zB3 rfl) (zB4 (j:=0) (by kernel_rfl) rfl rfl) (zB4 (j:=2) (by kernel_rfl) rfl rfl) (fun _ _ _ hx hy=>⟨.bool b,by rw [hx,hy,zM9,HB.out],rfl⟩)) ?_;refine zA (zD6 rfl (zB3 rfl) (zB4 (j:=3) (by kernel_rfl) rfl rfl) (fun _ _ h=>h)) ?_
   trivial
  case done8 =>
   refine fun w12 hb12 v0 h0 v1 h1 v2 h2 v3 h3 v4 h4 b hbf => ?_;obtain rfl:=h0;obtain rfl:=h1;obtain rfl:=h2;obtain rfl:=h3;obtain rfl:=h4;simp only [Act.put,zA0,zA2,zA1] at hbf;subst hbf;replace bb:=bb.trans (hb12.mono bb.size);have hsz12:=bb.size;refine zC4 ?_;go_wp2;go_ret;exact ⟨rfl,bb⟩
theorem eqt_any (a0 a1:Value) (p q:List (List Rat)) (b:Bool) (w:World) (h0:SlT .u64 4294967296 w a0 p) (h1:SlT .u64 4294967296 w a1 q) (hb:b=decide (p=q)) :
  Calls prog 38 #[a0,a1,.func (.func 39) #[] #[]] w (zD3 (.bool b) w):=by
 have bb:Below w.heap.size w w:=Below.refl _ _;have st0:=h0;obtain ⟨A0,c0,rfl,hc0,hm0⟩:=h0.shape;unfold maxLen at hm0;have st1:=h1;obtain ⟨A1,c1,rfl,hc1,hm1⟩:=h1.shape;unfold maxLen at hm1;have HB:=hQ9 hb;clear hb
 go_enter func38,ntmps38
 go_upto_region 1 with (fail)
 have hsz0:=bb.size;by_cases he:p.length=q.length
 ·have HNE:Hid ((((p.length:Nat):Int) != ((q.length:Nat):Int))=false):=by show _=_;rw [bne_eq_false_iff_eq];omega
  have HE:=hQ9 he;clear he;have sB:=bb.size;refine zC3 5 [Pd.eq (.slice A0 p.length c0),Pd.eq (.int .i64 ((p.length:Nat):Int)),Pd.eq (.slice A1 q.length c1),Pd.eq (.int .i64 ((q.length:Nat):Int)),Pd.eq (.bool false)] (by kernel_rfl) ?ob15 ?done15
  case ob15 =>
   refine zA (zB8 rfl (zB3 rfl) (zB5 rfl rfl) (fun _ _ h=>h)) ?_;refine zA (zJ rfl (zB3 rfl) (zB4 (j:=0) (by kernel_rfl) rfl rfl) (fun _ _ hx=>⟨_,by rw [hx];exact zJ0 underlying22 _ _ _ _,rfl⟩)) ?_;refine zA (zB8 rfl (zB3 rfl) (zB5 rfl rfl) (fun _ _ h=>h)) ?_;refine zA (zJ rfl (zB3 rfl) (zB4 (j:=2) (by kernel_rfl) rfl rfl) (fun _ _ hx=>⟨_,by rw [hx];exact zJ0 underlying22 _ _ _ _,rfl⟩)) ?_;refine zA (zE6 rfl (zB3 rfl) (zB4 (j:=1) (by kernel_rfl) rfl rfl) (zB4 (j:=3) (by kernel_rfl) rfl rfl) (fun _ _ _ hx hy=>⟨.bool false,by rw [hx,hy,zY5,HNE.out],rfl⟩)) ?_
   trivial
  case done15 =>
   refine fun w12 hb12 v0 h0 v1 h1 v2 h2 v3 h3 v4 h4 b hbf => ?_;obtain rfl:=h0;obtain rfl:=h1;obtain rfl:=h2;obtain rfl:=h3;obtain rfl:=h4;simp only [Act.put,zA0,zA2,zA1] at hbf;subst hbf;replace bb:=bb.trans (hb12.mono bb.size);have hsz12:=bb.size;refine zC4 ?_;go_wp2
   go_loopw [17] (fun v17 wr => ∃ k:Nat,k<=p.length/\Hid (p.take k=q.take k)/\Below w.heap.size w wr/\v17=.int .i64 (k:Int)) (fun v17 _=>p.length-(intOf v17).toNat)
   case atStart=>exact ⟨0,by omega,rfl,bb,rfl⟩
   case round =>
    obtain ⟨k,hk,HA,hbw,rfl⟩:=hrel;clear bb;have bb:=hbw;clear hbw;have hszr:=bb.size;by_cases hlt:k<p.length
    ·have hlt2:k<q.length:=by have:=HE.out;omega
     have hnp:p≠[]:=List.length_pos_iff.1 (by omega);have hnq:q≠[]:=List.length_pos_iff.1 (by omega);obtain ⟨x,hx⟩:∃ x,p[k]?=some x:=⟨_,zA3 hlt⟩;obtain ⟨y,hy⟩:∃ y,q[k]?=some y:=⟨_,zA3 hlt2⟩;have HX:=hQ9 hx;have HY:=hQ9 hy;obtain ⟨ad0,rfl⟩:=st0.place hnp;obtain ⟨ad1,rfl⟩:=st1.place hnq;obtain ⟨Arx,crx,hix,ewx,srx⟩:=st0.at2 hx;obtain ⟨Ary,cry,hiy,ewy,sry⟩:=st1.at2 hy;clear hx hy;have ecx:=(bb.cell (bQ0 w _ ewx)).trans ewx;have ecy:=(bb.cell (bQ0 w _ ewy)).trans ewy;have sB:=bb.size;go_upto_region 5 with (fail);refine zC3 5 [Pd.eq (.int .i64 (k:Int)),Pd.eq (.pointer (some (ad0.add k))),Pd.eq (.slice Arx x.length crx),Pd.eq (.int .i64 (k:Int)),Pd.eq (.slice Arx x.length crx)] (by kernel_rfl) ?ob16 ?done16
     case ob16 =>
      refine zA (zB8 rfl (zB3 rfl) (zB5 rfl rfl) (fun _ _ h=>h)) ?_;refine zA (zI rfl (zB3 rfl) (zB5 rfl rfl) (zB5 rfl rfl) (fun _ _ _ hx hy=>⟨_,by rw [hx,hy];exact qB (k:=k) underlying22 (by kernel_rfl) ad0 hlt _,rfl⟩)) ?_;refine zA (zB7 rfl (zB3 rfl) (zB4 (j:=1) (by kernel_rfl) rfl rfl) (fun w2 hb=>zC1 underlying44 rfl ((hb.cell (bQ0 wr _ ecx)).trans ecx)) (fun _ _=>rfl)) ?_;refine zA (zD6 rfl (zB3 rfl) (zB4 (j:=0) (by kernel_rfl) rfl rfl) (fun _ _ h=>h)) ?_;refine zA (zD6 rfl (zB3 rfl) (zB4 (j:=2) (by kernel_rfl) rfl rfl) (fun _ _ h=>h)) ?_
      trivial
     case done16 =>
      refine fun w14 hb14 v0 h0 v1 h1 v2 h2 v3 h3 v4 h4 b hbf => ?_;obtain rfl:=h0;obtain rfl:=h1;obtain rfl:=h2;obtain rfl:=h3;obtain rfl:=h4;simp only [Act.put,zA0,zA2,zA1] at hbf;subst hbf;replace bb:=bb.trans (hb14.mono bb.size);have hsz14:=bb.size;refine zC4 ?_;clear ecx ecy;have ecy:=(bb.cell (bQ0 w _ ewy)).trans ewy;have sB:=bb.size;go_upto_region 6 with (fail);refine zC3 5 [Pd.eq (.slice (some ad1) q.length c1),Pd.eq (.int .i64 (k:Int)),Pd.eq (.pointer (some (ad1.add k))),Pd.eq (.slice Ary y.length cry),Pd.eq (.slice Ary y.length cry)] (by kernel_rfl) ?ob17 ?done17
      case ob17 =>
       refine zA (zB8 rfl (zB3 rfl) (zB5 rfl rfl) (fun _ _ h=>h)) ?_;refine zA (zB8 rfl (zB3 rfl) (zB5 rfl rfl) (fun _ _ h=>h)) ?_;refine zA (zI rfl (zB3 rfl) (zB4 (j:=0) (by kernel_rfl) rfl rfl) (zB4 (j:=1) (by kernel_rfl) rfl rfl) (fun _ _ _ hx hy=>⟨_,by rw [hx,hy];exact qB (k:=k) underlying22 (by kernel_rfl) ad1 hlt2 _,rfl⟩)) ?_;refine zA (zB7 rfl (zB3 rfl) (zB4 (j:=2) (by kernel_rfl) rfl rfl) (fun w2 hb=>zC1 underlying44 rfl ((hb.cell (bQ0 w14 _ ecy)).trans ecy)) (fun _ _=>rfl)) ?_;refine zA (zD6 rfl (zB3 rfl) (zB4 (j:=3) (by kernel_rfl) rfl rfl) (fun _ _ h=>h)) ?_
       trivial
      case done17 =>
       refine fun w15 hb15 v0 h0 v1 h1 v2 h2 v3 h3 v4 h4 b hbf => ?_;obtain rfl:=h0;obtain rfl:=h1;obtain rfl:=h2;obtain rfl:=h3;obtain rfl:=h4;simp only [Act.put,zA0,zA2,zA1] at hbf;subst hbf;replace bb:=bb.trans (hb15.mono bb.size);have hsz15:=bb.size;refine zC4 ?_;obtain ⟨u,hu⟩:∃ u,u=decide (x=y):=⟨_,rfl⟩;have HU:=hQ9 hu;by_cases hxy:x=y
       ·have HA2:Hid (p.take (k+1)=q.take (k+1)):=by show _=_;rw [bQ9,bQ9,HX.out,HY.out,HA.out,hxy]
        rw [decide_eq_true hxy] at hu;subst hu;clear hxy;have sB:=bb.size;go_upto_region 7 with (fail);refine zC3 5 [Pd.eq (.func (.func 39) #[] #[]),Pd.eq (.slice Arx x.length crx),Pd.eq (.slice Ary y.length cry),Pd.eq (.bool true),Pd.eq (.bool false)] (by kernel_rfl) ?ob18 ?done18
        case ob18 =>
         refine zA (zB8 rfl (zB3 rfl) (zB5 rfl rfl) (fun _ _ h=>h)) ?_;refine zA (zB8 rfl (zB3 rfl) (zB5 rfl rfl) (fun _ _ h=>h)) ?_;refine zA (zB8 rfl (zB3 rfl) (zB5 rfl rfl) (fun _ _ h=>h)) ?_;refine zA (qO4 rfl (zB4 (j:=0) (by kernel_rfl) rfl rfl) func39 (by kernel_rfl) (zB3 rfl) (zB4 (j:=1) (by kernel_rfl) rfl rfl) (zB4 (j:=2) (by kernel_rfl) rfl rfl) (fun w2 u0 u1 hb h0 h1=>by obtain rfl:=h0;obtain rfl:=h1;exact (yH7 _ _ x y true _ ((srx.bQ bb).bQ hb) ((sry.bQ bb).bQ hb) HU.out).mono fun e w3 h=>zD3.pd h)) ?_;refine zA (zV6 rfl (zB3 rfl) (zB4 (j:=3) (by kernel_rfl) rfl rfl) (fun _=>zV7 _ _) (fun _=>rfl)) ?_
         trivial
        case done18 =>
         refine fun w17 hb17 v0 h0 v1 h1 v2 h2 v3 h3 v4 h4 b hbf => ?_;obtain rfl:=h0;obtain rfl:=h1;obtain rfl:=h2;obtain rfl:=h3;obtain rfl:=h4;simp only [Act.put,zA0,zA2,zA1] at hbf;subst hbf;replace bb:=bb.trans (hb17.mono bb.size);have hsz17:=bb.size;refine zC4 ?_;have hsk:p.length-(k+1)<p.length-k:=by omega
         go_wp2;go_roundw;case rel=>exact ⟨k+1,by omega,HA2,bb,by go_num⟩
         case measure=>simp [intOf];omega
       ·have HW:Hid (b=false):=by
         show _=_
         rw [HB.out];refine decide_eq_false fun e => ?_;have h0:=HX.out;rw [e,HY.out] at h0;exact hxy (Option.some.inj h0).symm
        rw [decide_eq_false hxy] at hu;subst hu;clear hxy;have sB:=bb.size;go_upto_region 7 with (fail);refine zC3 5 [Pd.eq (.func (.func 39) #[] #[]),Pd.eq (.slice Arx x.length crx),Pd.eq (.slice Ary y.length cry),Pd.eq (.bool false),Pd.eq (.bool true)] (by kernel_rfl) ?ob19 ?done19
        case ob19 =>
         refine zA (zB8 rfl (zB3 rfl) (zB5 rfl rfl) (fun _ _ h=>h)) ?_;refine zA (zB8 rfl (zB3 rfl) (zB5 rfl rfl) (fun _ _ h=>h)) ?_;refine zA (zB8 rfl (zB3 rfl) (zB5 rfl rfl) (fun _ _ h=>h)) ?_;refine zA (qO4 rfl (zB4 (j:=0) (by kernel_rfl) rfl rfl) func39 (by kernel_rfl) (zB3 rfl) (zB4 (j:=1) (by kernel_rfl) rfl rfl) (zB4 (j:=2) (by kernel_rfl) rfl rfl) (fun w2 u0 u1 hb h0 h1=>by obtain rfl:=h0;obtain rfl:=h1;exact (yH7 _ _ x y false _ ((srx.bQ bb).bQ hb) ((sry.bQ bb).bQ hb) HU.out).mono fun e w3 h=>zD3.pd h)) ?_;refine zA (zV6 rfl (zB3 rfl) (zB4 (j:=3) (by kernel_rfl) rfl rfl) (fun _=>zV7 _ _) (fun _=>rfl)) ?_
         trivial
        case done19 =>
         refine fun w17 hb17 v0 h0 v1 h1 v2 h2 v3 h3 v4 h4 b hbf => ?_;obtain rfl:=h0;obtain rfl:=h1;obtain rfl:=h2;obtain rfl:=h3;obtain rfl:=h4;simp only [Act.put,zA0,zA2,zA1] at hbf;subst hbf;replace bb:=bb.trans (hb17.mono bb.size);have hsz17:=bb.size;refine zC4 ?_;go_wp2;go_ret;exact ⟨by rw [HW.out];rfl,bb⟩
    ·have HW:Hid (b=true):=by
      show _=_
      rw [HB.out]
      have:=HA.out
      rw [zA7 (by omega),zA7 (by have:=HE.out;omega)] at this;exact decide_eq_true this
     go_wp2;go_ret;exact ⟨by rw [HW.out];rfl,bb⟩
 ·have HNE:Hid ((((p.length:Nat):Int) != ((q.length:Nat):Int))=true):=by show _=_;rw [bne_iff_ne];omega
  have HW:Hid (b=false):=by show _=_;rw [HB.out];exact decide_eq_false fun e=>he (by rw [e])
  clear he;have sB:=bb.size;refine zC3 5 [Pd.eq (.slice A0 p.length c0),Pd.eq (.int .i64 ((p.length:Nat):Int)),Pd.eq (.slice A1 q.length c1),Pd.eq (.int .i64 ((q.length:Nat):Int)),Pd.eq (.bool true)] (by kernel_rfl) ?ob14 ?done14
  case ob14 =>
   refine zA (zB8 rfl (zB3 rfl) (zB5 rfl rfl) (fun _ _ h=>h)) ?_;refine zA (zJ rfl (zB3 rfl) (zB4 (j:=0) (by kernel_rfl) rfl rfl) (fun _ _ hx=>⟨_,by rw [hx];exact zJ0 underlying22 _ _ _ _,rfl⟩)) ?_;refine zA (zB8 rfl (zB3 rfl) (zB5 rfl rfl) (fun _ _ h=>h)) ?_;refine zA (zJ rfl (zB3 rfl) (zB4 (j:=2) (by kernel_rfl) rfl rfl) (fun _ _ hx=>⟨_,by rw [hx];exact zJ0 underlying22 _ _ _ _,rfl⟩)) ?_;refine zA (zE6 rfl (zB3 rfl) (zB4 (j:=1) (by kernel_rfl) rfl rfl) (zB4 (j:=3) (by kernel_rfl) rfl rfl) (fun _ _ _ hx hy=>⟨.bool true,by rw [hx,hy,zY5,HNE.out],rfl⟩)) ?_
   trivial
  case done14 =>
   refine fun w12 hb12 v0 h0 v1 h1 v2 h2 v3 h3 v4 h4 b hbf => ?_;obtain rfl:=h0;obtain rfl:=h1;obtain rfl:=h2;obtain rfl:=h3;obtain rfl:=h4;simp only [Act.put,zA0,zA2,zA1] at hbf;subst hbf;replace bb:=bb.trans (hb12.mono bb.size);have hsz12:=bb.size;refine zC4 ?_;go_wp2;go_ret;exact ⟨by rw [HW.out];rfl,bb⟩
theorem jF2 (a0 a1:Value) (p q:List (List Rat)) (b:Bool) (w:World) (h0:SlT .u64 4294967296 w a0 p) (h1:SlT .u64 4294967296 w a1 q) (hb:b=decide (p=q)) :
  Calls prog 10 #[a0,a1] w (zD3 (.bool b) w):=by
 have bb:Below w.heap.size w w:=Below.refl _ _;have st0:=h0;obtain ⟨A0,c0,rfl,hc0,hm0⟩:=h0.shape;unfold maxLen at hm0;have st1:=h1;obtain ⟨A1,c1,rfl,hc1,hm1⟩:=h1.shape;unfold maxLen at hm1;have HB:=hQ9 hb;clear hb
 go_enter func10,ntmps10
 go_upto_region 1 with (fail)
 have hsz0:=bb.size;have sB:=bb.size;refine zC3 4 [Pd.eq (.slice A0 p.length c0),Pd.eq (.slice A1 q.length c1),Pd.eq (.bool b),Pd.eq (.bool b)] (by kernel_rfl) ?ob20 ?done20
 case ob20 =>
  refine zA (zB8 rfl (zB3 rfl) (zB5 rfl rfl) (fun _ _ h=>h)) ?_;refine zA (zB8 rfl (zB3 rfl) (zB5 rfl rfl) (fun _ _ h=>h)) ?_;refine zA (yC3 rfl func38 (by kernel_rfl) (zB3 rfl) (zB4 (j:=0) (by kernel_rfl) rfl rfl) (zB4 (j:=1) (by kernel_rfl) rfl rfl) (yH5 _) (fun w2 u0 u1 u2 hb h0 h1 h2=>by obtain rfl:=h0;obtain rfl:=h1;obtain rfl:=h2;exact (eqt_any _ _ p q b _ ((st0.bQ bb).bQ hb) ((st1.bQ bb).bQ hb) HB.out).mono fun e w3 h=>zD3.pd h)) ?_;refine zA (zD6 rfl (zB3 rfl) (zB4 (j:=2) (by kernel_rfl) rfl rfl) (fun _ _ h=>h)) ?_
  trivial
 case done20 =>
  refine fun w11 hb11 v0 h0 v1 h1 v2 h2 v3 h3 b hbf => ?_;obtain rfl:=h0;obtain rfl:=h1;obtain rfl:=h2;obtain rfl:=h3;simp only [Act.put,zA0,zA2,zA1] at hbf;subst hbf;replace bb:=bb.trans (hb11.mono bb.size);have hsz11:=bb.size;refine zC4 ?_;go_wp2;go_ret;exact ⟨rfl,bb⟩
theorem jF3 (a0:Value) (g n:Nat) (r:List Rat) (b:Bool) (w:World) (h0:SlF .u64 4294967296 w a0 r) (hB:Blk w g 3 #[.int .i64 (n:Int)]) (hb:b=decide (r.length≠n)) :
  Calls prog 81 #[a0,.pointer (some ⟨g,0,none⟩)] w (zD3 (.bool b) w):=by
 obtain ⟨A,c,rfl,_⟩:=h0.shape;have c0:=hB.cell 0
 have HB:Hid ((((r.length:Nat):Int) != (n:Int))=b):=by
  show _=_
  rw [hb];by_cases h:r.length=n
  ·rw [decide_eq_false (fun k=>k h),h];exact bne_self_eq_false _
  ·rw [decide_eq_true h,bne_iff_ne];omega
 clear hb
 go_enter func81,ntmps81
 go_wp2;go_ret;exact ⟨by rw [<- HB.out];rfl,Below.refl _ _⟩
def RetIdx (b:Bool) (w:World) (e:Ending) (w':World):Prop:=∃ n:Int,e=.returned (.int .i64 n)/\decide (0<=n)=b/\Below w.heap.size w w'
theorem jF4 (a0:Value) (g n:Nat) (t:List (List Rat)) (b:Bool) (w:World) (h0:SlT .u64 4294967296 w a0 t) (hB:Blk w g 3 #[.int .i64 (n:Int)]) (hb:b=decide (∃ r∈t,r.length≠n)) :
  Calls prog 123 #[a0,.func (.func 81) #[] #[.pointer (some ⟨g,0,none⟩)]] w (RetIdx b w):=by
 have st0:=h0;obtain ⟨A,c,rfl,hc,hm⟩:=h0.shape;unfold maxLen at hm;have HB:=hQ9 hb;clear hb
 go_enter func123,ntmps123
 go_wp2
 go_loopw [8] (fun v8 wr => ∃ k:Nat,k<=t.length/\Hid (∀ r∈t.take k,r.length=n)/\Below w.heap.size w wr/\v8=.int .i64 (k:Int)) (fun v8 _=>t.length-(intOf v8).toNat)
 case atStart=>exact ⟨0,by omega,(by show ∀ r∈_,_;intro r hr;simp at hr),Below.refl _ _,rfl⟩
 case round =>
  obtain ⟨k,hk,HA,bb,rfl⟩:=hrel;by_cases hlt:k<t.length
  ·have hnt:t≠[]:=List.length_pos_iff.1 (by omega);obtain ⟨x,hx⟩:∃ x,t[k]?=some x:=⟨_,zA3 hlt⟩;have HX:=hQ9 hx;obtain ⟨ad,rfl⟩:=st0.place hnt;obtain ⟨Ar,cr,hi,ec,sr⟩:=(st0.bQ bb).at2 hx;have hBr:=hB.bQ bb;clear hx;obtain ⟨u,hu⟩:∃ u,u=decide (x.length≠n):=⟨_,rfl⟩
   go_wp2_with fail
   refine (jF3 _ g n x u _ sr hBr hu).mono ?_;rintro e w2 ⟨rfl,b2⟩;have bb2:=bb.trans (b2.mono bb.size);by_cases hxn:x.length=n
   ·obtain rfl:u=false:=by rw [hu];exact decide_eq_false fun k=>k hxn
    have HA2:Hid (∀ r∈t.take (k+1),r.length=n):=by
     show ∀ r∈_,_
     intro r hr;rw [bQ9,HX.out] at hr;rcases List.mem_append.1 hr with hr | hr
     ·exact HA.out r hr
     ·obtain rfl:r=x:=by simpa using hr
      exact hxn
    have hsk:t.length-(k+1)<t.length-k:=by omega
    clear hu ec sr hBr;go_wp2;go_roundw;case rel=>exact ⟨k+1,by omega,HA2,bb2,by go_num⟩
    case measure=>simp [intOf];omega
   ·obtain rfl:u=true:=by rw [hu];exact decide_eq_true hxn
    have HW:Hid (b=true):=by
     show _=_
     rw [HB.out];exact decide_eq_true ⟨x,zA5 HX.out,hxn⟩
    clear hu ec sr hBr;go_wp2;go_ret;exact ⟨(k:Int),rfl,by rw [HW.out];exact decide_eq_true (by omega),bb2⟩
  ·have HW:Hid (b=false):=by
    show _=_
    rw [HB.out];refine decide_eq_false fun h => ?_;obtain ⟨r,hr,hn⟩:=h;have h1:=HA.out;rw [zA7 (by omega)] at h1;exact hn (h1 r hr)
   go_wp2;go_ret;exact ⟨-1,rfl,by rw [HW.out];rfl,bb⟩
theorem jF5 (a0:Value) (g n:Nat) (t:List (List Rat)) (b:Bool) (w:World) (h0:SlT .u64 4294967296 w a0 t) (hB:Blk w g 3 #[.int .i64 (n:Int)]) (hb:b=decide (∃ r∈t,r.length≠n)) :
  Calls prog 80 #[a0,.func (.func 81) #[] #[.pointer (some ⟨g,0,none⟩)]] w (zD3 (.bool b) w):=by
 have st0:=h0;obtain ⟨A,c,rfl,hc,hm⟩:=h0.shape;unfold maxLen at hm
 go_enter func80,ntmps80;go_wp2_with fail
 refine (jF4 _ g n t b _ st0 hB hb).mono ?_;rintro e w2 ⟨m,rfl,hm2,b2⟩;have HM:=hQ9 hm2;clear hm2 hb;go_wp2;go_ret;exact ⟨by rw [<- HM.out];rfl,b2⟩
theorem zW7 (a0:Value) (t:List (List Rat)) (b:Bool) (w:World) (h0:SlT .u64 4294967296 w a0 t) (hb:b=decide (zF5 t)) :
  Calls prog 40 #[a0] w (zD3 (.bool b) w):=by
 have st0:=h0;obtain ⟨A,c,rfl,hc,hm⟩:=h0.shape;unfold maxLen at hm
 have hwl:zC t<=9223372036854775807:=by
  by_cases hn:t=[]
  ·rw [hn];show 0<=_;omega
  ·obtain ⟨r,hr⟩:∃ r,t[0]?=some r:=⟨_,zA3 (List.length_pos_iff.2 hn)⟩;obtain ⟨ad,Ar,cr,_,_,_,sr⟩:=st0.at_ hr;obtain ⟨_,_,e,h1,h2⟩:=sr.shape;unfold maxLen at h2;rw [qV7 hr];omega
 have HB:=hQ9 hb;clear hb
 go_enter func40,ntmps40;go_wp2_with fail
 refine (zS9 _ t _ st0).mono ?_;rintro e w2 ⟨rfl,b2⟩;have st2:=st0.bQ b2;go_upto_region 2 with (fail);have bn:=Blk.new w2 3 #[.int .i64 ((zC t:Nat):Int)];have ba:=zC6 (w:=w2) (zB1 _) (.cells #[.int .i64 ((zC t:Nat):Int)] 3);obtain ⟨g,hg⟩:∃ g,g=w2.heap.size:=⟨_,rfl⟩;obtain ⟨w3,hw3⟩:∃ w3,w3=w2.alloc (.cells #[.int .i64 ((zC t:Nat):Int)] 3):=⟨_,rfl⟩;rw [<- hw3] at bn ba |-;rw [<- hg] at bn |-;have bb:Below w.heap.size w w3:=b2.trans (ba.mono b2.size);have st3:=st0.bQ bb;clear hw3 hg ba b2 st2;have c0:=bn.cell 0;have z0:=bn.frozen 0;by_cases h1:200<t.length
 ·have h1':(200:Int)<((t.length:Nat):Int):=by omega
  have HW:Hid (b=false):=by show _=_;rw [HB.out];exact decide_eq_false fun h=>by have:=h.1;omega
  go_wp2;go_ret;exact ⟨by rw [HW.out];rfl,bb⟩
 ·have h1':¬ (200:Int)<((t.length:Nat):Int):=by omega
  by_cases h2:200<zC t
  ·have h2':(200:Int)<((zC t:Nat):Int):=by omega
   have HW:Hid (b=false):=by show _=_;rw [HB.out];exact decide_eq_false fun h=>by have:=h.2.1;omega
   go_wp2;go_ret;exact ⟨by rw [HW.out];rfl,bb⟩
  ·have h2':¬ (200:Int)<((zC t:Nat):Int):=by omega
   obtain ⟨u,hu⟩:∃ u,u=decide (∃ r∈t,r.length≠zC t):=⟨_,rfl⟩
   have HW:Hid ((!u)=b):=by
    show _=_
    rw [HB.out,hu];by_cases he:zU7 t
    ·rw [decide_eq_true (show zF5 t from ⟨by omega,by omega,he⟩),decide_eq_false fun h=>by obtain ⟨r,hr,hn⟩:=h;exact hn (he r hr)];rfl
    ·have e1:decide (zF5 t)=false:=decide_eq_false fun h=>he h.2.2;have e2:decide (∃ r∈t,r.length≠zC t)=true:=decide_eq_true (bQ1 fun h=>he fun r hr=>bQ1 fun hn=>h ⟨r,hr,hn⟩);rw [e1,e2];rfl
   have HU:=hQ9 hu;clear hu;go_wp2_with fail
   refine (jF5 _ g (zC t) t u _ st3 bn HU.out).mono ?_;rintro e w4 ⟨rfl,b4⟩;have bb4:=bb.trans (b4.mono bb.size);clear c0 z0;go_wp2;go_ret;exact ⟨by rw [<- HW.out];rfl,bb4⟩
theorem zW8 (a0:Value) (t:List (List Rat)) (n:Int) (w:World) (h0:SlT .u64 4294967296 w a0 t) (hn:n=if zF5 t then 0 else 8) :
  Calls prog 11 #[a0] w (zD3 (.int .i64 n) w):=by
 have st0:=h0;obtain ⟨A,c,rfl,hc,hm⟩:=h0.shape;have HN:=hQ9 hn;clear hn
 go_enter func11,ntmps11
 by_cases h:zF5 t
 ·have HW:Hid (n=0):=by show _=_;rw [HN.out,if_pos h]
  go_wp2_with fail
  refine (zW7 _ t true _ st0 (decide_eq_true h).symm).mono ?_;rintro e w2 ⟨rfl,b2⟩;go_wp2;go_ret;exact ⟨by rw [HW.out];rfl,b2⟩
 ·have HW:Hid (n=8):=by show _=_;rw [HN.out,if_neg h]
  go_wp2_with fail
  refine (zW7 _ t false _ st0 (decide_eq_false h).symm).mono ?_;rintro e w2 ⟨rfl,b2⟩;go_wp2;go_ret;exact ⟨by rw [HW.out];rfl,b2⟩
theorem jF6 {k:IntKind} {B:Nat} (w:World) (T:TypeId) {q:Rat} {u t:Value} (h1:IsS w k u (digs B q.num.natAbs)) (h2:IsS w k t (digs B q.den)):SlF k B (w.alloc (.cells #[.bool (ngB q.num),u,t] T)) (.slice (some ⟨w.heap.size,0,none⟩) 1 1) [q]:=by
 have hbb:=zC6 (w:=w) (zB1 _) (.cells #[.bool (ngB q.num),u,t] T);have hB:=Blk.new w T #[.bool (ngB q.num),u,t];refine ⟨[(q,u,t)],rfl,⟨some ⟨w.heap.size,0,none⟩,1,rfl,zB1 _,by unfold maxLen;omega,fun i p hp => ?_⟩,fun p hp => ?_⟩
 ·rcases i with _ | i
  ·obtain rfl:((q,u,t):Elt)=p:=by simpa using hp
   exact ⟨_,_,rfl,hB.cell 0,hB.cell 1,hB.cell 2⟩
  ·simp at hp
 ·obtain rfl:=List.mem_singleton.1 hp;exact ⟨h1.bQ hbb,h2.bQ hbb⟩
section
variable {P:Program} {Q:Exit->Act->World->Prop} {ops:Array Oper} {L:List Oper} {Φ : List Pd} {w0:World} {a0:Act} {i:Nat} {o:Oper}
end
theorem qH6:∃ i,prog.info? 44=some i/\i.zero=some (.slice none 0 0)/\i.size=1/\i.bytes=24:=info_parts (P:=prog) (e:=44) (z:=.slice none 0 0) (size:=1) (bytes:=24) (by kernel_rfl)
theorem qV8:∃ i,prog.info? 45=some i/\i.zero=some (.slice none 0 0)/\i.size=1/\i.bytes=24:=info_parts (P:=prog) (e:=45) (z:=.slice none 0 0) (size:=1) (bytes:=24) (by kernel_rfl)
def qO7 (n:Nat) (w:World) (e:Ending) (w':World):Prop:=∃ g,e=.returned (.slice (some ⟨g,0,none⟩) n n)/\zG1 w' g 44 (zB n (.slice none 0 0))/\w.heap.size<=g/\Below w.heap.size w w'
theorem qO7.pd {n:Nat} {w:World} {e:Ending} {w':World} {B:Nat} (h:qO7 n w e w') (hB:B<=w.heap.size):zH9 (qB8 n 44 B) w e w':=by
 obtain ⟨g,h1,h2,h3,h4⟩:=h;exact ⟨_,h1,⟨g,rfl,h2,zB2 hB h3⟩,h4⟩
theorem yI (a0:Value) (x:Rat) (w:World) (h0:IsQ w a0 x) (hl:zC2 x 100000) :
  Calls prog 145 #[a0] w (RetQ x w):=by
 obtain ⟨u0,t0,rfl,s0,r0⟩:=h0;obtain ⟨A0,c0,rfl,_⟩:=id s0;obtain ⟨D0,e0,rfl,_⟩:=id r0
 go_enter func145,ntmps145
 go_upto_region 1 with (fail)
 obtain ⟨wx,hwx,bb,B0,BR0,hsz⟩:=zI4 w 83 83 #[.bool (ngB (x).num),.slice A0 (digs 4294967296 (x).num.natAbs).length c0,.slice D0 (digs 4294967296 (x).den).length e0] #[.bool false,.slice none 0 0,.slice none 0 0];rw [hwx];clear hwx;have k0s:=s0.bQ bb;have k0d:=r0.bQ bb;have k0z:IsZ wx (.agg #[.bool (ngB (x).num),.slice A0 (digs 4294967296 (x).num.natAbs).length c0]) (x).num:=⟨_,rfl,k0s⟩;have k0:IsQ wx (.agg #[.bool (ngB (x).num),.slice A0 (digs 4294967296 (x).num.natAbs).length c0,.slice D0 (digs 4294967296 (x).den).length e0]) (x):=⟨_,_,rfl,k0s,k0d⟩;have hsz0:=bb.size;have sB:=bb.size;refine flow 12 [Pd.eq (.pointer (some ⟨w.heap.size,0,none⟩)),Pd.eq (.pointer (some ⟨w.heap.size,0,none⟩)),Pd.eq (.bool (ngB (x).num)),Pd.eq (.pointer (some ⟨w.heap.size,0,none⟩)),Pd.eq (.pointer (some ⟨w.heap.size,1,none⟩)),Pd.eq (.slice A0 (digs 4294967296 (x).num.natAbs).length c0),ps .u64 (digs 4294967296 (x).num.natAbs) wx.heap.size,pz ((x).num) wx.heap.size,Pd.eq (.pointer (some ⟨w.heap.size,2,none⟩)),Pd.eq (.slice D0 (digs 4294967296 (x).den).length e0),ps .u64 (digs 4294967296 (x).den) wx.heap.size,pq (x) wx.heap.size] (by kernel_rfl) (by kernel_rfl) ?ob1 ?done1
 case ob1 =>
  refine zA (zB9 rfl (zB3 rfl) (zB5 rfl rfl) (fun _=>by kernel_rfl) (fun _=>rfl)) ?_;refine zA (zB9 rfl (zB3 rfl) (zB4 (j:=0) (by kernel_rfl) rfl rfl) (fun _=>by kernel_rfl) (fun _=>rfl)) ?_;refine zA (zB7 rfl (zB3 rfl) (zB4 (j:=1) (by kernel_rfl) rfl rfl) (fun w2 hb=>zC1 underlying4 rfl ((B0.drew.bQ hb).cell 0)) (fun _ _=>rfl)) ?_;refine zA (zB9 rfl (zB3 rfl) (zB5 rfl rfl) (fun _=>by kernel_rfl) (fun _=>rfl)) ?_;refine zA (zB9 rfl (zB3 rfl) (zB4 (j:=3) (by kernel_rfl) rfl rfl) (fun _=>by kernel_rfl) (fun _=>rfl)) ?_;refine zA (zB7 rfl (zB3 rfl) (zB4 (j:=4) (by kernel_rfl) rfl rfl) (fun w2 hb=>zC1 underlying50 rfl ((B0.drew.bQ hb).cell 1)) (fun _ _=>rfl)) ?_;refine zA (zE7 rfl func106 (by kernel_rfl) (zB3 rfl) (zB4 (j:=5) (by kernel_rfl) rfl rfl) (fun w2 u0 hb h0=>by obtain rfl:=h0;exact (zV3 _ _ _ (k0s.drew.bQ hb) (zB2 hl.1 (by decide))).mono fun e w3 h=>zD1.pd h hb.size)) ?_;refine zA (zK2 rfl (zB3 rfl) (zB4 (j:=2) (by kernel_rfl) rfl rfl) (zB4 (j:=6) (by kernel_rfl) rfl rfl) (fun w2 u v hb hu hv=>by obtain rfl:=hu;obtain ⟨A7,c7,rfl,_⟩:=id hv.1;exact ⟨.agg #[.bool (ngB (x).num),.slice A7 (digs 4294967296 (x).num.natAbs).length c7],by kernel_rfl,⟨_,rfl,hv.1⟩,zL7 hv.2⟩)) ?_;refine zA (zB9 rfl (zB3 rfl) (zB5 rfl rfl) (fun _=>by kernel_rfl) (fun _=>rfl)) ?_;refine zA (zB7 rfl (zB3 rfl) (zB4 (j:=8) (by kernel_rfl) rfl rfl) (fun w2 hb=>zC1 underlying50 rfl ((B0.drew.bQ hb).cell 2)) (fun _ _=>rfl)) ?_;refine zA (zE7 rfl func106 (by kernel_rfl) (zB3 rfl) (zB4 (j:=9) (by kernel_rfl) rfl rfl) (fun w2 u0 hb h0=>by obtain rfl:=h0;exact (zV3 _ _ _ (k0d.drew.bQ hb) (zB2 hl.2 (by decide))).mono fun e w3 h=>zD1.pd h hb.size)) ?_;refine zA (zK2 rfl (zB3 rfl) (zB4 (j:=7) (by kernel_rfl) rfl rfl) (zB4 (j:=10) (by kernel_rfl) rfl rfl) (fun w2 u v hb hu hv=>by obtain ⟨u7,rfl,hu7⟩:=hu.1;obtain ⟨A7,c7,rfl,_⟩:=id hu7;obtain ⟨A8,c8,rfl,_⟩:=id hv.1;exact ⟨.agg #[.bool (ngB (x).num),.slice A7 (digs 4294967296 (x).num.natAbs).length c7,.slice A8 (digs 4294967296 (x).den).length c8],by kernel_rfl,⟨⟨_,_,rfl,hu7,hv.1⟩,zL4 (hu.2 _ _ rfl) hv.2⟩⟩)) ?_
  trivial
 case done1 =>
  refine fun w11 hb11 v0 h0 v1 h1 v2 h2 v3 h3 v4 h4 v5 h5 v6 h6 v7 h7 v8 h8 v9 h9 v10 h10 v11 h11 b hbf => ?_;obtain rfl:=h0;obtain rfl:=h1;obtain rfl:=h2;obtain rfl:=h3;obtain rfl:=h4;obtain rfl:=h5;obtain rfl:=h8;obtain rfl:=h9;obtain ⟨q6,f6⟩:=h6;obtain ⟨q7,f7⟩:=h7;obtain ⟨q10,f10⟩:=h10;obtain ⟨q11,f11⟩:=h11;simp only [Act.put,zA0,zA2,zA1] at hbf;subst hbf;replace B0:=B0.bQ hb11;replace k0s:=k0s.bQ hb11;replace k0d:=k0d.bQ hb11;replace k0z:=k0z.bQ hb11;replace k0:=k0.bQ hb11;replace BR0:=BR0.bQ hb11;replace bb:=bb.trans (hb11.mono bb.size);have hsz11:=bb.size;have s_6:=sB;have s_7:=sB;have s_10:=sB;have s_11:=sB;obtain ⟨u11,t11,rfl,q11,d11⟩:=q11;obtain ⟨A9,c9,rfl,_⟩:=id q11;obtain ⟨D9,e9,rfl,_⟩:=id d11;refine zH7 (i:=12) (by kernel_rfl) rfl rfl rfl rfl rfl rfl (cells:=[.bool (ngB (x).num),.slice A9 (digs 4294967296 (x).num.natAbs).length c9,.slice D9 (digs 4294967296 (x).den).length e9]) rfl BR0 rfl (by kernel_rfl) (zH rfl rfl rfl) fun w9 hg9 B9 => ?_;have k9:=off q11 BR0 zC9 hg9;have d9:=off d11 BR0 zC9 hg9;have f9:=f11.mono (show w.heap.size<=_ from s_11);have bb9:=bb.trans ((Below.refl _ _).grown hg9 bb.size (fun g hg=>by injection hg with hg;omega));obtain ⟨C0,C1,C2,_,_,_⟩:=three B9;refine zG (by kernel_rfl) ?_;go_wp2;exact bodyPost_ret (v:=.agg #[.bool (ngB (x).num),.slice A9 (digs 4294967296 (x).num.natAbs).length c9,.slice D9 (digs 4294967296 (x).den).length e9]) (by simp [results,results145,go_sem,C0,C1,C2]) rfl ⟨_,rfl,⟨_,_,rfl,k9,d9⟩,f9,bb9⟩
theorem qO8 (n:Int) (d:Nat) (w:World) (hn:n=(d:Int)) (hd:d<=1000000) :
  Calls prog 67 #[.int .i64 n] w (qO7 d w):=by
 have bb:Below w.heap.size w w:=Below.refl _ _;subst hn
 go_enter func67,ntmps67
 go_upto_region 1 with (fail)
 have hsz0:=bb.size;have sB:=bb.size;refine zC3 3 [Pd.eq (.int .i64 (d:Int)),qB8 d 44 w.heap.size,qB8 d 44 w.heap.size] (by kernel_rfl) ?ob2 ?done2
 case ob2 =>
  refine zA (zB8 rfl (zB3 rfl) (zB5 rfl rfl) (fun _ _ h=>h)) ?_;refine zA (jE3 d rfl rfl (zB4 (j:=0) (by kernel_rfl) rfl rfl) (zB4 (j:=0) (by kernel_rfl) rfl rfl) underlying22 qH6 (by omega) (fun _ _ h=>h)) ?_;refine zA (zD6 rfl (zB3 rfl) (zB4 (j:=1) (by kernel_rfl) rfl rfl) (fun _ _ h=>h)) ?_
  trivial
 case done2 =>
  refine fun w11 hb11 v0 h0 v1 h1 v2 h2 b hbf => ?_;obtain rfl:=h0;have q1:=h1;have q2:=h2;simp only [Act.put,zA0,zA2,zA1] at hbf;subst hbf;replace bb:=bb.trans (hb11.mono bb.size);have hsz11:=bb.size;refine zC4 ?_;obtain ⟨g,rfl,TB,hg⟩:=q2;go_wp2;go_ret;exact ⟨g,rfl,TB,hg,bb⟩
theorem jF7 (a0 a1:Value) (t:List (List Rat)) (v:List Rat) (m n:Nat) (w:World) (h0:SlT .u64 4294967296 w a0 t) (h1:SlF .u64 4294967296 w a1 v) (he:∀ r∈t,r.length=v.length) (hl:t.length<=1000/\v.length<=1000/\zE0 t m/\(∀ y∈v,zC2 y n)/\(m+n+1)*v.length+1<=4800) :
  Calls prog 113 #[a0,a1] w (RetSl (zP2 t v) w):=by
 have bb:Below w.heap.size w w:=Below.refl _ _;have sl1:=h1;obtain ⟨A1,c1,rfl,hc1,hm1⟩:=h1.shape;unfold maxLen at hm1;have st0:=h0;obtain ⟨A0,c0,rfl,hc0,hm0⟩:=h0.shape;unfold maxLen at hm0;have HL:=hQ9 hl;have HE:=hQ9 he;have ht2:t.length<=1000:=hl.1;have HRL:Hid ((zP2 t v).length=t.length):=jA4 t v;clear hl he
 go_enter func113,ntmps113
 go_upto_region 1 with (fail)
 have hsz0:=bb.size;have sB:=bb.size;refine zC3 4 [Pd.eq (.slice A0 t.length c0),Pd.eq (.int .i64 ((t.length:Nat):Int)),pro t.length [] w.heap.size,pro t.length [] w.heap.size] (by kernel_rfl) ?ob3 ?done3
 case ob3 =>
  refine zA (zB8 rfl (zB3 rfl) (zB5 rfl rfl) (fun _ _ h=>h)) ?_;refine zA (zJ rfl (zB3 rfl) (zB4 (j:=0) (by kernel_rfl) rfl rfl) (fun _ _ hx=>⟨_,by rw [hx];exact zJ0 underlying22 _ _ _ _,rfl⟩)) ?_;refine zA (jE t.length rfl rfl (zB4 (j:=1) (by kernel_rfl) rfl rfl) (zB4 (j:=1) (by kernel_rfl) rfl rfl) underlying44 zQ6 (by omega) (fun _ _ h=>h)) ?_;refine zA (zD6 rfl (zB3 rfl) (zB4 (j:=2) (by kernel_rfl) rfl rfl) (fun _ _ h=>h)) ?_
  trivial
 case done3 =>
  refine fun w11 hb11 v0 h0 v1 h1 v2 h2 v3 h3 b hbf => ?_;obtain rfl:=h0;obtain rfl:=h1;have q2:=h2;have q3:=h3;simp only [Act.put,zA0,zA2,zA1] at hbf;subst hbf;replace bb:=bb.trans (hb11.mono bb.size);have hsz11:=bb.size;refine zC4 ?_;obtain ⟨g,rfl,RN,hg⟩:=q3;have hgw:w.heap.size<=g:=by omega
  go_wp2
  go_loopw [13] (fun v13 wr => ∃ k:Nat,k<=t.length/\zD2 wr g t.length ((zP2 t v).take k)/\Below w.heap.size w wr/\v13=.int .i64 (k:Int)) (fun v13 _=>t.length-(intOf v13).toNat)
  case atStart=>exact ⟨0,by omega,RN,bb,rfl⟩
  case round =>
   obtain ⟨k,hk,hR,hbw,rfl⟩:=hrel;clear RN bb;have RN:=hR;have bb:=hbw;clear hR hbw;have hszr:=bb.size;have hgl:=RN.lt;by_cases hlt:k<t.length
   ·have hnt:t≠[]:=List.length_pos_iff.1 (by omega);obtain ⟨x,hx⟩:∃ x,t[k]?=some x:=⟨_,zA3 hlt⟩;have hxm:=zA5 hx;have HXE:Hid (x.length=v.length):=HE.out x hxm;have HXB:Hid (x.length<=1000/\(∀ y∈x,zC2 y m)/\(∀ y∈v,zC2 y n)/\(m+n+1)*x.length+1<=4800):=⟨by rw [HXE.out];exact HL.out.2.1,HL.out.2.2.1 x hxm,HL.out.2.2.2.1,by rw [HXE.out];exact HL.out.2.2.2.2⟩;have HTK:Hid ((zP2 t v).take (k+1)=(zP2 t v).take k ++ [zI5 x v]):=zQ7 (jA5 hx);have HLK:Hid (k=((zP2 t v).take k).length):=by show _=_;rw [bQ7,HRL.out];omega
    obtain ⟨ad0,rfl⟩:=st0.place hnt;obtain ⟨Arx,crx,hix,ewx,srx⟩:=st0.at2 hx;clear hx hxm;have ecx:=(bb.cell (bQ0 w _ ewx)).trans ewx;have sB:=bb.size;go_upto_region 4 with (fail);refine zC3 5 [Pd.eq (.int .i64 (k:Int)),Pd.eq (.pointer (some (ad0.add k))),Pd.eq (.slice Arx x.length crx),Pd.eq (.int .i64 (k:Int)),Pd.eq (.slice Arx x.length crx)] (by kernel_rfl) ?ob4 ?done4
    case ob4 =>
     refine zA (zB8 rfl (zB3 rfl) (zB5 rfl rfl) (fun _ _ h=>h)) ?_;refine zA (zI rfl (zB3 rfl) (zB5 rfl rfl) (zB5 rfl rfl) (fun _ _ _ hx hy=>⟨_,by rw [hx,hy];exact qB (k:=k) underlying22 (by kernel_rfl) ad0 hlt _,rfl⟩)) ?_;refine zA (zB7 rfl (zB3 rfl) (zB4 (j:=1) (by kernel_rfl) rfl rfl) (fun w2 hb=>zC1 underlying44 rfl ((hb.cell (bQ0 wr _ ecx)).trans ecx)) (fun _ _=>rfl)) ?_;refine zA (zD6 rfl (zB3 rfl) (zB4 (j:=0) (by kernel_rfl) rfl rfl) (fun _ _ h=>h)) ?_;refine zA (zD6 rfl (zB3 rfl) (zB4 (j:=2) (by kernel_rfl) rfl rfl) (fun _ _ h=>h)) ?_
     trivial
    case done4 =>
     refine fun w13 hb13 v0 h0 v1 h1 v2 h2 v3 h3 v4 h4 b hbf => ?_;obtain rfl:=h0;obtain rfl:=h1;obtain rfl:=h2;obtain rfl:=h3;obtain rfl:=h4;simp only [Act.put,zA0,zA2,zA1] at hbf;subst hbf;replace RN:=RN.bQ hb13;replace bb:=bb.trans (hb13.mono bb.size);have hsz13:=bb.size;refine zC4 ?_;clear ecx;have sB:=bb.size;go_upto_region 5 with (fail);refine zC3 9 [Pd.eq (.slice (some ⟨g,0,none⟩) t.length t.length),Pd.eq (.int .i64 (k:Int)),Pd.eq (.slice Arx x.length crx),Pd.eq (.slice A1 v.length c1),pqe ((zI5 x v)) 0,pqe ((zI5 x v)) 0,pqn ((zI5 x v)),Pd.eq (.int .i64 0),Pd.eq (.pointer (some ⟨g,0+k*3,none⟩))] (by kernel_rfl) ?ob5 ?done5
     case ob5 =>
      refine zA (zB8 rfl (zB3 rfl) (zB5 rfl rfl) (fun _ _ h=>h)) ?_;refine zA (zB8 rfl (zB3 rfl) (zB5 rfl rfl) (fun _ _ h=>h)) ?_;refine zA (zB8 rfl (zB3 rfl) (zB5 rfl rfl) (fun _ _ h=>h)) ?_;refine zA (zB8 rfl (zB3 rfl) (zB5 rfl rfl) (fun _ _ h=>h)) ?_;refine zA (zC7 rfl func146 (by kernel_rfl) (zB3 rfl) (zB4 (j:=2) (by kernel_rfl) rfl rfl) (zB4 (j:=3) (by kernel_rfl) rfl rfl) (fun w2 u0 u1 hb h0 h1=>by obtain rfl:=h0;obtain rfl:=h1;exact (jF _ _ x v m n _ ((srx.bQ bb).bQ hb) ((sl1.bQ bb).bQ hb) HXE.out HXB.out).mono fun e w3 h=>zU1.pd h)) ?_;refine zA (zB8 rfl (zB3 rfl) (zB4 (j:=4) (by kernel_rfl) rfl rfl) (fun _ _ h=>h)) ?_;refine zA (zF9 rfl (zB3 rfl) (zB4 (j:=5) (by kernel_rfl) rfl rfl) (fun w2 u hu=>by obtain ⟨v,rfl,q1⟩:=hu;exact ⟨v,rfl,q1⟩)) ?_;refine zA (zF9 rfl (zB3 rfl) (zB4 (j:=5) (by kernel_rfl) rfl rfl) (fun w2 u hu=>by obtain ⟨v,rfl,q1⟩:=hu;exact ⟨_,rfl,rfl⟩)) ?_;refine zA (zI rfl (zB3 rfl) (zB4 (j:=0) (by kernel_rfl) rfl rfl) (zB4 (j:=1) (by kernel_rfl) rfl rfl) (fun _ _ _ hx hy=>⟨_,by rw [hx,hy];exact zG6 (k:=k) underlying44 (by kernel_rfl) hlt _,rfl⟩)) ?_
      trivial
     case done5 =>
      refine fun w14 hb14 v0 h0 v1 h1 v2 h2 v3 h3 v4 h4 v5 h5 v6 h6 v7 h7 v8 h8 b hbf => ?_;obtain rfl:=h0;obtain rfl:=h1;obtain rfl:=h2;obtain rfl:=h3;obtain rfl:=h7;obtain rfl:=h8;clear h4;clear h5;have q6:=h6;simp only [Act.put,zA0,zA2,zA1] at hbf;subst hbf;replace RN:=RN.bQ hb14;replace bb:=bb.trans (hb14.mono bb.size);have hsz14:=bb.size;obtain ⟨u6,t6,rfl,q6,d6⟩:=q6;obtain ⟨A9,c9,rfl,_⟩:=id q6;obtain ⟨D9,e9,rfl,_⟩:=id d6;refine qH1 (j:=9) rfl rfl rfl rfl (g:=g) (i:=k) (q:=(zI5 x v)) rfl rfl (by kernel_rfl) RN hlt q6 d6 fun w15 hg15 hP15 => ?_;replace bb:=bb.trans ((Below.refl _ _).grown hg15 bb.size (fun g hg=>by injection hg with hg;omega));have hsz15:=bb.size;replace RN:=hP15.1 HLK.out;clear hP15;refine zC4 ?_;rw [<- HTK.out] at RN;have hsk:t.length-(k+1)<t.length-k:=by omega
      go_wp2;go_roundw;case rel=>exact ⟨k+1,by omega,RN,bb,by go_num⟩
      case measure=>simp [intOf];omega
   ·rw [zA7 (by rw [HRL.out];omega)] at RN;have hS:=RN.sl HRL.out (by omega);clear RN;go_wp2;go_ret;exact ⟨_,rfl,hS,bb⟩
end rat
namespace flow
open Go.RowKit num mem whl rat
section
variable {P:Program} {Q:Exit->Act->World->Prop} {ops:Array Oper} {o:Oper} {i:Nat}
theorem jF8 {rest:List Nat} {a:Act} {w:World} (s x:Operand) {t:TypeId} (ho:ops[i]?=some o) (hg:o.guard=none) (hop:o.op=.call { callee:=.builtin .append,args:=#[s,x],argTypes:=#[t,t] })
  {base:Nat} {T:TypeId} (hT:P.underlying t=some (.slice T)) (hI:∃ i,P.info? T=some i/\i.zero=some (.agg #[.bool false,.slice none 0 0,.slice none 0 0])/\i.size=3/\i.bytes=56) {v:Value} {p:Elt} {ps:List Elt} (hs:a.eval s=v) (hown:zD0 T w base v ps) {ad:Addr} {c:Nat} (hx:a.eval x=.slice (some ad) 1 c)
  (h0:w.cell? (ad.add 0)=some (.bool (ngB p.1.num))) (h1:w.cell? (ad.add 1)=some p.2.1) (h2:w.cell? (ad.add 2)=some p.2.2) (k1:p.2.1.oneCell'=true) (k2:p.2.2.oneCell'=true) (hlen:ps.length<=1000000000) (hbase:base<=w.heap.size)
  (h:∀ v' w' b,zD0 T w' base v' (ps ++ [p])->Below base w w'->Hid (zH5 w w' v v')->a.put o.dst v'=b->wpOps P ops Q rest b w'):wpOps P ops Q (i :: rest) a w :=
 qL3 ho hg (qT2 s x hop hT hI hs hown hx h0 h1 h2 k1 k2 hlen hbase fun v' w' r b k=>h v' w' _ r b k rfl)
end
end flow
namespace rat
open Go.RowKit num mem nat txt str flow whl
theorem zH5.trans {w w1 w2:World} {v v1 v2:Value} (h:zH5 w w1 v v1) (k:zH5 w1 w2 v1 v2):zH5 w w2 v v2:=by
 obtain ⟨a1,a2,a3⟩:=h;obtain ⟨b1,b2,b3⟩:=k;refine ⟨fun q u l hu hf => ?_,⟨b2.os.trans a2.os,b2.tape.trans a2.tape,b2.output.trans a2.output,zB2 a2.size b2.size,fun i hi hne => ?_⟩,fun g hg hne=>b3 g (bY2 hg a2.size) (a3 g hg hne)⟩
 ·have x:=a1 q u l hu hf;exact b1 q u l x.1 x.2
 ·rw [b2.block i (bY2 hi a2.size) (fun e=>a3 i hi (fun e2=>hne e2.symm) e.symm),a2.block i hi hne]
theorem zH5.of_below {w w1:World} (v:Value) (h:Below w.heap.size w w1):zH5 w w1 v v :=
 ⟨fun q u l hu hf=>⟨hu.bQ h,hf⟩,⟨h.os,h.tape,h.output,h.size,fun i hi _=>h.block i hi⟩,fun g _ hne=>hne⟩
theorem zI6.far {B:Nat} {ps:List Elt} (h:zI6 B ps) {v:Value} (hv:∀ g,v.ownBlock=some g->g<B):∀ p∈ps,Far v p.2.1/\Far v p.2.2:=fun p hp=>⟨(h p hp).1.far hv,(h p hp).2.far hv⟩
theorem TabO.mid {k:IntKind} {B:Nat} {T:TypeId} {w w1:World} {base g n c i:Nat} {TS:TypeId} {us:List Value} {pss:List (List Elt)} {u u':Value} {ps:List Elt} (hT:T≠TS) (h:TabO k B T w base TS (.slice (some ⟨g,0,none⟩) n c) us pss) (hu:us[i]?=some u) (hps:pss[i]?=some ps) (hgr:zH5 w w1 u u'):zD w1 base TS (.slice (some ⟨g,0,none⟩) n c) us :=
 World.ownsRow.kept (row:=u.ownBlock) h.row hgr.2.1 (.inr fun e=>(h.own i u ps hu hps).notRow h.row hT g e.symm rfl)
def RetApp (T:TypeId) (base:Nat) (a0:Value) (ps:List Elt) (r:List Rat) (w:World) (e:Ending) (w':World):Prop:=∃ u new,e=.returned u/\zD0 T w' base u (ps ++ new)/\new.map (·.1)=r/\zH5 w w' a0 u/\zG3 .u64 4294967296 w' u new/\zI6 w.heap.size new/\Below base w w'
theorem jF9 (a0 a1:Value) (ps:List Elt) (r:List Rat) (w W:World) (h0:zD0 83 W w.heap.size a0 ps) (h1:SlF .u64 4294967296 w a1 r) (hb:Below w.heap.size w W) (hl:ps.length<=1000/\r.length<=1000 /\ ∀ x∈r,zC2 x 100000) :
  Calls prog 111 #[a0,a1] W (RetApp 83 w.heap.size a0 ps r W):=by
 have bb:Below w.heap.size w w:=Below.refl _ _;have sl1:=h1;obtain ⟨A1,c1,rfl,hc1,hm1⟩:=h1.shape;unfold maxLen at hm1;have r0:=h0;obtain ⟨A0,c0,rfl,hc0,hm0,_⟩:=h0.isVF;have hbase:w.heap.size<=W.heap.size:=hb.size;have hbl:=h0.base_le;have HL:=hQ9 hl;have hps:ps.length<=1000:=hl.1;have hr2:r.length<=1000:=hl.2.1;clear bb hl h0;have bb:Below w.heap.size w W:=hb;have bW:Below W.heap.size W W:=Below.refl _ _
 go_enter func111,ntmps111
 go_upto_region 1 with (fail)
 have hsz0:=bb.size;have sB:=bb.size;refine zC3 3 [Pd.eq (.slice A1 r.length c1),Pd.eq (.int .i64 ((r.length:Nat):Int)),Pd.eq (.int .i64 0)] (by kernel_rfl) ?ob1 ?done1
 case ob1 =>
  refine zA (zB8 rfl (zB3 rfl) (zB5 rfl rfl) (fun _ _ h=>h)) ?_;refine zA (zJ rfl (zB3 rfl) (zB4 (j:=0) (by kernel_rfl) rfl rfl) (fun _ _ hx=>⟨_,by rw [hx];exact zJ0 underlying44 _ _ _ _,rfl⟩)) ?_;refine zA (zB8 rfl (zB3 rfl) (zF8 _) (fun _ _ h=>h)) ?_
  trivial
 case done1 =>
  refine fun w11 hb11 v0 h0 v1 h1 v2 h2 b hbf => ?_;obtain rfl:=h0;obtain rfl:=h1;obtain rfl:=h2;simp only [Act.put,zA0,zA2,zA1] at hbf;subst hbf;replace bb:=bb.trans (hb11.mono bb.size);have hsz11:=bb.size;replace bW:=bW.trans (hb11.mono bW.size);refine zC4 ?_;go_wp2
  go_loopw [0,9] (fun v0 v9 wr => ∃ (k:Nat) (new:List Elt),k<=r.length/\zD0 83 wr w.heap.size v0 (ps ++ new)/\Hid (new.map (·.1)=r.take k)/\Hid (zH5 W wr (.slice A0 ps.length c0) v0)/\zG3 .u64 4294967296 wr v0 new/\zI6 W.heap.size new/\Below w.heap.size w wr/\v9=.int .i64 (k:Int)) (fun _ v9 _=>r.length-(intOf v9).toNat)
  case atStart=>exact ⟨0,[],by omega,by rw [List.append_nil];exact r0.bQ bW,rfl,zH5.of_below _ bW,zG3.nil _ _ _ _,zI6.nil _,bb,rfl⟩
  case round =>
   obtain ⟨k,new,hk,hR,HM,HG,hF,hN,hbw,rfl⟩:=hrel;clear bb bW;have bb:=hbw;clear hbw;have hszr:=bb.size;have hsW:W.heap.size<=wr.heap.size:=HG.out.2.1.size;by_cases hlt:k<r.length
   ·have bl:Below wr.heap.size wr wr:=Below.refl _ _;obtain ⟨AR,cR,hAR,_⟩:=hR.isVF;subst hAR;obtain ⟨x,hq1_⟩:∃ x,r[k]?=some x:=⟨_,zA3 hlt⟩;obtain ⟨g1_,o1_,ue1,te1,hA1_,_,e10,e11,e12,es1,ed1⟩:=(sl1.bQ bb).at_ hq1_;subst hA1_;have HQ1:=hQ9 hq1_;clear hq1_;obtain ⟨Ae1,ce1,rfl,_⟩:=id es1;obtain ⟨De1,ee1,rfl,_⟩:=id ed1;have ke1:IsQ wr (.agg #[.bool (ngB x.num),.slice Ae1 (digs 4294967296 x.num.natAbs).length ce1,.slice De1 (digs 4294967296 x.den).length ee1]) x:=⟨_,_,rfl,es1,ed1⟩;have lx:zC2 x 100000:=HL.out.2.2 x (zA5 HQ1.out)
    have HNL:Hid (new.length=k):=by
     have h:=congrArg List.length HM.out;rw [zA9,bQ7] at h;show _=_
     omega
    have sB:=bb.size;go_upto_region 3 with (fail);refine zC3 3 [Pd.eq (.pointer (some ⟨g1_,o1_+k*3,none⟩)),Pd.eq (.agg #[.bool (ngB x.num),.slice Ae1 (digs 4294967296 x.num.natAbs).length ce1,.slice De1 (digs 4294967296 x.den).length ee1]),pn 83 #[.bool false,.slice none 0 0,.slice none 0 0] wr.heap.size] (by kernel_rfl) ?ob2 ?done2
    case ob2 =>
     refine zA (zI rfl (zB3 rfl) (zB5 rfl rfl) (zB5 rfl rfl) (fun _ _ _ hx hy=>⟨_,by rw [hx,hy];exact zG6 underlying44 (by kernel_rfl) hlt _,rfl⟩)) ?_;refine zA (zB7 rfl (zB3 rfl) (zB4 (j:=0) (by kernel_rfl) rfl rfl) (fun w2 hb=>zM1 underlying83 rfl (by kernel_rfl) ((hb.cell (bQ0 wr _ e10)).trans e10) ((hb.cell (bQ0 wr _ e11)).trans e11) ((hb.cell (bQ0 wr _ e12)).trans e12)) (fun _ _=>rfl)) ?_;refine zA (zL3 (z:=.agg #[.bool false,.slice none 0 0,.slice none 0 0]) rfl rfl (fun _=>by kernel_rfl) (fun _ _ hB h=>⟨_,rfl,hB,h⟩)) ?_
     trivial
    case done2 =>
     refine fun w13 hb13 v0 h0 v1 h1 v2 h2 d2 b hbf => ?_;obtain rfl:=h0;obtain rfl:=h1;obtain ⟨g2_2,rfl,hg2,B2⟩:=h2;simp only [Act.put,zA0,zA2,zA1] at hbf;subst hbf;replace es1:=es1.bQ hb13;replace ed1:=ed1.bQ hb13;replace bb:=bb.trans (hb13.mono bb.size);have hsz13:=bb.size;replace bl:=bl.trans (hb13.mono bl.size);have BA6:=B2;have q1:=es1;have d1:=ed1;refine zH0 (i:=3) rfl rfl rfl rfl rfl rfl (cells:=[.bool (ngB (x).num),.slice Ae1 (digs 4294967296 (x).num.natAbs).length ce1,.slice De1 (digs 4294967296 (x).den).length ee1]) rfl BA6 rfl (by kernel_rfl) (zH rfl rfl rfl) fun w14 hg14 BN14 => ?_;replace q1:=off q1 BA6 zC9 hg14;replace d1:=off d1 BA6 zC9 hg14;replace bb:=bb.trans ((Below.refl _ _).grown hg14 bb.size (fun g hg=>by injection hg with hg;omega));have hsz14:=bb.size;have Be1:Blk w14 (g2_2) _ _:=BN14;have ke1s:=q1;have ke1d:=d1;have ke1z:IsZ w14 (.agg #[.bool (ngB (x).num),.slice Ae1 (digs 4294967296 (x).num.natAbs).length ce1]) ((x).num):=⟨_,rfl,ke1s⟩;have ke1:IsQ w14 (.agg #[.bool (ngB (x).num),.slice Ae1 (digs 4294967296 (x).num.natAbs).length ce1,.slice De1 (digs 4294967296 (x).den).length ee1]) (x):=⟨_,_,rfl,ke1s,ke1d⟩;refine zC4 ?_;replace bl:=bl.trans ((Below.refl _ _).grown hg14 bl.size (fun g hg=>by injection hg with hg;omega));have nR:=(hR.bQ bl).under;have hsl:=bl.size;have sB:=bb.size;go_upto_region 4 with (fail);refine zC3 4 [Pd.eq (.slice AR (ps ++ new).length cR),Pd.eq (.agg #[.bool (ngB (x).num),.slice Ae1 (digs 4294967296 (x).num.natAbs).length ce1,.slice De1 (digs 4294967296 (x).den).length ee1]),pq (x) w14.heap.size,pone (pq (x) w14.heap.size)] (by kernel_rfl) ?ob3 ?done3
     case ob3 =>
      refine zA (zB8 rfl (zB3 rfl) (zB5 rfl rfl) (fun _ _ h=>h)) ?_;refine zA (zB7 rfl (zB3 rfl) (zB5 rfl rfl) (fun w2 hb=>zF0 underlying83 rfl (by kernel_rfl) (Be1.bQ hb)) (fun _ _=>rfl)) ?_;refine zA (zE7 rfl func145 (by kernel_rfl) (zB3 rfl) (zB4 (j:=1) (by kernel_rfl) rfl rfl) (fun w2 u0 hb h0=>by obtain rfl:=h0;exact (yI _ x _ (ke1.bQ hb) lx).mono fun e w3 h=>RetQ.pd h hb.size)) ?_;refine zA (qV (φ:=pq (x) w14.heap.size) rfl rfl (zB4 (j:=2) (by kernel_rfl) rfl rfl) underlying44 zQ6 (fun w v h=>⟨h,by obtain ⟨⟨u,t,rfl,hu,ht⟩,_⟩:=h;obtain ⟨_,_,rfl,_⟩:=id hu;obtain ⟨_,_,rfl,_⟩:=id ht;exact ⟨_,_,_,rfl,rfl,rfl,rfl⟩⟩) (fun _ _ h=>h)) ?_
      trivial
     case done3 =>
      refine fun w15 hb15 v0 h0 v1 h1 v2 h2 v3 h3 b hbf => ?_;obtain rfl:=h0;obtain rfl:=h1;obtain ⟨q2,f2⟩:=h2;obtain ⟨g3_,x3,y3,z3,rfl,c30,c31,c32,K3⟩:=h3;simp only [Act.put,zA0,zA2,zA1] at hbf;subst hbf;replace Be1:=Be1.bQ hb15;replace ke1s:=ke1s.bQ hb15;replace ke1d:=ke1d.bQ hb15;replace ke1z:=ke1z.bQ hb15;replace ke1:=ke1.bQ hb15;replace bb:=bb.trans (hb15.mono bb.size);have hsz15:=bb.size;replace bl:=bl.trans (hb15.mono bl.size);have s_2:=sB;have hR4:=hR.bQ bl;have hF4:=hF.bQ bl;have hsz4:=bb.size;have HL8:Hid ((ps ++ new).length<=1000000000):=by show _<=_;rw [zA8,HNL.out];omega
      obtain ⟨⟨uE,tE,eE,sE,dE⟩,fE⟩:=K3;obtain ⟨rfl,rfl,rfl⟩:x3=.bool (ngB (x).num)/\y3=uE/\z3=tE:=by injection eE with eE;simpa using eE
      clear eE;obtain ⟨AE,cE,rfl,_⟩:=id sE;obtain ⟨DE,rE,rfl,_⟩:=id dE;refine jF8 (i:=4) (.tmp 13) (.tmp 16) rfl rfl rfl underlying44 zQ6 (p:=(x,.slice AE (digs 4294967296 (x).num.natAbs).length cE,.slice DE (digs 4294967296 (x).den).length rE)) (ps:=(ps ++ new)) rfl hR4 rfl c30 c31 c32 rfl rfl HL8.out hsz4 fun v8 w8 b8 row8 bb8 HK8 hb8 => ?_;simp only [Act.put,zA0,zA2,zA1] at hb8;subst hb8;have EC:IsE .u64 4294967296 w15 ((x,.slice AE (digs 4294967296 (x).num.natAbs).length cE,.slice DE (digs 4294967296 (x).den).length rE):Elt):=⟨sE,dE⟩;have F8:=hF4.snoc HK8.out.1 EC ((fE _ _ _ rfl).1.far nR) ((fE _ _ _ rfl).2.far nR);have NN8:=hN.snoc ((fE _ _ _ rfl).1.mono (show W.heap.size<=_ by omega)) ((fE _ _ _ rfl).2.mono (show W.heap.size<=_ by omega)) (p:=(x,.slice AE (digs 4294967296 (x).num.natAbs).length cE,.slice DE (digs 4294967296 (x).den).length rE));refine zQ4 (i:=5) (v8) rfl rfl rfl rfl rfl fun b hbf => ?_;simp only [Act.put,zA0,zA2,zA1] at hbf;subst hbf;refine zC4 ?_
      have HM8:Hid ((new ++ [((x,.slice AE (digs 4294967296 (x).num.natAbs).length cE,.slice DE (digs 4294967296 (x).den).length rE):Elt)]).map (·.1)=r.take (k+1)):=by
       show _=_
       rw [bX5,HM.out,zQ7 HQ1.out]
       rfl
      have HG8:Hid (zH5 W w8 (.slice A0 ps.length c0) v8):=(HG.out.trans (zH5.of_below _ bl)).trans HK8.out;have b8:=bb.trans bb8;rw [List.append_assoc] at row8;clear HK8 EC fE hR hF hR4 hF4 hN;have hsk:r.length-(k+1)<r.length-k:=by omega
      go_wp2;go_roundw;case rel=>exact ⟨k+1,_,by omega,row8,HM8,HG8,F8,NN8,b8,by go_num⟩
      case measure=>simp [intOf];omega
   ·have HME:Hid (new.map (·.1)=r):=by show _=_;rw [HM.out,zA7 (by omega)]
    have hbW:Below w.heap.size W wr:=(Below.refl _ W).grown HG.out.2.1 hbase hbl;clear HM;go_wp2;go_ret;exact ⟨_,new,rfl,hR,HME.out,HG.out,hF,hN,hbW⟩
abbrev zP6 (w:World) (base:Nat) (V:Value) (us:List Value) (pss:List (List Elt)):Prop:=TabO .u64 4294967296 83 w base 44 V us pss
def RetJoin (base g n c:Nat) (J:List (List Rat)) (w:World) (e:Ending) (w':World):Prop:=∃ us pss,e=.returned (.slice (some ⟨g,0,none⟩) n c)/\zP6 w' base (.slice (some ⟨g,0,none⟩) n c) us pss/\zE pss=J/\us.length=n/\Below base w w'
theorem yI0 (g n c:Nat) (a1:Value) (us:List Value) (pss:List (List Elt)) (t:List (List Rat)) (w W:World) (h0:zP6 W w.heap.size (.slice (some ⟨g,0,none⟩) n c) us pss) (h1:SlT .u64 4294967296 w a1 t) (hb:Below w.heap.size w W) (hu:us.length=n) (ht:t.length=n) (hgw:w.heap.size<=g)
  (hl:(∀ r∈zE pss,r.length<=1000)/\(∀ r∈t,r.length<=1000)/\zE0 t 100000) :
  Calls prog 66 #[.slice (some ⟨g,0,none⟩) n c,a1] W (RetJoin w.heap.size g n c (zD4 (zE pss) t) W):=by
 have st1:=h1;obtain ⟨A1,c1,rfl,hc1,hm1⟩:=h1.shape;unfold maxLen at hm1;have HL:=hQ9 hl;have HTN:=hQ9 ht;have HUN:=hQ9 hu;have HPT:Hid ((zE pss).length=t.length):=by show _=_;rw [qH3,<- h0.len,hu,ht]
 clear hl ht hu
 go_enter func66,ntmps66
 go_wp2
 go_loopw [9] (fun v9 wr => ∃ (k:Nat) (us':List Value) (pss':List (List Elt)),k<=t.length/\zP6 wr w.heap.size (.slice (some ⟨g,0,none⟩) n c) us' pss'/\Hid (zE pss'=jst (zE pss) t k)/\us'.length=n/\Below w.heap.size W wr/\v9=.int .i64 (k:Int)) (fun v9 _=>t.length-(intOf v9).toNat)
 case atStart=>exact ⟨0,us,pss,by omega,h0,by show _=_;rw [jA1],HUN.out,Below.refl _ _,rfl⟩
 case round =>
  obtain ⟨k,us',pss',hk,hT,HJ,hul,hbW,rfl⟩:=hrel;have HUL:=hQ9 hul;clear hul;have bb:Below w.heap.size w wr:=hb.trans hbW;by_cases hlt:k<t.length
  ·have hnt:t≠[]:=List.length_pos_iff.1 (by omega);obtain ⟨x,hx⟩:∃ x,t[k]?=some x:=⟨_,zA3 hlt⟩;have HX:=hQ9 hx;have hxm:=zA5 hx;obtain ⟨ad,rfl⟩:=st1.place hnt;obtain ⟨Ax,cx,hi,ewx,srx⟩:=st1.at2 hx;have ecx:=(bb.cell (bQ0 w _ ewx)).trans ewx;have hkn:k<n:=by have:=HTN.out;omega
   obtain ⟨u,hu'⟩:∃ u,us'[k]?=some u:=⟨_,zA3 (by have:=HUL.out;omega)⟩;obtain ⟨ps,hps⟩:∃ ps,pss'[k]?=some ps:=⟨_,zA3 (by rw [<- hT.len];have:=HUL.out;omega)⟩;have HU:=hQ9 hu';have HPS:=hQ9 hps;obtain ⟨p,hp⟩:∃ p,(zE pss)[k]?=some p:=⟨_,zA3 (by rw [HPT.out];exact hlt)⟩
   have HP:Hid (ps.map (·.1)=p):=by
    have h2:=qV5 hps;rw [HJ.out,jst_at HPT.out hp] at h2;exact (Option.some.inj h2).symm
   have HJ2:Hid ((jst (zE pss) t k).set k (p ++ x)=jst (zE pss) t (k+1)):=jst_set HPT.out hp hx
   have hpl:ps.length<=1000:=by
    have h2:=congrArg List.length HP.out;rw [zA9] at h2;rw [h2];exact HL.out.1 p (zA5 hp)
   have hown:=hT.own k u ps hu' hps;have lxl:x.length<=1000:=HL.out.2.1 x hxm;have lx:∀ y∈x,zC2 y 100000:=HL.out.2.2 x hxm;have hcell:=hT.cell hu';obtain ⟨Au,cu,eu,hcu⟩:=hown.isVF;subst eu;have HT:=hQ9 hT;clear hx hxm hu' hps hp hT;go_wp2_with fail
   refine (jF9 _ _ ps x w wr hown srx bb ⟨hpl,lxl,lx⟩).mono ?_;rintro e w2 ⟨u2,new,rfl,hrow,hmap,hgr,hfar,hnew,b2⟩;have hV:=HT.out.mid (by decide) HU.out HPS.out hgr;have hc2:=hV.cellAt HU.out;have hf2:=hV.frozenAt k
   have hT2:=HT.out.put (by decide) HU.out HPS.out hrow hgr hfar (fun v hv q hq=>by
    have h2:=HT.out.farNew ((hnew q hq).1);have h3:=HT.out.farNew ((hnew q hq).2);exact ⟨h2.1 v hv,h3.1 v hv⟩) (fun q hq=>⟨(HT.out.farNew ((hnew q hq).1)).2,(HT.out.farNew ((hnew q hq).2)).2⟩)
   obtain ⟨A2,c2,e2,hc2'⟩:=hrow.isVF;rw [zA8] at e2;subst e2
   have HJ3:Hid (zE (pss'.set k (ps ++ new))=jst (zE pss) t (k+1)):=by
    show _=_
    rw [qV4,HJ.out,bX5,HP.out,hmap,HJ2.out]
   have hul2:(us'.set k (.slice A2 (ps.length+new.length) c2)).length=n:=by rw [bQ5];exact HUL.out
   have hb3:=(hbW.trans b2).setCell (p:=⟨g,k,none⟩) hgw (.slice A2 (ps.length+new.length) c2);have hsk:t.length-(k+1)<t.length-k:=by omega
   clear hrow hgr hfar hnew hV hown ecx hcell;go_wp2;go_roundw;case rel=>exact ⟨k+1,_,_,by omega,hT2,HJ3,hul2,hb3,by go_num⟩
   case measure=>simp [intOf];omega
  ·have HJE:Hid (zE pss'=zD4 (zE pss) t):=by show _=_;rw [HJ.out,jA2 HPT.out (by omega)]
   go_wp2;go_ret;exact ⟨us',pss',rfl,hT,HJE.out,HUL.out,hbW⟩
theorem yI1 (a0:Value) (t:List (List Rat)) (w:World) (h0:SlT .u64 4294967296 w a0 t) (hl:t.length<=1000/\zC t<=1000/\zU7 t/\zE0 t 100000) :
  Calls prog 112 #[a0] w (yG7 .u64 4294967296 (zH4 t) w):=by
 have bb:Below w.heap.size w w:=Below.refl _ _;have st0:=h0;obtain ⟨A0,c0,rfl,hc0,hm0⟩:=h0.shape;unfold maxLen at hm0;have HL:=hQ9 hl;have ht2:t.length<=1000:=hl.1;have hw2:zC t<=1000:=hl.2.1;clear hl
 go_enter func112,ntmps112
 go_upto_region 1 with (fail)
 have hsz0:=bb.size;have sB:=bb.size;refine zC3 7 [Pd.eq (.slice A0 t.length c0),Pd.eq (.tuple #[.int .i64 ((t.length:Nat):Int),.int .i64 ((zC t:Nat):Int)]),Pd.eq (.tuple #[.int .i64 ((t.length:Nat):Int),.int .i64 ((zC t:Nat):Int)]),Pd.eq (.int .i64 ((t.length:Nat):Int)),Pd.eq (.int .i64 ((zC t:Nat):Int)),Pd.eq (.int .i64 ((t.length:Nat):Int)),Pd.eq (.int .i64 ((zC t:Nat):Int))] (by kernel_rfl) ?ob1 ?done1
 case ob1 =>
  refine zA (zB8 rfl (zB3 rfl) (zB5 rfl rfl) (fun _ _ h=>h)) ?_;refine zA (zE7 rfl func29 (by kernel_rfl) (zB3 rfl) (zB4 (j:=0) (by kernel_rfl) rfl rfl) (fun w2 u0 hb h0=>by obtain rfl:=h0;exact (zS9 _ t _ ((st0.bQ bb).bQ hb)).mono fun e w3 h=>zD3.pd h)) ?_;refine zA (zB8 rfl (zB3 rfl) (zB4 (j:=1) (by kernel_rfl) rfl rfl) (fun _ _ h=>h)) ?_;refine zA (zF9 rfl (zB3 rfl) (zB4 (j:=2) (by kernel_rfl) rfl rfl) (fun w2 u hu=>by obtain rfl:=hu;exact ⟨_,rfl,rfl⟩)) ?_;refine zA (zF9 rfl (zB3 rfl) (zB4 (j:=2) (by kernel_rfl) rfl rfl) (fun w2 u hu=>by obtain rfl:=hu;exact ⟨_,rfl,rfl⟩)) ?_;refine zA (zD6 rfl (zB3 rfl) (zB4 (j:=3) (by kernel_rfl) rfl rfl) (fun _ _ h=>h)) ?_;refine zA (zD6 rfl (zB3 rfl) (zB4 (j:=4) (by kernel_rfl) rfl rfl) (fun _ _ h=>h)) ?_
  trivial
 case done1 =>
  refine fun w11 hb11 v0 h0 v1 h1 v2 h2 v3 h3 v4 h4 v5 h5 v6 h6 b hbf => ?_;obtain rfl:=h0;obtain rfl:=h1;obtain rfl:=h2;obtain rfl:=h3;obtain rfl:=h4;obtain rfl:=h5;obtain rfl:=h6;simp only [Act.put,zA0,zA2,zA1] at hbf;subst hbf;replace bb:=bb.trans (hb11.mono bb.size);have hsz11:=bb.size;refine zC4 ?_;have sB:=bb.size;go_upto_region 2 with (fail);refine zC3 3 [Pd.eq (.int .i64 ((zC t:Nat):Int)),qB8 (zC t) 44 w11.heap.size,qB8 (zC t) 44 w11.heap.size] (by kernel_rfl) ?ob2 ?done2
  case ob2 =>
   refine zA (zB8 rfl (zB3 rfl) (zB5 rfl rfl) (fun _ _ h=>h)) ?_;refine zA (zE7 rfl func67 (by kernel_rfl) (zB3 rfl) (zB4 (j:=0) (by kernel_rfl) rfl rfl) (fun w2 u0 hb h0=>by obtain rfl:=h0;exact (qO8 _ ((zC t)) _ rfl (by omega)).mono fun e w3 h=>qO7.pd h hb.size)) ?_;refine zA (zD6 rfl (zB3 rfl) (zB4 (j:=1) (by kernel_rfl) rfl rfl) (fun _ _ h=>h)) ?_
   trivial
  case done2 =>
   refine fun w12 hb12 v0 h0 v1 h1 v2 h2 b hbf => ?_;obtain rfl:=h0;have q1:=h1;have q2:=h2;simp only [Act.put,zA0,zA2,zA1] at hbf;subst hbf;replace bb:=bb.trans (hb12.mono bb.size);have hsz12:=bb.size;refine zC4 ?_;obtain ⟨g,rfl,TB,hg⟩:=q2;have hgw:w.heap.size<=g:=by omega
   have hT0:zP6 w12 w.heap.size (.slice (some ⟨g,0,none⟩) (zC t) (zC t)) (zB (zC t) (.slice none 0 0)) (zB (zC t) []):=TB.owned hgw (by omega);clear TB;go_wp2
   go_loopw [19] (fun v19 wr => ∃ (k:Nat) (us:List Value) (pss:List (List Elt)),k<=t.length/\zP6 wr w.heap.size (.slice (some ⟨g,0,none⟩) (zC t) (zC t)) us pss/\Hid (zE pss=tst t k 0)/\Hid (us.length=zC t)/\Below w.heap.size w wr/\v19=.int .i64 (k:Int)) (fun v19 _=>t.length-(intOf v19).toNat)
   case atStart=>exact ⟨0,_,_,by omega,hT0,by show _=_;rw [qO5,yZ8],by show _=_;simp,bb,rfl⟩
   case round =>
    obtain ⟨k,us,pss,hk,hT,HV,HUL,hbw,rfl⟩:=hrel;clear hT0 bb;have bb:=hbw;clear hbw;have hszr:=bb.size;by_cases hlt:k<t.length
    ·have hnt:t≠[]:=List.length_pos_iff.1 (by omega);obtain ⟨x,hx⟩:∃ x,t[k]?=some x:=⟨_,zA3 hlt⟩;have HX:=hQ9 hx;have hxm:=zA5 hx;have HXL:Hid (x.length=zC t):=HL.out.2.2.1 x hxm;have lx:∀ y∈x,zC2 y 100000:=HL.out.2.2.2 x hxm;obtain ⟨ad0,rfl⟩:=st0.place hnt;obtain ⟨Arx,crx,hix,ewx,srx⟩:=st0.at2 hx;clear hx hxm;have ecx:=(bb.cell (bQ0 w _ ewx)).trans ewx;have bl:Below wr.heap.size wr wr:=Below.refl _ _;have sB:=bb.size;go_upto_region 5 with (fail);refine zC3 3 [Pd.eq (.pointer (some (ad0.add k))),Pd.eq (.slice Arx x.length crx),Pd.eq (.slice Arx x.length crx)] (by kernel_rfl) ?ob3 ?done3
     case ob3 =>
      refine zA (zI rfl (zB3 rfl) (zB5 rfl rfl) (zB5 rfl rfl) (fun _ _ _ hx hy=>⟨_,by rw [hx,hy];exact qB (k:=k) underlying22 (by kernel_rfl) ad0 hlt _,rfl⟩)) ?_;refine zA (zB7 rfl (zB3 rfl) (zB4 (j:=0) (by kernel_rfl) rfl rfl) (fun w2 hb=>zC1 underlying44 rfl ((hb.cell (bQ0 wr _ ecx)).trans ecx)) (fun _ _=>rfl)) ?_;refine zA (zD6 rfl (zB3 rfl) (zB4 (j:=1) (by kernel_rfl) rfl rfl) (fun _ _ h=>h)) ?_
      trivial
     case done3 =>
      refine fun w14 hb14 v0 h0 v1 h1 v2 h2 b hbf => ?_;obtain rfl:=h0;obtain rfl:=h1;obtain rfl:=h2;simp only [Act.put,zA0,zA2,zA1] at hbf;subst hbf;replace bb:=bb.trans (hb14.mono bb.size);have hsz14:=bb.size;replace bl:=bl.trans (hb14.mono bl.size);refine zC4 ?_;clear ecx;have sB:=bb.size;go_upto_region 6 with (fail);refine zC3 3 [Pd.eq (.slice Arx x.length crx),Pd.eq (.int .i64 ((x.length:Nat):Int)),Pd.eq (.int .i64 0)] (by kernel_rfl) ?ob4 ?done4
      case ob4 =>
       refine zA (zB8 rfl (zB3 rfl) (zB5 rfl rfl) (fun _ _ h=>h)) ?_;refine zA (zJ rfl (zB3 rfl) (zB4 (j:=0) (by kernel_rfl) rfl rfl) (fun _ _ hx=>⟨_,by rw [hx];exact zJ0 underlying44 _ _ _ _,rfl⟩)) ?_;refine zA (zB8 rfl (zB3 rfl) (zF8 _) (fun _ _ h=>h)) ?_
       trivial
      case done4 =>
       refine fun w15 hb15 v0 h0 v1 h1 v2 h2 b hbf => ?_;obtain rfl:=h0;obtain rfl:=h1;obtain rfl:=h2;simp only [Act.put,zA0,zA2,zA1] at hbf;subst hbf;replace bb:=bb.trans (hb15.mono bb.size);have hsz15:=bb.size;replace bl:=bl.trans (hb15.mono bl.size);refine zC4 ?_;have hT1:=hT.bQ bl;go_wp2
       go_loopw [25] (fun v25 wr => ∃ (i:Nat) (us':List Value) (pss':List (List Elt)),i<=x.length/\zP6 wr w.heap.size (.slice (some ⟨g,0,none⟩) (zC t) (zC t)) us' pss'/\Hid (zE pss'=tst t k i)/\Hid (us'.length=zC t)/\Below w.heap.size w wr/\v25=.int .i64 (i:Int)) (fun v25 _=>x.length-(intOf v25).toNat)
       case atStart=>exact ⟨0,_,_,by omega,hT1,HV,HUL,bb,rfl⟩
       case round =>
        obtain ⟨i,us',pss',hi,hTi,HVi,HULi,hbw,rfl⟩:=hrel;clear hT1 hT bb bl HV HUL;have bb:=hbw;clear hbw;have hszi:=bb.size;by_cases hlti:i<x.length
        ·have bl:Below wr.heap.size wr wr:=Below.refl _ _;have hxne:x≠[]:=List.length_pos_iff.1 (by omega);have sl9:=srx;obtain ⟨y,hq9_⟩:∃ y,x[i]?=some y:=⟨_,zA3 hlti⟩;obtain ⟨g9_,o9_,ue9,te9,hA9_,_,e90,e91,e92,es9,ed9⟩:=(sl9.bQ bb).at_ hq9_;subst hA9_;have HQ9:=hQ9 hq9_;clear hq9_;obtain ⟨Ae9,ce9,rfl,_⟩:=id es9;obtain ⟨De9,ee9,rfl,_⟩:=id ed9;have ke9:IsQ wr (.agg #[.bool (ngB y.num),.slice Ae9 (digs 4294967296 y.num.natAbs).length ce9,.slice De9 (digs 4294967296 y.den).length ee9]) y:=⟨_,_,rfl,es9,ed9⟩;have sB:=bb.size;go_upto_region 8 with (fail);refine zC3 5 [Pd.eq (.int .i64 (i:Int)),Pd.eq (.pointer (some ⟨g9_,o9_+i*3,none⟩)),Pd.eq (.agg #[.bool (ngB y.num),.slice Ae9 (digs 4294967296 y.num.natAbs).length ce9,.slice De9 (digs 4294967296 y.den).length ee9]),pn 83 #[.bool false,.slice none 0 0,.slice none 0 0] wr.heap.size,Pd.eq (.int .i64 (i:Int))] (by kernel_rfl) ?ob5 ?done5
         case ob5 =>
          refine zA (zB8 rfl (zB3 rfl) (zB5 rfl rfl) (fun _ _ h=>h)) ?_;refine zA (zI rfl (zB3 rfl) (zB5 rfl rfl) (zB5 rfl rfl) (fun _ _ _ hx hy=>⟨_,by rw [hx,hy];exact zG6 underlying44 (by kernel_rfl) hlti _,rfl⟩)) ?_;refine zA (zB7 rfl (zB3 rfl) (zB4 (j:=1) (by kernel_rfl) rfl rfl) (fun w2 hb=>zM1 underlying83 rfl (by kernel_rfl) ((hb.cell (bQ0 wr _ e90)).trans e90) ((hb.cell (bQ0 wr _ e91)).trans e91) ((hb.cell (bQ0 wr _ e92)).trans e92)) (fun _ _=>rfl)) ?_;refine zA (zL3 (z:=.agg #[.bool false,.slice none 0 0,.slice none 0 0]) rfl rfl (fun _=>by kernel_rfl) (fun _ _ hB h=>⟨_,rfl,hB,h⟩)) ?_;refine zA (zD6 rfl (zB3 rfl) (zB4 (j:=0) (by kernel_rfl) rfl rfl) (fun _ _ h=>h)) ?_
          trivial
         case done5 =>
          refine fun w17 hb17 v0 h0 v1 h1 v2 h2 v3 h3 d3 v4 h4 b hbf => ?_;obtain rfl:=h0;obtain rfl:=h1;obtain rfl:=h2;obtain rfl:=h4;obtain ⟨g5_3,rfl,hg3,B3⟩:=h3;simp only [Act.put,zA0,zA2,zA1] at hbf;subst hbf;replace es9:=es9.bQ hb17;replace ed9:=ed9.bQ hb17;replace bb:=bb.trans (hb17.mono bb.size);have hsz17:=bb.size;replace bl:=bl.trans (hb17.mono bl.size);have BA9:=B3;have q2:=es9;have d2:=ed9;refine zH0 (i:=5) rfl rfl rfl rfl rfl rfl (cells:=[.bool (ngB (y).num),.slice Ae9 (digs 4294967296 (y).num.natAbs).length ce9,.slice De9 (digs 4294967296 (y).den).length ee9]) rfl BA9 rfl (by kernel_rfl) (zH rfl rfl rfl) fun w18 hg18 BN18 => ?_;replace q2:=off q2 BA9 zC9 hg18;replace d2:=off d2 BA9 zC9 hg18;replace bb:=bb.trans ((Below.refl _ _).grown hg18 bb.size (fun g hg=>by injection hg with hg;omega));have hsz18:=bb.size;have Be9:Blk w18 (g5_3) _ _:=BN18;have ke9s:=q2;have ke9d:=d2;have ke9z:IsZ w18 (.agg #[.bool (ngB (y).num),.slice Ae9 (digs 4294967296 (y).num.natAbs).length ce9]) ((y).num):=⟨_,rfl,ke9s⟩;have ke9:IsQ w18 (.agg #[.bool (ngB (y).num),.slice Ae9 (digs 4294967296 (y).num.natAbs).length ce9,.slice De9 (digs 4294967296 (y).den).length ee9]) (y):=⟨_,_,rfl,ke9s,ke9d⟩;refine zC4 ?_;replace bl:=bl.trans ((Below.refl _ _).grown hg18 bl.size (fun g hg=>by injection hg with hg;omega));have ly:zC2 y 100000:=lx y (zA5 HQ9.out);have hiw:i<zC t:=by have:=HXL.out;omega
          obtain ⟨u,hu⟩:∃ u,us'[i]?=some u:=⟨_,zA3 (by have:=HULi.out;omega)⟩;obtain ⟨ps,hps⟩:∃ ps,pss'[i]?=some ps:=⟨_,zA3 (by rw [<- hTi.len];have:=HULi.out;omega)⟩;have HU:=hQ9 hu;have HPS:=hQ9 hps
          have HP:Hid (ps.map (·.1)=zJ9 (t.take k) i):=by
           have h2:=qV5 hps;rw [HVi.out,yZ9 hiw] at h2;exact (Option.some.inj h2).symm
          have HST:Hid ((tst t k i).set i (zJ9 (t.take k) i ++ [y])=tst t k (i+1)):=tst_set hiw HX.out HQ9.out
          have HL8:Hid (ps.length<=1000000000):=by
           have h2:=congrArg List.length HP.out;rw [zA9,qG0,bQ7] at h2;show _<=_
           omega
          have bd:=bl.drew;have TD:=hTi.bQ bd;obtain ⟨Au,cu,eu,_⟩:=(TD.own i u ps hu hps).isVF;subst eu;have cD:=TD.cell hu;have fD:=TD.frozen i;have TDH:=hQ9 TD;have K_:=hQ9 ke9;have Be9d:Blk w18.drew _ _ _:=Be9.drew;obtain ⟨x90,x91,x92,_,_,_⟩:=three Be9d;have hszD:w.heap.size<=w18.drew.heap.size:=by have:=bb.size;exact this
          have ks_:=(ke9s).bQ (Below.refl _ w18).drew;have kd_:=(ke9d).bQ (Below.refl _ w18).drew;clear hu hps TD hTi;go_upto_region 9 with (fail)
          go_region_law (first
           | (refine qT3 rfl (.tmp 35) (.tmp 38) rfl underlying44 zQ6 (v:=.slice Au ps.length cu) (p:=(y,.slice A6 (digs 4294967296 (y).num.natAbs).length c6,.slice D6 (digs 4294967296 (y).den).length e6)) (ps:=ps) (by rfl) (by exact rC) (ad:=⟨w6.heap.size,0,none⟩) (c:=1) (by rfl) (by exact cC0) (by exact cC1) (by exact cC2) rfl rfl HL8.out (by exact hszC) ?_;intro v7 w7 row7 bb7 HK7;have hV7:=TC.mid (by decide) HU.out HPS.out HK7.out;have c7:=hV7.cellAt HU.out;have f7:=hV7.frozenAt i;obtain ⟨A7,c7_,e7,_⟩:=row7.isVF;rw [zA8] at e7;subst e7)
           | (go_simp;go_at_call 145;refine (yI _ y _ ⟨_,_,rfl,(by exact ks_),(by exact kd_)⟩ ly).mono ?_;rintro e w6 ⟨v6,rfl,k6,f6,b6⟩;have T6:=TDH.out.bQ b6;have cell6:=T6.cell HU.out;obtain ⟨u6,t6,rfl,q6,d6⟩:=k6;obtain ⟨A6,c6,rfl,_⟩:=id q6;obtain ⟨D6,e6,rfl,_⟩:=id d6;obtain ⟨cC0,cC1,cC2⟩:=qM6 w6 83 (.bool (ngB (y).num)) (.slice A6 (digs 4294967296 (y).num.natAbs).length c6) (.slice D6 (digs 4294967296 (y).den).length e6);have ba6:=zC6 (w:=w6) (zB1 _) (.cells #[.bool (ngB (y).num),.slice A6 (digs 4294967296 (y).num.natAbs).length c6,.slice D6 (digs 4294967296 (y).den).length e6] 83);have TC:=T6.bQ ba6;have rC:=TC.own i _ ps HU.out HPS.out;have hszC:w.heap.size<=(w6.alloc (.cells #[.bool (ngB (y).num),.slice A6 (digs 4294967296 (y).num.natAbs).length c6,.slice D6 (digs 4294967296 (y).den).length e6] 83)).heap.size:=zB2 (zB2 hszD b6.size) ba6.size;have cellC:=TC.cell HU.out))
          all_goals
           have fr1:=TDH.out.farNew (f6 _ _ _ rfl).1;have fr2:=TDH.out.farNew (f6 _ _ _ rfl).2;have hum:=zA5 HU.out;have EC:IsE .u64 4294967296 (w6.alloc (.cells #[.bool (ngB (y).num),.slice A6 (digs 4294967296 (y).num.natAbs).length c6,.slice D6 (digs 4294967296 (y).den).length e6] 83)) ((y,.slice A6 (digs 4294967296 (y).num.natAbs).length c6,.slice D6 (digs 4294967296 (y).den).length e6):Elt):=⟨q6.bQ ba6,d6.bQ ba6⟩;have F7:=(zG3.nil .u64 4294967296 (w6.alloc (.cells #[.bool (ngB (y).num),.slice A6 (digs 4294967296 (y).num.natAbs).length c6,.slice D6 (digs 4294967296 (y).den).length e6] 83)) (.slice Au ps.length cu)).snoc HK7.out.1 EC (fr1.1 _ hum) (fr2.1 _ hum);have T8:=TC.put (by decide) HU.out HPS.out row7 HK7.out F7 (fun v hv q hq=>by rw [List.mem_singleton.1 hq];exact ⟨fr1.1 v hv,fr2.1 v hv⟩) (fun q hq=>by rw [List.mem_singleton.1 hq];exact ⟨fr1.2,fr2.2⟩)
           have HV8:Hid (zE (pss'.set i (ps ++ [((y,.slice A6 (digs 4294967296 (y).num.natAbs).length c6,.slice D6 (digs 4294967296 (y).den).length e6):Elt)]))=tst t k (i+1)):=by
            show _=_
            rw [qV4,HVi.out,bX5,HP.out];exact HST.out
           have b8:=((((bb.drew).trans (b6.mono hszD)).trans (ba6.mono (zB2 hszD b6.size))).trans bb7).setCell (p:=⟨g,i,none⟩) hgw (.slice A7 (ps.length+[((y,.slice A6 (digs 4294967296 (y).num.natAbs).length c6,.slice D6 (digs 4294967296 (y).den).length e6):Elt)].length) c7_);have HUL8:Hid ((us'.set i (.slice A7 (ps.length+[((y,.slice A6 (digs 4294967296 (y).num.natAbs).length c6,.slice D6 (digs 4294967296 (y).den).length e6):Elt)].length) c7_)).length=zC t):=by show _=_;rw [bQ5];exact HULi.out
           have hsk:x.length-(i+1)<x.length-i:=by omega
           clear TC T6 row7 HK7 hV7 rC cC0 cC1 cC2 cellC cell6 F7 EC ks_ kd_ b6 ba6 bb7 q6 d6;go_wp2;go_roundw;case rel=>exact ⟨i+1,_,_,by omega,T8,HV8,HUL8,b8,by go_num⟩
           case measure=>simp [intOf];omega
        ·obtain rfl:i=x.length:=by omega
         have HV9:Hid (zE pss'=tst t (k+1) 0):=by show _=_;rw [HVi.out,HXL.out,jA0]
         clear HVi;go_wp2;refine ⟨⟨k+1,us',pss',by omega,hTi,HV9,HULi,bb,by go_num⟩,?_⟩;simp [intOf];omega
    ·obtain rfl:k=t.length:=by omega
     have hS:=hT.slT;rw [HV.out,tst_end] at hS;clear hT HV;go_wp2;go_ret;exact ⟨_,rfl,hS,bb⟩
theorem heap_setCell {w:World} {g i:Nat} {u:Value} {cs:Array Value} {e:TypeId} (h:w.heap[g]?=some (.cells cs e (0,0))):(w.setCell ⟨g,i,none⟩ u).heap[g]?=some (.cells (cs.setIfInBounds i u) e (0,0)):=by
 simp [World.setCell,Array.getElem?_modify,h]
theorem zD7.stored {k:IntKind} {B:Nat} {w:World} {g:Nat} {TS:TypeId} {us:List Value} {t:List (List Rat)} (h:zD7 k B w g TS us t) (i:Nat) {u:Value} {r:List Rat} (hu:SlF k B w u r):zD7 k B (w.setCell ⟨g,i,none⟩ u) g TS (us.set i u) (t.set i r):=h.put (zE9 w g i u) (heap_setCell h.1.1) hu
theorem zD7.cellAt {k:IntKind} {B:Nat} {w:World} {g:Nat} {TS:TypeId} {us:List Value} {t:List (List Rat)} (h:zD7 k B w g TS us t) {i:Nat} (hi:i<t.length):∃ u,w.cell? ⟨g,i,none⟩=some u:=by
 have hu:us[i]?=some (us[i]'(by rw [h.2.1];exact hi)):=zA3 _
 have:=h.1.cell hu
 rw [zR9] at this;exact ⟨_,this⟩
theorem zD7.frozenAt {k:IntKind} {B:Nat} {w:World} {g:Nat} {TS:TypeId} {us:List Value} {t:List (List Rat)} (h:zD7 k B w g TS us t) (i:Nat):w.frozen? ⟨g,i,none⟩=false:=h.1.1.frozen i
theorem jG {α : Type} {T:List (List α)} {k n:Nat} (h:T.length=n) (hk:k<=n):(zS T k n).length=n:=by
 unfold zS;rw [zA8,bQ7,List.length_replicate,h];omega
theorem qB9 (n:Int) (hn:n≠0) {w w':World} (hb:Below w.heap.size w w'):zU9 [] n w (.returned (.tuple #[.slice none 0 0,.int .i64 n])) w':=⟨_,rfl,by rw [if_neg hn];exact slT_nil _ _ _,hb⟩
theorem jG0 (a0 a1:Value) (p q:List (List Rat)) (m n:Nat) (w:World) (h0:SlT .u64 4294967296 w a0 p) (h1:SlT .u64 4294967296 w a1 q) (he:∀ r∈p,r.length=q.length)
  (hl:p.length<=1000/\q.length<=1000/\zC q<=1000/\zU7 q/\zE0 p m/\zE0 q n/\1<=n/\n<=4800/\(n+m+1)*q.length+1<=4800) :
  Calls prog 68 #[a0,a1] w (yG7 .u64 4294967296 (zJ1 p q) w):=by
 have st0:=h0;obtain ⟨A0,c0,rfl,hc0,hm0⟩:=h0.shape;unfold maxLen at hm0;have st1:=h1;obtain ⟨A1,c1,rfl,hc1,hm1⟩:=h1.shape;unfold maxLen at hm1;have HL:=hQ9 hl;have HE:=hQ9 he;have hpl:p.length<=1000:=hl.1;have HTQ:Hid (q.length<=1000/\zC q<=1000/\zU7 q/\zE0 q 100000):=⟨hl.2.1,hl.2.2.1,hl.2.2.2.1,hl.2.2.2.2.2.1.mono (zB2 hl.2.2.2.2.2.2.2.1 (by decide))⟩;have HTT:Hid ((zJ1 p q).length=p.length):=qT6 p q;have HD:Hid ((zH4 q).length<=1000/\zE0 (zH4 q) n):=⟨by rw [qT7];exact hl.2.2.1,jA9 hl.2.2.2.2.2.1 hl.2.2.2.2.2.2.1⟩;clear hl he
 go_enter func68,ntmps68;go_wp2_with fail
 refine (yI1 _ q _ st1 HTQ.out).mono ?_;rintro e w2 ⟨C,rfl,SC,b2⟩;obtain ⟨AC,cC,rfl,hcC,hmC⟩:=SC.shape;go_wp2_with fail
 refine (qO8 _ p.length _ rfl (by omega)).mono ?_;rintro e w3 ⟨g,rfl,TB,hg,b3⟩;have TS0:zD7 .u64 4294967296 w3 g 44 (zB p.length (.slice none 0 0)) (zS (zJ1 p q) 0 p.length):=by rw [jE0];exact TB.bare
 clear TB;go_wp2
 go_loopw [16] (fun v16 wr => ∃ (k:Nat) (us:List Value),k<=p.length/\zD7 .u64 4294967296 wr g 44 us (zS (zJ1 p q) k p.length)/\Below w2.heap.size w2 wr/\v16=.int .i64 (k:Int)) (fun v16 _=>p.length-(intOf v16).toNat)
 case atStart=>exact ⟨0,_,by omega,TS0,b3,rfl⟩
 case round =>
  obtain ⟨k,us,hk,TS,hb2,rfl⟩:=hrel;clear TS0 b3;have bb:Below w.heap.size w wr:=b2.trans (hb2.mono b2.size);by_cases hlt:k<p.length
  ·have hnp:p≠[]:=List.length_pos_iff.1 (by omega);obtain ⟨x,hx⟩:∃ x,p[k]?=some x:=⟨_,zA3 hlt⟩;have hxm:=zA5 hx;obtain ⟨ad,rfl⟩:=st0.place hnp;obtain ⟨Ax,cx,hi,ewx,srx⟩:=st0.at2 hx;have ecx:=(bb.cell (bQ0 w _ ewx)).trans ewx;have HXL:Hid (x.length=q.length):=HE.out x hxm;have HAT:Hid ((zJ1 p q)[k]?=some (zP2 (zH4 q) x)):=by show _=_;rw [jA6];exact mulq_at hx
   have SCr:=SC.bQ hb2;have HDX:Hid ((∀ r∈zH4 q,r.length=x.length)/\(zH4 q).length<=1000/\x.length<=1000/\zE0 (zH4 q) n/\(∀ y∈x,zC2 y m)/\(n+m+1)*x.length+1<=4800):=⟨fun r hr=>by rw [qM9 r hr,HXL.out],HD.out.1,by rw [HXL.out];exact HL.out.2.1,HD.out.2,HL.out.2.2.2.2.1 x hxm,by rw [HXL.out];exact HL.out.2.2.2.2.2.2.2.2⟩;have hsx:=srx.bQ bb;clear hx hxm ewx srx;go_wp2_with fail
   refine (jF7 _ _ (zH4 q) x n m _ SCr hsx HDX.out.1 HDX.out.2).mono ?_;rintro e w4 ⟨R,rfl,sR,b4⟩;obtain ⟨AR,cR,rfl,_,_⟩:=sR.shape;have TS4:=TS.bQ b4;obtain ⟨u0,c4⟩:=TS4.cellAt (i:=k) (by rw [jG HTT.out hk];exact hlt);have f4:=TS4.frozenAt k;have TS5:=TS4.stored k sR;rw [jE2 HTT.out HAT.out] at TS5;have hb5:=(hb2.trans (b4.mono hb2.size)).setCell (p:=⟨g,k,none⟩) hg (.slice AR (zP2 (zH4 q) x).length cR);have hsk:p.length-(k+1)<p.length-k:=by omega
   clear TS TS4 sR ecx SCr hsx;go_wp2;go_roundw;case rel=>exact ⟨k+1,_,by omega,TS5,hb5,by go_num⟩
   case measure=>simp [intOf];omega
  ·obtain rfl:k=p.length:=by omega
   rw [jE1 HTT.out] at TS;have hS:=TS.slT HTT.out (by omega);clear TS;go_wp2;go_ret;exact ⟨_,rfl,hS,bb⟩
theorem jG1 (a0:Value) (t:List (List Rat)) (w:World) (h0:SlT .u64 4294967296 w a0 t) (hl:zE0 t 100000) :
  Calls prog 94 #[a0] w (fun e w'=>(zF5 t/\zU9 (zH4 t) 0 w e w')\/(¬ zF5 t/\zU9 [] 8 w e w')):=by
 have st0:=h0;obtain ⟨A0,c0,rfl,hc0,hm0⟩:=h0.shape;have HL:=hQ9 hl;clear hl
 go_enter func94,ntmps94
 by_cases h:zF5 t
 ·have HM:=hQ9 h
  go_wp2_with fail
  refine (zW7 _ t true _ st0 (decide_eq_true HM.out).symm).mono ?_;rintro e w2 ⟨rfl,b2⟩;have st2:=st0.bQ b2;clear h;go_wp2_with fail
  refine (yI1 _ t _ st2 ⟨zB2 HM.out.1 (by decide),zB2 HM.out.2.1 (by decide),HM.out.2.2,HL.out⟩).mono ?_;rintro e w3 ⟨V,rfl,sV,b3⟩;go_wp2;go_ret2;exact .inl ⟨HM.out,_,rfl,by rw [if_pos rfl];exact sV,b2.trans (b3.mono b2.size)⟩
 ·have HM:=hQ9 h
  go_wp2_with fail
  refine (zW7 _ t false _ st0 (decide_eq_false HM.out).symm).mono ?_;rintro e w2 ⟨rfl,b2⟩;clear h;go_wp2;go_ret2;exact .inr ⟨HM.out,qB9 8 (by decide) b2⟩
theorem zK9.tail {w:World} {ad:Addr} {n c:Nat} {ts:List (List (List Rat))} (h:zK9 w (.slice (some ad) n c) ts) (hne:ts≠[]):zK9 w (.slice (if c=1 then some ad else some (ad.add 1)) (n-1) (c-1)) ts.tail:=by
 obtain ⟨us,h1,⟨A,c',e,hc,hcell⟩,h3,h4⟩:=h;injection e with e1 e2 e3;subst e1;subst e2;subst e3;have hpos:0<ts.length:=List.length_pos_iff.2 hne;refine ⟨us.tail,by rw [List.length_tail,List.length_tail,h1],?_,by rw [List.length_tail];omega,fun i u t hu ht => ?_⟩
 ·by_cases h2:c=1
  ·have:us.tail=[]:=List.length_eq_zero_iff.1 (by rw [List.length_tail];omega);rw [this];exact ⟨_,_,by rw [show us.length-1=0 by omega];rfl,by simp,fun i u hu=>by simp at hu⟩
  ·rw [if_neg h2];refine ⟨some (ad.add 1),c-1,by rw [List.length_tail],by rw [List.length_tail];omega,fun i u hu => ?_⟩;rw [List.getElem?_tail] at hu;obtain ⟨ad',ha,hc2⟩:=hcell (i+1) u hu;injection ha with ha;subst ha;refine ⟨_,rfl,?_⟩
   have e:(ad.add 1).add i=ad.add (i+1):=by
    unfold Addr.add;by_cases hi:i=0
    ·simp [hi]
    ·simp [hi];omega
   rw [e];exact hc2
 ·rw [List.getElem?_tail] at hu ht;exact h4 (i+1) u t hu ht
def okAt (ts:List (List (List Rat))) (i:Nat) (t:List (List Rat)):Prop:=zF5 t /\ ∀ (s:List (List Rat)),0<i->ts[i-1]?=some s->zC s=t.length
theorem yI2 {α β : Type} (f : α -> β -> α) (a : α) {l:List β} {j:Nat} {x : β} (h:l[j]?=some x):(l.take (j+1)).foldl f a=f ((l.take j).foldl f a) x:=by
 rw [bQ9,h];simp [List.foldl_append]
def zV0 (n:Nat) (ts:List (List (List Rat))):Prop:=∀ t∈ts,zF5 t/\t.length=n
theorem yI3 {n j:Nat} {ts:List (List (List Rat))} {t:List (List Rat)} (h:ts[j]?=some t):zO4 n (ts.take (j+1))=zD4 (zO4 n (ts.take j)) t:=yI2 zD4 _ h
theorem qV9 {α : Type} {P t:List (List α)} {r:List α} (h:r∈zD4 P t):∃ p∈P,∃ q∈t,r=p ++ q:=by
  obtain ⟨i,hi⟩:=List.mem_iff_getElem?.1 h;unfold zD4 at hi;rw [List.getElem?_zipWith] at hi
  cases hp:P[i]? with
  | none=>rw [hp] at hi;cases hi
  | some p =>
    cases hq:t[i]? with
    | none=>rw [hp,hq] at hi;cases hi
    | some q =>
      rw [hp,hq] at hi;obtain rfl:p ++ q=r:=by simpa using hi
      exact ⟨p,zA5 hp,q,zA5 hq,rfl⟩
theorem jG2 {l:List Nat} {j x:Nat} (h:l[j]?=some x):(l.take (j+1)).sum=(l.take j).sum+x:=by
 rw [bQ9,h];simp
theorem sum_take_le:∀ (l:List Nat) (j:Nat),(l.take j).sum<=l.sum
 | [],j=>by simp
 | x :: l,0=>by simp
 | x :: l,j+1=>by have:=sum_take_le l j;simp;omega
def RetTO (n:Nat) (t:List (List Rat)) (w:World) (e:Ending) (w':World):Prop:=∃ g us pss,e=.returned (.tuple #[.slice (some ⟨g,0,none⟩) n n,.int .i64 0])/\zP6 w' w.heap.size (.slice (some ⟨g,0,none⟩) n n) us pss/\zE pss=t/\us.length=n/\w.heap.size<=g/\Below w.heap.size w w'
theorem yI4 (a0:Value) (ts:List (List (List Rat))) (t0:List (List Rat)) (w:World) (h0:zK9 w a0 ts) (ht0:ts[0]?=some t0) (hl:ts.length<=3/\(ts.map zC).sum<=200/\(∀ t∈ts,zE0 t 100000)/\t0.length<=200) :
    Calls prog 32 #[a0] w (fun e w'=>(zV0 t0.length ts/\RetTO t0.length (zO4 t0.length ts) w e w')\/(¬ zV0 t0.length ts/\zU9 [] 8 w e w')):=by
  have st0:=h0;obtain ⟨A0,c0,rfl,hc0⟩:=h0.shape;have HL:=hQ9 hl;have hl3:ts.length<=3:=hl.1;have hpos:0<ts.length:=(zA4.1 ht0).1;have hn:ts≠[]:=List.length_pos_iff.1 hpos;have hneb:(((ts.length:Nat):Int) == 0)=false:=by rw [beq_eq_false_iff_ne];omega
  have hne0:¬ ((ts.length:Nat):Int)=0:=by omega
  have ht02:t0.length<=200:=hl.2.2.2;obtain ⟨ad,rfl⟩:=st0.place hn;obtain ⟨At0,ct0,hit0,ew0,stt0⟩:=st0.at2 ht0;have ead:ad.add 0=ad:=by simp [Addr.add]
  rw [ead] at ew0;have HT0:=hQ9 ht0;clear hl ht0
  go_enter func32,ntmps32
  go_wp2
  go_loopw [4,14] (fun v4 v14 wr => ∃ k S:Nat,k<=ts.length/\Hid (∀ (i:Nat) (t:List (List Rat)),i<k->ts[i]?=some t->zF5 t/\t.length=t0.length)/\Hid (S=((ts.map zC).take k).sum)/\Below w.heap.size w wr/\v4=.int .i64 (S:Int)/\v14=.int .i64 (k:Int)) (fun _ v14 _=>ts.length-(intOf v14).toNat)
  case atStart=>exact ⟨0,0,by omega,(by show ∀ i,_;intro i t hi;omega),rfl,Below.refl _ _,rfl,rfl⟩
  case round =>
    obtain ⟨k,S,hk,HA,HS,bb,rfl,rfl⟩:=hrel;have ec0:=(bb.cell (bQ0 w _ ew0)).trans ew0;by_cases hlt:k<ts.length
    · obtain ⟨t, ht⟩:∃ t, ts[k]?=some t := ⟨_, zA3 hlt⟩;have HT:=hQ9 ht;obtain ⟨At,ct,hit,ect,stt⟩:=(st0.bQ bb).at2 ht;have hS2:((ts.map zC).take (k+1)).sum=S+zC t:=by rw [jG2 (x:=zC t) (by rw [bQ8,ht];rfl),HS.out]
      have hSle:S+zC t<=200:=by
        have h1:=sum_take_le (ts.map zC) (k+1);have h2:=HL.out.2.1;omega
      have HS2:=hQ9 hS2.symm;clear ht hS2;go_wp2_with fail
      refine (zS9 _ t _ stt).mono ?_;rintro e w2 ⟨rfl,b2⟩;have bb2:=bb.trans (b2.mono bb.size);have stt2:=stt.bQ b2;have hov:(S:Int)+((zC t:Nat):Int)<=200:=by omega
      have hov2:¬ (200:Int)<(S:Int)+((zC t:Nat):Int):=by omega
      clear ect stt b2;by_cases hm:zF5 t
      · have HM:=hQ9 hm;clear hm
        go_wp2_with fail
        refine (zW7 _ t true _ stt2 (decide_eq_true HM.out).symm).mono ?_;rintro e w3 ⟨rfl,b3⟩;have bb3:=bb2.trans (b3.mono bb2.size);have ec3:=(bb3.cell (bQ0 w _ ew0)).trans ew0;clear stt2 b3;by_cases hle:t.length=t0.length
        · have hne:(((t.length:Nat):Int) != ((t0.length:Nat):Int))=false:=by rw [bne_eq_false_iff_eq,hle]
          have hne':((t.length:Nat):Int)=((t0.length:Nat):Int):=by rw [hle]
          have HLE:=hQ9 hle
          have HA2:Hid (∀ (i:Nat) (t:List (List Rat)),i<k+1->ts[i]?=some t->zF5 t/\t.length=t0.length):=by
            show ∀ i,_
            intro i t' hi h';by_cases e:i=k
            · subst e;rw [HT.out] at h';injection h' with h';subst h';exact ⟨HM.out,HLE.out⟩
            · exact HA.out i t' (by omega) h'
          have hsk:ts.length-(k+1)<ts.length-k:=by omega
          clear hle HA ec0;go_wp2;go_roundw;case rel=>exact ⟨k+1,S+zC t,by omega,HA2,HS2,bb3,by go_num,by go_num⟩
          case measure=>simp [intOf];omega
        · have hne:(((t.length:Nat):Int) != ((t0.length:Nat):Int))=true:=by rw [bne_iff_ne];omega
          have hne':¬ ((t.length:Nat):Int)=((t0.length:Nat):Int):=by omega
          have HN:Hid (¬ zV0 t0.length ts):=fun h=>hle (h t (zA5 HT.out)).2;clear hle HA ec0;go_wp2;go_ret2;exact .inr ⟨HN.out,qB9 8 (by decide) bb3⟩
      · have HM:=hQ9 hm;clear hm
        go_wp2_with fail
        refine (zW7 _ t false _ stt2 (decide_eq_false HM.out).symm).mono ?_;rintro e w3 ⟨rfl,b3⟩;have bb3:=bb2.trans (b3.mono bb2.size);have HN:Hid (¬ zV0 t0.length ts):=fun h=>HM.out (h t (zA5 HT.out)).1;clear HA ec0;go_wp2;go_ret2;exact .inr ⟨HN.out,qB9 8 (by decide) bb3⟩
    · obtain rfl:k=ts.length:=by omega
      have HB:Hid (zV0 t0.length ts):=fun t ht=>by
        obtain ⟨i,hi⟩:=List.mem_iff_getElem?.1 ht;exact HA.out i t (zA4.1 hi).1 hi
      clear HA HS;go_wp2_with fail
      refine (qO8 _ t0.length _ rfl (by omega)).mono ?_;rintro e w4 ⟨g,rfl,TB,hg,b4⟩;have bb4:=bb.trans (b4.mono bb.size);have hgw:w.heap.size<=g:=zB2 bb.size hg;have hT0:zP6 w4 w.heap.size _ _ _:=TB.owned hgw (by omega);have HV0:Hid (zE (zB t0.length ([]:List Elt))=zO4 t0.length (ts.take 0)):=by show _=_;rw [qO5];rfl
      have HU0:Hid ((zB t0.length (Value.slice none 0 0)).length=t0.length):=by show _=_;simp
      have HR0:Hid (∀ r∈zO4 t0.length (ts.take 0),r.length<=200*0):=by
        show ∀ r∈_,_
        intro r hr;rw [(List.mem_replicate.1 (show r∈zB t0.length [] from hr)).2];exact zB1 _
      clear TB ec0 bb b4;go_wp2
      go_loopw [9,52] (fun v9 v52 wr => ∃ (k:Nat) (us:List Value) (pss:List (List Elt)),k<=ts.length/\zP6 wr w.heap.size (.slice (some ⟨g,0,none⟩) t0.length t0.length) us pss/\Hid (zE pss=zO4 t0.length (ts.take k))/\Hid (us.length=t0.length)/\Hid (∀ r∈zO4 t0.length (ts.take k),r.length<=200*k)/\Below w.heap.size w wr/\v9=.slice (some ⟨g,0,none⟩) t0.length t0.length/\v52=.int .i64 (k:Int)) (fun _ v52 _=>ts.length-(intOf v52).toNat)
      case atStart=>exact ⟨0,_,_,by omega,hT0,HV0,HU0,HR0,bb4,rfl,rfl⟩
      case round =>
        clear hT0 HV0 HU0 HR0 bb4;obtain ⟨k,us,pss,hk,hT,HV,HU,HR,bb,rfl,rfl⟩:=hrel;by_cases hlt:k<ts.length
        · obtain ⟨t,ht⟩:∃ t,ts[k]?=some t:=⟨_,zA3 hlt⟩;have HT:=hQ9 ht;obtain ⟨At,ct,hit,ewt,stt⟩:=st0.at2 ht;have ect:=(bb.cell (bQ0 w _ ewt)).trans ewt;have htm:=zA5 ht;have HTB:Hid (zF5 t/\t.length=t0.length):=HB.out t htm;have HW:Hid (∀ r∈t,r.length<=200):=fun r hr=>by rw [HTB.out.1.2.2 r hr];exact HTB.out.1.2.1
          have HLT:Hid (zE0 t 100000):=HL.out.2.2.1 t htm;have HV2:Hid (zD4 (zE pss) t=zO4 t0.length (ts.take (k+1))):=by show _=_;rw [yI3 ht,HV.out]
          have HR2:Hid (∀ r∈zO4 t0.length (ts.take (k+1)),r.length<=200*(k+1)):=by
            show ∀ r∈_,_
            intro r hr;rw [yI3 ht] at hr;obtain ⟨p,hp,q,hq,rfl⟩:=qV9 hr;have h1:=HR.out p hp;have h2:=HW.out q hq;rw [zA8];omega
          clear ht htm ewt;go_wp2_with fail
          refine (yI0 g t0.length t0.length _ us pss t w _ hT stt bb HU.out HTB.out.2 hgw ⟨fun r hr=>by rw [HV.out] at hr;have:=HR.out r hr;omega,fun r hr=>zB2 (HW.out r hr) (by decide),HLT.out⟩).mono ?_;rintro e w7 ⟨us7,pss7,rfl,T7,V7,L7,b7⟩;have bb7:=bb.trans b7;have HV7:Hid (zE pss7=zO4 t0.length (ts.take (k+1))):=by show _=_;rw [V7,HV2.out]
          have HU7:=hQ9 L7;have hsk:ts.length-(k+1)<ts.length-k:=by omega
          clear hT HV HU HR stt ect V7 L7 b7;go_wp2;go_roundw;case rel=>exact ⟨k+1,us7,pss7,by omega,T7,HV7,HU7,HR2,bb7,rfl,by go_num⟩
          case measure=>simp [intOf];omega
        · obtain rfl:k=ts.length:=by omega
          have HV2:Hid (zE pss=zO4 t0.length ts):=by
            show _=_
            rw [HV.out,zA7 (zB1 _)]
          clear HV HR;go_wp2;go_ret2;exact .inl ⟨HB.out,g,us,pss,rfl,hT,HV2.out,HU.out,hgw,bb⟩
theorem jG3 (a0:Value) (ts:List (List (List Rat))) (t0:List (List Rat)) (w:World) (h0:zK9 w a0 ts) (ht0:ts[0]?=some t0) (hl:ts.length<=3/\(ts.map zC).sum<=200/\(∀ t∈ts,zE0 t 100000)/\t0.length<=200) :
  Calls prog 32 #[a0] w (fun e w'=>(zV0 t0.length ts/\zU9 (zO4 t0.length ts) 0 w e w')\/(¬ zV0 t0.length ts/\zU9 [] 8 w e w')):=
 (yI4 a0 ts t0 w h0 ht0 hl).mono fun e w' h => by
  rcases h with ⟨h1,g,us,pss,rfl,hT,hV,hU,hg,hb⟩|h
  ·have hS:=hT.slT;rw [hV] at hS;exact .inl ⟨h1,_,rfl,by rw [if_pos rfl];exact hS,hb⟩
  ·exact .inr h
theorem zT {w:World} {g i:Nat} {t:TypeId} {cs:Array Value} (h:Blk w g t cs) (u:Value):Blk (w.setCell ⟨g,i,none⟩ u) g t (cs.setIfInBounds i u):=by
 unfold Blk at h |-;simp [World.setCell,Array.getElem?_modify,h]
theorem zZ1 {w:World} {g:Nat} {t:TypeId} {a b c:Value} (h:Blk w g t #[a,b,c]) (x y z:Value):Blk (((w.setCell ⟨g,0,none⟩ x).setCell ⟨g,1,none⟩ y).setCell ⟨g,2,none⟩ z) g t #[x,y,z]:=zT (zT (zT h x) y) z
theorem zL {w w2 w3:World} {row:Option Nat} (hg:w.grownBy w2 row) (hb:Below w2.heap.size w2 w3):w.grownBy w3 row :=
 ⟨hb.os.trans hg.os,hb.tape.trans hg.tape,hb.output.trans hg.output,zB2 hg.size hb.size,fun k hk hne=>(hb.block k (bY2 hk hg.size)).trans (hg.block k hk hne)⟩
theorem qW {w w2:World} (hb:Below w.heap.size w w2) (row:Option Nat):w.grownBy w2 row:=⟨hb.os,hb.tape,hb.output,hb.size,fun k hk _=>hb.block k hk⟩
theorem yI5 {x:Rat} : (zJ3 x.num 0 == 0)=decide (x=0):=by
 by_cases h:x=0
 ·rw [h,decide_eq_true rfl];rfl
 ·rw [decide_eq_false h,beq_eq_false_iff_ne];intro e;have hz:x.num≠0:=fun k=>h (Rat.num_eq_zero.1 k)
  rcases Int.lt_or_gt_of_ne hz with k | k
  ·rw [qE8 k] at e;cases e
  ·rw [qE9 k] at e;cases e
section
variable {w:World} {ops:Array Oper} {o:Oper} {a:Act} {K:Act->World->Prop} {Q:Exit->Act->World->Prop} {E:Prop} {b R C i j:Nat} {T:List (List Rat)}
end
theorem yI6:∀ (l:List Value) (k:Nat) (x y z:Value),k+3<=l.length->((l.set k x).set (k+1) y).set (k+2) z=l.take k ++ [x,y,z] ++ l.drop (k+3)
  | [],k,x,y,z,h=>by simp at h
  | a :: l, k + 1, x, y, z, h => by
    have ih:=yI6 l k x y z (by simpa using h);rw [zA1,zA1,zA1,ih];simp
  | a :: l, 0, x, y, z, h => by
    match l,h with
    | b :: c :: l,_=>simp
    | [b],h=>simp at h
    | [],h=>simp at h
theorem jG4 {w:World} {g n i:Nat} {qs:List Rat} {q:Rat} {u t:Value} (h:zD2 w g n qs) (hi:i<n) (hu:IsS w .u64 u (digs 4294967296 q.num.natAbs)) (ht:IsS w .u64 t (digs 4294967296 q.den)) :
  w.grownBy (((w.setCell ⟨g,0+i*3,none⟩ (.bool (ngB q.num))).setCell ⟨g,0+i*3+1,none⟩ u).setCell ⟨g,0+i*3+2,none⟩ t) (some g)/\(i=qs.length->zD2 (((w.setCell ⟨g,0+i*3,none⟩ (.bool (ngB q.num))).setCell ⟨g,0+i*3+1,none⟩ u).setCell ⟨g,0+i*3+2,none⟩ t) g n (qs ++ [q]))/\(i<qs.length->zD2 (((w.setCell ⟨g,0+i*3,none⟩ (.bool (ngB q.num))).setCell ⟨g,0+i*3+1,none⟩ u).setCell ⟨g,0+i*3+2,none⟩ t) g n (qs.set i q)):=by
 have hg:w.grownBy (((w.setCell ⟨g,0+i*3,none⟩ (.bool (ngB q.num))).setCell ⟨g,0+i*3+1,none⟩ u).setCell ⟨g,0+i*3+2,none⟩ t) (some g) :=
  ((zE9 w g (0+i*3) _).andThen (zE9 _ g (0+i*3+1) _) (fun j e => .inr e)).andThen (zE9 _ g (0+i*3+2) _) (fun j e => .inr e)
 have hsz:∀ cs,Blk w g 83 cs->cs.size=n*3:=fun cs hcs=>by
  obtain ⟨ps,h1,_,h3,_⟩:=h;unfold Blk at h3 hcs;rw [h3] at hcs;injection hcs with hcs;injection hcs with hcs;rw [<- hcs,List.size_toArray,qV1,h1]
 refine ⟨hg,h.put hi hu ht hg fun cs hcs => ?_⟩;have h1:=zT (zT (zT hcs (i:=0+i*3) (.bool (ngB q.num))) (i:=0+i*3+1) u) (i:=0+i*3+2) t;have h2:=hsz cs hcs;obtain ⟨l⟩:=cs
 have e:(((⟨l⟩:Array Value).setIfInBounds (0+i*3) (.bool (ngB q.num))).setIfInBounds (0+i*3+1) u).setIfInBounds (0+i*3+2) t=(l.take (0+i*3) ++ [.bool (ngB q.num),u,t] ++ l.drop (0+i*3+3)).toArray:=by
  rw [<- yI6 l (0+i*3) (.bool (ngB q.num)) u t (by simp at h2;omega)];simp
 rw [e] at h1;exact h1
theorem zD2.places {w:World} {g n i:Nat} {qs:List Rat} (h:zD2 w g n qs) (hi:i<n):∃ x y z,w.cell? ⟨g,0+i*3,none⟩=some x/\w.cell? ⟨g,0+i*3+1,none⟩=some y/\w.cell? ⟨g,0+i*3+2,none⟩=some z/\w.frozen? ⟨g,0+i*3,none⟩=false/\w.frozen? ⟨g,0+i*3+1,none⟩=false/\w.frozen? ⟨g,0+i*3+2,none⟩=false:=by
 obtain ⟨ps,h1,h2,h3,h4,h5⟩:=h;obtain ⟨f0,f1,f2⟩:=qM1 ps i _ (zA3 (by omega));rw [bY5];exact ⟨_,_,_,by rw [h3.cell,bW8];exact f0,by rw [h3.cell,bW8];exact f1,by rw [h3.cell,bW8];exact f2,h3.frozen _,h3.frozen _,h3.frozen _⟩
theorem yI7 {w:World} {g n i:Nat} {qs:List Rat} {q:Rat} {u t:Value} (h:zD2 w g n qs) (hi:i<n) (hu:IsS w .u64 u (digs 4294967296 q.num.natAbs)) (ht:IsS w .u64 t (digs 4294967296 q.den)) :
  w.grownBy (((w.setCell ⟨g,i*3,none⟩ (.bool (ngB q.num))).setCell ⟨g,i*3+1,none⟩ u).setCell ⟨g,i*3+2,none⟩ t) (some g)/\(i=qs.length->zD2 (((w.setCell ⟨g,i*3,none⟩ (.bool (ngB q.num))).setCell ⟨g,i*3+1,none⟩ u).setCell ⟨g,i*3+2,none⟩ t) g n (qs ++ [q]))/\(i<qs.length->zD2 (((w.setCell ⟨g,i*3,none⟩ (.bool (ngB q.num))).setCell ⟨g,i*3+1,none⟩ u).setCell ⟨g,i*3+2,none⟩ t) g n (qs.set i q)):=by
 have h1:=jG4 h hi hu ht;rw [bY5] at h1;exact h1
theorem zD2.place {w:World} {g n i:Nat} {qs:List Rat} (h:zD2 w g n qs) (hi:i<n):∃ x y z,w.cell? ⟨g,i*3,none⟩=some x/\w.cell? ⟨g,i*3+1,none⟩=some y/\w.cell? ⟨g,i*3+2,none⟩=some z/\w.frozen? ⟨g,i*3,none⟩=false/\w.frozen? ⟨g,i*3+1,none⟩=false/\w.frozen? ⟨g,i*3+2,none⟩=false:=by
 have h1:=h.places hi;rw [bY5] at h1;exact h1
theorem yI8 {P:Program} {t e:TypeId} (hu:P.underlying t=some (.slice e)) (hs:(P.info? e).map (·.size)=some 3) {g n c k:Nat} (hk:k<n) (w:World):(Instr.indexAt t (.slice (some ⟨g,0,none⟩) n c) (.int .i64 (k:Int))).run P w=.ok (.pointer (some ⟨g,k*3,none⟩)) w:=by
 have h:=zG6 (P:=P) hu hs (g:=g) (o:=0) (c:=c) hk w;rw [bY5] at h;exact h
theorem zD2.away {w w':World} {g g2 n n2:Nat} {qs qs2:List Rat} (h:zD2 w g n qs) (h2:zD2 w g2 n2 qs2) (hg:w.grownBy w' (some g2)) (hne:g≠g2):zD2 w' g n qs:=by
 obtain ⟨ps,h1,_,h3,h4,_⟩:=h2;exact h.offb h3 (yH2 h4) hg hne
theorem yI9:∀ (p q:List Rat) (x y:Rat),p.length=q.length->zI5 (p ++ [x]) (q ++ [y])=zI5 p q+x*y
  | [],[],x,y,_=>by simp [zI5,zP0,zN2]
  | a :: p, b :: q, x, y, h => by
    have ih:=yI9 p q x y (by simpa using h);rw [List.cons_append,List.cons_append,qM8,qM8,ih,Rat.add_assoc]
  | [],b :: q,x,y,h=>by simp at h
  | a :: p,[],x,y,h=>by simp at h
theorem jG5 {r v:List Rat} {k:Nat} {x y:Rat} (hx:r[k]?=some x) (hy:v[k]?=some y):zI5 (r.take (k+1)) (v.take (k+1))=zI5 (r.take k) (v.take k)+x*y:=by
 rw [bQ9,bQ9,hx,hy];have h1:=(zA4.1 hx).1;have h2:=(zA4.1 hy).1;exact yI9 _ _ _ _ (by rw [bQ7,bQ7];omega)
end rat
namespace rat
open Go.RowKit Go.ChangeShapes Go.WideShapes Go.ChangeAt Go.Joins Go.Deep num mem nat txt str flow whl
def zT0 (w:World) (v:Value):Prop:=∃ A n c,v=.slice A n c/\n<=c/\c<=maxLen /\ ∀ i,i<n -> ∃ ad u,A=some ad/\w.cell? (ad.add i)=some u/\zY8 w u
theorem zT0.bQ {w w':World} {v:Value} (h:zT0 w v) (hb:Below w.heap.size w w'):zT0 w' v:=by
 obtain ⟨A,n,c,e,h1,h2,h3⟩:=h;refine ⟨A,n,c,e,h1,h2,fun i hi => ?_⟩;obtain ⟨ad,u,a1,e0,k⟩:=h3 i hi;exact ⟨ad,u,a1,(hb.cell (bQ0 w _ e0)).trans e0,zY8.bQ k hb⟩
theorem trod_qs {H:Type} {enc:TypeId × Value->H} {P:Program} {W:World} {fuel:Nat} {ts t e:TypeId} {f0 f1 g0 g1:Field} {v:Value} {x:DataW H × List MemPlace} (ht:P.underlying ts=some (.slice t)) (hs:P.underlying t=some (.struct #[f0,f1])) (hC:P.cellsOf t=3) (ho:(f0.offset == 0 && f1.offset == 2 && P.cellsOf f0.type == 2 && P.cellsOf f1.type == 1)=true)
    (hs2:P.underlying f0.type=some (.struct #[g0,g1])) (hone:oneCellFields P #[g0,g1]=true) (hb:P.underlying g0.type=some .bool) (hsl:P.underlying g1.type=some (.slice e)) (hsl2:P.underlying f1.type=some (.slice e)) (he:P.underlying e=some (.int .u64)) (ce:P.cellsOf e=1)
    (hf:DataW.trod enc P W 0 (fun _=>true) true fuel ts [v]=some x):zY8 W v:=by
  rcases Go.Deep.open_slice ht hf with ⟨hcs,hx⟩|⟨a,len',cap',m,n,D,Pl,hcs,_,hl,hm,hmm,hx,hrows⟩
  · injection hcs with hcs;subst hcs;exact ⟨none,0,0,rfl,by omega,by simp,fun i hi=>by omega⟩
  · injection hcs with hcs;subst hcs;refine ⟨some a,len',cap',rfl,hl,hm,fun i hi => ?_⟩;obtain ⟨cs',h1,h2⟩:=hrows i (by simp at hmm;omega);rw [hC] at h1;obtain ⟨_,hlen,hcell⟩:=World.cells?_some h1
    match cs',hlen with
    | [c0, c1, c2], _ =>
      obtain ⟨b,l,m',e0,k1,k2,k3,k4⟩:=trod_q hs ho hs2 hone hb hsl hsl2 he ce h2;subst e0;have g0:=hcell 0 (by omega);have g1:=hcell 1 (by omega);have g2:=hcell 2 (by omega);rw [add_add] at g0 g1 g2;exact ⟨a,b,c1,c2,l,m',rfl,by simpa using g0,by simpa using g1,by simpa using g2,k1,k2,k3,k4⟩
theorem arg_t {H:Type} {enc:TypeId × Value->H} {P:Program} {W:World} {base:Nat} {tt ts t e:TypeId} {f0 f1 g0 g1:Field} {v:Value} {d:DataW H} {p:List MemPlace} (htt:P.underlying tt=some (.slice ts)) (hC1:P.cellsOf ts=1) (ht:P.underlying ts=some (.slice t)) (hs:P.underlying t=some (.struct #[f0,f1])) (hC:P.cellsOf t=3) (ho:(f0.offset == 0 && f1.offset == 2 && P.cellsOf f0.type == 2 && P.cellsOf f1.type == 1)=true)
    (hs2:P.underlying f0.type=some (.struct #[g0,g1])) (hone:oneCellFields P #[g0,g1]=true) (hb:P.underlying g0.type=some .bool) (hsl:P.underlying g1.type=some (.slice e)) (hsl2:P.underlying f1.type=some (.slice e)) (he:P.underlying e=some (.int .u64)) (ce:P.cellsOf e=1)
    (hv:Value.okWide P W .any base tt v) (h:DataW.Trod enc P W 0 (fun _=>true) true tt v d p):zT0 W v:=by
  obtain ⟨a0,len,cap,rfl⟩:=okWide_slice htt hv;obtain ⟨fuel,hf⟩:=h;rcases Go.Deep.open_slice htt hf with ⟨hcs,hx⟩|⟨a,len',cap',m,n,D,Pl,hcs,_,hl,hm,hmm,hx,hrows⟩
  · simp [Value.cells] at hcs;obtain ⟨rfl,rfl,rfl⟩:=hcs;exact ⟨none,0,0,rfl,by omega,by simp,fun i hi=>by omega⟩
  · simp [Value.cells] at hcs;obtain ⟨rfl,rfl,rfl⟩:=hcs;refine ⟨some a,len,cap,rfl,hl,hm,fun i hi => ?_⟩;obtain ⟨cs',h1,h2⟩:=hrows i (by simp at hmm;omega);rw [hC1] at h1;obtain ⟨_,hlen,hcell⟩:=World.cells?_some h1
    match cs',hlen with
    | [c0], _ =>
      have g0:=hcell 0 (by omega);rw [add_add] at g0;exact ⟨a,c0,rfl,by simpa using g0,trod_qs ht hs hC ho hs2 hone hb hsl hsl2 he ce h2⟩
end rat
namespace rat
open Go.RowKit num mem nat txt str flow whl
section
variable {P:Program}
theorem yJ {w:World} {ops:Array Oper} {rest:List Oper} {o:Oper} {a:Act} {Q:Exit->Act->World->Prop} (hgd:o.guard=none) (s x:Operand) {t:TypeId}
  (ho:o.op=.call { callee:=.builtin .append,args:=#[s,x],argTypes:=#[t,t] })
  {base:Nat} {T:TypeId} (hT:P.underlying t=some (.slice T)) (hI:∃ i,P.info? T=some i/\i.zero=some (.slice none 0 0)/\i.size=1/\i.bytes=24) {v u:Value} {vs:List Value} (hs:a.eval s=v) (hown:zD w base T v vs) (hx:a.eval x=.slice (some ⟨w.heap.size,0,none⟩) 1 1) (hu:u.oneCell'=true)
  (hlen:vs.length<=1000000000) (hbase:base<=w.heap.size)
  (h:∀ v' w',zD w' base T v' (vs ++ [u])->Below base w w'->Hid (zH5 w w' v v')->wpList P ops Q rest (a.put o.dst v') w'):wpList P ops Q (o :: rest) a (w.alloc (.cells #[u] T)):=by
 obtain ⟨i,hi,hz,hsz,hby⟩:=hI;refine wpList_append_lies (w.alloc (.cells #[u] T)) hgd s x t ho base T i (.slice none 0 0) 1 24 hT hi hz hsz hby rfl (by omega) v vs.length vs hs (World.ownsRow.alloc hown _) ⟨w.heap.size,0,none⟩ 1 1 [u] hx rfl ?_ ?_ (by omega) (by unfold maxLen;omega) (by omega) (by simp;omega) _ rfl ?_
 ·exact World.news_of_block (heap_alloc_new w _)
 ·intro u' hu';obtain rfl:=List.mem_singleton.1 hu';exact hu
 ·intro g cap w' g1 g2 g3 g4;have h5:w.grownBy w' v.ownBlock:=qJ6 (World.grownBy_alloc w _ _) g2;refine h _ w' (by unfold zD;rw [zA8];exact g1) ((Below.refl base w).grown h5 hbase hown.base_le) ?_;refine ⟨?_,h5,fun k hk hne e1 => ?_⟩
  ·intro k q l hq hf;refine ⟨hq.farKept hf h5,?_⟩;rintro ad n c rfl hn;rcases g3 with h3 | h3
   ·have:=hf ad n c rfl hn
    rw [h3] at this;exact this
   ·subst h3;intro e1;have e2:ad.block=(w.alloc (.cells #[u] T)).heap.size:=by simpa [Value.ownBlock] using e1
    obtain ⟨A,c',e3,k1,k2,k3⟩:=hq;injection e3 with e3 e4 e5;subst e3;subst e4;obtain ⟨ad',he,hc⟩:=k3 0 _ (zA3 hn);injection he with he;subst he;have h6:=bQ0 w _ hc;rw [Go.ChangeShapes.block_add] at h6;simp at e2;omega
  ·have e2:g=k:=by simpa [Value.ownBlock] using e1
   subst e2;rcases g3 with h3 | h3
   ·exact hne h3
   ·simp at h3;omega
end
def RetFewW (n:Nat) (w:World) (e:Ending) (w':World):Prop:=∃ V U ps rs,e=.returned (.tuple #[V,U])/\zP1 w w' V U ps rs/\zI6 w.heap.size ps/\zI6 w.heap.size rs/\rs.map (·.1)=ps.map (·.1)/\ps.length=n/\(∀ p∈ps,zC2 p.1 1)
theorem jG6 (A0:Option Addr) (n0 c0 M:Nat) (w:World) (h0:zY8 w (.slice A0 n0 c0)) (hM:M<=8) :
  Calls prog 19 #[.slice A0 n0 c0,.int .i64 (M:Int)] w (RetFewW (min n0 M) w):=by
 obtain ⟨A0_,n0_,c0_,e_,hn0,hc0,hel⟩:=h0;injection e_ with e1_ e2_ e3_;subst e1_;subst e2_;subst e3_;have HEL:=hQ9 hel;clear hel;unfold maxLen at hc0;have bb:Below w.heap.size w w:=Below.refl _ _
 go_enter func19,ntmps19
 go_wp2
 go_loopw [6,7,8] (fun v4 v5 v6 wr => ∃ (k:Nat) (ps rs:List Elt),k<=M/\k<=n0/\Hid (ps.length=k)/\Hid (rs.map (·.1)=ps.map (·.1))/\Hid (∀ p∈ps,zC2 p.1 1)/\zP1 w wr v4 v5 ps rs/\zI6 w.heap.size ps/\zI6 w.heap.size rs/\v6=.int .i64 (k:Int)) (fun _ _ v6 _=>M-(intOf v6).toNat)
 case atStart =>
  have r0:=qF7 83 w w.heap.size (zB1 _);have r1:=qF7 65 (w.alloc (.cells #[] 83)) w.heap.size (by simp);have r0':=r0.bQ (zC6 (zB1 _) (.cells #[] 65));refine ⟨0,[],[],by omega,by omega,rfl,rfl,(by show ∀ p∈_,_;intro p hp;cases hp),⟨r0',?_,⟨zG3.nil _ _ _ _,zG3.nil _ _ _ _⟩,⟨zG3.nil _ _ _ _,zG3.nil _ _ _ _⟩,?_,(zC6 (zB1 _) _).alloc (by simp) _⟩,zI6.nil _,zI6.nil _,rfl⟩
  ·simpa using r1
  ·intro g h1 h2;simp [Value.ownBlock] at h1 h2;omega
 case round =>
  obtain ⟨k,ps,rs,hk8,hkn,HPL,HRP,HLQ,hTR,hNP,hNR,rfl⟩:=hrel;obtain ⟨u4,hu4⟩:∃ u4,u4=u6:=⟨_,rfl⟩;obtain ⟨u5,hu5⟩:∃ u5,u5=u7:=⟨_,rfl⟩;subst hu4;subst hu5;have bb':=hTR.2.2.2.2.2;clear bb;have bb:=bb';clear bb';by_cases hlt:k<n0/\k<M
  ·obtain ⟨hlt1,hlt2⟩:=hlt;obtain ⟨ad,b,ue,te,l,m,hA0,e0,e1,e2,hu,lu,ht,lt⟩:=HEL.out k hlt1;subst hA0;obtain ⟨Ae,ce,rfl,_⟩:=id hu;obtain ⟨De,ee,rfl,_⟩:=id ht;replace e0:=(bb.cell (bQ0 w _ e0)).trans e0;replace e1:=(bb.cell (bQ0 w _ e1)).trans e1;replace e2:=(bb.cell (bQ0 w _ e2)).trans e2;replace hu:=hu.bQ bb;replace ht:=ht.bQ bb;obtain ⟨q,hq⟩:∃ q,q=qF8 b l m 1:=⟨_,rfl⟩;have lq:zC2 q 1:=by rw [hq];exact yX6 _ _ _ (by omega)
   have HQ:=hQ9 hq.symm;clear hq;have bl:Below wr.heap.size wr wr:=Below.refl _ _;have hszr:=bb.size;go_upto_region 5 with (fail);refine zC3 6 [Pd.eq (.slice (some ad) n0 c0),Pd.eq (.int .i64 (k:Int)),Pd.eq (.pointer (some (ad.add (k*3)))),Pd.eq (.agg #[.bool b,.slice Ae l.length ce,.slice De m.length ee]),pq (q) wr.heap.size,pn 83 #[.bool false,.slice none 0 0,.slice none 0 0] wr.heap.size] (by kernel_rfl) ?ob1 ?done1
   case ob1 =>
    refine zA (zB8 rfl (zB3 rfl) (zB5 rfl rfl) (fun _ _ h=>h)) ?_;refine zA (zB8 rfl (zB3 rfl) (zB5 rfl rfl) (fun _ _ h=>h)) ?_;refine zA (zI rfl (zB3 rfl) (zB4 (j:=0) (by kernel_rfl) rfl rfl) (zB4 (j:=1) (by kernel_rfl) rfl rfl) (fun _ _ _ hx hy=>⟨_,by rw [hx,hy];exact yY5 underlying44 (by kernel_rfl) ad hlt1 _,rfl⟩)) ?_;refine zA (zB7 rfl (zB3 rfl) (zB4 (j:=2) (by kernel_rfl) rfl rfl) (fun w2 hb=>yY6 underlying83 rfl (by kernel_rfl) ((hb.cell (bQ0 wr _ e0)).trans e0) ((hb.cell (bQ0 wr _ e1)).trans e1) ((hb.cell (bQ0 wr _ e2)).trans e2)) (fun _ _=>rfl)) ?_;refine zA (zC7 rfl func51 (by kernel_rfl) (zB3 rfl) (zB4 (j:=3) (by kernel_rfl) rfl rfl) (zF8 _) (fun w2 u0 u1 hb h0 h1=>by obtain rfl:=h0;obtain rfl:=h1;exact (HQ.out ▸ yX7 b _ _ l m 1 1 _ rfl (hu.bQ hb) lu (ht.bQ hb) lt (by omega) (by omega)).mono fun e w3 h=>RetQ.pd h hb.size)) ?_;refine zA (zL3 (z:=.agg #[.bool false,.slice none 0 0,.slice none 0 0]) rfl rfl (fun _=>by kernel_rfl) (fun _ _ hB h=>⟨_,rfl,hB,h⟩)) ?_
    trivial
   case done1 =>
    refine fun w2 hb2 v0 h0 v1 h1 v2 h2 v3 h3 v4 h4 v5 h5 d5 b hbf => ?_;obtain rfl:=h0;obtain rfl:=h1;obtain rfl:=h2;obtain rfl:=h3;obtain ⟨q4,f4⟩:=h4;obtain ⟨g1_5,rfl,hg5,B5⟩:=h5;simp only [Act.put,zA0,zA2,zA1] at hbf;subst hbf;replace bb:=bb.trans (hb2.mono bb.size);have hsz2:=bb.size;replace bl:=bl.trans (hb2.mono bl.size);have BA9:=B5;obtain ⟨u4,t4,rfl,q4,d4⟩:=q4;obtain ⟨A7,c7,rfl,_⟩:=id q4;obtain ⟨D7,e7,rfl,_⟩:=id d4;refine zH0 (i:=6) rfl rfl rfl rfl rfl rfl (cells:=[.bool (ngB (q).num),.slice A7 (digs 4294967296 (q).num.natAbs).length c7,.slice D7 (digs 4294967296 (q).den).length e7]) rfl BA9 rfl (by kernel_rfl) (zH rfl rfl rfl) fun w3 hg3 BN3 => ?_;replace q4:=off q4 BA9 zC9 hg3;replace d4:=off d4 BA9 zC9 hg3;replace bb:=bb.trans ((Below.refl _ _).grown hg3 bb.size (fun g hg=>by injection hg with hg;omega));have hsz3:=bb.size;have B7:Blk w3 (g1_5) _ _:=BN3;have k7s:=q4;have k7d:=d4;have k7z:IsZ w3 (.agg #[.bool (ngB (q).num),.slice A7 (digs 4294967296 (q).num.natAbs).length c7]) ((q).num):=⟨_,rfl,k7s⟩;have k7:IsQ w3 (.agg #[.bool (ngB (q).num),.slice A7 (digs 4294967296 (q).num.natAbs).length c7,.slice D7 (digs 4294967296 (q).den).length e7]) (q):=⟨_,_,rfl,k7s,k7d⟩;have hq_:=bl.size;replace bl:=bl.trans ((Below.refl _ _).grown hg3 bl.size (fun g hg=>by injection hg with hg;omega));clear hq_;refine zC4 ?_;have g1:=(f4 _ _ _ rfl).1;have g2:=(f4 _ _ _ rfl).2;have under4:=hTR.1.under;have under5:=hTR.2.1.under;have far4:Far u4 (.slice A7 (digs 4294967296 (q).num.natAbs).length c7)/\Far u4 (.slice D7 (digs 4294967296 (q).den).length e7):=⟨g1.far under4,g2.far under4⟩;have far5:Far u5 (.slice A7 (digs 4294967296 (q).num.natAbs).length c7)/\Far u5 (.slice D7 (digs 4294967296 (q).den).length e7):=⟨g1.far under5,g2.far under5⟩;have hT2:=hTR.bQ bl;have HT2:=hQ9 hT2;have hr4:zD0 83 w3 w.heap.size u4 ps:=hT2.1;have hszT:w.heap.size<=w3.heap.size:=hT2.2.2.2.2.2.size;have hne4:u4.ownBlock≠some g1_5:=fun e=>by have:=under4 _ e;omega
    obtain ⟨x70,x71,x72,_,_,_⟩:=three B7;obtain ⟨P1,hP1⟩:∃ P1:Elt,P1=(q,.slice A7 (digs 4294967296 (q).num.natAbs).length c7,.slice D7 (digs 4294967296 (q).den).length e7):=⟨_,rfl⟩;have HP1:=hQ9 hP1;have k7d_:IsE .u64 4294967296 w3 (q,.slice A7 (digs 4294967296 (q).num.natAbs).length c7,.slice D7 (digs 4294967296 (q).den).length e7):=⟨k7s,k7d⟩;have lq3:zC2 q 30000:=⟨zB2 lq.1 (by decide),zB2 lq.2 (by decide)⟩
    have HL8:Hid (ps.length<=1000000000/\rs.length<=1000000000):=by
     have h1:=HPL.out;have h2:=congrArg List.length HRP.out;rw [zA9,zA9] at h2;exact ⟨by omega,by omega⟩
    clear hT2 hTR e0 e1 e2 hu ht lu lt hP1;obtain ⟨cA0,cA1,cA2⟩:=qM6 w3 83 (.bool (ngB (q).num)) (.slice A7 (digs 4294967296 (q).num.natAbs).length c7) (.slice D7 (digs 4294967296 (q).den).length e7);have bA:=zC6 (w:=w3) (zB1 _) (.cells #[.bool (ngB (q).num),.slice A7 (digs 4294967296 (q).num.natAbs).length c7,.slice D7 (digs 4294967296 (q).den).length e7] 83);obtain ⟨wA,hwA⟩:∃ wA,wA=w3.alloc (.cells #[.bool (ngB (q).num),.slice A7 (digs 4294967296 (q).num.natAbs).length c7,.slice D7 (digs 4294967296 (q).den).length e7] 83):=⟨_,rfl⟩;have HWA:=hQ9 hwA;rw [<- hwA] at cA0 cA1 cA2 bA;replace bA:=bA.drew;have rA:=hr4.bQ bA;have eA:=k7d_.bQ bA;have tA:=HT2.out.bQ bA;have BA_:=B7.bQ bA;have hszA:w.heap.size<=wA.drew.heap.size:=tA.2.2.2.2.2.size;have TA:=hQ9 tA;clear tA;subst hwA;obtain ⟨xA0,xA1,xA2,_,_,_⟩:=three BA_;go_upto_region 6 with (fail)
    go_region_law (first
     | (refine qT3 rfl (.tmp 28) (.tmp 30) rfl underlying44 zQ6 (v:=u4) (p:=(q,.slice A7 (digs 4294967296 (q).num.natAbs).length c7,.slice D7 (digs 4294967296 (q).den).length e7)) (ps:=ps) (by rfl) (by exact rA) (ad:=⟨w3.heap.size,0,none⟩) (c:=1) (by rfl) (by exact cA0) (by exact cA1) (by exact cA2) rfl rfl HL8.out.1 (by exact hszA) ?_;intro v5 w5 row5 bb5 HK5;have T5:=hQ9 (TA.out.one row5 HK5.out bb5 eA far4 far5);have s5:=(HK5.out.1 _ _ _ eA.1 far4.1).1;have d5:=(HK5.out.1 _ _ _ eA.2 far4.2).1;have B5_:=BA_.other HK5.out.2.1 hne4;obtain ⟨x50,x51,x52,_,_,_⟩:=three B5_)
     | (go_simp;go_at_call 52;refine (jD0 _ q _ ⟨_,_,rfl,(by exact s5),(by exact d5)⟩ lq3).mono ?_;rintro e w6 ⟨v6,rfl,k6,f6,b6⟩;have T6:=hQ9 (T5.out.bQ b6);have row6:=T6.out.2.1;obtain ⟨u6,t6,rfl,q6,d6⟩:=k6;obtain ⟨A6,c6,rfl,_⟩:=id q6;obtain ⟨D6,e6,rfl,_⟩:=id d6;have hsz6:w.heap.size<=w6.heap.size:=T6.out.2.2.2.2.2.size;obtain ⟨cC0,cC1,cC2⟩:=qM6 w6 65 (.bool (ngB (q).num)) (.slice A6 (digs 10000 (q).num.natAbs).length c6) (.slice D6 (digs 10000 (q).den).length e6);have rC:=row6.bQ (zC6 (zB1 _) (.cells #[.bool (ngB (q).num),.slice A6 (digs 10000 (q).num.natAbs).length c6,.slice D6 (digs 10000 (q).den).length e6] 65));have hszC:=zB2 hsz6 (zC6 (w:=w6) (zB1 _) (.cells #[.bool (ngB (q).num),.slice A6 (digs 10000 (q).num.natAbs).length c6,.slice D6 (digs 10000 (q).den).length e6] 65)).size)
     | (refine qT3 rfl (.tmp 32) (.tmp 35) rfl underlying45 zY7 (v:=u5) (p:=(q,.slice A6 (digs 10000 (q).num.natAbs).length c6,.slice D6 (digs 10000 (q).den).length e6)) (ps:=rs) (by rfl) (by exact rC) (ad:=⟨w6.heap.size,0,none⟩) (c:=1) (by rfl) (by exact cC0) (by exact cC1) (by exact cC2) rfl rfl HL8.out.2 (by exact hszC) ?_;intro v7 w7 row7 bb7 HK7))
    all_goals
     have ba6:=zC6 (w:=w6) (zB1 _) (.cells #[.bool (ngB (q).num),.slice A6 (digs 10000 (q).num.natAbs).length c6,.slice D6 (digs 10000 (q).den).length e6] 65);have TC:=T6.out.bQ ba6;have EC:IsE .i64 10000 (w6.alloc (.cells #[.bool (ngB (q).num),.slice A6 (digs 10000 (q).num.natAbs).length c6,.slice D6 (digs 10000 (q).den).length e6] 65)) (q,.slice A6 (digs 10000 (q).num.natAbs).length c6,.slice D6 (digs 10000 (q).den).length e6):=⟨q6.bQ ba6,d6.bQ ba6⟩;have j1:=(f6 _ _ _ rfl).1;have j2:=(f6 _ _ _ rfl).2;have n4:=T5.out.1.under;have n5:=T5.out.2.1.under;have T7:=TC.two row7 HK7.out bb7 EC ⟨j1.far n4,j2.far n4⟩ ⟨j1.far n5,j2.far n5⟩;have NP7:=hNP.snoc (p:=(q,.slice A7 (digs 4294967296 (q).num.natAbs).length c7,.slice D7 (digs 4294967296 (q).den).length e7)) (g1.mono hszr) (g2.mono hszr);have hs5:w.heap.size<=w5.heap.size:=T5.out.2.2.2.2.2.size;have NR7:=hNR.snoc (p:=(q,.slice A6 (digs 10000 (q).num.natAbs).length c6,.slice D6 (digs 10000 (q).den).length e6)) (j1.mono hs5) (j2.mono hs5);have HPL7:Hid ((ps ++ [((q,.slice A7 (digs 4294967296 (q).num.natAbs).length c7,.slice D7 (digs 4294967296 (q).den).length e7):Elt)]).length=k+1):=by show _=_;rw [zA8,HPL.out];rfl
     have HRP7:Hid ((rs ++ [((q,.slice A6 (digs 10000 (q).num.natAbs).length c6,.slice D6 (digs 10000 (q).den).length e6):Elt)]).map (·.1)=(ps ++ [((q,.slice A7 (digs 4294967296 (q).num.natAbs).length c7,.slice D7 (digs 4294967296 (q).den).length e7):Elt)]).map (·.1)):=by show _=_;rw [bX5,bX5,HRP.out];rfl
     have HLQ7:Hid (∀ p∈ps ++ [((q,.slice A7 (digs 4294967296 (q).num.natAbs).length c7,.slice D7 (digs 4294967296 (q).den).length e7):Elt)],zC2 p.1 1):=fun p hp=>by
      rcases List.mem_append.1 hp with hp | hp
      ·exact HLQ.out p hp
      ·rw [List.mem_singleton.1 hp];exact lq
     have hme:M-(k+1)<M-k:=by omega
     go_wp2;go_roundw;case rel=>exact ⟨k+1,_,_,by omega,by omega,HPL7,HRP7,HLQ7,T7,NP7,NR7,rfl⟩
     case measure=>exact hme
  ·have HEND:Hid (zP1 w wr u4 u5 ps rs/\zI6 w.heap.size ps/\zI6 w.heap.size rs/\rs.map (·.1)=ps.map (·.1)/\ps.length=min n0 M/\(∀ p∈ps,zC2 p.1 1)):=⟨hTR,hNP,hNR,HRP.out,by rw [HPL.out];omega,HLQ.out⟩;clear hTR HRP HLQ HPL hNP hNR;have hx:¬ k<n0\/(k<n0 /\ ¬ k<M):=by omega
   rcases hx with hx | ⟨hx1,hx2⟩
   all_goals
    go_wp2;go_ret2;exact ⟨_,_,ps,rs,rfl,HEND.out.1,HEND.out.2.1,HEND.out.2.2.1,HEND.out.2.2.2.1,HEND.out.2.2.2.2.1,HEND.out.2.2.2.2.2⟩
theorem zD0.weak {T:TypeId} {w:World} {base base':Nat} {v:Value} {ps:List Elt} (h:zD0 T w base v ps) (hb:base'<=base):zD0 T w base' v ps:=by
 refine ⟨h.1,?_⟩;rcases h.2 with h2 | ⟨g,cap,cur,e,h1,h2⟩
 ·exact .inl h2
 ·exact .inr ⟨g,cap,cur,e,zB2 hb h1,h2⟩
structure TabK (T:TypeId) (w:World) (base:Nat) (TS:TypeId) (V:Value) (us:List Value) (pss:List (List Elt)):Prop where
 row:zD w base TS V us
 len:us.length=pss.length
 own:∀ (i:Nat) (u:Value) (ps:List Elt),us[i]?=some u->pss[i]?=some ps->zD0 T w base u ps
 apart:∀ (i j:Nat) (u v:Value),i≠j->us[i]?=some u->us[j]?=some v -> ∀ h,u.ownBlock=some h->v.ownBlock≠some h
theorem TabO.k {k:IntKind} {B:Nat} {T:TypeId} {w:World} {base:Nat} {TS:TypeId} {V:Value} {us:List Value} {pss:List (List Elt)} (h:TabO k B T w base TS V us pss):TabK T w base TS V us pss:=⟨h.row,h.len,h.own,h.apart⟩
theorem TabK.mem {T:TypeId} {w:World} {base:Nat} {TS:TypeId} {V:Value} {us:List Value} {pss:List (List Elt)} (h:TabK T w base TS V us pss) {u:Value} (hu:u∈us):∃ ps,zD0 T w base u ps:=by
 obtain ⟨i,hi⟩:=List.mem_iff_getElem?.1 hu;have hp:pss[i]?=some (pss[i]'(by rw [<- h.len];exact (zA4.1 hi).1)):=zA3 _;exact ⟨_,h.own i u _ hi hp⟩
theorem zD.kept {w w':World} {base:Nat} {TS:TypeId} {V:Value} {us:List Value} {row:Option Nat} (h:zD w base TS V us) (hg:w.grownBy w' row) (hV:∀ g,V.ownBlock=some g->row≠some g):zD w' base TS V us :=
 World.ownsRow.kept (row:=row) h hg (by
  cases hv:V.ownBlock with
  | none=>exact .inl rfl
  | some g=>exact .inr fun e=>hV g hv e.symm)
theorem TabK.kept {T:TypeId} {w w':World} {base:Nat} {TS:TypeId} {V:Value} {us:List Value} {pss:List (List Elt)} {row:Option Nat} (h:TabK T w base TS V us pss) (hg:w.grownBy w' row) (hV:∀ g,V.ownBlock=some g->row≠some g) (hu:∀ u∈us,∀ g,u.ownBlock=some g->row≠some g):TabK T w' base TS V us pss :=
 ⟨zD.kept h.row hg hV,h.len,fun i u ps hi hp=>(h.own i u ps hi hp).other hg (fun g e=>hu u (zA5 hi) g e),h.apart⟩
theorem TabO.kept {k:IntKind} {B:Nat} {T:TypeId} {w w':World} {base:Nat} {TS:TypeId} {V:Value} {us:List Value} {pss:List (List Elt)} {row:Option Nat} (h:TabO k B T w base TS V us pss) (hg:w.grownBy w' row) (hV:∀ g,V.ownBlock=some g->row≠some g) (hu:∀ u∈us,∀ g,u.ownBlock=some g->row≠some g)
  (hf:∀ ps∈pss,∀ p∈ps,(∀ ad n c,p.2.1=.slice (some ad) n c->0<n->some ad.block≠row)/\(∀ ad n c,p.2.2=.slice (some ad) n c->0<n->some ad.block≠row)):TabO k B T w' base TS V us pss:=by
 have hk:=h.k.kept hg hV hu;refine ⟨hk.row,hk.len,hk.own,fun u hu' ps hp p hpp => ?_,fun ps hp p hpp => ?_,hk.apart⟩
 ·obtain ⟨e1,f1⟩:=h.far u hu' ps hp p hpp;exact ⟨⟨e1.1.farKept (hf ps hp p hpp).1 hg,e1.2.farKept (hf ps hp p hpp).2 hg⟩,f1⟩
 ·obtain ⟨e1,f1⟩:=h.farV ps hp p hpp;exact ⟨⟨e1.1.farKept (hf ps hp p hpp).1 hg,e1.2.farKept (hf ps hp p hpp).2 hg⟩,f1⟩
theorem TabO.snoc {k:IntKind} {B:Nat} {T:TypeId} {w w':World} {base:Nat} {TS:TypeId} {V V' u:Value} {us:List Value} {pss:List (List Elt)} {ps:List Elt} (hT:T≠TS) (h:TabO k B T w base TS V us pss) (hrow:zD w' base TS V' (us ++ [u])) (hg:zH5 w w' V V') (hu:zD0 T w base u ps)
  (hap:∀ v∈us,∀ g,v.ownBlock=some g->u.ownBlock≠some g) (hf1:zG3 k B w u ps) (hf2:∀ v∈us,∀ p∈ps,Far v p.2.1/\Far v p.2.2) (hf3:∀ p∈ps,Far V p.2.1/\Far V p.2.2) (hf4:∀ qs∈pss,∀ p∈qs,Far u p.2.1/\Far u p.2.2):TabO k B T w' base TS V' (us ++ [u]) (pss ++ [ps]):=by
 obtain ⟨k1,k2,k3⟩:=hg;have hlen:=h.len;have own':∀ {v:Value} {qs:List Elt},zD0 T w base v qs->zD0 T w' base v qs:=fun r=>r.other k2 fun g e e2=>r.notRow h.row hT g e e2
 have at_:∀ {i:Nat} {v:Value},(us ++ [u])[i]?=some v->(us[i]?=some v/\i<us.length)\/(i=us.length/\v=u):=by
  intro i v hi;by_cases hl:i<us.length
  ·rw [zB0 hl] at hi;exact .inl ⟨hi,hl⟩
  ·rw [bW0 (by omega)] at hi;rcases hj:i-us.length with _ | j
   ·rw [hj] at hi;refine .inr ⟨by omega,?_⟩;simpa using hi.symm
   ·rw [hj] at hi;simp at hi
 have all:∀ qs∈pss ++ [ps],∀ p∈qs,(IsE k B w' p/\Far V' p.2.1/\Far V' p.2.2)/\(∀ v∈us,Far v p.2.1/\Far v p.2.2)/\Far u p.2.1/\Far u p.2.2:=by
  intro qs hqs p hp
  have main:IsE k B w p->Far V p.2.1->Far V p.2.2->IsE k B w' p/\Far V' p.2.1/\Far V' p.2.2:=fun a b c=>by
   have x1:=k1 _ _ _ a.1 b;have x2:=k1 _ _ _ a.2 c;exact ⟨⟨x1.1,x2.1⟩,x1.2,x2.2⟩
  rcases List.mem_append.1 hqs with hqs | hqs
  ·obtain ⟨e1,f1,f2⟩:=h.farV qs hqs p hp;exact ⟨main e1 f1 f2,fun v hv=>(h.far v hv qs hqs p hp).2,hf4 qs hqs p hp⟩
  ·rw [List.mem_singleton.1 hqs] at hp;obtain ⟨e1,f1,f2⟩:=hf1 p hp;exact ⟨main e1 (hf3 p hp).1 (hf3 p hp).2,fun v hv=>hf2 v hv p hp,f1,f2⟩
 refine ⟨hrow,by rw [zA8,zA8,hlen];rfl,fun i v qs hv hq => ?_,fun v hv qs hqs p hp => ?_,fun qs hqs p hp=>(all qs hqs p hp).1,fun i j a b hij ha hb g hga hgb => ?_⟩
 ·rcases at_ hv with ⟨hv,hl⟩|⟨rfl,rfl⟩
  ·rw [zB0 (by omega)] at hq;exact own' (h.own i v qs hv hq)
  ·rw [bW0 (by omega),hlen,Nat.sub_self] at hq;obtain rfl:ps=qs:=by simpa using hq
   exact own' hu
 ·refine ⟨(all qs hqs p hp).1.1,?_⟩;rcases List.mem_append.1 hv with hv | hv
  ·exact (all qs hqs p hp).2.1 v hv
  ·rw [List.mem_singleton.1 hv];exact (all qs hqs p hp).2.2
 ·rcases at_ ha with ⟨ha1,hl⟩|⟨hi,rfl⟩
  ·rcases at_ hb with ⟨hb1,hl2⟩|⟨hj,rfl⟩
   ·exact h.apart i j a b hij ha1 hb1 g hga hgb
   ·exact hap a (zA5 ha1) g hga hgb
  ·rcases at_ hb with ⟨hb1,hl2⟩|⟨hj,rfl⟩
   ·exact hap b (zA5 hb1) g hgb hga
   ·exact hij (by omega)
end rat
end Go.Proofs.YtagaabooccnamaaGreat
