/- Package vect: vanishes, Scale, Dot, Lead. Condition: as each says. -/
import Derived.Test.YtagaabooccnamaaGreatKB4
import Derived.Deep.RegionHeld3
import Derived.Maps.RangeWalk
import Derived.Maps.OwnSet
import Derived.WideKeyPair
import Derived.BigRegion
import Derived.Deep.CutRange
open Go.Proofs.Tryz
open Go.Lib renaming hid -> hQ9
set_option linter.unusedVariables false
set_option linter.unusedSimpArgs false
set_option maxRecDepth 100000
set_option maxHeartbeats 6400000
open And renaming intro -> zA
open List renaming setIfInBounds_toArray -> zA0, set_cons_succ -> zA1, set_cons_zero -> zA2, getElem?_eq_getElem -> zA3, getElem?_eq_some_iff -> zA4, mem_of_getElem? -> zA5, take_of_length_le -> zA7, length_append -> zA8, length_map -> zA9, replicate -> zB, getElem?_append_left -> zB0, getElem?_map -> zB1, length_take -> zB2, length_set -> zB3
open Nat renaming le_refl -> zB4, le_trans -> zB5
namespace Go.Proofs.YtagaabooccnamaaGreat.rat
open Go.RowKit num mem nat txt str flow whl
theorem qG6 {x:Rat} : (zK5 x.num 0 == 0)=decide (x=0):=by
 by_cases h:x=0
 ·rw [h,decide_eq_true rfl];rfl
 ·rw [decide_eq_false h,beq_eq_false_iff_ne];intro e;have hz:x.num≠0:=fun k=>h (Rat.num_eq_zero.1 k)
  rcases Int.lt_or_gt_of_ne hz with k | k
  ·rw [qE3 k] at e;cases e
  ·rw [qE4 k] at e;cases e
theorem qT3 {x y:Rat} : x*y=0 ↔ x=0\/y=0:=by
 constructor
 ·intro h;exact Rat.mul_eq_zero.1 h
 ·rintro (rfl|rfl)
  ·exact Rat.zero_mul _
  ·exact Rat.mul_zero _
theorem yG7 (a0 a1:Value) (x y:Rat) (b:Bool) (w:World) (h0:IsQ w a0 x) (h1:IsQ w a1 y) (hb:b=decide (x*y=0)) :
  Calls prog 174 #[a0,a1] w (zD5 (.bool b) w):=by
 obtain ⟨s,hs⟩:∃ s,s=zK5 x.num 0:=⟨_,rfl⟩;obtain ⟨t,ht⟩:∃ t,t=zK5 y.num 0:=⟨_,rfl⟩;have HS:=hQ9 hs;have HT:=hQ9 ht;have HB:=hQ9 hb;clear hb;by_cases hx:x=0
 ·obtain ⟨u0,t0,rfl,s0,r0⟩:=h0;obtain ⟨A0,c0,rfl,_⟩:=id s0;obtain ⟨D0,e0,rfl,_⟩:=id r0;obtain ⟨u1,t1,rfl,s1,r1⟩:=h1;obtain ⟨A1,c1,rfl,_⟩:=id s1;obtain ⟨D1,e1,rfl,_⟩:=id r1;have H1:Hid ((s == 0)=true):=by show _=_;rw [hs,qG6,decide_eq_true hx]
  have HW:Hid (b=true):=by show _=_;rw [HB.out];exact decide_eq_true (qT3.2 (.inl hx))
  clear hs ht hx
  go_enter func174,ntmps174
  go_upto_region 1 with (fail)
  obtain ⟨wx,hwx,bb,B0,B1,hsz⟩:=zH4 w 83 83 #[.bool (ngB (x).num),.slice A0 (digs 4294967296 (x).num.natAbs).length c0,.slice D0 (digs 4294967296 (x).den).length e0] #[.bool (ngB (y).num),.slice A1 (digs 4294967296 (y).num.natAbs).length c1,.slice D1 (digs 4294967296 (y).den).length e1];rw [hwx];clear hwx;have k0s:=s0.below bb;have k0d:=r0.below bb;have k0z:IsZ wx (.agg #[.bool (ngB (x).num),.slice A0 (digs 4294967296 (x).num.natAbs).length c0]) (x).num:=⟨_,rfl,k0s⟩;have k0:IsQ wx (.agg #[.bool (ngB (x).num),.slice A0 (digs 4294967296 (x).num.natAbs).length c0,.slice D0 (digs 4294967296 (x).den).length e0]) (x):=⟨_,_,rfl,k0s,k0d⟩;have k1s:=s1.below bb;have k1d:=r1.below bb;have k1z:IsZ wx (.agg #[.bool (ngB (y).num),.slice A1 (digs 4294967296 (y).num.natAbs).length c1]) (y).num:=⟨_,rfl,k1s⟩;have k1:IsQ wx (.agg #[.bool (ngB (y).num),.slice A1 (digs 4294967296 (y).num.natAbs).length c1,.slice D1 (digs 4294967296 (y).den).length e1]) (y):=⟨_,_,rfl,k1s,k1d⟩;have hsz0:=bb.size;have sB:=bb.size;refine zC9 9 [Pd.eq (.agg #[.bool (ngB (x).num),.slice A0 (digs 4294967296 (x).num.natAbs).length c0,.slice D0 (digs 4294967296 (x).den).length e0]),Pd.eq (.int .i64 s),Pd.eq (.bool true),Pd.eq (.bool true),Pd.any,Pd.any,Pd.any,Pd.eq (.bool true),Pd.eq (.bool true)] (by kernel_rfl) ?ob1 ?done1
  case ob1 =>
   refine zA (zC rfl (zB7 rfl) (zB9 rfl rfl) (fun w2 hb=>zF7 underlying83 rfl (by kernel_rfl) (B0.below hb)) (fun _ _=>rfl)) ?_;refine zA (zF6 rfl func133 (by kernel_rfl) (zB7 rfl) (zB8 (j:=0) (by kernel_rfl) rfl rfl) (fun w2 u0 hb h0=>by obtain rfl:=h0;exact (zU2 _ x s _ (k0.below hb) HS.out).mono fun e w3 h=>zD5.pd h)) ?_;refine zA (zE8 rfl (zB7 rfl) (zB8 (j:=1) (by kernel_rfl) rfl rfl) (zG2 _) (fun _ _ _ hx hy=>⟨.bool true,by rw [hx,hy,zN3,H1.out],rfl⟩)) ?_;refine zA (zC2 rfl (zB7 rfl) (zB8 (j:=2) (by kernel_rfl) rfl rfl) (fun _ _ h=>h)) ?_;refine zA (zG3 (zD3 (c:=true) (b:=false) (g:=3) rfl (by kernel_rfl) rfl rfl rfl (by exact fun _ _ h=>h)) (fun _=>trivial) rfl) ?_;refine zA (zG3 (zD3 (c:=true) (b:=false) (g:=3) rfl (by kernel_rfl) rfl rfl rfl (by exact fun _ _ h=>h)) (fun _=>trivial) rfl) ?_;refine zA (zG3 (zD3 (c:=true) (b:=false) (g:=3) rfl (by kernel_rfl) rfl rfl rfl (by exact fun _ _ h=>h)) (fun _=>trivial) rfl) ?_;refine zA (zM4 (b:=true) rfl (zB7 rfl) (zB8 (j:=3) (by kernel_rfl) rfl rfl) (zG2 _) (fun _ _ h=>h)) ?_;refine zA (zE6 rfl (zB7 rfl) (zB8 (j:=7) (by kernel_rfl) rfl rfl) (fun _ _ h=>h)) ?_
   trivial
  case done1 =>
   refine fun w1 hb1 v0 h0 v1 h1 v2 h2 v3 h3 v4 h4 v5 h5 v6 h6 v7 h7 v8 h8 b hbf => ?_;obtain rfl:=h0;obtain rfl:=h1;obtain rfl:=h2;obtain rfl:=h3;obtain rfl:=h7;obtain rfl:=h8;clear h4;clear h5;clear h6;simp only [Act.put,zA0,zA2,zA1] at hbf;subst hbf;replace B0:=B0.below hb1;replace k0s:=k0s.below hb1;replace k0d:=k0d.below hb1;replace k0z:=k0z.below hb1;replace k0:=k0.below hb1;replace B1:=B1.below hb1;replace k1s:=k1s.below hb1;replace k1d:=k1d.below hb1;replace k1z:=k1z.below hb1;replace k1:=k1.below hb1;replace bb:=bb.trans (hb1.mono bb.size);have hsz1:=bb.size;refine zD ?_;go_wp2;go_ret;exact ⟨by rw [HW.out];rfl,bb⟩
 ·by_cases hy:y=0
  ·obtain ⟨u0,t0,rfl,s0,r0⟩:=h0;obtain ⟨A0,c0,rfl,_⟩:=id s0;obtain ⟨D0,e0,rfl,_⟩:=id r0;obtain ⟨u1,t1,rfl,s1,r1⟩:=h1;obtain ⟨A1,c1,rfl,_⟩:=id s1;obtain ⟨D1,e1,rfl,_⟩:=id r1;have H1:Hid ((s == 0)=false):=by show _=_;rw [hs,qG6,decide_eq_false hx]
   have H2:Hid ((t == 0)=true):=by show _=_;rw [ht,qG6,decide_eq_true hy]
   have HW:Hid (b=true):=by show _=_;rw [HB.out];exact decide_eq_true (qT3.2 (.inr hy))
   clear hs ht hx hy
   go_enter func174,ntmps174
   go_upto_region 1 with (fail)
   obtain ⟨wx,hwx,bb,B0,B1,hsz⟩:=zH4 w 83 83 #[.bool (ngB (x).num),.slice A0 (digs 4294967296 (x).num.natAbs).length c0,.slice D0 (digs 4294967296 (x).den).length e0] #[.bool (ngB (y).num),.slice A1 (digs 4294967296 (y).num.natAbs).length c1,.slice D1 (digs 4294967296 (y).den).length e1];rw [hwx];clear hwx;have k0s:=s0.below bb;have k0d:=r0.below bb;have k0z:IsZ wx (.agg #[.bool (ngB (x).num),.slice A0 (digs 4294967296 (x).num.natAbs).length c0]) (x).num:=⟨_,rfl,k0s⟩;have k0:IsQ wx (.agg #[.bool (ngB (x).num),.slice A0 (digs 4294967296 (x).num.natAbs).length c0,.slice D0 (digs 4294967296 (x).den).length e0]) (x):=⟨_,_,rfl,k0s,k0d⟩;have k1s:=s1.below bb;have k1d:=r1.below bb;have k1z:IsZ wx (.agg #[.bool (ngB (y).num),.slice A1 (digs 4294967296 (y).num.natAbs).length c1]) (y).num:=⟨_,rfl,k1s⟩;have k1:IsQ wx (.agg #[.bool (ngB (y).num),.slice A1 (digs 4294967296 (y).num.natAbs).length c1,.slice D1 (digs 4294967296 (y).den).length e1]) (y):=⟨_,_,rfl,k1s,k1d⟩;have hsz0:=bb.size;have sB:=bb.size;refine zC9 9 [Pd.eq (.agg #[.bool (ngB (x).num),.slice A0 (digs 4294967296 (x).num.natAbs).length c0,.slice D0 (digs 4294967296 (x).den).length e0]),Pd.eq (.int .i64 s),Pd.eq (.bool false),Pd.eq (.bool false),Pd.eq (.agg #[.bool (ngB (y).num),.slice A1 (digs 4294967296 (y).num.natAbs).length c1,.slice D1 (digs 4294967296 (y).den).length e1]),Pd.eq (.int .i64 t),Pd.eq (.bool true),Pd.eq (.bool true),Pd.eq (.bool true)] (by kernel_rfl) ?ob2 ?done2
   case ob2 =>
    refine zA (zC rfl (zB7 rfl) (zB9 rfl rfl) (fun w2 hb=>zF7 underlying83 rfl (by kernel_rfl) (B0.below hb)) (fun _ _=>rfl)) ?_;refine zA (zF6 rfl func133 (by kernel_rfl) (zB7 rfl) (zB8 (j:=0) (by kernel_rfl) rfl rfl) (fun w2 u0 hb h0=>by obtain rfl:=h0;exact (zU2 _ x s _ (k0.below hb) HS.out).mono fun e w3 h=>zD5.pd h)) ?_;refine zA (zE8 rfl (zB7 rfl) (zB8 (j:=1) (by kernel_rfl) rfl rfl) (zG2 _) (fun _ _ _ hx hy=>⟨.bool false,by rw [hx,hy,zN3,H1.out],rfl⟩)) ?_;refine zA (zC2 rfl (zB7 rfl) (zB8 (j:=2) (by kernel_rfl) rfl rfl) (fun _ _ h=>h)) ?_;refine zA (zC rfl (zD3 (c:=false) (b:=false) (g:=3) rfl (by kernel_rfl) rfl rfl rfl (by exact fun _ _ h=>h)) (zB9 rfl rfl) (fun w2 hb=>zF7 underlying83 rfl (by kernel_rfl) (B1.below hb)) (fun _ _=>rfl)) ?_;refine zA (zF6 rfl func133 (by kernel_rfl) (zD3 (c:=false) (b:=false) (g:=3) rfl (by kernel_rfl) rfl rfl rfl (by exact fun _ _ h=>h)) (zB8 (j:=4) (by kernel_rfl) rfl rfl) (fun w2 u0 hb h0=>by obtain rfl:=h0;exact (zU2 _ y t _ (k1.below hb) HT.out).mono fun e w3 h=>zD5.pd h)) ?_;refine zA (zE8 rfl (zD3 (c:=false) (b:=false) (g:=3) rfl (by kernel_rfl) rfl rfl rfl (by exact fun _ _ h=>h)) (zB8 (j:=5) (by kernel_rfl) rfl rfl) (zG2 _) (fun _ _ _ hx hy=>⟨.bool true,by rw [hx,hy,zN3,H2.out],rfl⟩)) ?_;refine zA (zM4 (b:=false) rfl (zB7 rfl) (zB8 (j:=3) (by kernel_rfl) rfl rfl) (zB8 (j:=6) (by kernel_rfl) rfl rfl) (fun _ _ h=>h)) ?_;refine zA (zE6 rfl (zB7 rfl) (zB8 (j:=7) (by kernel_rfl) rfl rfl) (fun _ _ h=>h)) ?_
    trivial
   case done2 =>
    refine fun w1 hb1 v0 h0 v1 h1 v2 h2 v3 h3 v4 h4 v5 h5 v6 h6 v7 h7 v8 h8 b hbf => ?_;obtain rfl:=h0;obtain rfl:=h1;obtain rfl:=h2;obtain rfl:=h3;obtain rfl:=h4;obtain rfl:=h5;obtain rfl:=h6;obtain rfl:=h7;obtain rfl:=h8;simp only [Act.put,zA0,zA2,zA1] at hbf;subst hbf;replace B0:=B0.below hb1;replace k0s:=k0s.below hb1;replace k0d:=k0d.below hb1;replace k0z:=k0z.below hb1;replace k0:=k0.below hb1;replace B1:=B1.below hb1;replace k1s:=k1s.below hb1;replace k1d:=k1d.below hb1;replace k1z:=k1z.below hb1;replace k1:=k1.below hb1;replace bb:=bb.trans (hb1.mono bb.size);have hsz1:=bb.size;refine zD ?_;go_wp2;go_ret;exact ⟨by rw [HW.out];rfl,bb⟩
  ·obtain ⟨u0,t0,rfl,s0,r0⟩:=h0;obtain ⟨A0,c0,rfl,_⟩:=id s0;obtain ⟨D0,e0,rfl,_⟩:=id r0;obtain ⟨u1,t1,rfl,s1,r1⟩:=h1;obtain ⟨A1,c1,rfl,_⟩:=id s1;obtain ⟨D1,e1,rfl,_⟩:=id r1;have H1:Hid ((s == 0)=false):=by show _=_;rw [hs,qG6,decide_eq_false hx]
   have H2:Hid ((t == 0)=false):=by show _=_;rw [ht,qG6,decide_eq_false hy]
   have HW:Hid (b=false):=by show _=_;rw [HB.out];exact decide_eq_false (fun h=>by rcases qT3.1 h with h | h;exact hx h;exact hy h)
   clear hs ht hx hy
   go_enter func174,ntmps174
   go_upto_region 1 with (fail)
   obtain ⟨wx,hwx,bb,B0,B1,hsz⟩:=zH4 w 83 83 #[.bool (ngB (x).num),.slice A0 (digs 4294967296 (x).num.natAbs).length c0,.slice D0 (digs 4294967296 (x).den).length e0] #[.bool (ngB (y).num),.slice A1 (digs 4294967296 (y).num.natAbs).length c1,.slice D1 (digs 4294967296 (y).den).length e1];rw [hwx];clear hwx;have k0s:=s0.below bb;have k0d:=r0.below bb;have k0z:IsZ wx (.agg #[.bool (ngB (x).num),.slice A0 (digs 4294967296 (x).num.natAbs).length c0]) (x).num:=⟨_,rfl,k0s⟩;have k0:IsQ wx (.agg #[.bool (ngB (x).num),.slice A0 (digs 4294967296 (x).num.natAbs).length c0,.slice D0 (digs 4294967296 (x).den).length e0]) (x):=⟨_,_,rfl,k0s,k0d⟩;have k1s:=s1.below bb;have k1d:=r1.below bb;have k1z:IsZ wx (.agg #[.bool (ngB (y).num),.slice A1 (digs 4294967296 (y).num.natAbs).length c1]) (y).num:=⟨_,rfl,k1s⟩;have k1:IsQ wx (.agg #[.bool (ngB (y).num),.slice A1 (digs 4294967296 (y).num.natAbs).length c1,.slice D1 (digs 4294967296 (y).den).length e1]) (y):=⟨_,_,rfl,k1s,k1d⟩;have hsz0:=bb.size;have sB:=bb.size;refine zC9 9 [Pd.eq (.agg #[.bool (ngB (x).num),.slice A0 (digs 4294967296 (x).num.natAbs).length c0,.slice D0 (digs 4294967296 (x).den).length e0]),Pd.eq (.int .i64 s),Pd.eq (.bool false),Pd.eq (.bool false),Pd.eq (.agg #[.bool (ngB (y).num),.slice A1 (digs 4294967296 (y).num.natAbs).length c1,.slice D1 (digs 4294967296 (y).den).length e1]),Pd.eq (.int .i64 t),Pd.eq (.bool false),Pd.eq (.bool false),Pd.eq (.bool false)] (by kernel_rfl) ?ob3 ?done3
   case ob3 =>
    refine zA (zC rfl (zB7 rfl) (zB9 rfl rfl) (fun w2 hb=>zF7 underlying83 rfl (by kernel_rfl) (B0.below hb)) (fun _ _=>rfl)) ?_;refine zA (zF6 rfl func133 (by kernel_rfl) (zB7 rfl) (zB8 (j:=0) (by kernel_rfl) rfl rfl) (fun w2 u0 hb h0=>by obtain rfl:=h0;exact (zU2 _ x s _ (k0.below hb) HS.out).mono fun e w3 h=>zD5.pd h)) ?_;refine zA (zE8 rfl (zB7 rfl) (zB8 (j:=1) (by kernel_rfl) rfl rfl) (zG2 _) (fun _ _ _ hx hy=>⟨.bool false,by rw [hx,hy,zN3,H1.out],rfl⟩)) ?_;refine zA (zC2 rfl (zB7 rfl) (zB8 (j:=2) (by kernel_rfl) rfl rfl) (fun _ _ h=>h)) ?_;refine zA (zC rfl (zD3 (c:=false) (b:=false) (g:=3) rfl (by kernel_rfl) rfl rfl rfl (by exact fun _ _ h=>h)) (zB9 rfl rfl) (fun w2 hb=>zF7 underlying83 rfl (by kernel_rfl) (B1.below hb)) (fun _ _=>rfl)) ?_;refine zA (zF6 rfl func133 (by kernel_rfl) (zD3 (c:=false) (b:=false) (g:=3) rfl (by kernel_rfl) rfl rfl rfl (by exact fun _ _ h=>h)) (zB8 (j:=4) (by kernel_rfl) rfl rfl) (fun w2 u0 hb h0=>by obtain rfl:=h0;exact (zU2 _ y t _ (k1.below hb) HT.out).mono fun e w3 h=>zD5.pd h)) ?_;refine zA (zE8 rfl (zD3 (c:=false) (b:=false) (g:=3) rfl (by kernel_rfl) rfl rfl rfl (by exact fun _ _ h=>h)) (zB8 (j:=5) (by kernel_rfl) rfl rfl) (zG2 _) (fun _ _ _ hx hy=>⟨.bool false,by rw [hx,hy,zN3,H2.out],rfl⟩)) ?_;refine zA (zM4 (b:=false) rfl (zB7 rfl) (zB8 (j:=3) (by kernel_rfl) rfl rfl) (zB8 (j:=6) (by kernel_rfl) rfl rfl) (fun _ _ h=>h)) ?_;refine zA (zE6 rfl (zB7 rfl) (zB8 (j:=7) (by kernel_rfl) rfl rfl) (fun _ _ h=>h)) ?_
    trivial
   case done3 =>
    refine fun w1 hb1 v0 h0 v1 h1 v2 h2 v3 h3 v4 h4 v5 h5 v6 h6 v7 h7 v8 h8 b hbf => ?_;obtain rfl:=h0;obtain rfl:=h1;obtain rfl:=h2;obtain rfl:=h3;obtain rfl:=h4;obtain rfl:=h5;obtain rfl:=h6;obtain rfl:=h7;obtain rfl:=h8;simp only [Act.put,zA0,zA2,zA1] at hbf;subst hbf;replace B0:=B0.below hb1;replace k0s:=k0s.below hb1;replace k0d:=k0d.below hb1;replace k0z:=k0z.below hb1;replace k0:=k0.below hb1;replace B1:=B1.below hb1;replace k1s:=k1s.below hb1;replace k1d:=k1d.below hb1;replace k1z:=k1z.below hb1;replace k1:=k1.below hb1;replace bb:=bb.trans (hb1.mono bb.size);have hsz1:=bb.size;refine zD ?_;go_wp2;go_ret;exact ⟨by rw [HW.out];rfl,bb⟩
theorem jB2 (a0 a1:Value) (p:List Rat) (K:Rat) (m n:Nat) (w:World) (h0:SlF .u64 4294967296 w a0 p) (h1:IsQ w a1 K) (hl:p.length<=1000/\(∀ x∈p,zC6 x m)/\zC6 K n/\m<=4900/\n<=4900) :
  Calls prog 129 #[a0,a1] w (RetRo (zF3 p K) w):=by
 obtain ⟨u1,t1,rfl,s1,r1⟩:=h1;obtain ⟨A1,c1,rfl,_⟩:=id s1;obtain ⟨D1,e1,rfl,_⟩:=id r1;have sl0:=h0;obtain ⟨A0,c0,rfl,hc0,hm0⟩:=h0.shape;unfold maxLen at hm0;have HL:=hQ9 hl;have lK:zC6 K n:=hl.2.2.1;have hm9:m<=4900:=hl.2.2.2.1;have hn9:n<=4900:=hl.2.2.2.2;have hl8:p.length<=1000:=hl.1;have HRL:Hid ((zF3 p K).length=p.length):=qB6 p K;clear hl
 go_enter func129,ntmps129
 go_upto_region 1 with (fail)
 obtain ⟨wx,hwx,bb,B1,hsz⟩:=zN4 w 83 #[.bool (ngB (K).num),.slice A1 (digs 4294967296 (K).num.natAbs).length c1,.slice D1 (digs 4294967296 (K).den).length e1];rw [hwx];clear hwx;have k1s:=s1.below bb;have k1d:=r1.below bb;have k1z:IsZ wx (.agg #[.bool (ngB (K).num),.slice A1 (digs 4294967296 (K).num.natAbs).length c1]) (K).num:=⟨_,rfl,k1s⟩;have k1:IsQ wx (.agg #[.bool (ngB (K).num),.slice A1 (digs 4294967296 (K).num.natAbs).length c1,.slice D1 (digs 4294967296 (K).den).length e1]) (K):=⟨_,_,rfl,k1s,k1d⟩;have hsz0:=bb.size
 go_wp2_with (at_make;refine yG2 rfl _ _ rfl underlying44 zV9 p.length rfl rfl (by omega) ?_;intro wm RN hbm)
 have hwg:w.heap.size<=wx.heap.size:=bb.size;have hlb3:=B1.lt;replace B1:=B1.below hbm;replace k1s:=k1s.below hbm;replace k1d:=k1d.below hbm;replace k1z:=k1z.below hbm;replace k1:=k1.below hbm;replace bb:=bb.trans (hbm.mono bb.size);have hsz1:=bb.size;obtain ⟨g,hg⟩:∃ g,g=wx.heap.size:=⟨_,rfl⟩;rw [<- hg] at RN |-;have hg_:wx.heap.size<=g:=by omega
 clear hg;have hg:=hg_;clear hg_;have hgw:w.heap.size<=g:=by omega
 have RN0:zD8 wm g p.length ((zF3 p K).take 0):=RN;clear RN;go_wp2
 go_loopw [13] (fun v13 wr => ∃ k:Nat,k<=p.length/\zD8 wr g p.length ((zF3 p K).take k)/\Blk wr (w.heap.size) 83 #[.bool (ngB (K).num),.slice A1 (digs 4294967296 (K).num.natAbs).length c1,.slice D1 (digs 4294967296 (K).den).length e1]/\Below w.heap.size w wr/\v13=.int .i64 (k:Int)) (fun v13 _=>p.length-(intOf v13).toNat)
 case atStart=>exact ⟨0,by omega,RN0,B1,bb,rfl⟩
 case round =>
  obtain ⟨k,hk,hR,hB3,hbw,rfl⟩:=hrel;clear RN0 bb B1 k1s k1d k1z k1;have RN:=hR;have bb:=hbw;clear hR hbw;have B1:=hB3;have k1s:=s1.below bb;have k1d:=r1.below bb;have k1z:IsZ wr (.agg #[.bool (ngB (K).num),.slice A1 (digs 4294967296 (K).num.natAbs).length c1]) (K).num:=⟨_,rfl,k1s⟩;have k1:IsQ wr (.agg #[.bool (ngB (K).num),.slice A1 (digs 4294967296 (K).num.natAbs).length c1,.slice D1 (digs 4294967296 (K).den).length e1]) (K):=⟨_,_,rfl,k1s,k1d⟩;have hlc3:=B1.lt;clear hB3;have hszr:=bb.size;have hgl:=RN.lt;by_cases hlt:k<p.length
  ·obtain ⟨x,hq0_⟩:∃ x,p[k]?=some x:=⟨_,zA3 hlt⟩;obtain ⟨g0_,o0_,ue0,te0,hA0_,_,e00,e01,e02,es0,ed0⟩:=(sl0.below bb).at_ hq0_;subst hA0_;have HQ0:=hQ9 hq0_;clear hq0_;obtain ⟨Ae0,ce0,rfl,_⟩:=id es0;obtain ⟨De0,ee0,rfl,_⟩:=id ed0;have ke0:IsQ wr (.agg #[.bool (ngB x.num),.slice Ae0 (digs 4294967296 x.num.natAbs).length ce0,.slice De0 (digs 4294967296 x.den).length ee0]) x:=⟨_,_,rfl,es0,ed0⟩;have lx:zC6 x m:=HL.out.2.1 x (zA5 HQ0.out);have HAT:Hid ((zF3 p K)[k]?=some (x*K)):=by show _=_;rw [zF3,zB1,HQ0.out];rfl
   have HTK:Hid ((zF3 p K).take (k+1)=(zF3 p K).take k ++ [(x*K)]):=zU3 HAT.out;have HLK:Hid (k=((zF3 p K).take k).length):=by show _=_;rw [zB2,HRL.out];omega
   have sB:=bb.size;go_upto_region 4 with (fail);have lt2_3:=Blk.lt B1;refine zC9 5 [Pd.eq (.int .i64 (k:Int)),Pd.eq (.pointer (some ⟨g0_,o0_+k*3,none⟩)),Pd.eq (.agg #[.bool (ngB x.num),.slice Ae0 (digs 4294967296 x.num.natAbs).length ce0,.slice De0 (digs 4294967296 x.den).length ee0]),pn 83 #[.bool false,.slice none 0 0,.slice none 0 0] wr.heap.size,Pd.eq (.int .i64 (k:Int))] (by kernel_rfl) ?ob4 ?done4
   case ob4 =>
    refine zA (zC2 rfl (zB7 rfl) (zB9 rfl rfl) (fun _ _ h=>h)) ?_;refine zA (zI0 rfl (zB7 rfl) (zB9 rfl rfl) (zB9 rfl rfl) (fun _ _ _ hx hy=>⟨_,by rw [hx,hy];exact zI9 underlying44 (by kernel_rfl) hlt _,rfl⟩)) ?_;refine zA (zC rfl (zB7 rfl) (zB8 (j:=1) (by kernel_rfl) rfl rfl) (fun w2 hb=>zO4 underlying83 rfl (by kernel_rfl) ((hb.cell (World.block_lt_of_cell? wr _ e00)).trans e00) ((hb.cell (World.block_lt_of_cell? wr _ e01)).trans e01) ((hb.cell (World.block_lt_of_cell? wr _ e02)).trans e02)) (fun _ _=>rfl)) ?_;refine zA (zN2 (z:=.agg #[.bool false,.slice none 0 0,.slice none 0 0]) rfl rfl (fun _=>by kernel_rfl) (fun _ _ hB h=>⟨_,rfl,hB,h⟩)) ?_;refine zA (zE6 rfl (zB7 rfl) (zB8 (j:=0) (by kernel_rfl) rfl rfl) (fun _ _ h=>h)) ?_
    trivial
   case done4 =>
    refine fun w3 hb3 v0 h0 v1 h1 v2 h2 v3 h3 d3 v4 h4 b hbf => ?_;obtain rfl:=h0;obtain rfl:=h1;obtain rfl:=h2;obtain rfl:=h4;obtain ⟨g4_3,rfl,hg3,B3⟩:=h3;simp only [Act.put,zA0,zA2,zA1] at hbf;subst hbf;replace B1:=B1.below hb3;replace k1s:=k1s.below hb3;replace k1d:=k1d.below hb3;replace k1z:=k1z.below hb3;replace k1:=k1.below hb3;replace RN:=RN.below hb3;replace es0:=es0.below hb3;replace ed0:=ed0.below hb3;replace bb:=bb.trans (hb3.mono bb.size);have hsz3:=bb.size;have BA7:=B3;have q2:=es0;have d2:=ed0;refine zI5 (i:=5) rfl rfl rfl rfl rfl rfl (cells:=[.bool (ngB (x).num),.slice Ae0 (digs 4294967296 (x).num.natAbs).length ce0,.slice De0 (digs 4294967296 (x).den).length ee0]) rfl BA7 rfl (by kernel_rfl) (zI6 rfl rfl rfl) fun w4 hg4 BN4 => ?_;replace q2:=off q2 BA7 zE0 hg4;replace d2:=off d2 BA7 zE0 hg4;replace RN:=zD8.offb RN BA7 zE0 hg4 (by omega);replace k1s:=off k1s BA7 zE0 hg4;replace k1d:=off k1d BA7 zE0 hg4;replace k1z:IsZ w4 (.agg #[.bool (ngB (K).num),.slice A1 (digs 4294967296 (K).num.natAbs).length c1]) ((K).num):=⟨_,rfl,k1s⟩;replace k1:IsQ w4 (.agg #[.bool (ngB (K).num),.slice A1 (digs 4294967296 (K).num.natAbs).length c1,.slice D1 (digs 4294967296 (K).den).length e1]) (K):=⟨_,_,rfl,k1s,k1d⟩;replace B1:=B1.grown hg4 (by omega);replace bb:=bb.trans ((Below.refl _ _).grown hg4 bb.size (fun g hg=>by injection hg with hg;omega));have hsz4:=bb.size;have Be0:Blk w4 (g4_3) _ _:=BN4;have ke0s:=q2;have ke0d:=d2;have ke0z:IsZ w4 (.agg #[.bool (ngB (x).num),.slice Ae0 (digs 4294967296 (x).num.natAbs).length ce0]) ((x).num):=⟨_,rfl,ke0s⟩;have ke0:IsQ w4 (.agg #[.bool (ngB (x).num),.slice Ae0 (digs 4294967296 (x).num.natAbs).length ce0,.slice De0 (digs 4294967296 (x).den).length ee0]) (x):=⟨_,_,rfl,ke0s,ke0d⟩;refine zD ?_;have hle:=Be0.lt;have hneE:g≠g4_3:=by omega
    have sB:=bb.size;go_upto_region 5 with (fail);refine zC9 6 [Pd.eq (.slice (some ⟨g,0,none⟩) p.length p.length),Pd.eq (.int .i64 (k:Int)),Pd.eq (.agg #[.bool (ngB (x).num),.slice Ae0 (digs 4294967296 (x).num.natAbs).length ce0,.slice De0 (digs 4294967296 (x).den).length ee0]),Pd.eq (.agg #[.bool (ngB (K).num),.slice A1 (digs 4294967296 (K).num.natAbs).length c1,.slice D1 (digs 4294967296 (K).den).length e1]),pq ((x*K)) w4.heap.size,Pd.eq (.pointer (some ⟨g,0+k*3,none⟩))] (by kernel_rfl) ?ob5 ?done5
    case ob5 =>
     refine zA (zC2 rfl (zB7 rfl) (zB9 rfl rfl) (fun _ _ h=>h)) ?_;refine zA (zC2 rfl (zB7 rfl) (zB9 rfl rfl) (fun _ _ h=>h)) ?_;refine zA (zC rfl (zB7 rfl) (zB9 rfl rfl) (fun w2 hb=>zF7 underlying83 rfl (by kernel_rfl) (Be0.below hb)) (fun _ _=>rfl)) ?_;refine zA (zC rfl (zB7 rfl) (zB9 rfl rfl) (fun w2 hb=>zF7 underlying83 rfl (by kernel_rfl) (B1.below hb)) (fun _ _=>rfl)) ?_;refine zA (zD0 rfl func127 (by kernel_rfl) (zB7 rfl) (zB8 (j:=2) (by kernel_rfl) rfl rfl) (zB8 (j:=3) (by kernel_rfl) rfl rfl) (fun w2 u0 u1 hb h0 h1=>by obtain rfl:=h0;obtain rfl:=h1;exact (qT _ x _ K _ (ke0.below hb) (k1.below hb) (lx.mono (by omega)) (lK.mono (by omega))).mono fun e w3 h=>RetQ.pd h hb.size)) ?_;refine zA (zI0 rfl (zB7 rfl) (zB8 (j:=0) (by kernel_rfl) rfl rfl) (zB8 (j:=1) (by kernel_rfl) rfl rfl) (fun _ _ _ hx hy=>⟨_,by rw [hx,hy];exact zI9 (k:=k) underlying44 (by kernel_rfl) hlt _,rfl⟩)) ?_
     trivial
    case done5 =>
     refine fun w5 hb5 v0 h0 v1 h1 v2 h2 v3 h3 v4 h4 v5 h5 b hbf => ?_;obtain rfl:=h0;obtain rfl:=h1;obtain rfl:=h2;obtain rfl:=h3;obtain rfl:=h5;obtain ⟨q4,f4⟩:=h4;simp only [Act.put,zA0,zA2,zA1] at hbf;subst hbf;replace B1:=B1.below hb5;replace k1s:=k1s.below hb5;replace k1d:=k1d.below hb5;replace k1z:=k1z.below hb5;replace k1:=k1.below hb5;replace Be0:=Be0.below hb5;replace ke0s:=ke0s.below hb5;replace ke0d:=ke0d.below hb5;replace ke0z:=ke0z.below hb5;replace ke0:=ke0.below hb5;replace RN:=RN.below hb5;replace bb:=bb.trans (hb5.mono bb.size);have hsz5:=bb.size;have s_4:=sB;obtain ⟨u4,t4,rfl,q4,d4⟩:=q4;obtain ⟨A9,c9,rfl,_⟩:=id q4;obtain ⟨D9,e9,rfl,_⟩:=id d4;refine yG5 (j:=6) rfl rfl rfl rfl (g:=g) (i:=k) (q:=(x*K)) rfl rfl (by kernel_rfl) RN hlt q4 d4 fun w6 hg6 hP6 => ?_;replace k1s:=RN.keep hg6 k1s;replace k1d:=RN.keep hg6 k1d;replace k1z:IsZ w6 (.agg #[.bool (ngB (K).num),.slice A1 (digs 4294967296 (K).num.natAbs).length c1]) ((K).num):=⟨_,rfl,k1s⟩;replace k1:IsQ w6 (.agg #[.bool (ngB (K).num),.slice A1 (digs 4294967296 (K).num.natAbs).length c1,.slice D1 (digs 4294967296 (K).den).length e1]) (K):=⟨_,_,rfl,k1s,k1d⟩;replace B1:=B1.grown hg6 (by omega);replace ke0s:=RN.keep hg6 ke0s;replace ke0d:=RN.keep hg6 ke0d;replace ke0z:IsZ w6 (.agg #[.bool (ngB (x).num),.slice Ae0 (digs 4294967296 (x).num.natAbs).length ce0]) ((x).num):=⟨_,rfl,ke0s⟩;replace ke0:IsQ w6 (.agg #[.bool (ngB (x).num),.slice Ae0 (digs 4294967296 (x).num.natAbs).length ce0,.slice De0 (digs 4294967296 (x).den).length ee0]) (x):=⟨_,_,rfl,ke0s,ke0d⟩;replace Be0:=Be0.grown hg6 (by omega);replace bb:=bb.trans ((Below.refl _ _).grown hg6 bb.size (fun g hg=>by injection hg with hg;omega));have hsz6:=bb.size;replace RN:=hP6.1 HLK.out;clear hP6;refine zD ?_;rw [<- HTK.out] at RN;have hsk:p.length-(k+1)<p.length-k:=by omega
     go_wp2;go_roundw;case rel=>exact ⟨k+1,by omega,RN,B1,bb,by go_num⟩
     case measure=>simp [intOf];omega
  ·rw [zA7 (by rw [HRL.out];omega)] at RN
   have HRN:Hid (zD8 wr g (zF3 p K).length (zF3 p K)):=by
    show zD8 _ _ _ _
    rw [HRL.out];exact RN
   clear RN;go_wp2;go_ret;exact ⟨g,by rw [HRL.out];rfl,HRN.out,hgw,bb⟩
theorem jB3 (a0:Value) (x:Rat) (w:World) (h0:IsQ w a0 x) (hl:zC6 x 100000) :
  Calls prog 179 #[a0] w (RetQ x w):=by
 obtain ⟨u0,t0,rfl,s0,r0⟩:=h0;obtain ⟨A0,c0,rfl,_⟩:=id s0;obtain ⟨D0,e0,rfl,_⟩:=id r0
 go_enter func179,ntmps179
 go_upto_region 1 with (fail)
 obtain ⟨wx,hwx,bb,B0,BR0,hsz⟩:=zH4 w 83 83 #[.bool (ngB (x).num),.slice A0 (digs 4294967296 (x).num.natAbs).length c0,.slice D0 (digs 4294967296 (x).den).length e0] #[.bool false,.slice none 0 0,.slice none 0 0];rw [hwx];clear hwx;have k0s:=s0.below bb;have k0d:=r0.below bb;have k0z:IsZ wx (.agg #[.bool (ngB (x).num),.slice A0 (digs 4294967296 (x).num.natAbs).length c0]) (x).num:=⟨_,rfl,k0s⟩;have k0:IsQ wx (.agg #[.bool (ngB (x).num),.slice A0 (digs 4294967296 (x).num.natAbs).length c0,.slice D0 (digs 4294967296 (x).den).length e0]) (x):=⟨_,_,rfl,k0s,k0d⟩;have hsz0:=bb.size;have sB:=bb.size;refine flow 13 [Pd.eq (.pointer (some ⟨w.heap.size,0,none⟩)),Pd.eq (.pointer (some ⟨w.heap.size,0,none⟩)),Pd.eq (.bool (ngB (x).num)),Pd.eq (.pointer (some ⟨w.heap.size,0,none⟩)),Pd.eq (.pointer (some ⟨w.heap.size,1,none⟩)),Pd.eq (.slice A0 (digs 4294967296 (x).num.natAbs).length c0),ps .u64 (digs 4294967296 (x).num.natAbs) wx.heap.size,Pd.eq (.pointer (some ⟨w.heap.size,2,none⟩)),Pd.eq (.slice D0 (digs 4294967296 (x).den).length e0),ps .u64 (digs 4294967296 (x).den) wx.heap.size,Pd.eq (.bool (ngB (x).num)),ps .u64 (digs 4294967296 (x).num.natAbs) wx.heap.size,ps .u64 (digs 4294967296 (x).den) wx.heap.size] (by kernel_rfl) (by kernel_rfl) ?ob1 ?done1
 case ob1 =>
  refine zA (zC1 rfl (zB7 rfl) (zB9 rfl rfl) (fun _=>by kernel_rfl) (fun _=>rfl)) ?_;refine zA (zC1 rfl (zB7 rfl) (zB8 (j:=0) (by kernel_rfl) rfl rfl) (fun _=>by kernel_rfl) (fun _=>rfl)) ?_;refine zA (zC rfl (zB7 rfl) (zB8 (j:=1) (by kernel_rfl) rfl rfl) (fun w2 hb=>zC3 underlying4 rfl ((B0.drew.below hb).cell 0)) (fun _ _=>rfl)) ?_;refine zA (zC1 rfl (zB7 rfl) (zB9 rfl rfl) (fun _=>by kernel_rfl) (fun _=>rfl)) ?_;refine zA (zC1 rfl (zB7 rfl) (zB8 (j:=3) (by kernel_rfl) rfl rfl) (fun _=>by kernel_rfl) (fun _=>rfl)) ?_;refine zA (zC rfl (zB7 rfl) (zB8 (j:=4) (by kernel_rfl) rfl rfl) (fun w2 hb=>zC3 underlying50 rfl ((B0.drew.below hb).cell 1)) (fun _ _=>rfl)) ?_;refine zA (zF6 rfl func106 (by kernel_rfl) (zB7 rfl) (zB8 (j:=5) (by kernel_rfl) rfl rfl) (fun w2 u0 hb h0=>by obtain rfl:=h0;exact (zV _ _ _ (k0s.drew.below hb) (zB5 hl.1 (by decide))).mono fun e w3 h=>zD7.pd h hb.size)) ?_;refine zA (zC1 rfl (zB7 rfl) (zB9 rfl rfl) (fun _=>by kernel_rfl) (fun _=>rfl)) ?_;refine zA (zC rfl (zB7 rfl) (zB8 (j:=7) (by kernel_rfl) rfl rfl) (fun w2 hb=>zC3 underlying50 rfl ((B0.drew.below hb).cell 2)) (fun _ _=>rfl)) ?_;refine zA (zF6 rfl func106 (by kernel_rfl) (zB7 rfl) (zB8 (j:=8) (by kernel_rfl) rfl rfl) (fun w2 u0 hb h0=>by obtain rfl:=h0;exact (zV _ _ _ (k0d.drew.below hb) (zB5 hl.2 (by decide))).mono fun e w3 h=>zD7.pd h hb.size)) ?_;refine zA (zE6 rfl (zB7 rfl) (zB8 (j:=2) (by kernel_rfl) rfl rfl) (fun _ _ h=>h)) ?_;refine zA (zE6 rfl (zB7 rfl) (zB8 (j:=6) (by kernel_rfl) rfl rfl) (fun _ _ h=>h)) ?_;refine zA (zE6 rfl (zB7 rfl) (zB8 (j:=9) (by kernel_rfl) rfl rfl) (fun _ _ h=>h)) ?_
  trivial
 case done1 =>
  refine fun w1 hb1 v0 h0 v1 h1 v2 h2 v3 h3 v4 h4 v5 h5 v6 h6 v7 h7 v8 h8 v9 h9 v10 h10 v11 h11 v12 h12 b hbf => ?_;obtain rfl:=h0;obtain rfl:=h1;obtain rfl:=h2;obtain rfl:=h3;obtain rfl:=h4;obtain rfl:=h5;obtain rfl:=h7;obtain rfl:=h8;obtain rfl:=h10;obtain ⟨q6,f6⟩:=h6;obtain ⟨q9,f9⟩:=h9;obtain ⟨q11,f11⟩:=h11;obtain ⟨q12,f12⟩:=h12;simp only [Act.put,zA0,zA2,zA1] at hbf;subst hbf;replace B0:=B0.below hb1;replace k0s:=k0s.below hb1;replace k0d:=k0d.below hb1;replace k0z:=k0z.below hb1;replace k0:=k0.below hb1;replace BR0:=BR0.below hb1;replace bb:=bb.trans (hb1.mono bb.size);have hsz1:=bb.size;have s_6:=sB;have s_9:=sB;have s_11:=sB;have s_12:=sB;refine zF8 (by kernel_rfl) ?_;obtain ⟨A4,c4,rfl,_⟩:=id q11;have n4:=q11;have n4f:=f11;have n4z_:=s_11;obtain ⟨A5,c5,rfl,_⟩:=id q12;have n5:=q12;have n5f:=f12;have n5z_:=s_12;have sB:=bb.size;go_upto_region 2 with (fail);refine zC9 5 [Pd.eq (.bool (ngB (x).num)),Pd.eq (.slice A4 (digs 4294967296 (x).num.natAbs).length c4),Pd.eq (.agg #[.bool (ngB (x).num),.slice A4 (digs 4294967296 (x).num.natAbs).length c4]),Pd.eq (.slice A5 (digs 4294967296 (x).den).length c5),Pd.eq (.agg #[.bool (ngB (x).num),.slice A4 (digs 4294967296 (x).num.natAbs).length c4,.slice A5 (digs 4294967296 (x).den).length c5])] (by kernel_rfl) ?ob2 ?done2
  case ob2 =>
   refine zA (zC2 rfl (zB7 rfl) (zB9 rfl rfl) (fun _ _ h=>h)) ?_;refine zA (zC2 rfl (zB7 rfl) (zB9 rfl rfl) (fun _ _ h=>h)) ?_;refine zA (zL rfl (zB7 rfl) (zB8 (j:=0) (by kernel_rfl) rfl rfl) (zB8 (j:=1) (by kernel_rfl) rfl rfl) (fun w2 u v hb hu hv=>by obtain rfl:=hu;obtain rfl:=hv;exact ⟨.agg #[.bool (ngB (x).num),.slice A4 (digs 4294967296 (x).num.natAbs).length c4],by kernel_rfl,rfl⟩)) ?_;refine zA (zC2 rfl (zB7 rfl) (zB9 rfl rfl) (fun _ _ h=>h)) ?_;refine zA (zL rfl (zB7 rfl) (zB8 (j:=2) (by kernel_rfl) rfl rfl) (zB8 (j:=3) (by kernel_rfl) rfl rfl) (fun w2 u v hb hu hv=>by obtain rfl:=hu;obtain rfl:=hv;exact ⟨.agg #[.bool (ngB (x).num),.slice A4 (digs 4294967296 (x).num.natAbs).length c4,.slice A5 (digs 4294967296 (x).den).length c5],by kernel_rfl,rfl⟩)) ?_
   trivial
  case done2 =>
   refine fun w2 hb2 v0 h0 v1 h1 v2 h2 v3 h3 v4 h4 b hbf => ?_;obtain rfl:=h0;obtain rfl:=h1;obtain rfl:=h2;obtain rfl:=h3;obtain rfl:=h4;simp only [Act.put,zA0,zA2,zA1] at hbf;subst hbf;replace B0:=B0.below hb2;replace k0s:=k0s.below hb2;replace k0d:=k0d.below hb2;replace k0z:=k0z.below hb2;replace k0:=k0.below hb2;replace BR0:=BR0.below hb2;replace n4:=n4.below hb2;replace n5:=n5.below hb2;replace bb:=bb.trans (hb2.mono bb.size);have hsz2:=bb.size;refine zI5 (i:=5) rfl rfl rfl rfl rfl rfl (cells:=[.bool (ngB (x).num),.slice A4 (digs 4294967296 (x).num.natAbs).length c4,.slice A5 (digs 4294967296 (x).den).length c5]) rfl BR0 rfl (by kernel_rfl) (zI6 rfl rfl rfl) fun w9 hg9 B9 => ?_;have k9:=off n4 BR0 zE0 hg9;have d9:=off n5 BR0 zE0 hg9;have bb9:=bb.trans ((Below.refl _ _).grown hg9 bb.size (fun g hg=>by injection hg with hg;omega));obtain ⟨C0,C1,C2,_,_,_⟩:=three B9;refine zD ?_;go_wp2;exact bodyPost_ret (v:=.agg #[.bool (ngB (x).num),.slice A4 (digs 4294967296 (x).num.natAbs).length c4,.slice A5 (digs 4294967296 (x).den).length c5]) (by simp [results,results179,go_sem,C0,C1,C2]) rfl ⟨_,rfl,zV8 k9 d9 rfl rfl rfl,zM1 (n4f.mono n4z_) (n5f.mono n5z_),bb9⟩
theorem jB4 (a0 a1 a2:Value) (p:List Rat) (K:Rat) (q:List Rat) (m l n:Nat) (w:World) (h0:SlF .u64 4294967296 w a0 p) (h1:IsQ w a1 K) (h2:SlF .u64 4294967296 w a2 q) (he:p.length=q.length) (hl:p.length<=1000/\(∀ x∈p,zC6 x m)/\zC6 K l/\(∀ x∈q,zC6 x n)/\m<=4900/\l+n<=4900) :
    Calls prog 153 #[a0,a1,a2] w (RetRN (zG4 p K q) w):=by
  obtain ⟨u1,t1,rfl,s1,r1⟩:=h1;obtain ⟨A1,c1,rfl,_⟩:=id s1;obtain ⟨D1,e1,rfl,_⟩:=id r1;have sl0:=h0;obtain ⟨A0,c0,rfl,hc0,hm0⟩:=h0.shape;unfold maxLen at hm0;have sl2:=h2;obtain ⟨A2,c2,rfl,hc2,hm2⟩:=h2.shape;unfold maxLen at hm2;have HNE:Hid ((((p.length:Nat):Int) != ((q.length:Nat):Int))=false):=by show _=_;rw [bne_eq_false_iff_eq];omega
  have HE:=hQ9 he;have HL:=hQ9 hl;have lK:zC6 K l:=hl.2.2.1;have hm9:m<=4900:=hl.2.2.2.2.1;have hn9:l+n<=4900:=hl.2.2.2.2.2;have hl8:p.length<=1000:=hl.1;have HRL:Hid ((zG4 p K q).length=p.length):=qL1 he;clear hl he
  go_enter func153,ntmps153
  go_upto_region 1 with (fail)
  obtain ⟨wx,hwx,bb,B1,hsz⟩:=zN4 w 83 #[.bool (ngB (K).num),.slice A1 (digs 4294967296 (K).num.natAbs).length c1,.slice D1 (digs 4294967296 (K).den).length e1];rw [hwx];clear hwx;have k1s:=s1.below bb;have k1d:=r1.below bb;have k1z:IsZ wx (.agg #[.bool (ngB (K).num),.slice A1 (digs 4294967296 (K).num.natAbs).length c1]) (K).num:=⟨_,rfl,k1s⟩;have k1:IsQ wx (.agg #[.bool (ngB (K).num),.slice A1 (digs 4294967296 (K).num.natAbs).length c1,.slice D1 (digs 4294967296 (K).den).length e1]) (K):=⟨_,_,rfl,k1s,k1d⟩;have hsz0:=bb.size;have sB:=bb.size;refine zC9 5 [Pd.eq (.slice A0 p.length c0),Pd.eq (.int .i64 ((p.length:Nat):Int)),Pd.eq (.slice A2 q.length c2),Pd.eq (.int .i64 ((q.length:Nat):Int)),Pd.eq (.bool false)] (by kernel_rfl) ?ob4 ?done4
  case ob4 =>
    refine zA (zC2 rfl (zB7 rfl) (zB9 rfl rfl) (fun _ _ h=>h)) ?_;refine zA (zJ6 rfl (zB7 rfl) (zB8 (j:=0) (by kernel_rfl) rfl rfl) (fun _ _ hx=>⟨_,by rw [hx];exact zJ7 underlying44 _ _ _ _,rfl⟩)) ?_;refine zA (zC2 rfl (zB7 rfl) (zB9 rfl rfl) (fun _ _ h=>h)) ?_;refine zA (zJ6 rfl (zB7 rfl) (zB8 (j:=2) (by kernel_rfl) rfl rfl) (fun _ _ hx=>⟨_,by rw [hx];exact zJ7 underlying44 _ _ _ _,rfl⟩)) ?_;refine zA (zE8 rfl (zB7 rfl) (zB8 (j:=1) (by kernel_rfl) rfl rfl) (zB8 (j:=3) (by kernel_rfl) rfl rfl) (fun _ _ _ hx hy=>⟨.bool false,by rw [hx,hy,zY4,HNE.out],rfl⟩)) ?_
    trivial
  case done4 =>
    refine fun w1 hb1 v0 h0 v1 h1 v2 h2 v3 h3 v4 h4 b hbf => ?_;obtain rfl:=h0;obtain rfl:=h1;obtain rfl:=h2;obtain rfl:=h3;obtain rfl:=h4;simp only [Act.put,zA0,zA2,zA1] at hbf;subst hbf;replace B1:=B1.below hb1;replace k1s:=k1s.below hb1;replace k1d:=k1d.below hb1;replace k1z:=k1z.below hb1;replace k1:=k1.below hb1;replace bb:=bb.trans (hb1.mono bb.size);have hsz1:=bb.size;refine zD ?_
    go_wp2_with (at_make;refine yG2 rfl _ _ rfl underlying44 zV9 p.length rfl rfl (by omega) ?_;intro wm RN hbm)
    have hwg:w.heap.size<=w1.heap.size:=bb.size;have hlb4:=B1.lt;replace B1:=B1.below hbm;replace k1s:=k1s.below hbm;replace k1d:=k1d.below hbm;replace k1z:=k1z.below hbm;replace k1:=k1.below hbm;replace bb:=bb.trans (hbm.mono bb.size);have hsz2:=bb.size;obtain ⟨g,hg⟩:∃ g,g=w1.heap.size:=⟨_,rfl⟩;rw [<- hg] at RN |-;have hg_:w1.heap.size<=g:=by omega
    clear hg;have hg:=hg_;clear hg_;have hgw:w.heap.size<=g:=by omega
    have RN0:zD8 wm g p.length ((zG4 p K q).take 0):=RN;clear RN;go_wp2
    go_loopw [21] (fun v21 wr => ∃ k:Nat,k<=p.length/\zD8 wr g p.length ((zG4 p K q).take k)/\Blk wr (w.heap.size) 83 #[.bool (ngB (K).num),.slice A1 (digs 4294967296 (K).num.natAbs).length c1,.slice D1 (digs 4294967296 (K).den).length e1]/\Below w.heap.size w wr/\v21=.int .i64 (k:Int)) (fun v21 _=>p.length-(intOf v21).toNat)
    case atStart=>exact ⟨0,by omega,RN0,B1,bb,rfl⟩
    case round =>
      obtain ⟨k,hk,hR,hB4,hbw,rfl⟩:=hrel;clear RN0 bb B1 k1s k1d k1z k1;have RN:=hR;have bb:=hbw;clear hR hbw;have B1:=hB4;have k1s:=s1.below bb;have k1d:=r1.below bb;have k1z:IsZ wr (.agg #[.bool (ngB (K).num),.slice A1 (digs 4294967296 (K).num.natAbs).length c1]) (K).num:=⟨_,rfl,k1s⟩;have k1:IsQ wr (.agg #[.bool (ngB (K).num),.slice A1 (digs 4294967296 (K).num.natAbs).length c1,.slice D1 (digs 4294967296 (K).den).length e1]) (K):=⟨_,_,rfl,k1s,k1d⟩;have hlc4:=B1.lt;clear hB4;have hszr:=bb.size;have hgl:=RN.lt;by_cases hlt:k<p.length
      · obtain ⟨x, hq0_⟩ : ∃ x, p[k]? = some x := ⟨_, zA3 hlt⟩;obtain ⟨g0_,o0_,ue0,te0,hA0_,_,e00,e01,e02,es0,ed0⟩:=(sl0.below bb).at_ hq0_;subst hA0_;have HQ0:=hQ9 hq0_;clear hq0_;obtain ⟨Ae0,ce0,rfl,_⟩:=id es0;obtain ⟨De0,ee0,rfl,_⟩:=id ed0;have ke0 : IsQ wr (.agg #[.bool (ngB x.num),.slice Ae0 (digs 4294967296 x.num.natAbs).length ce0,.slice De0 (digs 4294967296 x.den).length ee0]) x:=⟨_,_,rfl,es0,ed0⟩;have hlt2 : k < q.length:=by have:=HE.out; omega
        obtain ⟨y,hy⟩:∃ y,q[k]?=some y:=⟨_,zA3 hlt2⟩;have HY:=hQ9 hy;have lx:zC6 x m:=HL.out.2.1 x (zA5 HQ0.out);have ly:zC6 y n:=HL.out.2.2.2.1 y (zA5 hy);have lky:zC6 (K*y) (l+n):=qQ5 lK ly;have HAT:Hid ((zG4 p K q)[k]?=some (x-K*y)):=yE0 HQ0.out hy;clear hy;have hneq:q≠[]:=List.length_pos_iff.1 (by omega);have HTK:Hid ((zG4 p K q).take (k+1)=(zG4 p K q).take k ++ [(x-K*y)]):=zU3 HAT.out;have HLK:Hid (k=((zG4 p K q).take k).length):=by show _=_;rw [zB2,HRL.out];omega
        have sB:=bb.size;go_upto_region 6 with (fail);have lt3_4:=Blk.lt B1;refine zC9 5 [Pd.eq (.int .i64 (k:Int)),Pd.eq (.pointer (some ⟨g0_,o0_+k*3,none⟩)),Pd.eq (.agg #[.bool (ngB x.num),.slice Ae0 (digs 4294967296 x.num.natAbs).length ce0,.slice De0 (digs 4294967296 x.den).length ee0]),pn 83 #[.bool false,.slice none 0 0,.slice none 0 0] wr.heap.size,Pd.eq (.int .i64 (k:Int))] (by kernel_rfl) ?ob5 ?done5
        case ob5 =>
          refine zA (zC2 rfl (zB7 rfl) (zB9 rfl rfl) (fun _ _ h=>h)) ?_;refine zA (zI0 rfl (zB7 rfl) (zB9 rfl rfl) (zB9 rfl rfl) (fun _ _ _ hx hy=>⟨_,by rw [hx,hy];exact zI9 underlying44 (by kernel_rfl) hlt _,rfl⟩)) ?_;refine zA (zC rfl (zB7 rfl) (zB8 (j:=1) (by kernel_rfl) rfl rfl) (fun w2 hb=>zO4 underlying83 rfl (by kernel_rfl) ((hb.cell (World.block_lt_of_cell? wr _ e00)).trans e00) ((hb.cell (World.block_lt_of_cell? wr _ e01)).trans e01) ((hb.cell (World.block_lt_of_cell? wr _ e02)).trans e02)) (fun _ _=>rfl)) ?_;refine zA (zN2 (z:=.agg #[.bool false,.slice none 0 0,.slice none 0 0]) rfl rfl (fun _=>by kernel_rfl) (fun _ _ hB h=>⟨_,rfl,hB,h⟩)) ?_;refine zA (zE6 rfl (zB7 rfl) (zB8 (j:=0) (by kernel_rfl) rfl rfl) (fun _ _ h=>h)) ?_
          trivial
        case done5 =>
          refine fun w4 hb4 v0 h0 v1 h1 v2 h2 v3 h3 d3 v4 h4 b hbf => ?_;obtain rfl:=h0;obtain rfl:=h1;obtain rfl:=h2;obtain rfl:=h4;obtain ⟨g5_3,rfl,hg3,B3⟩:=h3;simp only [Act.put,zA0,zA2,zA1] at hbf;subst hbf;replace B1:=B1.below hb4;replace k1s:=k1s.below hb4;replace k1d:=k1d.below hb4;replace k1z:=k1z.below hb4;replace k1:=k1.below hb4;replace RN:=RN.below hb4;replace es0:=es0.below hb4;replace ed0:=ed0.below hb4;replace bb:=bb.trans (hb4.mono bb.size);have hsz4:=bb.size;have BA10:=B3;have q2:=es0;have d2:=ed0;refine zI5 (i:=5) rfl rfl rfl rfl rfl rfl (cells:=[.bool (ngB (x).num),.slice Ae0 (digs 4294967296 (x).num.natAbs).length ce0,.slice De0 (digs 4294967296 (x).den).length ee0]) rfl BA10 rfl (by kernel_rfl) (zI6 rfl rfl rfl) fun w5 hg5 BN5 => ?_;replace q2:=off q2 BA10 zE0 hg5;replace d2:=off d2 BA10 zE0 hg5;replace RN:=zD8.offb RN BA10 zE0 hg5 (by omega);replace k1s:=off k1s BA10 zE0 hg5;replace k1d:=off k1d BA10 zE0 hg5;replace k1z:IsZ w5 (.agg #[.bool (ngB (K).num),.slice A1 (digs 4294967296 (K).num.natAbs).length c1]) ((K).num):=⟨_,rfl,k1s⟩;replace k1:IsQ w5 (.agg #[.bool (ngB (K).num),.slice A1 (digs 4294967296 (K).num.natAbs).length c1,.slice D1 (digs 4294967296 (K).den).length e1]) (K):=⟨_,_,rfl,k1s,k1d⟩;replace B1:=B1.grown hg5 (by omega);replace bb:=bb.trans ((Below.refl _ _).grown hg5 bb.size (fun g hg=>by injection hg with hg;omega));have hsz5:=bb.size;have Be0:Blk w5 (g5_3) _ _:=BN5;have ke0s:=q2;have ke0d:=d2;have ke0z:IsZ w5 (.agg #[.bool (ngB (x).num),.slice Ae0 (digs 4294967296 (x).num.natAbs).length ce0]) ((x).num):=⟨_,rfl,ke0s⟩;have ke0:IsQ w5 (.agg #[.bool (ngB (x).num),.slice Ae0 (digs 4294967296 (x).num.natAbs).length ce0,.slice De0 (digs 4294967296 (x).den).length ee0]) (x):=⟨_,_,rfl,ke0s,ke0d⟩;refine zD ?_;have hle:=Be0.lt;have hneE:g≠g5_3:=by omega
          obtain ⟨g2_,o2_,cp2_,hA2_,_,_,_⟩:=sl2.place hneq;injection hA2_ with e1_ _ e3_;subst e1_;subst e3_;obtain ⟨uy,ty,hlty,zy0,zy1,zy2,zys,zyd⟩:=(sl2.below bb).at2 HY.out;obtain ⟨Ay,cy,rfl,_⟩:=id zys;obtain ⟨Dy,ey,rfl,_⟩:=id zyd;have zy:IsQ w5 (.agg #[.bool (ngB (y).num),.slice Ay (digs 4294967296 (y).num.natAbs).length cy,.slice Dy (digs 4294967296 (y).den).length ey]) (y):=⟨_,_,rfl,zys,zyd⟩;by_cases hv:K*y=0
          · have HV:Hid (true=decide (K*y=0)):=(decide_eq_true hv).symm;have HXE:Hid (x=x-K*y):=by show _=_;rw [hv];grind
            clear hv;have sB:=bb.size;go_upto_region 7 with (fail);refine flow 6 [Pd.eq (.agg #[.bool (ngB (K).num),.slice A1 (digs 4294967296 (K).num.natAbs).length c1,.slice D1 (digs 4294967296 (K).den).length e1]),Pd.eq (.slice (some ⟨g2_,o2_,none⟩) q.length c2),Pd.eq (.int .i64 (k:Int)),Pd.eq (.pointer (some ⟨g2_,o2_+k*3,none⟩)),Pd.eq (.agg #[.bool (ngB (y).num),.slice Ay (digs 4294967296 (y).num.natAbs).length cy,.slice Dy (digs 4294967296 (y).den).length ey]),Pd.eq (.bool true)] (by kernel_rfl) (by kernel_rfl) ?ob6 ?done6
            case ob6 =>
              refine zA (zC rfl (zB7 rfl) (zB9 rfl rfl) (fun w2 hb=>zF7 underlying83 rfl (by kernel_rfl) (B1.drew.below hb)) (fun _ _=>rfl)) ?_;refine zA (zC2 rfl (zB7 rfl) (zB9 rfl rfl) (fun _ _ h=>h)) ?_;refine zA (zC2 rfl (zB7 rfl) (zB9 rfl rfl) (fun _ _ h=>h)) ?_;refine zA (zI0 rfl (zB7 rfl) (zB8 (j:=1) (by kernel_rfl) rfl rfl) (zB8 (j:=2) (by kernel_rfl) rfl rfl) (fun _ _ _ hx hy=>⟨_,by rw [hx,hy];exact zI9 (k:=k) underlying44 (by kernel_rfl) hlty _,rfl⟩)) ?_;refine zA (zC rfl (zB7 rfl) (zB8 (j:=3) (by kernel_rfl) rfl rfl) (fun w2 hb=>zO4 underlying83 rfl (by kernel_rfl) ((hb.cell (World.block_lt_of_cell? w5 _ zy0)).trans zy0) ((hb.cell (World.block_lt_of_cell? w5 _ zy1)).trans zy1) ((hb.cell (World.block_lt_of_cell? w5 _ zy2)).trans zy2)) (fun _ _=>rfl)) ?_;refine zA (zD0 rfl func174 (by kernel_rfl) (zB7 rfl) (zB8 (j:=0) (by kernel_rfl) rfl rfl) (zB8 (j:=4) (by kernel_rfl) rfl rfl) (fun w2 u0 u1 hb h0 h1=>by obtain rfl:=h0;obtain rfl:=h1;exact (yG7 _ _ (K) (y) true _ (k1.drew.below hb) (zy.drew.below hb) HV.out).mono fun e w3 h=>zD5.pd h)) ?_
              trivial
            case done6 =>
              refine fun w7 hb7 v0 h0 v1 h1 v2 h2 v3 h3 v4 h4 v5 h5 b hbf => ?_;obtain rfl:=h0;obtain rfl:=h1;obtain rfl:=h2;obtain rfl:=h3;obtain rfl:=h4;obtain rfl:=h5;simp only [Act.put,zA0,zA2,zA1] at hbf;subst hbf;replace B1:=B1.below hb7;replace k1s:=k1s.below hb7;replace k1d:=k1d.below hb7;replace k1z:=k1z.below hb7;replace k1:=k1.below hb7;replace Be0:=Be0.below hb7;replace ke0s:=ke0s.below hb7;replace ke0d:=ke0d.below hb7;replace ke0z:=ke0z.below hb7;replace ke0:=ke0.below hb7;replace RN:=RN.below hb7;replace bb:=bb.trans (hb7.mono bb.size);have hsz7:=bb.size;refine zF8 (by kernel_rfl) ?_;clear zy zy0 zy1 zy2 zys zyd;have sB:=bb.size;go_upto_region 8 with (fail);refine zC9 5 [Pd.eq (.slice (some ⟨g,0,none⟩) p.length p.length),Pd.eq (.int .i64 (k:Int)),Pd.eq (.agg #[.bool (ngB (x).num),.slice Ae0 (digs 4294967296 (x).num.natAbs).length ce0,.slice De0 (digs 4294967296 (x).den).length ee0]),pq ((x-K*y)) w7.heap.size,Pd.eq (.pointer (some ⟨g,0+k*3,none⟩))] (by kernel_rfl) ?ob7 ?done7
              case ob7 =>
                refine zA (zC2 rfl (zB7 rfl) (zB9 rfl rfl) (fun _ _ h=>h)) ?_;refine zA (zC2 rfl (zB7 rfl) (zB9 rfl rfl) (fun _ _ h=>h)) ?_;refine zA (zC rfl (zB7 rfl) (zB9 rfl rfl) (fun w2 hb=>zF7 underlying83 rfl (by kernel_rfl) (Be0.below hb)) (fun _ _=>rfl)) ?_;refine zA (zF6 rfl func179 (by kernel_rfl) (zB7 rfl) (zB8 (j:=2) (by kernel_rfl) rfl rfl) (fun w2 u0 hb h0=>by obtain rfl:=h0;exact (jB3 _ x _ (ke0.below hb) (lx.mono (by omega))).mono fun e w3 h=>RetQ.pd (h.to HXE.out) hb.size)) ?_;refine zA (zI0 rfl (zB7 rfl) (zB8 (j:=0) (by kernel_rfl) rfl rfl) (zB8 (j:=1) (by kernel_rfl) rfl rfl) (fun _ _ _ hx hy=>⟨_,by rw [hx,hy];exact zI9 (k:=k) underlying44 (by kernel_rfl) hlt _,rfl⟩)) ?_
                trivial
              case done7 =>
                refine fun w8 hb8 v0 h0 v1 h1 v2 h2 v3 h3 v4 h4 b hbf => ?_;obtain rfl:=h0;obtain rfl:=h1;obtain rfl:=h2;obtain rfl:=h4;obtain ⟨q3,f3⟩:=h3;simp only [Act.put,zA0,zA2,zA1] at hbf;subst hbf;replace B1:=B1.below hb8;replace k1s:=k1s.below hb8;replace k1d:=k1d.below hb8;replace k1z:=k1z.below hb8;replace k1:=k1.below hb8;replace Be0:=Be0.below hb8;replace ke0s:=ke0s.below hb8;replace ke0d:=ke0d.below hb8;replace ke0z:=ke0z.below hb8;replace ke0:=ke0.below hb8;replace RN:=RN.below hb8;replace bb:=bb.trans (hb8.mono bb.size);have hsz8:=bb.size;have s_3:=sB;obtain ⟨u3,t3,rfl,q3,d3⟩:=q3;obtain ⟨A9,c9,rfl,_⟩:=id q3;obtain ⟨D9,e9,rfl,_⟩:=id d3;refine yG5 (j:=5) rfl rfl rfl rfl (g:=g) (i:=k) (q:=(x-K*y)) rfl rfl (by kernel_rfl) RN hlt q3 d3 fun w9 hg9 hP9 => ?_;replace k1s:=RN.keep hg9 k1s;replace k1d:=RN.keep hg9 k1d;replace k1z:IsZ w9 (.agg #[.bool (ngB (K).num),.slice A1 (digs 4294967296 (K).num.natAbs).length c1]) ((K).num):=⟨_,rfl,k1s⟩;replace k1:IsQ w9 (.agg #[.bool (ngB (K).num),.slice A1 (digs 4294967296 (K).num.natAbs).length c1,.slice D1 (digs 4294967296 (K).den).length e1]) (K):=⟨_,_,rfl,k1s,k1d⟩;replace B1:=B1.grown hg9 (by omega);replace ke0s:=RN.keep hg9 ke0s;replace ke0d:=RN.keep hg9 ke0d;replace ke0z:IsZ w9 (.agg #[.bool (ngB (x).num),.slice Ae0 (digs 4294967296 (x).num.natAbs).length ce0]) ((x).num):=⟨_,rfl,ke0s⟩;replace ke0:IsQ w9 (.agg #[.bool (ngB (x).num),.slice Ae0 (digs 4294967296 (x).num.natAbs).length ce0,.slice De0 (digs 4294967296 (x).den).length ee0]) (x):=⟨_,_,rfl,ke0s,ke0d⟩;replace Be0:=Be0.grown hg9 (by omega);replace bb:=bb.trans ((Below.refl _ _).grown hg9 bb.size (fun g hg=>by injection hg with hg;omega));have hsz9:=bb.size;replace RN:=hP9.1 HLK.out;clear hP9;refine zD ?_;rw [<- HTK.out] at RN;have hsk:p.length-(k+1)<p.length-k:=by omega
                go_wp2;go_roundw;case rel=>exact ⟨k+1,by omega,RN,B1,bb,by go_num⟩
                case measure=>simp [intOf];omega
          · have HV:Hid (false=decide (K*y=0)):=(decide_eq_false hv).symm;clear hv;have sB:=bb.size;go_upto_region 7 with (fail);refine flow 6 [Pd.eq (.agg #[.bool (ngB (K).num),.slice A1 (digs 4294967296 (K).num.natAbs).length c1,.slice D1 (digs 4294967296 (K).den).length e1]),Pd.eq (.slice (some ⟨g2_,o2_,none⟩) q.length c2),Pd.eq (.int .i64 (k:Int)),Pd.eq (.pointer (some ⟨g2_,o2_+k*3,none⟩)),Pd.eq (.agg #[.bool (ngB (y).num),.slice Ay (digs 4294967296 (y).num.natAbs).length cy,.slice Dy (digs 4294967296 (y).den).length ey]),Pd.eq (.bool false)] (by kernel_rfl) (by kernel_rfl) ?ob8 ?done8
            case ob8 =>
              refine zA (zC rfl (zB7 rfl) (zB9 rfl rfl) (fun w2 hb=>zF7 underlying83 rfl (by kernel_rfl) (B1.drew.below hb)) (fun _ _=>rfl)) ?_;refine zA (zC2 rfl (zB7 rfl) (zB9 rfl rfl) (fun _ _ h=>h)) ?_;refine zA (zC2 rfl (zB7 rfl) (zB9 rfl rfl) (fun _ _ h=>h)) ?_;refine zA (zI0 rfl (zB7 rfl) (zB8 (j:=1) (by kernel_rfl) rfl rfl) (zB8 (j:=2) (by kernel_rfl) rfl rfl) (fun _ _ _ hx hy=>⟨_,by rw [hx,hy];exact zI9 (k:=k) underlying44 (by kernel_rfl) hlty _,rfl⟩)) ?_;refine zA (zC rfl (zB7 rfl) (zB8 (j:=3) (by kernel_rfl) rfl rfl) (fun w2 hb=>zO4 underlying83 rfl (by kernel_rfl) ((hb.cell (World.block_lt_of_cell? w5 _ zy0)).trans zy0) ((hb.cell (World.block_lt_of_cell? w5 _ zy1)).trans zy1) ((hb.cell (World.block_lt_of_cell? w5 _ zy2)).trans zy2)) (fun _ _=>rfl)) ?_;refine zA (zD0 rfl func174 (by kernel_rfl) (zB7 rfl) (zB8 (j:=0) (by kernel_rfl) rfl rfl) (zB8 (j:=4) (by kernel_rfl) rfl rfl) (fun w2 u0 u1 hb h0 h1=>by obtain rfl:=h0;obtain rfl:=h1;exact (yG7 _ _ (K) (y) false _ (k1.drew.below hb) (zy.drew.below hb) HV.out).mono fun e w3 h=>zD5.pd h)) ?_
              trivial
            case done8 =>
              refine fun w7 hb7 v0 h0 v1 h1 v2 h2 v3 h3 v4 h4 v5 h5 b hbf => ?_;obtain rfl:=h0;obtain rfl:=h1;obtain rfl:=h2;obtain rfl:=h3;obtain rfl:=h4;obtain rfl:=h5;simp only [Act.put,zA0,zA2,zA1] at hbf;subst hbf;replace B1:=B1.below hb7;replace k1s:=k1s.below hb7;replace k1d:=k1d.below hb7;replace k1z:=k1z.below hb7;replace k1:=k1.below hb7;replace Be0:=Be0.below hb7;replace ke0s:=ke0s.below hb7;replace ke0d:=ke0d.below hb7;replace ke0z:=ke0z.below hb7;replace ke0:=ke0.below hb7;replace RN:=RN.below hb7;replace bb:=bb.trans (hb7.mono bb.size);have hsz7:=bb.size;refine zF8 (by kernel_rfl) ?_;clear zy zy0 zy1 zy2 zys zyd;obtain ⟨ub,tb,hltb,zb0,zb1,zb2,zbs,zbd⟩:=(sl2.below bb).at2 HY.out;obtain ⟨Ab,cb,rfl,_⟩:=id zbs;obtain ⟨Db,eb,rfl,_⟩:=id zbd;have zb:IsQ w7 (.agg #[.bool (ngB (y).num),.slice Ab (digs 4294967296 (y).num.natAbs).length cb,.slice Db (digs 4294967296 (y).den).length eb]) (y):=⟨_,_,rfl,zbs,zbd⟩;have sB:=bb.size;go_upto_region 9 with (fail);refine flow 11 [Pd.eq (.slice (some ⟨g,0,none⟩) p.length p.length),Pd.eq (.int .i64 (k:Int)),Pd.eq (.agg #[.bool (ngB (x).num),.slice Ae0 (digs 4294967296 (x).num.natAbs).length ce0,.slice De0 (digs 4294967296 (x).den).length ee0]),Pd.eq (.agg #[.bool (ngB (K).num),.slice A1 (digs 4294967296 (K).num.natAbs).length c1,.slice D1 (digs 4294967296 (K).den).length e1]),Pd.eq (.slice (some ⟨g2_,o2_,none⟩) q.length c2),Pd.eq (.int .i64 (k:Int)),Pd.eq (.pointer (some ⟨g2_,o2_+k*3,none⟩)),Pd.eq (.agg #[.bool (ngB (y).num),.slice Ab (digs 4294967296 (y).num.natAbs).length cb,.slice Db (digs 4294967296 (y).den).length eb]),pqn (K*y),pq ((x-K*y)) w7.heap.size,Pd.eq (.pointer (some ⟨g,0+k*3,none⟩))] (by kernel_rfl) (by kernel_rfl) ?ob9 ?done9
              case ob9 =>
                refine zA (zC2 rfl (zB7 rfl) (zB9 rfl rfl) (fun _ _ h=>h)) ?_;refine zA (zC2 rfl (zB7 rfl) (zB9 rfl rfl) (fun _ _ h=>h)) ?_;refine zA (zC rfl (zB7 rfl) (zB9 rfl rfl) (fun w2 hb=>zF7 underlying83 rfl (by kernel_rfl) (Be0.drew.below hb)) (fun _ _=>rfl)) ?_;refine zA (zC rfl (zB7 rfl) (zB9 rfl rfl) (fun w2 hb=>zF7 underlying83 rfl (by kernel_rfl) (B1.drew.below hb)) (fun _ _=>rfl)) ?_;refine zA (zC2 rfl (zB7 rfl) (zB9 rfl rfl) (fun _ _ h=>h)) ?_;refine zA (zC2 rfl (zB7 rfl) (zB9 rfl rfl) (fun _ _ h=>h)) ?_;refine zA (zI0 rfl (zB7 rfl) (zB8 (j:=4) (by kernel_rfl) rfl rfl) (zB8 (j:=5) (by kernel_rfl) rfl rfl) (fun _ _ _ hx hy=>⟨_,by rw [hx,hy];exact zI9 (k:=k) underlying44 (by kernel_rfl) hltb _,rfl⟩)) ?_;refine zA (zC rfl (zB7 rfl) (zB8 (j:=6) (by kernel_rfl) rfl rfl) (fun w2 hb=>zO4 underlying83 rfl (by kernel_rfl) ((hb.cell (World.block_lt_of_cell? w7 _ zb0)).trans zb0) ((hb.cell (World.block_lt_of_cell? w7 _ zb1)).trans zb1) ((hb.cell (World.block_lt_of_cell? w7 _ zb2)).trans zb2)) (fun _ _=>rfl)) ?_;refine zA (zD0 rfl func127 (by kernel_rfl) (zB7 rfl) (zB8 (j:=3) (by kernel_rfl) rfl rfl) (zB8 (j:=7) (by kernel_rfl) rfl rfl) (fun w2 u0 u1 hb h0 h1=>by obtain rfl:=h0;obtain rfl:=h1;exact (qT _ K _ y _ (k1.drew.below hb) (zb.drew.below hb) (lK.mono (by omega)) (ly.mono (by omega))).mono fun e w3 h=>qK2.pd h.n)) ?_;refine zA (zD0 rfl func180 (by kernel_rfl) (zB7 rfl) (zB8 (j:=2) (by kernel_rfl) rfl rfl) (zB8 (j:=8) (by kernel_rfl) rfl rfl) (fun w2 u0 u1 hb h0 h1=>by obtain rfl:=h0;exact (jA2 _ x _ (K*y) _ (ke0.drew.below hb) h1 (lx.mono (by omega)) (lky.mono (by omega))).mono fun e w3 h=>RetQ.pd h hb.size)) ?_;refine zA (zI0 rfl (zB7 rfl) (zB8 (j:=0) (by kernel_rfl) rfl rfl) (zB8 (j:=1) (by kernel_rfl) rfl rfl) (fun _ _ _ hx hy=>⟨_,by rw [hx,hy];exact zI9 (k:=k) underlying44 (by kernel_rfl) hlt _,rfl⟩)) ?_
                trivial
              case done9 =>
                refine fun w8 hb8 v0 h0 v1 h1 v2 h2 v3 h3 v4 h4 v5 h5 v6 h6 v7 h7 v8 h8 v9 h9 v10 h10 b hbf => ?_;obtain rfl:=h0;obtain rfl:=h1;obtain rfl:=h2;obtain rfl:=h3;obtain rfl:=h4;obtain rfl:=h5;obtain rfl:=h6;obtain rfl:=h7;obtain rfl:=h10;have q8:=h8;obtain ⟨q9,f9⟩:=h9;simp only [Act.put,zA0,zA2,zA1] at hbf;subst hbf;replace B1:=B1.below hb8;replace k1s:=k1s.below hb8;replace k1d:=k1d.below hb8;replace k1z:=k1z.below hb8;replace k1:=k1.below hb8;replace Be0:=Be0.below hb8;replace ke0s:=ke0s.below hb8;replace ke0d:=ke0d.below hb8;replace ke0z:=ke0z.below hb8;replace ke0:=ke0.below hb8;replace RN:=RN.below hb8;replace bb:=bb.trans (hb8.mono bb.size);have hsz8:=bb.size;have s_9:=sB;obtain ⟨u9,t9,rfl,q9,d9⟩:=q9;obtain ⟨A9,c9,rfl,_⟩:=id q9;obtain ⟨D9,e9,rfl,_⟩:=id d9;refine jA8 (j:=11) (by kernel_rfl) rfl rfl rfl rfl (g:=g) (i:=k) (q:=(x-K*y)) rfl rfl (by kernel_rfl) RN hlt q9 d9 fun w9 hg9 hP9 => ?_;replace k1s:=RN.keep hg9 k1s;replace k1d:=RN.keep hg9 k1d;replace k1z:IsZ w9 (.agg #[.bool (ngB (K).num),.slice A1 (digs 4294967296 (K).num.natAbs).length c1]) ((K).num):=⟨_,rfl,k1s⟩;replace k1:IsQ w9 (.agg #[.bool (ngB (K).num),.slice A1 (digs 4294967296 (K).num.natAbs).length c1,.slice D1 (digs 4294967296 (K).den).length e1]) (K):=⟨_,_,rfl,k1s,k1d⟩;replace B1:=B1.grown hg9 (by omega);replace ke0s:=RN.keep hg9 ke0s;replace ke0d:=RN.keep hg9 ke0d;replace ke0z:IsZ w9 (.agg #[.bool (ngB (x).num),.slice Ae0 (digs 4294967296 (x).num.natAbs).length ce0]) ((x).num):=⟨_,rfl,ke0s⟩;replace ke0:IsQ w9 (.agg #[.bool (ngB (x).num),.slice Ae0 (digs 4294967296 (x).num.natAbs).length ce0,.slice De0 (digs 4294967296 (x).den).length ee0]) (x):=⟨_,_,rfl,ke0s,ke0d⟩;replace Be0:=Be0.grown hg9 (by omega);replace bb:=bb.trans ((Below.refl _ _).grown hg9 bb.size (fun g hg=>by injection hg with hg;omega));have hsz9:=bb.size;replace RN:=hP9.1 HLK.out;clear hP9;refine zF8 (by kernel_rfl) ?_;rw [<- HTK.out] at RN;have hsk:p.length-(k+1)<p.length-k:=by omega
                go_wp2;go_roundw;case rel=>exact ⟨k+1,by omega,RN,B1,bb,by go_num⟩
                case measure=>simp [intOf];omega
      · rw [zA7 (by rw [HRL.out];omega)] at RN
        have HRN:Hid (zD8 wr g (zG4 p K q).length (zG4 p K q)):=by
          show zD8 _ _ _ _
          rw [HRL.out];exact RN
        clear RN;go_wp2;go_ret2;exact ⟨g,by rw [HRL.out];rfl,HRN.out,hgw,bb⟩
theorem eqf_any (a0 a1:Value) (p q:List Rat) (b:Bool) (w:World) (h0:SlF .u64 4294967296 w a0 p) (h1:SlF .u64 4294967296 w a1 q) (hb:b=decide (p=q)) :
  Calls prog 78 #[a0,a1,.func (.func 79) #[] #[]] w (zD5 (.bool b) w):=by
 have bb:Below w.heap.size w w:=Below.refl _ _;have sl0:=h0;obtain ⟨A0,c0,rfl,hc0,hm0⟩:=h0.shape;unfold maxLen at hm0;have sl1:=h1;obtain ⟨A1,c1,rfl,hc1,hm1⟩:=h1.shape;unfold maxLen at hm1;have HB:=hQ9 hb;clear hb
 go_enter func78,ntmps78
 go_upto_region 1 with (fail)
 have hsz0:=bb.size;by_cases he:p.length=q.length
 ·have HNE:Hid ((((p.length:Nat):Int) != ((q.length:Nat):Int))=false):=by show _=_;rw [bne_eq_false_iff_eq];omega
  have HE:=hQ9 he;clear he;have sB:=bb.size;refine zC9 5 [Pd.eq (.slice A0 p.length c0),Pd.eq (.int .i64 ((p.length:Nat):Int)),Pd.eq (.slice A1 q.length c1),Pd.eq (.int .i64 ((q.length:Nat):Int)),Pd.eq (.bool false)] (by kernel_rfl) ?ob11 ?done11
  case ob11 =>
   refine zA (zC2 rfl (zB7 rfl) (zB9 rfl rfl) (fun _ _ h=>h)) ?_;refine zA (zJ6 rfl (zB7 rfl) (zB8 (j:=0) (by kernel_rfl) rfl rfl) (fun _ _ hx=>⟨_,by rw [hx];exact zJ7 underlying44 _ _ _ _,rfl⟩)) ?_;refine zA (zC2 rfl (zB7 rfl) (zB9 rfl rfl) (fun _ _ h=>h)) ?_;refine zA (zJ6 rfl (zB7 rfl) (zB8 (j:=2) (by kernel_rfl) rfl rfl) (fun _ _ hx=>⟨_,by rw [hx];exact zJ7 underlying44 _ _ _ _,rfl⟩)) ?_;refine zA (zE8 rfl (zB7 rfl) (zB8 (j:=1) (by kernel_rfl) rfl rfl) (zB8 (j:=3) (by kernel_rfl) rfl rfl) (fun _ _ _ hx hy=>⟨.bool false,by rw [hx,hy,zY4,HNE.out],rfl⟩)) ?_
   trivial
  case done11 =>
   refine fun w2 hb2 v0 h0 v1 h1 v2 h2 v3 h3 v4 h4 b hbf => ?_;obtain rfl:=h0;obtain rfl:=h1;obtain rfl:=h2;obtain rfl:=h3;obtain rfl:=h4;simp only [Act.put,zA0,zA2,zA1] at hbf;subst hbf;replace bb:=bb.trans (hb2.mono bb.size);have hsz2:=bb.size;refine zD ?_;go_wp2
   go_loopw [17] (fun v17 wr => ∃ k:Nat,k<=p.length/\Hid (p.take k=q.take k)/\Below w.heap.size w wr/\v17=.int .i64 (k:Int)) (fun v17 _=>p.length-(intOf v17).toNat)
   case atStart=>exact ⟨0,by omega,rfl,bb,rfl⟩
   case round =>
    obtain ⟨k,hk,HA,hbw,rfl⟩:=hrel;clear bb;have bb:=hbw;clear hbw;have hszr:=bb.size;by_cases hlt:k<p.length
    ·have hlt2:k<q.length:=by have:=HE.out;omega
     have hneq:q≠[]:=List.length_pos_iff.1 (by omega);obtain ⟨y,hy⟩:∃ y,q[k]?=some y:=⟨_,zA3 hlt2⟩;have HY:=hQ9 hy;clear hy;obtain ⟨x,hq0_⟩:∃ x,p[k]?=some x:=⟨_,zA3 hlt⟩;obtain ⟨g0_,o0_,ue0,te0,hA0_,_,e00,e01,e02,es0,ed0⟩:=(sl0.below bb).at_ hq0_;subst hA0_;have HQ0:=hQ9 hq0_;clear hq0_;obtain ⟨Ae0,ce0,rfl,_⟩:=id es0;obtain ⟨De0,ee0,rfl,_⟩:=id ed0;have ke0:IsQ wr (.agg #[.bool (ngB x.num),.slice Ae0 (digs 4294967296 x.num.natAbs).length ce0,.slice De0 (digs 4294967296 x.den).length ee0]) x:=⟨_,_,rfl,es0,ed0⟩;have sB:=bb.size;go_upto_region 5 with (fail);refine zC9 5 [Pd.eq (.int .i64 (k:Int)),Pd.eq (.pointer (some ⟨g0_,o0_+k*3,none⟩)),Pd.eq (.agg #[.bool (ngB x.num),.slice Ae0 (digs 4294967296 x.num.natAbs).length ce0,.slice De0 (digs 4294967296 x.den).length ee0]),pn 83 #[.bool false,.slice none 0 0,.slice none 0 0] wr.heap.size,Pd.eq (.int .i64 (k:Int))] (by kernel_rfl) ?ob12 ?done12
     case ob12 =>
      refine zA (zC2 rfl (zB7 rfl) (zB9 rfl rfl) (fun _ _ h=>h)) ?_;refine zA (zI0 rfl (zB7 rfl) (zB9 rfl rfl) (zB9 rfl rfl) (fun _ _ _ hx hy=>⟨_,by rw [hx,hy];exact zI9 underlying44 (by kernel_rfl) hlt _,rfl⟩)) ?_;refine zA (zC rfl (zB7 rfl) (zB8 (j:=1) (by kernel_rfl) rfl rfl) (fun w2 hb=>zO4 underlying83 rfl (by kernel_rfl) ((hb.cell (World.block_lt_of_cell? wr _ e00)).trans e00) ((hb.cell (World.block_lt_of_cell? wr _ e01)).trans e01) ((hb.cell (World.block_lt_of_cell? wr _ e02)).trans e02)) (fun _ _=>rfl)) ?_;refine zA (zN2 (z:=.agg #[.bool false,.slice none 0 0,.slice none 0 0]) rfl rfl (fun _=>by kernel_rfl) (fun _ _ hB h=>⟨_,rfl,hB,h⟩)) ?_;refine zA (zE6 rfl (zB7 rfl) (zB8 (j:=0) (by kernel_rfl) rfl rfl) (fun _ _ h=>h)) ?_
      trivial
     case done12 =>
      refine fun w4 hb4 v0 h0 v1 h1 v2 h2 v3 h3 d3 v4 h4 b hbf => ?_;obtain rfl:=h0;obtain rfl:=h1;obtain rfl:=h2;obtain rfl:=h4;obtain ⟨g12_3,rfl,hg3,B3⟩:=h3;simp only [Act.put,zA0,zA2,zA1] at hbf;subst hbf;replace es0:=es0.below hb4;replace ed0:=ed0.below hb4;replace bb:=bb.trans (hb4.mono bb.size);have hsz4:=bb.size;have BA8:=B3;have q2:=es0;have d2:=ed0;refine zI5 (i:=5) rfl rfl rfl rfl rfl rfl (cells:=[.bool (ngB (x).num),.slice Ae0 (digs 4294967296 (x).num.natAbs).length ce0,.slice De0 (digs 4294967296 (x).den).length ee0]) rfl BA8 rfl (by kernel_rfl) (zI6 rfl rfl rfl) fun w5 hg5 BN5 => ?_;replace q2:=off q2 BA8 zE0 hg5;replace d2:=off d2 BA8 zE0 hg5;replace bb:=bb.trans ((Below.refl _ _).grown hg5 bb.size (fun g hg=>by injection hg with hg;omega));have hsz5:=bb.size;have Be0:Blk w5 (g12_3) _ _:=BN5;have ke0s:=q2;have ke0d:=d2;have ke0z:IsZ w5 (.agg #[.bool (ngB (x).num),.slice Ae0 (digs 4294967296 (x).num.natAbs).length ce0]) ((x).num):=⟨_,rfl,ke0s⟩;have ke0:IsQ w5 (.agg #[.bool (ngB (x).num),.slice Ae0 (digs 4294967296 (x).num.natAbs).length ce0,.slice De0 (digs 4294967296 (x).den).length ee0]) (x):=⟨_,_,rfl,ke0s,ke0d⟩;refine zD ?_;obtain ⟨g1_,o1_,cp1_,hA1_,_,_,_⟩:=sl1.place hneq;injection hA1_ with e1_ _ e3_;subst e1_;subst e3_;obtain ⟨uy,ty,hlty,zy0,zy1,zy2,zys,zyd⟩:=(sl1.below bb).at2 HY.out;obtain ⟨Ay,cy,rfl,_⟩:=id zys;obtain ⟨Dy,ey,rfl,_⟩:=id zyd;have zy:IsQ w5 (.agg #[.bool (ngB (y).num),.slice Ay (digs 4294967296 (y).num.natAbs).length cy,.slice Dy (digs 4294967296 (y).den).length ey]) (y):=⟨_,_,rfl,zys,zyd⟩;have sB:=bb.size;go_upto_region 6 with (fail);have lt5_8:=Blk.lt Be0;refine zC9 5 [Pd.eq (.slice (some ⟨g1_,o1_,none⟩) q.length c1),Pd.eq (.int .i64 (k:Int)),Pd.eq (.pointer (some ⟨g1_,o1_+k*3,none⟩)),Pd.eq (.agg #[.bool (ngB (y).num),.slice Ay (digs 4294967296 (y).num.natAbs).length cy,.slice Dy (digs 4294967296 (y).den).length ey]),pn 83 #[.bool false,.slice none 0 0,.slice none 0 0] w5.heap.size] (by kernel_rfl) ?ob13 ?done13
      case ob13 =>
       refine zA (zC2 rfl (zB7 rfl) (zB9 rfl rfl) (fun _ _ h=>h)) ?_;refine zA (zC2 rfl (zB7 rfl) (zB9 rfl rfl) (fun _ _ h=>h)) ?_;refine zA (zI0 rfl (zB7 rfl) (zB8 (j:=0) (by kernel_rfl) rfl rfl) (zB8 (j:=1) (by kernel_rfl) rfl rfl) (fun _ _ _ hx hy=>⟨_,by rw [hx,hy];exact zI9 (k:=k) underlying44 (by kernel_rfl) hlty _,rfl⟩)) ?_;refine zA (zC rfl (zB7 rfl) (zB8 (j:=2) (by kernel_rfl) rfl rfl) (fun w2 hb=>zO4 underlying83 rfl (by kernel_rfl) ((hb.cell (World.block_lt_of_cell? w5 _ zy0)).trans zy0) ((hb.cell (World.block_lt_of_cell? w5 _ zy1)).trans zy1) ((hb.cell (World.block_lt_of_cell? w5 _ zy2)).trans zy2)) (fun _ _=>rfl)) ?_;refine zA (zN2 (z:=.agg #[.bool false,.slice none 0 0,.slice none 0 0]) rfl rfl (fun _=>by kernel_rfl) (fun _ _ hB h=>⟨_,rfl,hB,h⟩)) ?_
       trivial
      case done13 =>
       refine fun w6 hb6 v0 h0 v1 h1 v2 h2 v3 h3 v4 h4 d4 b hbf => ?_;obtain rfl:=h0;obtain rfl:=h1;obtain rfl:=h2;obtain rfl:=h3;obtain ⟨g13_4,rfl,hg4,B4⟩:=h4;simp only [Act.put,zA0,zA2,zA1] at hbf;subst hbf;replace Be0:=Be0.below hb6;replace ke0s:=ke0s.below hb6;replace ke0d:=ke0d.below hb6;replace ke0z:=ke0z.below hb6;replace ke0:=ke0.below hb6;replace zys:=zys.below hb6;replace zyd:=zyd.below hb6;replace bb:=bb.trans (hb6.mono bb.size);have hsz6:=bb.size;have BA9:=B4;have q3:=zys;have d3:=zyd;refine zI5 (i:=5) rfl rfl rfl rfl rfl rfl (cells:=[.bool (ngB (y).num),.slice Ay (digs 4294967296 (y).num.natAbs).length cy,.slice Dy (digs 4294967296 (y).den).length ey]) rfl BA9 rfl (by kernel_rfl) (zI6 rfl rfl rfl) fun w7 hg7 BN7 => ?_;replace q3:=off q3 BA9 zE0 hg7;replace d3:=off d3 BA9 zE0 hg7;replace ke0s:=off ke0s BA9 zE0 hg7;replace ke0d:=off ke0d BA9 zE0 hg7;replace ke0z:IsZ w7 (.agg #[.bool (ngB (x).num),.slice Ae0 (digs 4294967296 (x).num.natAbs).length ce0]) ((x).num):=⟨_,rfl,ke0s⟩;replace ke0:IsQ w7 (.agg #[.bool (ngB (x).num),.slice Ae0 (digs 4294967296 (x).num.natAbs).length ce0,.slice De0 (digs 4294967296 (x).den).length ee0]) (x):=⟨_,_,rfl,ke0s,ke0d⟩;replace Be0:=Be0.grown hg7 (by omega);replace bb:=bb.trans ((Below.refl _ _).grown hg7 bb.size (fun g hg=>by injection hg with hg;omega));have hsz7:=bb.size;have By:Blk w7 (g13_4) _ _:=BN7;have kys:=q3;have kyd:=d3;have kyz:IsZ w7 (.agg #[.bool (ngB (y).num),.slice Ay (digs 4294967296 (y).num.natAbs).length cy]) ((y).num):=⟨_,rfl,kys⟩;have ky:IsQ w7 (.agg #[.bool (ngB (y).num),.slice Ay (digs 4294967296 (y).num.natAbs).length cy,.slice Dy (digs 4294967296 (y).den).length ey]) (y):=⟨_,_,rfl,kys,kyd⟩;refine zD ?_;obtain ⟨u,hu⟩:∃ u,u=decide (x=y):=⟨_,rfl⟩;have HU:=hQ9 hu;by_cases hxy:x=y
       ·have HA2:Hid (p.take (k+1)=q.take (k+1)):=by show _=_;rw [zU3 HQ0.out,zU3 HY.out,HA.out,hxy]
        rw [decide_eq_true hxy] at hu;subst hu;clear hxy;have sB:=bb.size;go_upto_region 7 with (fail);refine zC9 5 [Pd.eq (.func (.func 79) #[] #[]),Pd.eq (.agg #[.bool (ngB (x).num),.slice Ae0 (digs 4294967296 (x).num.natAbs).length ce0,.slice De0 (digs 4294967296 (x).den).length ee0]),Pd.eq (.agg #[.bool (ngB (y).num),.slice Ay (digs 4294967296 (y).num.natAbs).length cy,.slice Dy (digs 4294967296 (y).den).length ey]),Pd.eq (.bool true),Pd.eq (.bool false)] (by kernel_rfl) ?ob14 ?done14
        case ob14 =>
         refine zA (zC2 rfl (zB7 rfl) (zB9 rfl rfl) (fun _ _ h=>h)) ?_;refine zA (zC rfl (zB7 rfl) (zB9 rfl rfl) (fun w2 hb=>zF7 underlying83 rfl (by kernel_rfl) (Be0.below hb)) (fun _ _=>rfl)) ?_;refine zA (zC rfl (zB7 rfl) (zB9 rfl rfl) (fun w2 hb=>zF7 underlying83 rfl (by kernel_rfl) (By.below hb)) (fun _ _=>rfl)) ?_;refine zA (qM1 rfl (zB8 (j:=0) (by kernel_rfl) rfl rfl) func79 (by kernel_rfl) (zB7 rfl) (zB8 (j:=1) (by kernel_rfl) rfl rfl) (zB8 (j:=2) (by kernel_rfl) rfl rfl) (fun w2 u0 u1 hb h0 h1=>by obtain rfl:=h0;obtain rfl:=h1;exact (yF8 _ _ x y true _ (ke0.below hb) (ky.below hb) HU.out).mono fun e w3 h=>zD5.pd h)) ?_;refine zA (zT6 rfl (zB7 rfl) (zB8 (j:=3) (by kernel_rfl) rfl rfl) (fun _=>zT7 _ _) (fun _=>rfl)) ?_
         trivial
        case done14 =>
         refine fun w9 hb9 v0 h0 v1 h1 v2 h2 v3 h3 v4 h4 b hbf => ?_;obtain rfl:=h0;obtain rfl:=h1;obtain rfl:=h2;obtain rfl:=h3;obtain rfl:=h4;simp only [Act.put,zA0,zA2,zA1] at hbf;subst hbf;replace Be0:=Be0.below hb9;replace ke0s:=ke0s.below hb9;replace ke0d:=ke0d.below hb9;replace ke0z:=ke0z.below hb9;replace ke0:=ke0.below hb9;replace By:=By.below hb9;replace kys:=kys.below hb9;replace kyd:=kyd.below hb9;replace kyz:=kyz.below hb9;replace ky:=ky.below hb9;replace bb:=bb.trans (hb9.mono bb.size);have hsz9:=bb.size;refine zD ?_;have hsk:p.length-(k+1)<p.length-k:=by omega
         go_wp2;go_roundw;case rel=>exact ⟨k+1,by omega,HA2,bb,by go_num⟩
         case measure=>simp [intOf];omega
       ·have HW:Hid (b=false):=by
         show _=_
         rw [HB.out];refine decide_eq_false fun e => ?_;have h0:=HQ0.out;rw [e,HY.out] at h0;exact hxy (Option.some.inj h0).symm
        rw [decide_eq_false hxy] at hu;subst hu;clear hxy;have sB:=bb.size;go_upto_region 7 with (fail);refine zC9 5 [Pd.eq (.func (.func 79) #[] #[]),Pd.eq (.agg #[.bool (ngB (x).num),.slice Ae0 (digs 4294967296 (x).num.natAbs).length ce0,.slice De0 (digs 4294967296 (x).den).length ee0]),Pd.eq (.agg #[.bool (ngB (y).num),.slice Ay (digs 4294967296 (y).num.natAbs).length cy,.slice Dy (digs 4294967296 (y).den).length ey]),Pd.eq (.bool false),Pd.eq (.bool true)] (by kernel_rfl) ?ob15 ?done15
        case ob15 =>
         refine zA (zC2 rfl (zB7 rfl) (zB9 rfl rfl) (fun _ _ h=>h)) ?_;refine zA (zC rfl (zB7 rfl) (zB9 rfl rfl) (fun w2 hb=>zF7 underlying83 rfl (by kernel_rfl) (Be0.below hb)) (fun _ _=>rfl)) ?_;refine zA (zC rfl (zB7 rfl) (zB9 rfl rfl) (fun w2 hb=>zF7 underlying83 rfl (by kernel_rfl) (By.below hb)) (fun _ _=>rfl)) ?_;refine zA (qM1 rfl (zB8 (j:=0) (by kernel_rfl) rfl rfl) func79 (by kernel_rfl) (zB7 rfl) (zB8 (j:=1) (by kernel_rfl) rfl rfl) (zB8 (j:=2) (by kernel_rfl) rfl rfl) (fun w2 u0 u1 hb h0 h1=>by obtain rfl:=h0;obtain rfl:=h1;exact (yF8 _ _ x y false _ (ke0.below hb) (ky.below hb) HU.out).mono fun e w3 h=>zD5.pd h)) ?_;refine zA (zT6 rfl (zB7 rfl) (zB8 (j:=3) (by kernel_rfl) rfl rfl) (fun _=>zT7 _ _) (fun _=>rfl)) ?_
         trivial
        case done15 =>
         refine fun w9 hb9 v0 h0 v1 h1 v2 h2 v3 h3 v4 h4 b hbf => ?_;obtain rfl:=h0;obtain rfl:=h1;obtain rfl:=h2;obtain rfl:=h3;obtain rfl:=h4;simp only [Act.put,zA0,zA2,zA1] at hbf;subst hbf;replace Be0:=Be0.below hb9;replace ke0s:=ke0s.below hb9;replace ke0d:=ke0d.below hb9;replace ke0z:=ke0z.below hb9;replace ke0:=ke0.below hb9;replace By:=By.below hb9;replace kys:=kys.below hb9;replace kyd:=kyd.below hb9;replace kyz:=kyz.below hb9;replace ky:=ky.below hb9;replace bb:=bb.trans (hb9.mono bb.size);have hsz9:=bb.size;refine zD ?_;go_wp2;go_ret;exact ⟨by rw [HW.out];rfl,bb⟩
    ·have HW:Hid (b=true):=by
      show _=_
      rw [HB.out]
      have:=HA.out
      rw [zA7 (by omega),zA7 (by have:=HE.out;omega)] at this;exact decide_eq_true this
     go_wp2;go_ret;exact ⟨by rw [HW.out];rfl,bb⟩
 ·have HNE:Hid ((((p.length:Nat):Int) != ((q.length:Nat):Int))=true):=by show _=_;rw [bne_iff_ne];omega
  have HW:Hid (b=false):=by show _=_;rw [HB.out];exact decide_eq_false fun e=>he (by rw [e])
  clear he;have sB:=bb.size;refine zC9 5 [Pd.eq (.slice A0 p.length c0),Pd.eq (.int .i64 ((p.length:Nat):Int)),Pd.eq (.slice A1 q.length c1),Pd.eq (.int .i64 ((q.length:Nat):Int)),Pd.eq (.bool true)] (by kernel_rfl) ?ob10 ?done10
  case ob10 =>
   refine zA (zC2 rfl (zB7 rfl) (zB9 rfl rfl) (fun _ _ h=>h)) ?_;refine zA (zJ6 rfl (zB7 rfl) (zB8 (j:=0) (by kernel_rfl) rfl rfl) (fun _ _ hx=>⟨_,by rw [hx];exact zJ7 underlying44 _ _ _ _,rfl⟩)) ?_;refine zA (zC2 rfl (zB7 rfl) (zB9 rfl rfl) (fun _ _ h=>h)) ?_;refine zA (zJ6 rfl (zB7 rfl) (zB8 (j:=2) (by kernel_rfl) rfl rfl) (fun _ _ hx=>⟨_,by rw [hx];exact zJ7 underlying44 _ _ _ _,rfl⟩)) ?_;refine zA (zE8 rfl (zB7 rfl) (zB8 (j:=1) (by kernel_rfl) rfl rfl) (zB8 (j:=3) (by kernel_rfl) rfl rfl) (fun _ _ _ hx hy=>⟨.bool true,by rw [hx,hy,zY4,HNE.out],rfl⟩)) ?_
   trivial
  case done10 =>
   refine fun w2 hb2 v0 h0 v1 h1 v2 h2 v3 h3 v4 h4 b hbf => ?_;obtain rfl:=h0;obtain rfl:=h1;obtain rfl:=h2;obtain rfl:=h3;obtain rfl:=h4;simp only [Act.put,zA0,zA2,zA1] at hbf;subst hbf;replace bb:=bb.trans (hb2.mono bb.size);have hsz2:=bb.size;refine zD ?_;go_wp2;go_ret;exact ⟨by rw [HW.out];rfl,bb⟩
theorem yG8 (a0 a1:Value) (p q:List Rat) (b:Bool) (w:World) (h0:SlF .u64 4294967296 w a0 p) (h1:SlF .u64 4294967296 w a1 q) (hb:b=decide (p=q)) :
  Calls prog 39 #[a0,a1] w (zD5 (.bool b) w):=by
 have bb:Below w.heap.size w w:=Below.refl _ _;have sl0:=h0;obtain ⟨A0,c0,rfl,hc0,hm0⟩:=h0.shape;unfold maxLen at hm0;have sl1:=h1;obtain ⟨A1,c1,rfl,hc1,hm1⟩:=h1.shape;unfold maxLen at hm1;have HB:=hQ9 hb;clear hb
 go_enter func39,ntmps39
 go_upto_region 1 with (fail)
 have hsz0:=bb.size;have k0:=sl0.below bb;have k1:=sl1.below bb;have sB:=bb.size;refine zC9 4 [Pd.eq (.slice A0 p.length c0),Pd.eq (.slice A1 q.length c1),Pd.eq (.bool b),Pd.eq (.bool b)] (by kernel_rfl) ?ob16 ?done16
 case ob16 =>
  refine zA (zC2 rfl (zB7 rfl) (zB9 rfl rfl) (fun _ _ h=>h)) ?_;refine zA (zC2 rfl (zB7 rfl) (zB9 rfl rfl) (fun _ _ h=>h)) ?_;refine zA (yA9 rfl func78 (by kernel_rfl) (zB7 rfl) (zB8 (j:=0) (by kernel_rfl) rfl rfl) (zB8 (j:=1) (by kernel_rfl) rfl rfl) (yG6 _) (fun w2 u0 u1 u2 hb h0 h1 h2=>by obtain rfl:=h0;obtain rfl:=h1;obtain rfl:=h2;exact (eqf_any _ _ p q b _ (k0.below hb) (k1.below hb) HB.out).mono fun e w3 h=>zD5.pd h)) ?_;refine zA (zE6 rfl (zB7 rfl) (zB8 (j:=2) (by kernel_rfl) rfl rfl) (fun _ _ h=>h)) ?_
  trivial
 case done16 =>
  refine fun w1 hb1 v0 h0 v1 h1 v2 h2 v3 h3 b hbf => ?_;obtain rfl:=h0;obtain rfl:=h1;obtain rfl:=h2;obtain rfl:=h3;simp only [Act.put,zA0,zA2,zA1] at hbf;subst hbf;replace bb:=bb.trans (hb1.mono bb.size);have hsz1:=bb.size;refine zD ?_;go_wp2;go_ret;exact ⟨rfl,bb⟩
theorem yG9 (a0 a1:Value) (p q:List Rat) (t:Int) (w:World) (h0:SlF .u64 4294967296 w a0 p) (h1:SlF .i64 10000 w a1 q) (hl:∀ x∈q,zC6 x 30000) (ht:t=if p=q then 1 else 0) :
  Calls prog 45 #[a0,a1] w (zD5 (.int .i64 t) w):=by
 have bb:Below w.heap.size w w:=Below.refl _ _;have sl0:=h0;obtain ⟨A0,c0,rfl,hc0,hm0⟩:=h0.shape;unfold maxLen at hm0;have sl1:=h1;obtain ⟨A1,c1,rfl,hc1,hm1⟩:=h1.shape;unfold maxLen at hm1;have HL:=hQ9 hl;have HT:=hQ9 ht;clear hl ht
 go_enter func45,ntmps45
 go_upto_region 1 with (fail)
 have hsz0:=bb.size;by_cases he:p.length=q.length
 case neg =>
  have HW:Hid (t=0):=by show _=_;rw [HT.out,if_neg fun e=>he (by rw [e])]
  have heb:(((p.length:Nat):Int) == ((q.length:Nat):Int))=false:=by rw [beq_eq_false_iff_ne];omega
  go_wp2;go_ret;exact ⟨by rw [HW.out];rfl,bb⟩
 have heb:(((p.length:Nat):Int) == ((q.length:Nat):Int))=true:=by rw [beq_iff_eq];omega
 have HE:=hQ9 he;clear he;go_wp2
 go_loopw [5] (fun v5 wr => ∃ k:Nat,k<=p.length/\Hid (p.take k=q.take k)/\Below w.heap.size w wr/\v5=.int .i64 (k:Int)) (fun v5 _=>p.length-(intOf v5).toNat)
 case atStart=>exact ⟨0,by omega,rfl,bb,rfl⟩
 case round =>
  obtain ⟨k,hk,HA,hbw,rfl⟩:=hrel;clear bb heb;have bb:=hbw;clear hbw;have hszr:=bb.size;by_cases hlt:k<p.length
  ·have hlt2:k<q.length:=by have:=HE.out;omega
   obtain ⟨x,hq0_⟩:∃ x,p[k]?=some x:=⟨_,zA3 hlt⟩;obtain ⟨g0_,o0_,ue0,te0,hA0_,_,e00,e01,e02,es0,ed0⟩:=(sl0.below bb).at_ hq0_;subst hA0_;have HQ0:=hQ9 hq0_;clear hq0_;obtain ⟨Ae0,ce0,rfl,_⟩:=id es0;obtain ⟨De0,ee0,rfl,_⟩:=id ed0;have ke0:IsQ wr (.agg #[.bool (ngB x.num),.slice Ae0 (digs 4294967296 x.num.natAbs).length ce0,.slice De0 (digs 4294967296 x.den).length ee0]) x:=⟨_,_,rfl,es0,ed0⟩;obtain ⟨y,hq1_⟩:∃ y,q[k]?=some y:=⟨_,zA3 hlt2⟩;obtain ⟨g1_,o1_,ue1,te1,hA1_,_,e10,e11,e12,es1,ed1⟩:=(sl1.below bb).at_ hq1_;subst hA1_;have HQ1:=hQ9 hq1_;clear hq1_;obtain ⟨Ae1,ce1,rfl,_⟩:=id es1;obtain ⟨De1,ee1,rfl,_⟩:=id ed1;have ke1:IsP wr (.agg #[.bool (ngB y.num),.slice Ae1 (digs 10000 y.num.natAbs).length ce1,.slice De1 (digs 10000 y.den).length ee1]) y:=⟨_,_,rfl,es1,ed1⟩;have ly:zC6 y 30000:=HL.out y (zA5 HQ1.out);obtain ⟨u,hu⟩:∃ u,u=decide (x=y):=⟨_,rfl⟩;have HU:=hQ9 hu;by_cases hxy:x=y
   ·have HA2:Hid (p.take (k+1)=q.take (k+1)):=by show _=_;rw [zU3 HQ0.out,zU3 HQ1.out,HA.out,hxy]
    rw [decide_eq_true hxy] at hu;subst hu;clear hxy;have sB:=bb.size;go_upto_region 6 with (fail);refine flow 11 [Pd.eq (.slice (some ⟨g0_,o0_,none⟩) p.length c0),Pd.eq (.int .i64 (k:Int)),Pd.eq (.pointer (some ⟨g0_,o0_+k*3,none⟩)),Pd.eq (.agg #[.bool (ngB x.num),.slice Ae0 (digs 4294967296 x.num.natAbs).length ce0,.slice De0 (digs 4294967296 x.den).length ee0]),Pd.eq (.slice (some ⟨g1_,o1_,none⟩) q.length c1),Pd.eq (.int .i64 (k:Int)),Pd.eq (.pointer (some ⟨g1_,o1_+k*3,none⟩)),Pd.eq (.agg #[.bool (ngB y.num),.slice Ae1 (digs 10000 y.num.natAbs).length ce1,.slice De1 (digs 10000 y.den).length ee1]),pq (y) wr.heap.size,Pd.eq (.bool true),Pd.eq (.bool false)] (by kernel_rfl) (by kernel_rfl) ?ob1 ?done1
    case ob1 =>
     refine zA (zC2 rfl (zB7 rfl) (zB9 rfl rfl) (fun _ _ h=>h)) ?_;refine zA (zC2 rfl (zB7 rfl) (zB9 rfl rfl) (fun _ _ h=>h)) ?_;refine zA (zI0 rfl (zB7 rfl) (zB8 (j:=0) (by kernel_rfl) rfl rfl) (zB8 (j:=1) (by kernel_rfl) rfl rfl) (fun _ _ _ hx hy=>⟨_,by rw [hx,hy];exact zI9 underlying44 (by kernel_rfl) hlt _,rfl⟩)) ?_;refine zA (zC rfl (zB7 rfl) (zB8 (j:=2) (by kernel_rfl) rfl rfl) (fun w2 hb=>zO4 underlying83 rfl (by kernel_rfl) ((hb.cell (World.block_lt_of_cell? wr _ e00)).trans e00) ((hb.cell (World.block_lt_of_cell? wr _ e01)).trans e01) ((hb.cell (World.block_lt_of_cell? wr _ e02)).trans e02)) (fun _ _=>rfl)) ?_;refine zA (zC2 rfl (zB7 rfl) (zB9 rfl rfl) (fun _ _ h=>h)) ?_;refine zA (zC2 rfl (zB7 rfl) (zB9 rfl rfl) (fun _ _ h=>h)) ?_;refine zA (zI0 rfl (zB7 rfl) (zB8 (j:=4) (by kernel_rfl) rfl rfl) (zB8 (j:=5) (by kernel_rfl) rfl rfl) (fun _ _ _ hx hy=>⟨_,by rw [hx,hy];exact zI9 underlying45 (by kernel_rfl) hlt2 _,rfl⟩)) ?_;refine zA (zC rfl (zB7 rfl) (zB8 (j:=6) (by kernel_rfl) rfl rfl) (fun w2 hb=>zO4 underlying65 rfl (by kernel_rfl) ((hb.cell (World.block_lt_of_cell? wr _ e10)).trans e10) ((hb.cell (World.block_lt_of_cell? wr _ e11)).trans e11) ((hb.cell (World.block_lt_of_cell? wr _ e12)).trans e12)) (fun _ _=>rfl)) ?_;refine zA (zF6 rfl func88 (by kernel_rfl) (zB7 rfl) (zB8 (j:=7) (by kernel_rfl) rfl rfl) (fun w2 u0 hb h0=>by obtain rfl:=h0;exact (qK8 _ y _ (ke1.drew.below hb) ly).mono fun e w3 h=>RetQ.pd h hb.size)) ?_;refine zA (zD0 rfl func87 (by kernel_rfl) (zB7 rfl) (zB8 (j:=3) (by kernel_rfl) rfl rfl) (zB8 (j:=8) (by kernel_rfl) rfl rfl) (fun w2 u0 u1 hb h0 h1=>by obtain rfl:=h0;exact (yD4 _ _ x y true _ (ke0.drew.below hb) h1.1 HU.out).mono fun e w3 h=>zD5.pd h)) ?_;refine zA (zT6 rfl (zB7 rfl) (zB8 (j:=9) (by kernel_rfl) rfl rfl) (fun _=>zT7 _ _) (fun _=>rfl)) ?_
     trivial
    case done1 =>
     refine fun w2 hb2 v0 h0 v1 h1 v2 h2 v3 h3 v4 h4 v5 h5 v6 h6 v7 h7 v8 h8 v9 h9 v10 h10 b hbf => ?_;obtain rfl:=h0;obtain rfl:=h1;obtain rfl:=h2;obtain rfl:=h3;obtain rfl:=h4;obtain rfl:=h5;obtain rfl:=h6;obtain rfl:=h7;obtain rfl:=h9;obtain rfl:=h10;obtain ⟨q8,f8⟩:=h8;simp only [Act.put,zA0,zA2,zA1] at hbf;subst hbf;replace bb:=bb.trans (hb2.mono bb.size);have hsz2:=bb.size;have s_8:=sB;refine zF8 (by kernel_rfl) ?_;go_wp2;go_roundw;case rel=>exact ⟨k+1,by omega,HA2,bb,by go_num⟩
     case measure=>simp [intOf];omega
   ·have HW:Hid (t=0):=by
     show _=_
     rw [HT.out,if_neg];intro e;have h0:=HQ0.out;rw [e,HQ1.out] at h0;exact hxy (Option.some.inj h0).symm
    rw [decide_eq_false hxy] at hu;subst hu;clear hxy;have sB:=bb.size;go_upto_region 6 with (fail);refine flow 11 [Pd.eq (.slice (some ⟨g0_,o0_,none⟩) p.length c0),Pd.eq (.int .i64 (k:Int)),Pd.eq (.pointer (some ⟨g0_,o0_+k*3,none⟩)),Pd.eq (.agg #[.bool (ngB x.num),.slice Ae0 (digs 4294967296 x.num.natAbs).length ce0,.slice De0 (digs 4294967296 x.den).length ee0]),Pd.eq (.slice (some ⟨g1_,o1_,none⟩) q.length c1),Pd.eq (.int .i64 (k:Int)),Pd.eq (.pointer (some ⟨g1_,o1_+k*3,none⟩)),Pd.eq (.agg #[.bool (ngB y.num),.slice Ae1 (digs 10000 y.num.natAbs).length ce1,.slice De1 (digs 10000 y.den).length ee1]),pq (y) wr.heap.size,Pd.eq (.bool false),Pd.eq (.bool true)] (by kernel_rfl) (by kernel_rfl) ?ob2 ?done2
    case ob2 =>
     refine zA (zC2 rfl (zB7 rfl) (zB9 rfl rfl) (fun _ _ h=>h)) ?_;refine zA (zC2 rfl (zB7 rfl) (zB9 rfl rfl) (fun _ _ h=>h)) ?_;refine zA (zI0 rfl (zB7 rfl) (zB8 (j:=0) (by kernel_rfl) rfl rfl) (zB8 (j:=1) (by kernel_rfl) rfl rfl) (fun _ _ _ hx hy=>⟨_,by rw [hx,hy];exact zI9 underlying44 (by kernel_rfl) hlt _,rfl⟩)) ?_;refine zA (zC rfl (zB7 rfl) (zB8 (j:=2) (by kernel_rfl) rfl rfl) (fun w2 hb=>zO4 underlying83 rfl (by kernel_rfl) ((hb.cell (World.block_lt_of_cell? wr _ e00)).trans e00) ((hb.cell (World.block_lt_of_cell? wr _ e01)).trans e01) ((hb.cell (World.block_lt_of_cell? wr _ e02)).trans e02)) (fun _ _=>rfl)) ?_;refine zA (zC2 rfl (zB7 rfl) (zB9 rfl rfl) (fun _ _ h=>h)) ?_;refine zA (zC2 rfl (zB7 rfl) (zB9 rfl rfl) (fun _ _ h=>h)) ?_;refine zA (zI0 rfl (zB7 rfl) (zB8 (j:=4) (by kernel_rfl) rfl rfl) (zB8 (j:=5) (by kernel_rfl) rfl rfl) (fun _ _ _ hx hy=>⟨_,by rw [hx,hy];exact zI9 underlying45 (by kernel_rfl) hlt2 _,rfl⟩)) ?_;refine zA (zC rfl (zB7 rfl) (zB8 (j:=6) (by kernel_rfl) rfl rfl) (fun w2 hb=>zO4 underlying65 rfl (by kernel_rfl) ((hb.cell (World.block_lt_of_cell? wr _ e10)).trans e10) ((hb.cell (World.block_lt_of_cell? wr _ e11)).trans e11) ((hb.cell (World.block_lt_of_cell? wr _ e12)).trans e12)) (fun _ _=>rfl)) ?_;refine zA (zF6 rfl func88 (by kernel_rfl) (zB7 rfl) (zB8 (j:=7) (by kernel_rfl) rfl rfl) (fun w2 u0 hb h0=>by obtain rfl:=h0;exact (qK8 _ y _ (ke1.drew.below hb) ly).mono fun e w3 h=>RetQ.pd h hb.size)) ?_;refine zA (zD0 rfl func87 (by kernel_rfl) (zB7 rfl) (zB8 (j:=3) (by kernel_rfl) rfl rfl) (zB8 (j:=8) (by kernel_rfl) rfl rfl) (fun w2 u0 u1 hb h0 h1=>by obtain rfl:=h0;exact (yD4 _ _ x y false _ (ke0.drew.below hb) h1.1 HU.out).mono fun e w3 h=>zD5.pd h)) ?_;refine zA (zT6 rfl (zB7 rfl) (zB8 (j:=9) (by kernel_rfl) rfl rfl) (fun _=>zT7 _ _) (fun _=>rfl)) ?_
     trivial
    case done2 =>
     refine fun w2 hb2 v0 h0 v1 h1 v2 h2 v3 h3 v4 h4 v5 h5 v6 h6 v7 h7 v8 h8 v9 h9 v10 h10 b hbf => ?_;obtain rfl:=h0;obtain rfl:=h1;obtain rfl:=h2;obtain rfl:=h3;obtain rfl:=h4;obtain rfl:=h5;obtain rfl:=h6;obtain rfl:=h7;obtain rfl:=h9;obtain rfl:=h10;obtain ⟨q8,f8⟩:=h8;simp only [Act.put,zA0,zA2,zA1] at hbf;subst hbf;replace bb:=bb.trans (hb2.mono bb.size);have hsz2:=bb.size;have s_8:=sB;refine zF8 (by kernel_rfl) ?_;go_wp2;go_ret;exact ⟨by rw [HW.out];rfl,bb⟩
  ·have HW:Hid (t=1):=by
    show _=_
    rw [HT.out,if_pos]
    have:=HA.out
    rwa [zA7 (by omega),zA7 (by have:=HE.out;omega)] at this
   go_wp2;go_ret;exact ⟨by rw [HW.out];rfl,bb⟩
theorem qT4 {t:List (List Rat)} {r:List Rat} (h:t[0]?=some r):zD2 t=r.length:=by
  cases t with
  | nil=>simp at h
  | cons s t =>
    obtain rfl:s=r:=by simpa using h
    rfl
theorem qG7 (a0:Value) (t:List (List Rat)) (w:World) (h0:SlT .u64 4294967296 w a0 t) :
  Calls prog 29 #[a0] w (zD5 (.tuple #[.int .i64 ((t.length:Nat):Int),.int .i64 ((zD2 t:Nat):Int)]) w):=by
 have bb:Below w.heap.size w w:=Below.refl _ _;have st0:=h0;obtain ⟨A0,c0,rfl,hc0,hm0⟩:=h0.shape;unfold maxLen at hm0
 go_enter func29,ntmps29
 go_upto_region 1 with (fail)
 have hsz0:=bb.size;by_cases hn:t=[]
 ·subst hn;have HE:Hid ((((([]:List (List Rat)).length:Nat):Int) == 0)=true):=rfl;have sB:=bb.size;refine zC9 3 [Pd.eq (.slice A0 ([]:List (List Rat)).length c0),Pd.eq (.int .i64 ((([]:List (List Rat)).length:Nat):Int)),Pd.eq (.bool true)] (by kernel_rfl) ?ob1 ?done1
  case ob1 =>
   refine zA (zC2 rfl (zB7 rfl) (zB9 rfl rfl) (fun _ _ h=>h)) ?_;refine zA (zJ6 rfl (zB7 rfl) (zB8 (j:=0) (by kernel_rfl) rfl rfl) (fun _ _ hx=>⟨_,by rw [hx];exact zJ7 underlying22 _ _ _ _,rfl⟩)) ?_;refine zA (zE8 rfl (zB7 rfl) (zB8 (j:=1) (by kernel_rfl) rfl rfl) (zG2 _) (fun _ _ _ hx hy=>⟨.bool true,by rw [hx,hy,zN3,HE.out],rfl⟩)) ?_
   trivial
  case done1 =>
   refine fun w12 hb12 v0 h0 v1 h1 v2 h2 b hbf => ?_;obtain rfl:=h0;obtain rfl:=h1;obtain rfl:=h2;simp only [Act.put,zA0,zA2,zA1] at hbf;subst hbf;replace bb:=bb.trans (hb12.mono bb.size);have hsz12:=bb.size;refine zD ?_;go_wp2;go_ret2;exact ⟨rfl,bb⟩
 ·have hl0:0<t.length:=List.length_pos_iff.2 hn;obtain ⟨r,hr⟩:∃ r,t[0]?=some r:=⟨_,zA3 hl0⟩;have HE:Hid ((((t.length:Nat):Int) == 0)=false):=by show _=_;rw [beq_eq_false_iff_ne];omega
  have HW:Hid (r.length=zD2 t):=(qT4 hr).symm;obtain ⟨ad0,rfl⟩:=st0.place hn;obtain ⟨Arr,crr,hir,ewr,srr⟩:=st0.at2 hr;clear hr;have sB:=bb.size;refine zC9 3 [Pd.eq (.slice (some ad0) t.length c0),Pd.eq (.int .i64 ((t.length:Nat):Int)),Pd.eq (.bool false)] (by kernel_rfl) ?ob2 ?done2
  case ob2 =>
   refine zA (zC2 rfl (zB7 rfl) (zB9 rfl rfl) (fun _ _ h=>h)) ?_;refine zA (zJ6 rfl (zB7 rfl) (zB8 (j:=0) (by kernel_rfl) rfl rfl) (fun _ _ hx=>⟨_,by rw [hx];exact zJ7 underlying22 _ _ _ _,rfl⟩)) ?_;refine zA (zE8 rfl (zB7 rfl) (zB8 (j:=1) (by kernel_rfl) rfl rfl) (zG2 _) (fun _ _ _ hx hy=>⟨.bool false,by rw [hx,hy,zN3,HE.out],rfl⟩)) ?_
   trivial
  case done2 =>
   refine fun w12 hb12 v0 h0 v1 h1 v2 h2 b hbf => ?_;obtain rfl:=h0;obtain rfl:=h1;obtain rfl:=h2;simp only [Act.put,zA0,zA2,zA1] at hbf;subst hbf;replace bb:=bb.trans (hb12.mono bb.size);have hsz12:=bb.size;refine zD ?_;have ecr:=(bb.cell (World.block_lt_of_cell? w _ ewr)).trans ewr;have sB:=bb.size;go_upto_region 3 with (fail);refine flow 8 [Pd.eq (.slice (some ad0) t.length c0),Pd.eq (.int .i64 ((t.length:Nat):Int)),Pd.eq (.slice (some ad0) t.length c0),Pd.eq (.pointer (some (ad0.add 0))),Pd.eq (.slice Arr r.length crr),Pd.eq (.int .i64 ((r.length:Nat):Int)),Pd.eq (.int .i64 ((t.length:Nat):Int)),Pd.eq (.int .i64 ((r.length:Nat):Int))] (by kernel_rfl) (by kernel_rfl) ?ob3 ?done3
   case ob3 =>
    refine zA (zC2 rfl (zB7 rfl) (zB9 rfl rfl) (fun _ _ h=>h)) ?_;refine zA (zJ6 rfl (zB7 rfl) (zB8 (j:=0) (by kernel_rfl) rfl rfl) (fun _ _ hx=>⟨_,by rw [hx];exact zJ7 underlying22 _ _ _ _,rfl⟩)) ?_;refine zA (zC2 rfl (zB7 rfl) (zB9 rfl rfl) (fun _ _ h=>h)) ?_;refine zA (zI0 rfl (zB7 rfl) (zB8 (j:=2) (by kernel_rfl) rfl rfl) (zG2 _) (fun _ _ _ hx hy=>⟨_,by rw [hx,hy];exact zW0 (k:=0) underlying22 (by kernel_rfl) ad0 hir _,rfl⟩)) ?_;refine zA (zC rfl (zB7 rfl) (zB8 (j:=3) (by kernel_rfl) rfl rfl) (fun w2 hb=>zC3 underlying44 rfl ((hb.cell (World.block_lt_of_cell? w12 _ ecr)).trans ecr)) (fun _ _=>rfl)) ?_;refine zA (zJ6 rfl (zB7 rfl) (zB8 (j:=4) (by kernel_rfl) rfl rfl) (fun _ _ hx=>⟨_,by rw [hx];exact zJ7 underlying44 _ _ _ _,rfl⟩)) ?_;refine zA (zE6 rfl (zB7 rfl) (zB8 (j:=1) (by kernel_rfl) rfl rfl) (fun _ _ h=>h)) ?_;refine zA (zE6 rfl (zB7 rfl) (zB8 (j:=5) (by kernel_rfl) rfl rfl) (fun _ _ h=>h)) ?_
    trivial
   case done3 =>
    refine fun w13 hb13 v0 h0 v1 h1 v2 h2 v3 h3 v4 h4 v5 h5 v6 h6 v7 h7 b hbf => ?_;obtain rfl:=h0;obtain rfl:=h1;obtain rfl:=h2;obtain rfl:=h3;obtain rfl:=h4;obtain rfl:=h5;obtain rfl:=h6;obtain rfl:=h7;simp only [Act.put,zA0,zA2,zA1] at hbf;subst hbf;replace bb:=bb.trans (hb13.mono bb.size);have hsz13:=bb.size;refine zF8 (by kernel_rfl) ?_;go_wp2;go_ret2;exact ⟨by rw [HW.out];rfl,bb⟩
theorem qT5 (a0:Value) (t:List (List Rat)) (w:World) (h0:SlT .i64 10000 w a0 t) :
  Calls prog 12 #[a0] w (zD5 (.int .i64 ((zD2 t:Nat):Int)) w):=by
 have bb:Below w.heap.size w w:=Below.refl _ _;have st0:=h0;obtain ⟨A0,c0,rfl,hc0,hm0⟩:=h0.shape;unfold maxLen at hm0
 go_enter func12,ntmps12
 go_upto_region 1 with (fail)
 have hsz0:=bb.size;by_cases hn:t=[]
 ·subst hn;have HE:Hid ((((([]:List (List Rat)).length:Nat):Int) == 0)=true):=rfl;have sB:=bb.size;refine zC9 3 [Pd.eq (.slice A0 ([]:List (List Rat)).length c0),Pd.eq (.int .i64 ((([]:List (List Rat)).length:Nat):Int)),Pd.eq (.bool true)] (by kernel_rfl) ?ob4 ?done4
  case ob4 =>
   refine zA (zC2 rfl (zB7 rfl) (zB9 rfl rfl) (fun _ _ h=>h)) ?_;refine zA (zJ6 rfl (zB7 rfl) (zB8 (j:=0) (by kernel_rfl) rfl rfl) (fun _ _ hx=>⟨_,by rw [hx];exact zJ7 underlying23 _ _ _ _,rfl⟩)) ?_;refine zA (zE8 rfl (zB7 rfl) (zB8 (j:=1) (by kernel_rfl) rfl rfl) (zG2 _) (fun _ _ _ hx hy=>⟨.bool true,by rw [hx,hy,zN3,HE.out],rfl⟩)) ?_
   trivial
  case done4 =>
   refine fun w12 hb12 v0 h0 v1 h1 v2 h2 b hbf => ?_;obtain rfl:=h0;obtain rfl:=h1;obtain rfl:=h2;simp only [Act.put,zA0,zA2,zA1] at hbf;subst hbf;replace bb:=bb.trans (hb12.mono bb.size);have hsz12:=bb.size;refine zD ?_;go_wp2;go_ret;exact ⟨rfl,bb⟩
 ·have hl0:0<t.length:=List.length_pos_iff.2 hn;obtain ⟨r,hr⟩:∃ r,t[0]?=some r:=⟨_,zA3 hl0⟩;have HE:Hid ((((t.length:Nat):Int) == 0)=false):=by show _=_;rw [beq_eq_false_iff_ne];omega
  have HW:Hid (r.length=zD2 t):=(qT4 hr).symm;obtain ⟨ad0,rfl⟩:=st0.place hn;obtain ⟨Arr,crr,hir,ewr,srr⟩:=st0.at2 hr;clear hr;have sB:=bb.size;refine zC9 3 [Pd.eq (.slice (some ad0) t.length c0),Pd.eq (.int .i64 ((t.length:Nat):Int)),Pd.eq (.bool false)] (by kernel_rfl) ?ob5 ?done5
  case ob5 =>
   refine zA (zC2 rfl (zB7 rfl) (zB9 rfl rfl) (fun _ _ h=>h)) ?_;refine zA (zJ6 rfl (zB7 rfl) (zB8 (j:=0) (by kernel_rfl) rfl rfl) (fun _ _ hx=>⟨_,by rw [hx];exact zJ7 underlying23 _ _ _ _,rfl⟩)) ?_;refine zA (zE8 rfl (zB7 rfl) (zB8 (j:=1) (by kernel_rfl) rfl rfl) (zG2 _) (fun _ _ _ hx hy=>⟨.bool false,by rw [hx,hy,zN3,HE.out],rfl⟩)) ?_
   trivial
  case done5 =>
   refine fun w12 hb12 v0 h0 v1 h1 v2 h2 b hbf => ?_;obtain rfl:=h0;obtain rfl:=h1;obtain rfl:=h2;simp only [Act.put,zA0,zA2,zA1] at hbf;subst hbf;replace bb:=bb.trans (hb12.mono bb.size);have hsz12:=bb.size;refine zD ?_;have ecr:=(bb.cell (World.block_lt_of_cell? w _ ewr)).trans ewr;have sB:=bb.size;go_upto_region 3 with (fail);refine zC9 5 [Pd.eq (.slice (some ad0) t.length c0),Pd.eq (.pointer (some (ad0.add 0))),Pd.eq (.slice Arr r.length crr),Pd.eq (.int .i64 ((r.length:Nat):Int)),Pd.eq (.int .i64 ((r.length:Nat):Int))] (by kernel_rfl) ?ob6 ?done6
   case ob6 =>
    refine zA (zC2 rfl (zB7 rfl) (zB9 rfl rfl) (fun _ _ h=>h)) ?_;refine zA (zI0 rfl (zB7 rfl) (zB8 (j:=0) (by kernel_rfl) rfl rfl) (zG2 _) (fun _ _ _ hx hy=>⟨_,by rw [hx,hy];exact zW0 (k:=0) underlying23 (by kernel_rfl) ad0 hir _,rfl⟩)) ?_;refine zA (zC rfl (zB7 rfl) (zB8 (j:=1) (by kernel_rfl) rfl rfl) (fun w2 hb=>zC3 underlying45 rfl ((hb.cell (World.block_lt_of_cell? w12 _ ecr)).trans ecr)) (fun _ _=>rfl)) ?_;refine zA (zJ6 rfl (zB7 rfl) (zB8 (j:=2) (by kernel_rfl) rfl rfl) (fun _ _ hx=>⟨_,by rw [hx];exact zJ7 underlying45 _ _ _ _,rfl⟩)) ?_;refine zA (zE6 rfl (zB7 rfl) (zB8 (j:=3) (by kernel_rfl) rfl rfl) (fun _ _ h=>h)) ?_
    trivial
   case done6 =>
    refine fun w13 hb13 v0 h0 v1 h1 v2 h2 v3 h3 v4 h4 b hbf => ?_;obtain rfl:=h0;obtain rfl:=h1;obtain rfl:=h2;obtain rfl:=h3;obtain rfl:=h4;simp only [Act.put,zA0,zA2,zA1] at hbf;subst hbf;replace bb:=bb.trans (hb13.mono bb.size);have hsz13:=bb.size;refine zD ?_;go_wp2;go_ret;exact ⟨by rw [HW.out];rfl,bb⟩
theorem eqt_any (a0 a1:Value) (p q:List (List Rat)) (b:Bool) (w:World) (h0:SlT .u64 4294967296 w a0 p) (h1:SlT .u64 4294967296 w a1 q) (hb:b=decide (p=q)) :
  Calls prog 38 #[a0,a1,.func (.func 39) #[] #[]] w (zD5 (.bool b) w):=by
 have bb:Below w.heap.size w w:=Below.refl _ _;have st0:=h0;obtain ⟨A0,c0,rfl,hc0,hm0⟩:=h0.shape;unfold maxLen at hm0;have st1:=h1;obtain ⟨A1,c1,rfl,hc1,hm1⟩:=h1.shape;unfold maxLen at hm1;have HB:=hQ9 hb;clear hb
 go_enter func38,ntmps38
 go_upto_region 1 with (fail)
 have hsz0:=bb.size;by_cases he:p.length=q.length
 ·have HNE:Hid ((((p.length:Nat):Int) != ((q.length:Nat):Int))=false):=by show _=_;rw [bne_eq_false_iff_eq];omega
  have HE:=hQ9 he;clear he;have sB:=bb.size;refine zC9 5 [Pd.eq (.slice A0 p.length c0),Pd.eq (.int .i64 ((p.length:Nat):Int)),Pd.eq (.slice A1 q.length c1),Pd.eq (.int .i64 ((q.length:Nat):Int)),Pd.eq (.bool false)] (by kernel_rfl) ?ob15 ?done15
  case ob15 =>
   refine zA (zC2 rfl (zB7 rfl) (zB9 rfl rfl) (fun _ _ h=>h)) ?_;refine zA (zJ6 rfl (zB7 rfl) (zB8 (j:=0) (by kernel_rfl) rfl rfl) (fun _ _ hx=>⟨_,by rw [hx];exact zJ7 underlying22 _ _ _ _,rfl⟩)) ?_;refine zA (zC2 rfl (zB7 rfl) (zB9 rfl rfl) (fun _ _ h=>h)) ?_;refine zA (zJ6 rfl (zB7 rfl) (zB8 (j:=2) (by kernel_rfl) rfl rfl) (fun _ _ hx=>⟨_,by rw [hx];exact zJ7 underlying22 _ _ _ _,rfl⟩)) ?_;refine zA (zE8 rfl (zB7 rfl) (zB8 (j:=1) (by kernel_rfl) rfl rfl) (zB8 (j:=3) (by kernel_rfl) rfl rfl) (fun _ _ _ hx hy=>⟨.bool false,by rw [hx,hy,zY4,HNE.out],rfl⟩)) ?_
   trivial
  case done15 =>
   refine fun w12 hb12 v0 h0 v1 h1 v2 h2 v3 h3 v4 h4 b hbf => ?_;obtain rfl:=h0;obtain rfl:=h1;obtain rfl:=h2;obtain rfl:=h3;obtain rfl:=h4;simp only [Act.put,zA0,zA2,zA1] at hbf;subst hbf;replace bb:=bb.trans (hb12.mono bb.size);have hsz12:=bb.size;refine zD ?_;go_wp2
   go_loopw [17] (fun v17 wr => ∃ k:Nat,k<=p.length/\Hid (p.take k=q.take k)/\Below w.heap.size w wr/\v17=.int .i64 (k:Int)) (fun v17 _=>p.length-(intOf v17).toNat)
   case atStart=>exact ⟨0,by omega,rfl,bb,rfl⟩
   case round =>
    obtain ⟨k,hk,HA,hbw,rfl⟩:=hrel;clear bb;have bb:=hbw;clear hbw;have hszr:=bb.size;by_cases hlt:k<p.length
    ·have hlt2:k<q.length:=by have:=HE.out;omega
     have hnp:p≠[]:=List.length_pos_iff.1 (by omega);have hnq:q≠[]:=List.length_pos_iff.1 (by omega);obtain ⟨x,hx⟩:∃ x,p[k]?=some x:=⟨_,zA3 hlt⟩;obtain ⟨y,hy⟩:∃ y,q[k]?=some y:=⟨_,zA3 hlt2⟩;have HX:=hQ9 hx;have HY:=hQ9 hy;obtain ⟨ad0,rfl⟩:=st0.place hnp;obtain ⟨ad1,rfl⟩:=st1.place hnq;obtain ⟨Arx,crx,hix,ewx,srx⟩:=st0.at2 hx;obtain ⟨Ary,cry,hiy,ewy,sry⟩:=st1.at2 hy;clear hx hy;have ecx:=(bb.cell (World.block_lt_of_cell? w _ ewx)).trans ewx;have ecy:=(bb.cell (World.block_lt_of_cell? w _ ewy)).trans ewy;have sB:=bb.size;go_upto_region 5 with (fail);refine zC9 5 [Pd.eq (.int .i64 (k:Int)),Pd.eq (.pointer (some (ad0.add k))),Pd.eq (.slice Arx x.length crx),Pd.eq (.int .i64 (k:Int)),Pd.eq (.slice Arx x.length crx)] (by kernel_rfl) ?ob16 ?done16
     case ob16 =>
      refine zA (zC2 rfl (zB7 rfl) (zB9 rfl rfl) (fun _ _ h=>h)) ?_;refine zA (zI0 rfl (zB7 rfl) (zB9 rfl rfl) (zB9 rfl rfl) (fun _ _ _ hx hy=>⟨_,by rw [hx,hy];exact zW0 (k:=k) underlying22 (by kernel_rfl) ad0 hlt _,rfl⟩)) ?_;refine zA (zC rfl (zB7 rfl) (zB8 (j:=1) (by kernel_rfl) rfl rfl) (fun w2 hb=>zC3 underlying44 rfl ((hb.cell (World.block_lt_of_cell? wr _ ecx)).trans ecx)) (fun _ _=>rfl)) ?_;refine zA (zE6 rfl (zB7 rfl) (zB8 (j:=0) (by kernel_rfl) rfl rfl) (fun _ _ h=>h)) ?_;refine zA (zE6 rfl (zB7 rfl) (zB8 (j:=2) (by kernel_rfl) rfl rfl) (fun _ _ h=>h)) ?_
      trivial
     case done16 =>
      refine fun w14 hb14 v0 h0 v1 h1 v2 h2 v3 h3 v4 h4 b hbf => ?_;obtain rfl:=h0;obtain rfl:=h1;obtain rfl:=h2;obtain rfl:=h3;obtain rfl:=h4;simp only [Act.put,zA0,zA2,zA1] at hbf;subst hbf;replace bb:=bb.trans (hb14.mono bb.size);have hsz14:=bb.size;refine zD ?_;clear ecx ecy;have ecy:=(bb.cell (World.block_lt_of_cell? w _ ewy)).trans ewy;have sB:=bb.size;go_upto_region 6 with (fail);refine zC9 5 [Pd.eq (.slice (some ad1) q.length c1),Pd.eq (.int .i64 (k:Int)),Pd.eq (.pointer (some (ad1.add k))),Pd.eq (.slice Ary y.length cry),Pd.eq (.slice Ary y.length cry)] (by kernel_rfl) ?ob17 ?done17
      case ob17 =>
       refine zA (zC2 rfl (zB7 rfl) (zB9 rfl rfl) (fun _ _ h=>h)) ?_;refine zA (zC2 rfl (zB7 rfl) (zB9 rfl rfl) (fun _ _ h=>h)) ?_;refine zA (zI0 rfl (zB7 rfl) (zB8 (j:=0) (by kernel_rfl) rfl rfl) (zB8 (j:=1) (by kernel_rfl) rfl rfl) (fun _ _ _ hx hy=>⟨_,by rw [hx,hy];exact zW0 (k:=k) underlying22 (by kernel_rfl) ad1 hlt2 _,rfl⟩)) ?_;refine zA (zC rfl (zB7 rfl) (zB8 (j:=2) (by kernel_rfl) rfl rfl) (fun w2 hb=>zC3 underlying44 rfl ((hb.cell (World.block_lt_of_cell? w14 _ ecy)).trans ecy)) (fun _ _=>rfl)) ?_;refine zA (zE6 rfl (zB7 rfl) (zB8 (j:=3) (by kernel_rfl) rfl rfl) (fun _ _ h=>h)) ?_
       trivial
      case done17 =>
       refine fun w15 hb15 v0 h0 v1 h1 v2 h2 v3 h3 v4 h4 b hbf => ?_;obtain rfl:=h0;obtain rfl:=h1;obtain rfl:=h2;obtain rfl:=h3;obtain rfl:=h4;simp only [Act.put,zA0,zA2,zA1] at hbf;subst hbf;replace bb:=bb.trans (hb15.mono bb.size);have hsz15:=bb.size;refine zD ?_;obtain ⟨u,hu⟩:∃ u,u=decide (x=y):=⟨_,rfl⟩;have HU:=hQ9 hu;by_cases hxy:x=y
       ·have HA2:Hid (p.take (k+1)=q.take (k+1)):=by show _=_;rw [List.take_add_one,List.take_add_one,HX.out,HY.out,HA.out,hxy]
        rw [decide_eq_true hxy] at hu;subst hu;clear hxy;have sB:=bb.size;go_upto_region 7 with (fail);refine zC9 5 [Pd.eq (.func (.func 39) #[] #[]),Pd.eq (.slice Arx x.length crx),Pd.eq (.slice Ary y.length cry),Pd.eq (.bool true),Pd.eq (.bool false)] (by kernel_rfl) ?ob18 ?done18
        case ob18 =>
         refine zA (zC2 rfl (zB7 rfl) (zB9 rfl rfl) (fun _ _ h=>h)) ?_;refine zA (zC2 rfl (zB7 rfl) (zB9 rfl rfl) (fun _ _ h=>h)) ?_;refine zA (zC2 rfl (zB7 rfl) (zB9 rfl rfl) (fun _ _ h=>h)) ?_;refine zA (qM1 rfl (zB8 (j:=0) (by kernel_rfl) rfl rfl) func39 (by kernel_rfl) (zB7 rfl) (zB8 (j:=1) (by kernel_rfl) rfl rfl) (zB8 (j:=2) (by kernel_rfl) rfl rfl) (fun w2 u0 u1 hb h0 h1=>by obtain rfl:=h0;obtain rfl:=h1;exact (yG8 _ _ x y true _ ((srx.below bb).below hb) ((sry.below bb).below hb) HU.out).mono fun e w3 h=>zD5.pd h)) ?_;refine zA (zT6 rfl (zB7 rfl) (zB8 (j:=3) (by kernel_rfl) rfl rfl) (fun _=>zT7 _ _) (fun _=>rfl)) ?_
         trivial
        case done18 =>
         refine fun w17 hb17 v0 h0 v1 h1 v2 h2 v3 h3 v4 h4 b hbf => ?_;obtain rfl:=h0;obtain rfl:=h1;obtain rfl:=h2;obtain rfl:=h3;obtain rfl:=h4;simp only [Act.put,zA0,zA2,zA1] at hbf;subst hbf;replace bb:=bb.trans (hb17.mono bb.size);have hsz17:=bb.size;refine zD ?_;have hsk:p.length-(k+1)<p.length-k:=by omega
         go_wp2;go_roundw;case rel=>exact ⟨k+1,by omega,HA2,bb,by go_num⟩
         case measure=>simp [intOf];omega
       ·have HW:Hid (b=false):=by
         show _=_
         rw [HB.out];refine decide_eq_false fun e => ?_;have h0:=HX.out;rw [e,HY.out] at h0;exact hxy (Option.some.inj h0).symm
        rw [decide_eq_false hxy] at hu;subst hu;clear hxy;have sB:=bb.size;go_upto_region 7 with (fail);refine zC9 5 [Pd.eq (.func (.func 39) #[] #[]),Pd.eq (.slice Arx x.length crx),Pd.eq (.slice Ary y.length cry),Pd.eq (.bool false),Pd.eq (.bool true)] (by kernel_rfl) ?ob19 ?done19
        case ob19 =>
         refine zA (zC2 rfl (zB7 rfl) (zB9 rfl rfl) (fun _ _ h=>h)) ?_;refine zA (zC2 rfl (zB7 rfl) (zB9 rfl rfl) (fun _ _ h=>h)) ?_;refine zA (zC2 rfl (zB7 rfl) (zB9 rfl rfl) (fun _ _ h=>h)) ?_;refine zA (qM1 rfl (zB8 (j:=0) (by kernel_rfl) rfl rfl) func39 (by kernel_rfl) (zB7 rfl) (zB8 (j:=1) (by kernel_rfl) rfl rfl) (zB8 (j:=2) (by kernel_rfl) rfl rfl) (fun w2 u0 u1 hb h0 h1=>by obtain rfl:=h0;obtain rfl:=h1;exact (yG8 _ _ x y false _ ((srx.below bb).below hb) ((sry.below bb).below hb) HU.out).mono fun e w3 h=>zD5.pd h)) ?_;refine zA (zT6 rfl (zB7 rfl) (zB8 (j:=3) (by kernel_rfl) rfl rfl) (fun _=>zT7 _ _) (fun _=>rfl)) ?_
         trivial
        case done19 =>
         refine fun w17 hb17 v0 h0 v1 h1 v2 h2 v3 h3 v4 h4 b hbf => ?_;obtain rfl:=h0;obtain rfl:=h1;obtain rfl:=h2;obtain rfl:=h3;obtain rfl:=h4;simp only [Act.put,zA0,zA2,zA1] at hbf;subst hbf;replace bb:=bb.trans (hb17.mono bb.size);have hsz17:=bb.size;refine zD ?_;go_wp2;go_ret;exact ⟨by rw [HW.out];rfl,bb⟩
    ·have HW:Hid (b=true):=by
      show _=_
      rw [HB.out]
      have:=HA.out
      rw [zA7 (by omega),zA7 (by have:=HE.out;omega)] at this;exact decide_eq_true this
     go_wp2;go_ret;exact ⟨by rw [HW.out];rfl,bb⟩
 ·have HNE:Hid ((((p.length:Nat):Int) != ((q.length:Nat):Int))=true):=by show _=_;rw [bne_iff_ne];omega
  have HW:Hid (b=false):=by show _=_;rw [HB.out];exact decide_eq_false fun e=>he (by rw [e])
  clear he;have sB:=bb.size;refine zC9 5 [Pd.eq (.slice A0 p.length c0),Pd.eq (.int .i64 ((p.length:Nat):Int)),Pd.eq (.slice A1 q.length c1),Pd.eq (.int .i64 ((q.length:Nat):Int)),Pd.eq (.bool true)] (by kernel_rfl) ?ob14 ?done14
  case ob14 =>
   refine zA (zC2 rfl (zB7 rfl) (zB9 rfl rfl) (fun _ _ h=>h)) ?_;refine zA (zJ6 rfl (zB7 rfl) (zB8 (j:=0) (by kernel_rfl) rfl rfl) (fun _ _ hx=>⟨_,by rw [hx];exact zJ7 underlying22 _ _ _ _,rfl⟩)) ?_;refine zA (zC2 rfl (zB7 rfl) (zB9 rfl rfl) (fun _ _ h=>h)) ?_;refine zA (zJ6 rfl (zB7 rfl) (zB8 (j:=2) (by kernel_rfl) rfl rfl) (fun _ _ hx=>⟨_,by rw [hx];exact zJ7 underlying22 _ _ _ _,rfl⟩)) ?_;refine zA (zE8 rfl (zB7 rfl) (zB8 (j:=1) (by kernel_rfl) rfl rfl) (zB8 (j:=3) (by kernel_rfl) rfl rfl) (fun _ _ _ hx hy=>⟨.bool true,by rw [hx,hy,zY4,HNE.out],rfl⟩)) ?_
   trivial
  case done14 =>
   refine fun w12 hb12 v0 h0 v1 h1 v2 h2 v3 h3 v4 h4 b hbf => ?_;obtain rfl:=h0;obtain rfl:=h1;obtain rfl:=h2;obtain rfl:=h3;obtain rfl:=h4;simp only [Act.put,zA0,zA2,zA1] at hbf;subst hbf;replace bb:=bb.trans (hb12.mono bb.size);have hsz12:=bb.size;refine zD ?_;go_wp2;go_ret;exact ⟨by rw [HW.out];rfl,bb⟩
theorem qM3 (a0 a1:Value) (p q:List (List Rat)) (b:Bool) (w:World) (h0:SlT .u64 4294967296 w a0 p) (h1:SlT .u64 4294967296 w a1 q) (hb:b=decide (p=q)) :
  Calls prog 10 #[a0,a1] w (zD5 (.bool b) w):=by
 have bb:Below w.heap.size w w:=Below.refl _ _;have st0:=h0;obtain ⟨A0,c0,rfl,hc0,hm0⟩:=h0.shape;unfold maxLen at hm0;have st1:=h1;obtain ⟨A1,c1,rfl,hc1,hm1⟩:=h1.shape;unfold maxLen at hm1;have HB:=hQ9 hb;clear hb
 go_enter func10,ntmps10
 go_upto_region 1 with (fail)
 have hsz0:=bb.size;have sB:=bb.size;refine zC9 4 [Pd.eq (.slice A0 p.length c0),Pd.eq (.slice A1 q.length c1),Pd.eq (.bool b),Pd.eq (.bool b)] (by kernel_rfl) ?ob20 ?done20
 case ob20 =>
  refine zA (zC2 rfl (zB7 rfl) (zB9 rfl rfl) (fun _ _ h=>h)) ?_;refine zA (zC2 rfl (zB7 rfl) (zB9 rfl rfl) (fun _ _ h=>h)) ?_;refine zA (yA9 rfl func38 (by kernel_rfl) (zB7 rfl) (zB8 (j:=0) (by kernel_rfl) rfl rfl) (zB8 (j:=1) (by kernel_rfl) rfl rfl) (yG6 _) (fun w2 u0 u1 u2 hb h0 h1 h2=>by obtain rfl:=h0;obtain rfl:=h1;obtain rfl:=h2;exact (eqt_any _ _ p q b _ ((st0.below bb).below hb) ((st1.below bb).below hb) HB.out).mono fun e w3 h=>zD5.pd h)) ?_;refine zA (zE6 rfl (zB7 rfl) (zB8 (j:=2) (by kernel_rfl) rfl rfl) (fun _ _ h=>h)) ?_
  trivial
 case done20 =>
  refine fun w11 hb11 v0 h0 v1 h1 v2 h2 v3 h3 b hbf => ?_;obtain rfl:=h0;obtain rfl:=h1;obtain rfl:=h2;obtain rfl:=h3;simp only [Act.put,zA0,zA2,zA1] at hbf;subst hbf;replace bb:=bb.trans (hb11.mono bb.size);have hsz11:=bb.size;refine zD ?_;go_wp2;go_ret;exact ⟨rfl,bb⟩
theorem ist_any (a0 a1:Value) (p q:List (List Rat)) (b:Int) (w:World) (h0:SlT .u64 4294967296 w a0 p) (h1:SlT .i64 10000 w a1 q) (hl:zH6 q 30000) (hb:b=if p=q then 1 else 0) :
  Calls prog 15 #[a0,a1] w (zD5 (.int .i64 b) w):=by
 have bb:Below w.heap.size w w:=Below.refl _ _;have st0:=h0;obtain ⟨A0,c0,rfl,hc0,hm0⟩:=h0.shape;unfold maxLen at hm0;have st1:=h1;obtain ⟨A1,c1,rfl,hc1,hm1⟩:=h1.shape;unfold maxLen at hm1;have HB:=hQ9 hb;have HLQ:=hQ9 hl;clear hb hl
 go_enter func15,ntmps15
 go_upto_region 1 with (fail)
 have hsz0:=bb.size;by_cases he:p.length=q.length
 ·have HNE:Hid ((((p.length:Nat):Int) != ((q.length:Nat):Int))=false):=by show _=_;rw [bne_eq_false_iff_eq];omega
  have HE:=hQ9 he;clear he;have sB:=bb.size;refine zC9 5 [Pd.eq (.slice A0 p.length c0),Pd.eq (.int .i64 ((p.length:Nat):Int)),Pd.eq (.slice A1 q.length c1),Pd.eq (.int .i64 ((q.length:Nat):Int)),Pd.eq (.bool false)] (by kernel_rfl) ?ob22 ?done22
  case ob22 =>
   refine zA (zC2 rfl (zB7 rfl) (zB9 rfl rfl) (fun _ _ h=>h)) ?_;refine zA (zJ6 rfl (zB7 rfl) (zB8 (j:=0) (by kernel_rfl) rfl rfl) (fun _ _ hx=>⟨_,by rw [hx];exact zJ7 underlying22 _ _ _ _,rfl⟩)) ?_;refine zA (zC2 rfl (zB7 rfl) (zB9 rfl rfl) (fun _ _ h=>h)) ?_;refine zA (zJ6 rfl (zB7 rfl) (zB8 (j:=2) (by kernel_rfl) rfl rfl) (fun _ _ hx=>⟨_,by rw [hx];exact zJ7 underlying23 _ _ _ _,rfl⟩)) ?_;refine zA (zE8 rfl (zB7 rfl) (zB8 (j:=1) (by kernel_rfl) rfl rfl) (zB8 (j:=3) (by kernel_rfl) rfl rfl) (fun _ _ _ hx hy=>⟨.bool false,by rw [hx,hy,zY4,HNE.out],rfl⟩)) ?_
   trivial
  case done22 =>
   refine fun w12 hb12 v0 h0 v1 h1 v2 h2 v3 h3 v4 h4 b hbf => ?_;obtain rfl:=h0;obtain rfl:=h1;obtain rfl:=h2;obtain rfl:=h3;obtain rfl:=h4;simp only [Act.put,zA0,zA2,zA1] at hbf;subst hbf;replace bb:=bb.trans (hb12.mono bb.size);have hsz12:=bb.size;refine zD ?_;go_wp2
   go_loopw [5] (fun v5 wr => ∃ k:Nat,k<=p.length/\Hid (p.take k=q.take k)/\Below w.heap.size w wr/\v5=.int .i64 (k:Int)) (fun v5 _=>p.length-(intOf v5).toNat)
   case atStart=>exact ⟨0,by omega,rfl,bb,rfl⟩
   case round =>
    obtain ⟨k,hk,HA,hbw,rfl⟩:=hrel;clear bb;have bb:=hbw;clear hbw;have hszr:=bb.size;by_cases hlt:k<p.length
    ·have hlt2:k<q.length:=by have:=HE.out;omega
     have hnp:p≠[]:=List.length_pos_iff.1 (by omega);have hnq:q≠[]:=List.length_pos_iff.1 (by omega);obtain ⟨x,hx⟩:∃ x,p[k]?=some x:=⟨_,zA3 hlt⟩;obtain ⟨y,hy⟩:∃ y,q[k]?=some y:=⟨_,zA3 hlt2⟩;have HX:=hQ9 hx;have HY:=hQ9 hy;obtain ⟨ad0,rfl⟩:=st0.place hnp;obtain ⟨ad1,rfl⟩:=st1.place hnq;obtain ⟨Arx,crx,hix,ewx,srx⟩:=st0.at2 hx;obtain ⟨Ary,cry,hiy,ewy,sry⟩:=st1.at2 hy;clear hx hy;have ecx:=(bb.cell (World.block_lt_of_cell? w _ ewx)).trans ewx;have ecy:=(bb.cell (World.block_lt_of_cell? w _ ewy)).trans ewy;have lq:∀ z∈y,zC6 z 30000:=HLQ.out y (zA5 HY.out);obtain ⟨u,hu⟩:∃ u:Int,u=if x=y then 1 else 0:=⟨_,rfl⟩
     have HU:=hQ9 hu;by_cases hxy:x=y
     ·have HA2:Hid (p.take (k+1)=q.take (k+1)):=by show _=_;rw [List.take_add_one,List.take_add_one,HX.out,HY.out,HA.out,hxy]
      rw [if_pos hxy] at hu;subst hu;clear hxy;have sB:=bb.size;go_upto_region 6 with (fail);refine flow 10 [Pd.eq (.slice (some ad0) p.length c0),Pd.eq (.int .i64 (k:Int)),Pd.eq (.pointer (some (ad0.add k))),Pd.eq (.slice Arx x.length crx),Pd.eq (.slice (some ad1) q.length c1),Pd.eq (.int .i64 (k:Int)),Pd.eq (.pointer (some (ad1.add k))),Pd.eq (.slice Ary y.length cry),Pd.eq (.int .i64 1),Pd.eq (.bool false)] (by kernel_rfl) (by kernel_rfl) ?ob23 ?done23
      case ob23 =>
       refine zA (zC2 rfl (zB7 rfl) (zB9 rfl rfl) (fun _ _ h=>h)) ?_;refine zA (zC2 rfl (zB7 rfl) (zB9 rfl rfl) (fun _ _ h=>h)) ?_;refine zA (zI0 rfl (zB7 rfl) (zB8 (j:=0) (by kernel_rfl) rfl rfl) (zB8 (j:=1) (by kernel_rfl) rfl rfl) (fun _ _ _ hx hy=>⟨_,by rw [hx,hy];exact zW0 (k:=k) underlying22 (by kernel_rfl) ad0 hlt _,rfl⟩)) ?_;refine zA (zC rfl (zB7 rfl) (zB8 (j:=2) (by kernel_rfl) rfl rfl) (fun w2 hb=>zC3 underlying44 rfl ((hb.cell (World.block_lt_of_cell? wr _ ecx)).trans ecx)) (fun _ _=>rfl)) ?_;refine zA (zC2 rfl (zB7 rfl) (zB9 rfl rfl) (fun _ _ h=>h)) ?_;refine zA (zC2 rfl (zB7 rfl) (zB9 rfl rfl) (fun _ _ h=>h)) ?_;refine zA (zI0 rfl (zB7 rfl) (zB8 (j:=4) (by kernel_rfl) rfl rfl) (zB8 (j:=5) (by kernel_rfl) rfl rfl) (fun _ _ _ hx hy=>⟨_,by rw [hx,hy];exact zW0 (k:=k) underlying23 (by kernel_rfl) ad1 hlt2 _,rfl⟩)) ?_;refine zA (zC rfl (zB7 rfl) (zB8 (j:=6) (by kernel_rfl) rfl rfl) (fun w2 hb=>zC3 underlying45 rfl ((hb.cell (World.block_lt_of_cell? wr _ ecy)).trans ecy)) (fun _ _=>rfl)) ?_;refine zA (zD0 rfl func45 (by kernel_rfl) (zB7 rfl) (zB8 (j:=3) (by kernel_rfl) rfl rfl) (zB8 (j:=7) (by kernel_rfl) rfl rfl) (fun w2 u0 u1 hb h0 h1=>by obtain rfl:=h0;obtain rfl:=h1;exact (yG9 _ _ x y 1 _ ((srx.below bb).drew.below hb) ((sry.below bb).drew.below hb) lq HU.out).mono fun e w3 h=>zD5.pd h)) ?_;refine zA (zE8 rfl (zB7 rfl) (zB8 (j:=8) (by kernel_rfl) rfl rfl) (zG2 _) (fun _ _ _ hx hy=>⟨.bool ((1:Int) == 0),by rw [hx,hy];exact zN3 _ _ _ _ _,congrArg Value.bool (by decide)⟩)) ?_
       trivial
      case done23 =>
       refine fun w15 hb15 v0 h0 v1 h1 v2 h2 v3 h3 v4 h4 v5 h5 v6 h6 v7 h7 v8 h8 v9 h9 b hbf => ?_;obtain rfl:=h0;obtain rfl:=h1;obtain rfl:=h2;obtain rfl:=h3;obtain rfl:=h4;obtain rfl:=h5;obtain rfl:=h6;obtain rfl:=h7;obtain rfl:=h8;obtain rfl:=h9;simp only [Act.put,zA0,zA2,zA1] at hbf;subst hbf;replace bb:=bb.trans (hb15.mono bb.size);have hsz15:=bb.size;refine zF8 (by kernel_rfl) ?_;have hsk:p.length-(k+1)<p.length-k:=by omega
       go_wp2;go_roundw;case rel=>exact ⟨k+1,by omega,HA2,bb,by go_num⟩
       case measure=>simp [intOf];omega
     ·have HW:Hid (b=0):=by
       show _=_
       rw [HB.out];refine if_neg fun e => ?_;have h0:=HX.out;rw [e,HY.out] at h0;exact hxy (Option.some.inj h0).symm
      rw [if_neg hxy] at hu;subst hu;clear hxy;have sB:=bb.size;go_upto_region 6 with (fail);refine flow 10 [Pd.eq (.slice (some ad0) p.length c0),Pd.eq (.int .i64 (k:Int)),Pd.eq (.pointer (some (ad0.add k))),Pd.eq (.slice Arx x.length crx),Pd.eq (.slice (some ad1) q.length c1),Pd.eq (.int .i64 (k:Int)),Pd.eq (.pointer (some (ad1.add k))),Pd.eq (.slice Ary y.length cry),Pd.eq (.int .i64 0),Pd.eq (.bool true)] (by kernel_rfl) (by kernel_rfl) ?ob24 ?done24
      case ob24 =>
       refine zA (zC2 rfl (zB7 rfl) (zB9 rfl rfl) (fun _ _ h=>h)) ?_;refine zA (zC2 rfl (zB7 rfl) (zB9 rfl rfl) (fun _ _ h=>h)) ?_;refine zA (zI0 rfl (zB7 rfl) (zB8 (j:=0) (by kernel_rfl) rfl rfl) (zB8 (j:=1) (by kernel_rfl) rfl rfl) (fun _ _ _ hx hy=>⟨_,by rw [hx,hy];exact zW0 (k:=k) underlying22 (by kernel_rfl) ad0 hlt _,rfl⟩)) ?_;refine zA (zC rfl (zB7 rfl) (zB8 (j:=2) (by kernel_rfl) rfl rfl) (fun w2 hb=>zC3 underlying44 rfl ((hb.cell (World.block_lt_of_cell? wr _ ecx)).trans ecx)) (fun _ _=>rfl)) ?_;refine zA (zC2 rfl (zB7 rfl) (zB9 rfl rfl) (fun _ _ h=>h)) ?_;refine zA (zC2 rfl (zB7 rfl) (zB9 rfl rfl) (fun _ _ h=>h)) ?_;refine zA (zI0 rfl (zB7 rfl) (zB8 (j:=4) (by kernel_rfl) rfl rfl) (zB8 (j:=5) (by kernel_rfl) rfl rfl) (fun _ _ _ hx hy=>⟨_,by rw [hx,hy];exact zW0 (k:=k) underlying23 (by kernel_rfl) ad1 hlt2 _,rfl⟩)) ?_;refine zA (zC rfl (zB7 rfl) (zB8 (j:=6) (by kernel_rfl) rfl rfl) (fun w2 hb=>zC3 underlying45 rfl ((hb.cell (World.block_lt_of_cell? wr _ ecy)).trans ecy)) (fun _ _=>rfl)) ?_;refine zA (zD0 rfl func45 (by kernel_rfl) (zB7 rfl) (zB8 (j:=3) (by kernel_rfl) rfl rfl) (zB8 (j:=7) (by kernel_rfl) rfl rfl) (fun w2 u0 u1 hb h0 h1=>by obtain rfl:=h0;obtain rfl:=h1;exact (yG9 _ _ x y 0 _ ((srx.below bb).drew.below hb) ((sry.below bb).drew.below hb) lq HU.out).mono fun e w3 h=>zD5.pd h)) ?_;refine zA (zE8 rfl (zB7 rfl) (zB8 (j:=8) (by kernel_rfl) rfl rfl) (zG2 _) (fun _ _ _ hx hy=>⟨.bool ((0:Int) == 0),by rw [hx,hy];exact zN3 _ _ _ _ _,congrArg Value.bool (by decide)⟩)) ?_
       trivial
      case done24 =>
       refine fun w15 hb15 v0 h0 v1 h1 v2 h2 v3 h3 v4 h4 v5 h5 v6 h6 v7 h7 v8 h8 v9 h9 b hbf => ?_;obtain rfl:=h0;obtain rfl:=h1;obtain rfl:=h2;obtain rfl:=h3;obtain rfl:=h4;obtain rfl:=h5;obtain rfl:=h6;obtain rfl:=h7;obtain rfl:=h8;obtain rfl:=h9;simp only [Act.put,zA0,zA2,zA1] at hbf;subst hbf;replace bb:=bb.trans (hb15.mono bb.size);have hsz15:=bb.size;refine zF8 (by kernel_rfl) ?_;go_wp2;go_ret;exact ⟨by rw [HW.out];rfl,bb⟩
    ·have HW:Hid (b=1):=by
      show _=_
      rw [HB.out]
      have:=HA.out
      rw [zA7 (by omega),zA7 (by have:=HE.out;omega)] at this;exact if_pos this
     go_wp2;go_ret;exact ⟨by rw [HW.out];rfl,bb⟩
 ·have HNE:Hid ((((p.length:Nat):Int) != ((q.length:Nat):Int))=true):=by show _=_;rw [bne_iff_ne];omega
  have HW:Hid (b=0):=by show _=_;rw [HB.out];exact if_neg fun e=>he (by rw [e])
  clear he;have sB:=bb.size;refine zC9 5 [Pd.eq (.slice A0 p.length c0),Pd.eq (.int .i64 ((p.length:Nat):Int)),Pd.eq (.slice A1 q.length c1),Pd.eq (.int .i64 ((q.length:Nat):Int)),Pd.eq (.bool true)] (by kernel_rfl) ?ob21 ?done21
  case ob21 =>
   refine zA (zC2 rfl (zB7 rfl) (zB9 rfl rfl) (fun _ _ h=>h)) ?_;refine zA (zJ6 rfl (zB7 rfl) (zB8 (j:=0) (by kernel_rfl) rfl rfl) (fun _ _ hx=>⟨_,by rw [hx];exact zJ7 underlying22 _ _ _ _,rfl⟩)) ?_;refine zA (zC2 rfl (zB7 rfl) (zB9 rfl rfl) (fun _ _ h=>h)) ?_;refine zA (zJ6 rfl (zB7 rfl) (zB8 (j:=2) (by kernel_rfl) rfl rfl) (fun _ _ hx=>⟨_,by rw [hx];exact zJ7 underlying23 _ _ _ _,rfl⟩)) ?_;refine zA (zE8 rfl (zB7 rfl) (zB8 (j:=1) (by kernel_rfl) rfl rfl) (zB8 (j:=3) (by kernel_rfl) rfl rfl) (fun _ _ _ hx hy=>⟨.bool true,by rw [hx,hy,zY4,HNE.out],rfl⟩)) ?_
   trivial
  case done21 =>
   refine fun w12 hb12 v0 h0 v1 h1 v2 h2 v3 h3 v4 h4 b hbf => ?_;obtain rfl:=h0;obtain rfl:=h1;obtain rfl:=h2;obtain rfl:=h3;obtain rfl:=h4;simp only [Act.put,zA0,zA2,zA1] at hbf;subst hbf;replace bb:=bb.trans (hb12.mono bb.size);have hsz12:=bb.size;refine zD ?_;go_wp2;go_ret;exact ⟨by rw [HW.out];rfl,bb⟩
theorem jB5 (a0:Value) (g n:Nat) (r:List Rat) (b:Bool) (w:World) (h0:SlF .u64 4294967296 w a0 r) (hB:Blk w g 3 #[.int .i64 (n:Int)]) (hb:b=decide (r.length≠n)) :
  Calls prog 81 #[a0,.pointer (some ⟨g,0,none⟩)] w (zD5 (.bool b) w):=by
 obtain ⟨A,c,rfl,_⟩:=h0.shape;have c0:=hB.cell 0
 have HB:Hid ((((r.length:Nat):Int) != (n:Int))=b):=by
  show _=_
  rw [hb];by_cases h:r.length=n
  ·rw [decide_eq_false (fun k=>k h),h];exact bne_self_eq_false _
  ·rw [decide_eq_true h,bne_iff_ne];omega
 clear hb
 go_enter func81,ntmps81
 go_wp2;go_ret;exact ⟨by rw [<- HB.out];rfl,Below.refl _ _⟩
def RetIdx (b:Bool) (w:World) (e:Ending) (w':World):Prop:=∃ n:Int,e=.returned (.int .i64 n)/\decide (0<=n)=b/\Below w.heap.size w w'
theorem jB6 (a0:Value) (g n:Nat) (t:List (List Rat)) (b:Bool) (w:World) (h0:SlT .u64 4294967296 w a0 t) (hB:Blk w g 3 #[.int .i64 (n:Int)]) (hb:b=decide (∃ r∈t,r.length≠n)) :
  Calls prog 123 #[a0,.func (.func 81) #[] #[.pointer (some ⟨g,0,none⟩)]] w (RetIdx b w):=by
 have st0:=h0;obtain ⟨A,c,rfl,hc,hm⟩:=h0.shape;unfold maxLen at hm;have HB:=hQ9 hb;clear hb
 go_enter func123,ntmps123
 go_wp2
 go_loopw [8] (fun v8 wr => ∃ k:Nat,k<=t.length/\Hid (∀ r∈t.take k,r.length=n)/\Below w.heap.size w wr/\v8=.int .i64 (k:Int)) (fun v8 _=>t.length-(intOf v8).toNat)
 case atStart=>exact ⟨0,by omega,(by show ∀ r∈_,_;intro r hr;simp at hr),Below.refl _ _,rfl⟩
 case round =>
  obtain ⟨k,hk,HA,bb,rfl⟩:=hrel;by_cases hlt:k<t.length
  ·have hnt:t≠[]:=List.length_pos_iff.1 (by omega);obtain ⟨x,hx⟩:∃ x,t[k]?=some x:=⟨_,zA3 hlt⟩;have HX:=hQ9 hx;obtain ⟨ad,rfl⟩:=st0.place hnt;obtain ⟨Ar,cr,hi,ec,sr⟩:=(st0.below bb).at2 hx;have hBr:=hB.below bb;clear hx;obtain ⟨u,hu⟩:∃ u,u=decide (x.length≠n):=⟨_,rfl⟩
   go_wp2_with fail
   refine (jB5 _ g n x u _ sr hBr hu).mono ?_;rintro e w2 ⟨rfl,b2⟩;have bb2:=bb.trans (b2.mono bb.size);by_cases hxn:x.length=n
   ·obtain rfl:u=false:=by rw [hu];exact decide_eq_false fun k=>k hxn
    have HA2:Hid (∀ r∈t.take (k+1),r.length=n):=by
     show ∀ r∈_,_
     intro r hr;rw [List.take_add_one,HX.out] at hr;rcases List.mem_append.1 hr with hr | hr
     ·exact HA.out r hr
     ·obtain rfl:r=x:=by simpa using hr
      exact hxn
    have hsk:t.length-(k+1)<t.length-k:=by omega
    clear hu ec sr hBr;go_wp2;go_roundw;case rel=>exact ⟨k+1,by omega,HA2,bb2,by go_num⟩
    case measure=>simp [intOf];omega
   ·obtain rfl:u=true:=by rw [hu];exact decide_eq_true hxn
    have HW:Hid (b=true):=by
     show _=_
     rw [HB.out];exact decide_eq_true ⟨x,zA5 HX.out,hxn⟩
    clear hu ec sr hBr;go_wp2;go_ret;exact ⟨(k:Int),rfl,by rw [HW.out];exact decide_eq_true (by omega),bb2⟩
  ·have HW:Hid (b=false):=by
    show _=_
    rw [HB.out];refine decide_eq_false fun h => ?_;obtain ⟨r,hr,hn⟩:=h;have h1:=HA.out;rw [zA7 (by omega)] at h1;exact hn (h1 r hr)
   go_wp2;go_ret;exact ⟨-1,rfl,by rw [HW.out];rfl,bb⟩
theorem jB7 (a0:Value) (g n:Nat) (t:List (List Rat)) (b:Bool) (w:World) (h0:SlT .u64 4294967296 w a0 t) (hB:Blk w g 3 #[.int .i64 (n:Int)]) (hb:b=decide (∃ r∈t,r.length≠n)) :
  Calls prog 80 #[a0,.func (.func 81) #[] #[.pointer (some ⟨g,0,none⟩)]] w (zD5 (.bool b) w):=by
 have st0:=h0;obtain ⟨A,c,rfl,hc,hm⟩:=h0.shape;unfold maxLen at hm
 go_enter func80,ntmps80;go_wp2_with fail
 refine (jB6 _ g n t b _ st0 hB hb).mono ?_;rintro e w2 ⟨m,rfl,hm2,b2⟩;have HM:=hQ9 hm2;clear hm2 hb;go_wp2;go_ret;exact ⟨by rw [<- HM.out];rfl,b2⟩
theorem qM4 (a0:Value) (t:List (List Rat)) (b:Bool) (w:World) (h0:SlT .u64 4294967296 w a0 t) (hb:b=decide (zI3 t)) :
  Calls prog 40 #[a0] w (zD5 (.bool b) w):=by
 have st0:=h0;obtain ⟨A,c,rfl,hc,hm⟩:=h0.shape;unfold maxLen at hm
 have hwl:zD2 t<=9223372036854775807:=by
  by_cases hn:t=[]
  ·rw [hn];show 0<=_;omega
  ·obtain ⟨r,hr⟩:∃ r,t[0]?=some r:=⟨_,zA3 (List.length_pos_iff.2 hn)⟩;obtain ⟨ad,Ar,cr,_,_,_,sr⟩:=st0.at_ hr;obtain ⟨_,_,e,h1,h2⟩:=sr.shape;unfold maxLen at h2;rw [qT4 hr];omega
 have HB:=hQ9 hb;clear hb
 go_enter func40,ntmps40;go_wp2_with fail
 refine (qG7 _ t _ st0).mono ?_;rintro e w2 ⟨rfl,b2⟩;have st2:=st0.below b2;go_upto_region 2 with (fail);have bn:=Blk.new w2 3 #[.int .i64 ((zD2 t:Nat):Int)];have ba:=zD1 (w:=w2) (zB4 _) (.cells #[.int .i64 ((zD2 t:Nat):Int)] 3);obtain ⟨g,hg⟩:∃ g,g=w2.heap.size:=⟨_,rfl⟩;obtain ⟨w3,hw3⟩:∃ w3,w3=w2.alloc (.cells #[.int .i64 ((zD2 t:Nat):Int)] 3):=⟨_,rfl⟩;rw [<- hw3] at bn ba |-;rw [<- hg] at bn |-;have bb:Below w.heap.size w w3:=b2.trans (ba.mono b2.size);have st3:=st0.below bb;clear hw3 hg ba b2 st2;have c0:=bn.cell 0;have z0:=bn.frozen 0;by_cases h1:200<t.length
 ·have h1':(200:Int)<((t.length:Nat):Int):=by omega
  have HW:Hid (b=false):=by show _=_;rw [HB.out];exact decide_eq_false fun h=>by have:=h.1;omega
  go_wp2;go_ret;exact ⟨by rw [HW.out];rfl,bb⟩
 ·have h1':¬ (200:Int)<((t.length:Nat):Int):=by omega
  by_cases h2:200<zD2 t
  ·have h2':(200:Int)<((zD2 t:Nat):Int):=by omega
   have HW:Hid (b=false):=by show _=_;rw [HB.out];exact decide_eq_false fun h=>by have:=h.2.1;omega
   go_wp2;go_ret;exact ⟨by rw [HW.out];rfl,bb⟩
  ·have h2':¬ (200:Int)<((zD2 t:Nat):Int):=by omega
   obtain ⟨u,hu⟩:∃ u,u=decide (∃ r∈t,r.length≠zD2 t):=⟨_,rfl⟩
   have HW:Hid ((!u)=b):=by
    show _=_
    rw [HB.out,hu];by_cases he:qR7 t
    ·rw [decide_eq_true (show zI3 t from ⟨by omega,by omega,he⟩),decide_eq_false fun h=>by obtain ⟨r,hr,hn⟩:=h;exact hn (he r hr)];rfl
    ·have e1:decide (zI3 t)=false:=decide_eq_false fun h=>he h.2.2;have e2:decide (∃ r∈t,r.length≠zD2 t)=true:=decide_eq_true (Classical.byContradiction fun h=>he fun r hr=>Classical.byContradiction fun hn=>h ⟨r,hr,hn⟩);rw [e1,e2];rfl
   have HU:=hQ9 hu;clear hu;go_wp2_with fail
   refine (jB7 _ g (zD2 t) t u _ st3 bn HU.out).mono ?_;rintro e w4 ⟨rfl,b4⟩;have bb4:=bb.trans (b4.mono bb.size);clear c0 z0;go_wp2;go_ret;exact ⟨by rw [<- HW.out];rfl,bb4⟩
theorem zW5 (a0:Value) (t:List (List Rat)) (n:Int) (w:World) (h0:SlT .u64 4294967296 w a0 t) (hn:n=if zI3 t then 0 else 8) :
  Calls prog 11 #[a0] w (zD5 (.int .i64 n) w):=by
 have st0:=h0;obtain ⟨A,c,rfl,hc,hm⟩:=h0.shape;have HN:=hQ9 hn;clear hn
 go_enter func11,ntmps11
 by_cases h:zI3 t
 ·have HW:Hid (n=0):=by show _=_;rw [HN.out,if_pos h]
  go_wp2_with fail
  refine (qM4 _ t true _ st0 (decide_eq_true h).symm).mono ?_;rintro e w2 ⟨rfl,b2⟩;go_wp2;go_ret;exact ⟨by rw [HW.out];rfl,b2⟩
 ·have HW:Hid (n=8):=by show _=_;rw [HN.out,if_neg h]
  go_wp2_with fail
  refine (qM4 _ t false _ st0 (decide_eq_false h).symm).mono ?_;rintro e w2 ⟨rfl,b2⟩;go_wp2;go_ret;exact ⟨by rw [HW.out];rfl,b2⟩
theorem jB8 {k:IntKind} {B:Nat} (w:World) (T:TypeId) {q:Rat} {u t:Value} (h1:IsS w k u (digs B q.num.natAbs)) (h2:IsS w k t (digs B q.den)):SlF k B (w.alloc (.cells #[.bool (ngB q.num),u,t] T)) (.slice (some ⟨w.heap.size,0,none⟩) 1 1) [q]:=by
 have hbb:=zD1 (w:=w) (zB4 _) (.cells #[.bool (ngB q.num),u,t] T);have hB:=Blk.new w T #[.bool (ngB q.num),u,t];refine ⟨[(q,u,t)],rfl,⟨some ⟨w.heap.size,0,none⟩,1,rfl,zB4 _,by unfold maxLen;omega,fun i p hp => ?_⟩,fun p hp => ?_⟩
 ·rcases i with _ | i
  ·obtain rfl:((q,u,t):Elt)=p:=by simpa using hp
   exact ⟨_,_,rfl,hB.cell 0,hB.cell 1,hB.cell 2⟩
  ·simp at hp
 ·obtain rfl:=List.mem_singleton.1 hp;exact ⟨h1.below hbb,h2.below hbb⟩
section
variable {P:Program} {Q:Exit->Act->World->Prop} {ops:Array Oper} {L:List Oper} {Φ : List Pd} {w0:World} {a0:Act} {i:Nat} {o:Oper}
end
theorem qT6:∃ i,prog.info? 44=some i/\i.zero=some (.slice none 0 0)/\i.size=1/\i.bytes=24:=info_parts (P:=prog) (e:=44) (z:=.slice none 0 0) (size:=1) (bytes:=24) (by kernel_rfl)
theorem qM5:∃ i,prog.info? 45=some i/\i.zero=some (.slice none 0 0)/\i.size=1/\i.bytes=24:=info_parts (P:=prog) (e:=45) (z:=.slice none 0 0) (size:=1) (bytes:=24) (by kernel_rfl)
def RetBar (n:Nat) (w:World) (e:Ending) (w':World):Prop:=∃ g,e=.returned (.slice (some ⟨g,0,none⟩) n n)/\zG9 w' g 44 (zB n (.slice none 0 0))/\w.heap.size<=g/\Below w.heap.size w w'
theorem jB9 (a0:Value) (x:Rat) (w:World) (h0:IsQ w a0 x) (hl:zC6 x 100000) :
  Calls prog 145 #[a0] w (RetQ x w):=by
 obtain ⟨u0,t0,rfl,s0,r0⟩:=h0;obtain ⟨A0,c0,rfl,_⟩:=id s0;obtain ⟨D0,e0,rfl,_⟩:=id r0
 go_enter func145,ntmps145
 go_upto_region 1 with (fail)
 obtain ⟨wx,hwx,bb,B0,BR0,hsz⟩:=zH4 w 83 83 #[.bool (ngB (x).num),.slice A0 (digs 4294967296 (x).num.natAbs).length c0,.slice D0 (digs 4294967296 (x).den).length e0] #[.bool false,.slice none 0 0,.slice none 0 0];rw [hwx];clear hwx;have k0s:=s0.below bb;have k0d:=r0.below bb;have k0z:IsZ wx (.agg #[.bool (ngB (x).num),.slice A0 (digs 4294967296 (x).num.natAbs).length c0]) (x).num:=⟨_,rfl,k0s⟩;have k0:IsQ wx (.agg #[.bool (ngB (x).num),.slice A0 (digs 4294967296 (x).num.natAbs).length c0,.slice D0 (digs 4294967296 (x).den).length e0]) (x):=⟨_,_,rfl,k0s,k0d⟩;have hsz0:=bb.size;have sB:=bb.size;refine flow 12 [Pd.eq (.pointer (some ⟨w.heap.size,0,none⟩)),Pd.eq (.pointer (some ⟨w.heap.size,0,none⟩)),Pd.eq (.bool (ngB (x).num)),Pd.eq (.pointer (some ⟨w.heap.size,0,none⟩)),Pd.eq (.pointer (some ⟨w.heap.size,1,none⟩)),Pd.eq (.slice A0 (digs 4294967296 (x).num.natAbs).length c0),ps .u64 (digs 4294967296 (x).num.natAbs) wx.heap.size,pz ((x).num) wx.heap.size,Pd.eq (.pointer (some ⟨w.heap.size,2,none⟩)),Pd.eq (.slice D0 (digs 4294967296 (x).den).length e0),ps .u64 (digs 4294967296 (x).den) wx.heap.size,pq (x) wx.heap.size] (by kernel_rfl) (by kernel_rfl) ?ob1 ?done1
 case ob1 =>
  refine zA (zC1 rfl (zB7 rfl) (zB9 rfl rfl) (fun _=>by kernel_rfl) (fun _=>rfl)) ?_;refine zA (zC1 rfl (zB7 rfl) (zB8 (j:=0) (by kernel_rfl) rfl rfl) (fun _=>by kernel_rfl) (fun _=>rfl)) ?_;refine zA (zC rfl (zB7 rfl) (zB8 (j:=1) (by kernel_rfl) rfl rfl) (fun w2 hb=>zC3 underlying4 rfl ((B0.drew.below hb).cell 0)) (fun _ _=>rfl)) ?_;refine zA (zC1 rfl (zB7 rfl) (zB9 rfl rfl) (fun _=>by kernel_rfl) (fun _=>rfl)) ?_;refine zA (zC1 rfl (zB7 rfl) (zB8 (j:=3) (by kernel_rfl) rfl rfl) (fun _=>by kernel_rfl) (fun _=>rfl)) ?_;refine zA (zC rfl (zB7 rfl) (zB8 (j:=4) (by kernel_rfl) rfl rfl) (fun w2 hb=>zC3 underlying50 rfl ((B0.drew.below hb).cell 1)) (fun _ _=>rfl)) ?_;refine zA (zF6 rfl func106 (by kernel_rfl) (zB7 rfl) (zB8 (j:=5) (by kernel_rfl) rfl rfl) (fun w2 u0 hb h0=>by obtain rfl:=h0;exact (zV _ _ _ (k0s.drew.below hb) (zB5 hl.1 (by decide))).mono fun e w3 h=>zD7.pd h hb.size)) ?_;refine zA (zL rfl (zB7 rfl) (zB8 (j:=2) (by kernel_rfl) rfl rfl) (zB8 (j:=6) (by kernel_rfl) rfl rfl) (fun w2 u v hb hu hv=>by obtain rfl:=hu;obtain ⟨A7,c7,rfl,_⟩:=id hv.1;exact ⟨.agg #[.bool (ngB (x).num),.slice A7 (digs 4294967296 (x).num.natAbs).length c7],by kernel_rfl,⟨_,rfl,hv.1⟩,zM0 hv.2⟩)) ?_;refine zA (zC1 rfl (zB7 rfl) (zB9 rfl rfl) (fun _=>by kernel_rfl) (fun _=>rfl)) ?_;refine zA (zC rfl (zB7 rfl) (zB8 (j:=8) (by kernel_rfl) rfl rfl) (fun w2 hb=>zC3 underlying50 rfl ((B0.drew.below hb).cell 2)) (fun _ _=>rfl)) ?_;refine zA (zF6 rfl func106 (by kernel_rfl) (zB7 rfl) (zB8 (j:=9) (by kernel_rfl) rfl rfl) (fun w2 u0 hb h0=>by obtain rfl:=h0;exact (zV _ _ _ (k0d.drew.below hb) (zB5 hl.2 (by decide))).mono fun e w3 h=>zD7.pd h hb.size)) ?_;refine zA (zL rfl (zB7 rfl) (zB8 (j:=7) (by kernel_rfl) rfl rfl) (zB8 (j:=10) (by kernel_rfl) rfl rfl) (fun w2 u v hb hu hv=>by obtain ⟨u7,rfl,hu7⟩:=hu.1;obtain ⟨A7,c7,rfl,_⟩:=id hu7;obtain ⟨A8,c8,rfl,_⟩:=id hv.1;exact ⟨.agg #[.bool (ngB (x).num),.slice A7 (digs 4294967296 (x).num.natAbs).length c7,.slice A8 (digs 4294967296 (x).den).length c8],by kernel_rfl,⟨⟨_,_,rfl,hu7,hv.1⟩,zM1 (hu.2 _ _ rfl) hv.2⟩⟩)) ?_
  trivial
 case done1 =>
  refine fun w11 hb11 v0 h0 v1 h1 v2 h2 v3 h3 v4 h4 v5 h5 v6 h6 v7 h7 v8 h8 v9 h9 v10 h10 v11 h11 b hbf => ?_;obtain rfl:=h0;obtain rfl:=h1;obtain rfl:=h2;obtain rfl:=h3;obtain rfl:=h4;obtain rfl:=h5;obtain rfl:=h8;obtain rfl:=h9;obtain ⟨q6,f6⟩:=h6;obtain ⟨q7,f7⟩:=h7;obtain ⟨q10,f10⟩:=h10;obtain ⟨q11,f11⟩:=h11;simp only [Act.put,zA0,zA2,zA1] at hbf;subst hbf;replace B0:=B0.below hb11;replace k0s:=k0s.below hb11;replace k0d:=k0d.below hb11;replace k0z:=k0z.below hb11;replace k0:=k0.below hb11;replace BR0:=BR0.below hb11;replace bb:=bb.trans (hb11.mono bb.size);have hsz11:=bb.size;have s_6:=sB;have s_7:=sB;have s_10:=sB;have s_11:=sB;obtain ⟨u11,t11,rfl,q11,d11⟩:=q11;obtain ⟨A9,c9,rfl,_⟩:=id q11;obtain ⟨D9,e9,rfl,_⟩:=id d11;refine zI (i:=12) (by kernel_rfl) rfl rfl rfl rfl rfl rfl (cells:=[.bool (ngB (x).num),.slice A9 (digs 4294967296 (x).num.natAbs).length c9,.slice D9 (digs 4294967296 (x).den).length e9]) rfl BR0 rfl (by kernel_rfl) (zI6 rfl rfl rfl) fun w9 hg9 B9 => ?_;have k9:=off q11 BR0 zE0 hg9;have d9:=off d11 BR0 zE0 hg9;have f9:=f11.mono (show w.heap.size<=_ from s_11);have bb9:=bb.trans ((Below.refl _ _).grown hg9 bb.size (fun g hg=>by injection hg with hg;omega));obtain ⟨C0,C1,C2,_,_,_⟩:=three B9;refine zF8 (by kernel_rfl) ?_;go_wp2;exact bodyPost_ret (v:=.agg #[.bool (ngB (x).num),.slice A9 (digs 4294967296 (x).num.natAbs).length c9,.slice D9 (digs 4294967296 (x).den).length e9]) (by simp [results,results145,go_sem,C0,C1,C2]) rfl ⟨_,rfl,⟨_,_,rfl,k9,d9⟩,f9,bb9⟩
theorem jC (n:Int) (d:Nat) (w:World) (hn:n=(d:Int)) (hd:d<=1000000) :
  Calls prog 67 #[.int .i64 n] w (RetBar d w):=by
 have bb:Below w.heap.size w w:=Below.refl _ _;subst hn
 go_enter func67,ntmps67
 go_upto_region 1 with (fail)
 have hsz0:=bb.size;have sB:=bb.size;refine zC9 3 [Pd.eq (.int .i64 (d:Int)),pbar d 44 w.heap.size,pbar d 44 w.heap.size] (by kernel_rfl) ?ob2 ?done2
 case ob2 =>
  refine zA (zC2 rfl (zB7 rfl) (zB9 rfl rfl) (fun _ _ h=>h)) ?_;refine zA (jB d rfl rfl (zB8 (j:=0) (by kernel_rfl) rfl rfl) (zB8 (j:=0) (by kernel_rfl) rfl rfl) underlying22 qT6 (by omega) (fun _ _ h=>h)) ?_;refine zA (zE6 rfl (zB7 rfl) (zB8 (j:=1) (by kernel_rfl) rfl rfl) (fun _ _ h=>h)) ?_
  trivial
 case done2 =>
  refine fun w11 hb11 v0 h0 v1 h1 v2 h2 b hbf => ?_;obtain rfl:=h0;have q1:=h1;have q2:=h2;simp only [Act.put,zA0,zA2,zA1] at hbf;subst hbf;replace bb:=bb.trans (hb11.mono bb.size);have hsz11:=bb.size;refine zD ?_;obtain ⟨g,rfl,TB,hg⟩:=q2;go_wp2;go_ret;exact ⟨g,rfl,TB,hg,bb⟩
end Go.Proofs.YtagaabooccnamaaGreat.rat
namespace Go.Proofs.YtagaabooccnamaaGreat.flow
open Go.RowKit num mem whl rat
section
variable {P:Program} {Q:Exit->Act->World->Prop} {ops:Array Oper} {o:Oper} {i:Nat}
theorem jC0 {rest:List Nat} {a:Act} {w:World} (s x:Operand) {t:TypeId} (ho:ops[i]?=some o) (hg:o.guard=none) (hop:o.op=.call { callee:=.builtin .append,args:=#[s,x],argTypes:=#[t,t] })
  {base:Nat} {T:TypeId} (hT:P.underlying t=some (.slice T)) (hI:∃ i,P.info? T=some i/\i.zero=some (.agg #[.bool false,.slice none 0 0,.slice none 0 0])/\i.size=3/\i.bytes=56) {v:Value} {p:Elt} {ps:List Elt} (hs:a.eval s=v) (hown:zD4 T w base v ps) {ad:Addr} {c:Nat} (hx:a.eval x=.slice (some ad) 1 c)
  (h0:w.cell? (ad.add 0)=some (.bool (ngB p.1.num))) (h1:w.cell? (ad.add 1)=some p.2.1) (h2:w.cell? (ad.add 2)=some p.2.2) (k1:p.2.1.oneCell'=true) (k2:p.2.2.oneCell'=true) (hlen:ps.length<=1000000000) (hbase:base<=w.heap.size)
  (h:∀ v' w' b,zD4 T w' base v' (ps ++ [p])->Below base w w'->Hid (zH5 w w' v v')->a.put o.dst v'=b->wpOps P ops Q rest b w'):wpOps P ops Q (i :: rest) a w :=
 qK0 ho hg (qR5 s x hop hT hI hs hown hx h0 h1 h2 k1 k2 hlen hbase fun v' w' r b k=>h v' w' _ r b k rfl)
end
end Go.Proofs.YtagaabooccnamaaGreat.flow
namespace Go.Proofs.YtagaabooccnamaaGreat.rat
open Go.RowKit num mem nat txt str flow whl
theorem zH5.trans {w w1 w2:World} {v v1 v2:Value} (h:zH5 w w1 v v1) (k:zH5 w1 w2 v1 v2):zH5 w w2 v v2:=by
 obtain ⟨a1,a2,a3⟩:=h;obtain ⟨b1,b2,b3⟩:=k;refine ⟨fun q u l hu hf => ?_,⟨b2.os.trans a2.os,b2.tape.trans a2.tape,b2.output.trans a2.output,zB5 a2.size b2.size,fun i hi hne => ?_⟩,fun g hg hne=>b3 g (Nat.lt_of_lt_of_le hg a2.size) (a3 g hg hne)⟩
 ·have x:=a1 q u l hu hf;exact b1 q u l x.1 x.2
 ·rw [b2.block i (Nat.lt_of_lt_of_le hi a2.size) (fun e=>a3 i hi (fun e2=>hne e2.symm) e.symm),a2.block i hi hne]
theorem zH5.of_below {w w1:World} (v:Value) (h:Below w.heap.size w w1):zH5 w w1 v v :=
 ⟨fun q u l hu hf=>⟨hu.below h,hf⟩,⟨h.os,h.tape,h.output,h.size,fun i hi _=>h.block i hi⟩,fun g _ hne=>hne⟩
theorem zI7.below {B B':Nat} {ps:List Elt} (h:zI7 B ps) (hb:B'<=B):zI7 B' ps:=fun p hp=>⟨(h p hp).1.mono hb,(h p hp).2.mono hb⟩
theorem zI7.far {B:Nat} {ps:List Elt} (h:zI7 B ps) {v:Value} (hv:∀ g,v.ownBlock=some g->g<B):∀ p∈ps,Far v p.2.1/\Far v p.2.2:=fun p hp=>⟨(h p hp).1.far hv,(h p hp).2.far hv⟩
theorem TabO.mid {k:IntKind} {B:Nat} {T:TypeId} {w w1:World} {base g n c i:Nat} {TS:TypeId} {us:List Value} {pss:List (List Elt)} {u u':Value} {ps:List Elt} (hT:T≠TS) (h:TabO k B T w base TS (.slice (some ⟨g,0,none⟩) n c) us pss) (hu:us[i]?=some u) (hps:pss[i]?=some ps) (hgr:zH5 w w1 u u'):zD6 w1 base TS (.slice (some ⟨g,0,none⟩) n c) us :=
 World.ownsRow.kept (row:=u.ownBlock) h.row hgr.2.1 (.inr fun e=>(h.own i u ps hu hps).notRow h.row hT g e.symm rfl)
def RetApp (T:TypeId) (base:Nat) (a0:Value) (ps:List Elt) (r:List Rat) (w:World) (e:Ending) (w':World):Prop:=∃ u new,e=.returned u/\zD4 T w' base u (ps ++ new)/\new.map (·.1)=r/\zH5 w w' a0 u/\zH0 .u64 4294967296 w' u new/\zI7 w.heap.size new/\Below base w w'
theorem jC1 (a0 a1:Value) (ps:List Elt) (r:List Rat) (w W:World) (h0:zD4 83 W w.heap.size a0 ps) (h1:SlF .u64 4294967296 w a1 r) (hb:Below w.heap.size w W) (hl:ps.length<=1000/\r.length<=1000 /\ ∀ x∈r,zC6 x 100000) :
  Calls prog 111 #[a0,a1] W (RetApp 83 w.heap.size a0 ps r W):=by
 have bb:Below w.heap.size w w:=Below.refl _ _;have sl1:=h1;obtain ⟨A1,c1,rfl,hc1,hm1⟩:=h1.shape;unfold maxLen at hm1;have r0:=h0;obtain ⟨A0,c0,rfl,hc0,hm0,_⟩:=h0.isVF;have hbase:w.heap.size<=W.heap.size:=hb.size;have hbl:=h0.base_le;have HL:=hQ9 hl;have hps:ps.length<=1000:=hl.1;have hr2:r.length<=1000:=hl.2.1;clear bb hl h0;have bb:Below w.heap.size w W:=hb;have bW:Below W.heap.size W W:=Below.refl _ _
 go_enter func111,ntmps111
 go_upto_region 1 with (fail)
 have hsz0:=bb.size;have sB:=bb.size;refine zC9 3 [Pd.eq (.slice A1 r.length c1),Pd.eq (.int .i64 ((r.length:Nat):Int)),Pd.eq (.int .i64 0)] (by kernel_rfl) ?ob1 ?done1
 case ob1 =>
  refine zA (zC2 rfl (zB7 rfl) (zB9 rfl rfl) (fun _ _ h=>h)) ?_;refine zA (zJ6 rfl (zB7 rfl) (zB8 (j:=0) (by kernel_rfl) rfl rfl) (fun _ _ hx=>⟨_,by rw [hx];exact zJ7 underlying44 _ _ _ _,rfl⟩)) ?_;refine zA (zC2 rfl (zB7 rfl) (zG2 _) (fun _ _ h=>h)) ?_
  trivial
 case done1 =>
  refine fun w11 hb11 v0 h0 v1 h1 v2 h2 b hbf => ?_;obtain rfl:=h0;obtain rfl:=h1;obtain rfl:=h2;simp only [Act.put,zA0,zA2,zA1] at hbf;subst hbf;replace bb:=bb.trans (hb11.mono bb.size);have hsz11:=bb.size;replace bW:=bW.trans (hb11.mono bW.size);refine zD ?_;go_wp2
  go_loopw [0,9] (fun v0 v9 wr => ∃ (k:Nat) (new:List Elt),k<=r.length/\zD4 83 wr w.heap.size v0 (ps ++ new)/\Hid (new.map (·.1)=r.take k)/\Hid (zH5 W wr (.slice A0 ps.length c0) v0)/\zH0 .u64 4294967296 wr v0 new/\zI7 W.heap.size new/\Below w.heap.size w wr/\v9=.int .i64 (k:Int)) (fun _ v9 _=>r.length-(intOf v9).toNat)
  case atStart=>exact ⟨0,[],by omega,by rw [List.append_nil];exact r0.below bW,rfl,zH5.of_below _ bW,zH0.nil _ _ _ _,zI7.nil _,bb,rfl⟩
  case round =>
   obtain ⟨k,new,hk,hR,HM,HG,hF,hN,hbw,rfl⟩:=hrel;clear bb bW;have bb:=hbw;clear hbw;have hszr:=bb.size;have hsW:W.heap.size<=wr.heap.size:=HG.out.2.1.size;by_cases hlt:k<r.length
   ·have bl:Below wr.heap.size wr wr:=Below.refl _ _;obtain ⟨AR,cR,hAR,_⟩:=hR.isVF;subst hAR;obtain ⟨x,hq1_⟩:∃ x,r[k]?=some x:=⟨_,zA3 hlt⟩;obtain ⟨g1_,o1_,ue1,te1,hA1_,_,e10,e11,e12,es1,ed1⟩:=(sl1.below bb).at_ hq1_;subst hA1_;have HQ1:=hQ9 hq1_;clear hq1_;obtain ⟨Ae1,ce1,rfl,_⟩:=id es1;obtain ⟨De1,ee1,rfl,_⟩:=id ed1;have ke1:IsQ wr (.agg #[.bool (ngB x.num),.slice Ae1 (digs 4294967296 x.num.natAbs).length ce1,.slice De1 (digs 4294967296 x.den).length ee1]) x:=⟨_,_,rfl,es1,ed1⟩;have lx:zC6 x 100000:=HL.out.2.2 x (zA5 HQ1.out)
    have HNL:Hid (new.length=k):=by
     have h:=congrArg List.length HM.out;rw [zA9,zB2] at h;show _=_
     omega
    have sB:=bb.size;go_upto_region 3 with (fail);refine zC9 3 [Pd.eq (.pointer (some ⟨g1_,o1_+k*3,none⟩)),Pd.eq (.agg #[.bool (ngB x.num),.slice Ae1 (digs 4294967296 x.num.natAbs).length ce1,.slice De1 (digs 4294967296 x.den).length ee1]),pn 83 #[.bool false,.slice none 0 0,.slice none 0 0] wr.heap.size] (by kernel_rfl) ?ob2 ?done2
    case ob2 =>
     refine zA (zI0 rfl (zB7 rfl) (zB9 rfl rfl) (zB9 rfl rfl) (fun _ _ _ hx hy=>⟨_,by rw [hx,hy];exact zI9 underlying44 (by kernel_rfl) hlt _,rfl⟩)) ?_;refine zA (zC rfl (zB7 rfl) (zB8 (j:=0) (by kernel_rfl) rfl rfl) (fun w2 hb=>zO4 underlying83 rfl (by kernel_rfl) ((hb.cell (World.block_lt_of_cell? wr _ e10)).trans e10) ((hb.cell (World.block_lt_of_cell? wr _ e11)).trans e11) ((hb.cell (World.block_lt_of_cell? wr _ e12)).trans e12)) (fun _ _=>rfl)) ?_;refine zA (zN2 (z:=.agg #[.bool false,.slice none 0 0,.slice none 0 0]) rfl rfl (fun _=>by kernel_rfl) (fun _ _ hB h=>⟨_,rfl,hB,h⟩)) ?_
     trivial
    case done2 =>
     refine fun w13 hb13 v0 h0 v1 h1 v2 h2 d2 b hbf => ?_;obtain rfl:=h0;obtain rfl:=h1;obtain ⟨g2_2,rfl,hg2,B2⟩:=h2;simp only [Act.put,zA0,zA2,zA1] at hbf;subst hbf;replace es1:=es1.below hb13;replace ed1:=ed1.below hb13;replace bb:=bb.trans (hb13.mono bb.size);have hsz13:=bb.size;replace bl:=bl.trans (hb13.mono bl.size);have BA6:=B2;have q1:=es1;have d1:=ed1;refine zI5 (i:=3) rfl rfl rfl rfl rfl rfl (cells:=[.bool (ngB (x).num),.slice Ae1 (digs 4294967296 (x).num.natAbs).length ce1,.slice De1 (digs 4294967296 (x).den).length ee1]) rfl BA6 rfl (by kernel_rfl) (zI6 rfl rfl rfl) fun w14 hg14 BN14 => ?_;replace q1:=off q1 BA6 zE0 hg14;replace d1:=off d1 BA6 zE0 hg14;replace bb:=bb.trans ((Below.refl _ _).grown hg14 bb.size (fun g hg=>by injection hg with hg;omega));have hsz14:=bb.size;have Be1:Blk w14 (g2_2) _ _:=BN14;have ke1s:=q1;have ke1d:=d1;have ke1z:IsZ w14 (.agg #[.bool (ngB (x).num),.slice Ae1 (digs 4294967296 (x).num.natAbs).length ce1]) ((x).num):=⟨_,rfl,ke1s⟩;have ke1:IsQ w14 (.agg #[.bool (ngB (x).num),.slice Ae1 (digs 4294967296 (x).num.natAbs).length ce1,.slice De1 (digs 4294967296 (x).den).length ee1]) (x):=⟨_,_,rfl,ke1s,ke1d⟩;refine zD ?_;replace bl:=bl.trans ((Below.refl _ _).grown hg14 bl.size (fun g hg=>by injection hg with hg;omega));have nR:=(hR.below bl).under;have hsl:=bl.size;have sB:=bb.size;go_upto_region 4 with (fail);refine zC9 4 [Pd.eq (.slice AR (ps ++ new).length cR),Pd.eq (.agg #[.bool (ngB (x).num),.slice Ae1 (digs 4294967296 (x).num.natAbs).length ce1,.slice De1 (digs 4294967296 (x).den).length ee1]),pq (x) w14.heap.size,pone (pq (x) w14.heap.size)] (by kernel_rfl) ?ob3 ?done3
     case ob3 =>
      refine zA (zC2 rfl (zB7 rfl) (zB9 rfl rfl) (fun _ _ h=>h)) ?_;refine zA (zC rfl (zB7 rfl) (zB9 rfl rfl) (fun w2 hb=>zF7 underlying83 rfl (by kernel_rfl) (Be1.below hb)) (fun _ _=>rfl)) ?_;refine zA (zF6 rfl func145 (by kernel_rfl) (zB7 rfl) (zB8 (j:=1) (by kernel_rfl) rfl rfl) (fun w2 u0 hb h0=>by obtain rfl:=h0;exact (jB9 _ x _ (ke1.below hb) lx).mono fun e w3 h=>RetQ.pd h hb.size)) ?_;refine zA (qS9 (φ:=pq (x) w14.heap.size) rfl rfl (zB8 (j:=2) (by kernel_rfl) rfl rfl) underlying44 zV9 (fun w v h=>⟨h,by obtain ⟨⟨u,t,rfl,hu,ht⟩,_⟩:=h;obtain ⟨_,_,rfl,_⟩:=id hu;obtain ⟨_,_,rfl,_⟩:=id ht;exact ⟨_,_,_,rfl,rfl,rfl,rfl⟩⟩) (fun _ _ h=>h)) ?_
      trivial
     case done3 =>
      refine fun w15 hb15 v0 h0 v1 h1 v2 h2 v3 h3 b hbf => ?_;obtain rfl:=h0;obtain rfl:=h1;obtain ⟨q2,f2⟩:=h2;obtain ⟨g3_,x3,y3,z3,rfl,c30,c31,c32,K3⟩:=h3;simp only [Act.put,zA0,zA2,zA1] at hbf;subst hbf;replace Be1:=Be1.below hb15;replace ke1s:=ke1s.below hb15;replace ke1d:=ke1d.below hb15;replace ke1z:=ke1z.below hb15;replace ke1:=ke1.below hb15;replace bb:=bb.trans (hb15.mono bb.size);have hsz15:=bb.size;replace bl:=bl.trans (hb15.mono bl.size);have s_2:=sB;have hR4:=hR.below bl;have hF4:=hF.below bl;have hsz4:=bb.size;have HL8:Hid ((ps ++ new).length<=1000000000):=by show _<=_;rw [zA8,HNL.out];omega
      obtain ⟨⟨uE,tE,eE,sE,dE⟩,fE⟩:=K3;obtain ⟨rfl,rfl,rfl⟩:x3=.bool (ngB (x).num)/\y3=uE/\z3=tE:=by injection eE with eE;simpa using eE
      clear eE;obtain ⟨AE,cE,rfl,_⟩:=id sE;obtain ⟨DE,rE,rfl,_⟩:=id dE;refine jC0 (i:=4) (.tmp 13) (.tmp 16) rfl rfl rfl underlying44 zV9 (p:=(x,.slice AE (digs 4294967296 (x).num.natAbs).length cE,.slice DE (digs 4294967296 (x).den).length rE)) (ps:=(ps ++ new)) rfl hR4 rfl c30 c31 c32 rfl rfl HL8.out hsz4 fun v8 w8 b8 row8 bb8 HK8 hb8 => ?_;simp only [Act.put,zA0,zA2,zA1] at hb8;subst hb8;have EC:IsE .u64 4294967296 w15 ((x,.slice AE (digs 4294967296 (x).num.natAbs).length cE,.slice DE (digs 4294967296 (x).den).length rE):Elt):=⟨sE,dE⟩;have F8:=hF4.snoc HK8.out.1 EC ((fE _ _ _ rfl).1.far nR) ((fE _ _ _ rfl).2.far nR);have NN8:=hN.snoc ((fE _ _ _ rfl).1.mono (show W.heap.size<=_ by omega)) ((fE _ _ _ rfl).2.mono (show W.heap.size<=_ by omega)) (p:=(x,.slice AE (digs 4294967296 (x).num.natAbs).length cE,.slice DE (digs 4294967296 (x).den).length rE));refine zQ9 (i:=5) (v8) rfl rfl rfl rfl rfl fun b hbf => ?_;simp only [Act.put,zA0,zA2,zA1] at hbf;subst hbf;refine zD ?_
      have HM8:Hid ((new ++ [((x,.slice AE (digs 4294967296 (x).num.natAbs).length cE,.slice DE (digs 4294967296 (x).den).length rE):Elt)]).map (·.1)=r.take (k+1)):=by
       show _=_
       rw [List.map_append,HM.out,zU3 HQ1.out]
       rfl
      have HG8:Hid (zH5 W w8 (.slice A0 ps.length c0) v8):=(HG.out.trans (zH5.of_below _ bl)).trans HK8.out;have b8:=bb.trans bb8;rw [List.append_assoc] at row8;clear HK8 EC fE hR hF hR4 hF4 hN;have hsk:r.length-(k+1)<r.length-k:=by omega
      go_wp2;go_roundw;case rel=>exact ⟨k+1,_,by omega,row8,HM8,HG8,F8,NN8,b8,by go_num⟩
      case measure=>simp [intOf];omega
   ·have HME:Hid (new.map (·.1)=r):=by show _=_;rw [HM.out,zA7 (by omega)]
    have hbW:Below w.heap.size W wr:=(Below.refl _ W).grown HG.out.2.1 hbase hbl;clear HM;go_wp2;go_ret;exact ⟨_,new,rfl,hR,HME.out,HG.out,hF,hN,hbW⟩
abbrev qC (w:World) (base:Nat) (V:Value) (us:List Value) (pss:List (List Elt)):Prop:=TabO .u64 4294967296 83 w base 44 V us pss
def RetJoin (base g n c:Nat) (J:List (List Rat)) (w:World) (e:Ending) (w':World):Prop:=∃ us pss,e=.returned (.slice (some ⟨g,0,none⟩) n c)/\qC w' base (.slice (some ⟨g,0,none⟩) n c) us pss/\zF4 pss=J/\us.length=n/\Below base w w'
theorem jC2 (g n c:Nat) (a1:Value) (us:List Value) (pss:List (List Elt)) (t:List (List Rat)) (w W:World) (h0:qC W w.heap.size (.slice (some ⟨g,0,none⟩) n c) us pss) (h1:SlT .u64 4294967296 w a1 t) (hb:Below w.heap.size w W) (hu:us.length=n) (ht:t.length=n) (hgw:w.heap.size<=g)
  (hl:(∀ r∈zF4 pss,r.length<=1000)/\(∀ r∈t,r.length<=1000)/\zH6 t 100000) :
  Calls prog 66 #[.slice (some ⟨g,0,none⟩) n c,a1] W (RetJoin w.heap.size g n c (zD9 (zF4 pss) t) W):=by
 have st1:=h1;obtain ⟨A1,c1,rfl,hc1,hm1⟩:=h1.shape;unfold maxLen at hm1;have HL:=hQ9 hl;have HTN:=hQ9 ht;have HUN:=hQ9 hu;have HPT:Hid ((zF4 pss).length=t.length):=by show _=_;rw [qG5,<- h0.len,hu,ht]
 clear hl ht hu
 go_enter func66,ntmps66
 go_wp2
 go_loopw [9] (fun v9 wr => ∃ (k:Nat) (us':List Value) (pss':List (List Elt)),k<=t.length/\qC wr w.heap.size (.slice (some ⟨g,0,none⟩) n c) us' pss'/\Hid (zF4 pss'=jst (zF4 pss) t k)/\us'.length=n/\Below w.heap.size W wr/\v9=.int .i64 (k:Int)) (fun v9 _=>t.length-(intOf v9).toNat)
 case atStart=>exact ⟨0,us,pss,by omega,h0,by show _=_;rw [yY],HUN.out,Below.refl _ _,rfl⟩
 case round =>
  obtain ⟨k,us',pss',hk,hT,HJ,hul,hbW,rfl⟩:=hrel;have HUL:=hQ9 hul;clear hul;have bb:Below w.heap.size w wr:=hb.trans hbW;by_cases hlt:k<t.length
  ·have hnt:t≠[]:=List.length_pos_iff.1 (by omega);obtain ⟨x,hx⟩:∃ x,t[k]?=some x:=⟨_,zA3 hlt⟩;have HX:=hQ9 hx;have hxm:=zA5 hx;obtain ⟨ad,rfl⟩:=st1.place hnt;obtain ⟨Ax,cx,hi,ewx,srx⟩:=st1.at2 hx;have ecx:=(bb.cell (World.block_lt_of_cell? w _ ewx)).trans ewx;have hkn:k<n:=by have:=HTN.out;omega
   obtain ⟨u,hu'⟩:∃ u,us'[k]?=some u:=⟨_,zA3 (by have:=HUL.out;omega)⟩;obtain ⟨ps,hps⟩:∃ ps,pss'[k]?=some ps:=⟨_,zA3 (by rw [<- hT.len];have:=HUL.out;omega)⟩;have HU:=hQ9 hu';have HPS:=hQ9 hps;obtain ⟨p,hp⟩:∃ p,(zF4 pss)[k]?=some p:=⟨_,zA3 (by rw [HPT.out];exact hlt)⟩
   have HP:Hid (ps.map (·.1)=p):=by
    have h2:=valq_at hps;rw [HJ.out,jst_at HPT.out hp] at h2;exact (Option.some.inj h2).symm
   have HJ2:Hid ((jst (zF4 pss) t k).set k (p ++ x)=jst (zF4 pss) t (k+1)):=jst_set HPT.out hp hx
   have hpl:ps.length<=1000:=by
    have h2:=congrArg List.length HP.out;rw [zA9] at h2;rw [h2];exact HL.out.1 p (zA5 hp)
   have hown:=hT.own k u ps hu' hps;have lxl:x.length<=1000:=HL.out.2.1 x hxm;have lx:∀ y∈x,zC6 y 100000:=HL.out.2.2 x hxm;have hcell:=hT.cell hu';obtain ⟨Au,cu,eu,hcu⟩:=hown.isVF;subst eu;have HT:=hQ9 hT;clear hx hxm hu' hps hp hT;go_wp2_with fail
   refine (jC1 _ _ ps x w wr hown srx bb ⟨hpl,lxl,lx⟩).mono ?_;rintro e w2 ⟨u2,new,rfl,hrow,hmap,hgr,hfar,hnew,b2⟩;have hV:=HT.out.mid (by decide) HU.out HPS.out hgr;have hc2:=hV.cellAt HU.out;have hf2:=hV.frozenAt k
   have hT2:=HT.out.put (by decide) HU.out HPS.out hrow hgr hfar (fun v hv q hq=>by
    have h2:=HT.out.farNew ((hnew q hq).1);have h3:=HT.out.farNew ((hnew q hq).2);exact ⟨h2.1 v hv,h3.1 v hv⟩) (fun q hq=>⟨(HT.out.farNew ((hnew q hq).1)).2,(HT.out.farNew ((hnew q hq).2)).2⟩)
   obtain ⟨A2,c2,e2,hc2'⟩:=hrow.isVF;rw [zA8] at e2;subst e2
   have HJ3:Hid (zF4 (pss'.set k (ps ++ new))=jst (zF4 pss) t (k+1)):=by
    show _=_
    rw [jB0,HJ.out,List.map_append,HP.out,hmap,HJ2.out]
   have hul2:(us'.set k (.slice A2 (ps.length+new.length) c2)).length=n:=by rw [zB3];exact HUL.out
   have hb3:=(hbW.trans b2).setCell (p:=⟨g,k,none⟩) hgw (.slice A2 (ps.length+new.length) c2);have hsk:t.length-(k+1)<t.length-k:=by omega
   clear hrow hgr hfar hnew hV hown ecx hcell;go_wp2;go_roundw;case rel=>exact ⟨k+1,_,_,by omega,hT2,HJ3,hul2,hb3,by go_num⟩
   case measure=>simp [intOf];omega
  ·have HJE:Hid (zF4 pss'=zD9 (zF4 pss) t):=by show _=_;rw [HJ.out,yY0 HPT.out (by omega)]
   go_wp2;go_ret;exact ⟨us',pss',rfl,hT,HJE.out,HUL.out,hbW⟩
theorem heap_setCell {w:World} {g i:Nat} {u:Value} {cs:Array Value} {e:TypeId} (h:w.heap[g]?=some (.cells cs e (0,0))):(w.setCell ⟨g,i,none⟩ u).heap[g]?=some (.cells (cs.setIfInBounds i u) e (0,0)):=by
 simp [World.setCell,Array.getElem?_modify,h]
theorem zE4.stored {k:IntKind} {B:Nat} {w:World} {g:Nat} {TS:TypeId} {us:List Value} {t:List (List Rat)} (h:zE4 k B w g TS us t) (i:Nat) {u:Value} {r:List Rat} (hu:SlF k B w u r):zE4 k B (w.setCell ⟨g,i,none⟩ u) g TS (us.set i u) (t.set i r):=h.put (zE7 w g i u) (heap_setCell h.1.1) hu
theorem zE4.cellAt {k:IntKind} {B:Nat} {w:World} {g:Nat} {TS:TypeId} {us:List Value} {t:List (List Rat)} (h:zE4 k B w g TS us t) {i:Nat} (hi:i<t.length):∃ u,w.cell? ⟨g,i,none⟩=some u:=by
 have hu:us[i]?=some (us[i]'(by rw [h.2.1];exact hi)):=zA3 _
 have:=h.1.cell hu
 rw [zR2] at this;exact ⟨_,this⟩
theorem zE4.frozenAt {k:IntKind} {B:Nat} {w:World} {g:Nat} {TS:TypeId} {us:List Value} {t:List (List Rat)} (h:zE4 k B w g TS us t) (i:Nat):w.frozen? ⟨g,i,none⟩=false:=h.1.1.frozen i
theorem yH (n:Int) (hn:n≠0) {w w':World} (hb:Below w.heap.size w w'):qG3 [] n w (.returned (.tuple #[.slice none 0 0,.int .i64 n])) w':=⟨_,rfl,by rw [if_neg hn];exact qG2 _ _ _,hb⟩
theorem jC3 {α β : Type} (f : α -> β -> α) (a : α) {l:List β} {j:Nat} {x : β} (h:l[j]?=some x):(l.take (j+1)).foldl f a=f ((l.take j).foldl f a) x:=by
 rw [List.take_add_one,h];simp [List.foldl_append]
def zU4 (n:Nat) (ts:List (List (List Rat))):Prop:=∀ t∈ts,zI3 t/\t.length=n
theorem yH0 {n j:Nat} {ts:List (List (List Rat))} {t:List (List Rat)} (h:ts[j]?=some t):zP2 n (ts.take (j+1))=zD9 (zP2 n (ts.take j)) t:=jC3 zD9 _ h
theorem qM6 {α : Type} {P t:List (List α)} {r:List α} (h:r∈zD9 P t):∃ p∈P,∃ q∈t,r=p ++ q:=by
  obtain ⟨i,hi⟩:=List.mem_iff_getElem?.1 h;unfold zD9 at hi;rw [List.getElem?_zipWith] at hi
  cases hp:P[i]? with
  | none=>rw [hp] at hi;cases hi
  | some p =>
    cases hq:t[i]? with
    | none=>rw [hp,hq] at hi;cases hi
    | some q =>
      rw [hp,hq] at hi;obtain rfl:p ++ q=r:=by simpa using hi
      exact ⟨p,zA5 hp,q,zA5 hq,rfl⟩
theorem jC4 {l:List Nat} {j x:Nat} (h:l[j]?=some x):(l.take (j+1)).sum=(l.take j).sum+x:=by
 rw [List.take_add_one,h];simp
theorem sum_take_le:∀ (l:List Nat) (j:Nat),(l.take j).sum<=l.sum
 | [],j=>by simp
 | x :: l,0=>by simp
 | x :: l,j+1=>by have:=sum_take_le l j;simp;omega
def RetTO (n:Nat) (t:List (List Rat)) (w:World) (e:Ending) (w':World):Prop:=∃ g us pss,e=.returned (.tuple #[.slice (some ⟨g,0,none⟩) n n,.int .i64 0])/\qC w' w.heap.size (.slice (some ⟨g,0,none⟩) n n) us pss/\zF4 pss=t/\us.length=n/\w.heap.size<=g/\Below w.heap.size w w'
theorem yH1 (a0:Value) (ts:List (List (List Rat))) (t0:List (List Rat)) (w:World) (h0:zO6 w a0 ts) (ht0:ts[0]?=some t0) (hl:ts.length<=3/\(ts.map zD2).sum<=200/\(∀ t∈ts,zH6 t 100000)/\t0.length<=200) :
    Calls prog 32 #[a0] w (fun e w'=>(zU4 t0.length ts/\RetTO t0.length (zP2 t0.length ts) w e w')\/(¬ zU4 t0.length ts/\qG3 [] 8 w e w')):=by
  have st0:=h0;obtain ⟨A0,c0,rfl,hc0⟩:=h0.shape;have HL:=hQ9 hl;have hl3:ts.length<=3:=hl.1;have hpos:0<ts.length:=(zA4.1 ht0).1;have hn:ts≠[]:=List.length_pos_iff.1 hpos;have hneb:(((ts.length:Nat):Int) == 0)=false:=by rw [beq_eq_false_iff_ne];omega
  have hne0:¬ ((ts.length:Nat):Int)=0:=by omega
  have ht02:t0.length<=200:=hl.2.2.2;obtain ⟨ad,rfl⟩:=st0.place hn;obtain ⟨At0,ct0,hit0,ew0,stt0⟩:=st0.at2 ht0;have ead:ad.add 0=ad:=by simp [Addr.add]
  rw [ead] at ew0;have HT0:=hQ9 ht0;clear hl ht0
  go_enter func32,ntmps32
  go_wp2
  go_loopw [4,14] (fun v4 v14 wr => ∃ k S:Nat,k<=ts.length/\Hid (∀ (i:Nat) (t:List (List Rat)),i<k->ts[i]?=some t->zI3 t/\t.length=t0.length)/\Hid (S=((ts.map zD2).take k).sum)/\Below w.heap.size w wr/\v4=.int .i64 (S:Int)/\v14=.int .i64 (k:Int)) (fun _ v14 _=>ts.length-(intOf v14).toNat)
  case atStart=>exact ⟨0,0,by omega,(by show ∀ i,_;intro i t hi;omega),rfl,Below.refl _ _,rfl,rfl⟩
  case round =>
    obtain ⟨k,S,hk,HA,HS,bb,rfl,rfl⟩:=hrel;have ec0:=(bb.cell (World.block_lt_of_cell? w _ ew0)).trans ew0;by_cases hlt:k<ts.length
    · obtain ⟨t, ht⟩:∃ t, ts[k]?=some t := ⟨_, zA3 hlt⟩;have HT:=hQ9 ht;obtain ⟨At,ct,hit,ect,stt⟩:=(st0.below bb).at2 ht;have hS2:((ts.map zD2).take (k+1)).sum=S+zD2 t:=by rw [jC4 (x:=zD2 t) (by rw [zB1,ht];rfl),HS.out]
      have hSle:S+zD2 t<=200:=by
        have h1:=sum_take_le (ts.map zD2) (k+1);have h2:=HL.out.2.1;omega
      have HS2:=hQ9 hS2.symm;clear ht hS2;go_wp2_with fail
      refine (qG7 _ t _ stt).mono ?_;rintro e w2 ⟨rfl,b2⟩;have bb2:=bb.trans (b2.mono bb.size);have stt2:=stt.below b2;have hov:(S:Int)+((zD2 t:Nat):Int)<=200:=by omega
      have hov2:¬ (200:Int)<(S:Int)+((zD2 t:Nat):Int):=by omega
      clear ect stt b2;by_cases hm:zI3 t
      · have HM:=hQ9 hm;clear hm
        go_wp2_with fail
        refine (qM4 _ t true _ stt2 (decide_eq_true HM.out).symm).mono ?_;rintro e w3 ⟨rfl,b3⟩;have bb3:=bb2.trans (b3.mono bb2.size);have ec3:=(bb3.cell (World.block_lt_of_cell? w _ ew0)).trans ew0;clear stt2 b3;by_cases hle:t.length=t0.length
        · have hne:(((t.length:Nat):Int) != ((t0.length:Nat):Int))=false:=by rw [bne_eq_false_iff_eq,hle]
          have hne':((t.length:Nat):Int)=((t0.length:Nat):Int):=by rw [hle]
          have HLE:=hQ9 hle
          have HA2:Hid (∀ (i:Nat) (t:List (List Rat)),i<k+1->ts[i]?=some t->zI3 t/\t.length=t0.length):=by
            show ∀ i,_
            intro i t' hi h';by_cases e:i=k
            · subst e;rw [HT.out] at h';injection h' with h';subst h';exact ⟨HM.out,HLE.out⟩
            · exact HA.out i t' (by omega) h'
          have hsk:ts.length-(k+1)<ts.length-k:=by omega
          clear hle HA ec0;go_wp2;go_roundw;case rel=>exact ⟨k+1,S+zD2 t,by omega,HA2,HS2,bb3,by go_num,by go_num⟩
          case measure=>simp [intOf];omega
        · have hne:(((t.length:Nat):Int) != ((t0.length:Nat):Int))=true:=by rw [bne_iff_ne];omega
          have hne':¬ ((t.length:Nat):Int)=((t0.length:Nat):Int):=by omega
          have HN:Hid (¬ zU4 t0.length ts):=fun h=>hle (h t (zA5 HT.out)).2;clear hle HA ec0;go_wp2;go_ret2;exact .inr ⟨HN.out,yH 8 (by decide) bb3⟩
      · have HM:=hQ9 hm;clear hm
        go_wp2_with fail
        refine (qM4 _ t false _ stt2 (decide_eq_false HM.out).symm).mono ?_;rintro e w3 ⟨rfl,b3⟩;have bb3:=bb2.trans (b3.mono bb2.size);have HN:Hid (¬ zU4 t0.length ts):=fun h=>HM.out (h t (zA5 HT.out)).1;clear HA ec0;go_wp2;go_ret2;exact .inr ⟨HN.out,yH 8 (by decide) bb3⟩
    · obtain rfl:k=ts.length:=by omega
      have HB:Hid (zU4 t0.length ts):=fun t ht=>by
        obtain ⟨i,hi⟩:=List.mem_iff_getElem?.1 ht;exact HA.out i t (zA4.1 hi).1 hi
      clear HA HS;go_wp2_with fail
      refine (jC _ t0.length _ rfl (by omega)).mono ?_;rintro e w4 ⟨g,rfl,TB,hg,b4⟩;have bb4:=bb.trans (b4.mono bb.size);have hgw:w.heap.size<=g:=zB5 bb.size hg;have hT0:qC w4 w.heap.size _ _ _:=TB.owned hgw (by omega);have HV0:Hid (zF4 (zB t0.length ([]:List Elt))=zP2 t0.length (ts.take 0)):=by show _=_;rw [jB1];rfl
      have HU0:Hid ((zB t0.length (Value.slice none 0 0)).length=t0.length):=by show _=_;simp
      have HR0:Hid (∀ r∈zP2 t0.length (ts.take 0),r.length<=200*0):=by
        show ∀ r∈_,_
        intro r hr;rw [(List.mem_replicate.1 (show r∈zB t0.length [] from hr)).2];exact zB4 _
      clear TB ec0 bb b4;go_wp2
      go_loopw [9,52] (fun v9 v52 wr => ∃ (k:Nat) (us:List Value) (pss:List (List Elt)),k<=ts.length/\qC wr w.heap.size (.slice (some ⟨g,0,none⟩) t0.length t0.length) us pss/\Hid (zF4 pss=zP2 t0.length (ts.take k))/\Hid (us.length=t0.length)/\Hid (∀ r∈zP2 t0.length (ts.take k),r.length<=200*k)/\Below w.heap.size w wr/\v9=.slice (some ⟨g,0,none⟩) t0.length t0.length/\v52=.int .i64 (k:Int)) (fun _ v52 _=>ts.length-(intOf v52).toNat)
      case atStart=>exact ⟨0,_,_,by omega,hT0,HV0,HU0,HR0,bb4,rfl,rfl⟩
      case round =>
        clear hT0 HV0 HU0 HR0 bb4;obtain ⟨k,us,pss,hk,hT,HV,HU,HR,bb,rfl,rfl⟩:=hrel;by_cases hlt:k<ts.length
        · obtain ⟨t,ht⟩:∃ t,ts[k]?=some t:=⟨_,zA3 hlt⟩;have HT:=hQ9 ht;obtain ⟨At,ct,hit,ewt,stt⟩:=st0.at2 ht;have ect:=(bb.cell (World.block_lt_of_cell? w _ ewt)).trans ewt;have htm:=zA5 ht;have HTB:Hid (zI3 t/\t.length=t0.length):=HB.out t htm;have HW:Hid (∀ r∈t,r.length<=200):=fun r hr=>by rw [HTB.out.1.2.2 r hr];exact HTB.out.1.2.1
          have HLT:Hid (zH6 t 100000):=HL.out.2.2.1 t htm;have HV2:Hid (zD9 (zF4 pss) t=zP2 t0.length (ts.take (k+1))):=by show _=_;rw [yH0 ht,HV.out]
          have HR2:Hid (∀ r∈zP2 t0.length (ts.take (k+1)),r.length<=200*(k+1)):=by
            show ∀ r∈_,_
            intro r hr;rw [yH0 ht] at hr;obtain ⟨p,hp,q,hq,rfl⟩:=qM6 hr;have h1:=HR.out p hp;have h2:=HW.out q hq;rw [zA8];omega
          clear ht htm ewt;go_wp2_with fail
          refine (jC2 g t0.length t0.length _ us pss t w _ hT stt bb HU.out HTB.out.2 hgw ⟨fun r hr=>by rw [HV.out] at hr;have:=HR.out r hr;omega,fun r hr=>zB5 (HW.out r hr) (by decide),HLT.out⟩).mono ?_;rintro e w7 ⟨us7,pss7,rfl,T7,V7,L7,b7⟩;have bb7:=bb.trans b7;have HV7:Hid (zF4 pss7=zP2 t0.length (ts.take (k+1))):=by show _=_;rw [V7,HV2.out]
          have HU7:=hQ9 L7;have hsk:ts.length-(k+1)<ts.length-k:=by omega
          clear hT HV HU HR stt ect V7 L7 b7;go_wp2;go_roundw;case rel=>exact ⟨k+1,us7,pss7,by omega,T7,HV7,HU7,HR2,bb7,rfl,by go_num⟩
          case measure=>simp [intOf];omega
        · obtain rfl:k=ts.length:=by omega
          have HV2:Hid (zF4 pss=zP2 t0.length ts):=by
            show _=_
            rw [HV.out,zA7 (zB4 _)]
          clear HV HR;go_wp2;go_ret2;exact .inl ⟨HB.out,g,us,pss,rfl,hT,HV2.out,HU.out,hgw,bb⟩
theorem jC5 (a0:Value) (ts:List (List (List Rat))) (t0:List (List Rat)) (w:World) (h0:zO6 w a0 ts) (ht0:ts[0]?=some t0) (hl:ts.length<=3/\(ts.map zD2).sum<=200/\(∀ t∈ts,zH6 t 100000)/\t0.length<=200) :
  Calls prog 32 #[a0] w (fun e w'=>(zU4 t0.length ts/\qG3 (zP2 t0.length ts) 0 w e w')\/(¬ zU4 t0.length ts/\qG3 [] 8 w e w')):=
 (yH1 a0 ts t0 w h0 ht0 hl).mono fun e w' h => by
  rcases h with ⟨h1,g,us,pss,rfl,hT,hV,hU,hg,hb⟩|h
  ·have hS:=hT.slT;rw [hV] at hS;exact .inl ⟨h1,_,rfl,by rw [if_pos rfl];exact hS,hb⟩
  ·exact .inr h
set_option maxRecDepth 100000
def klit (a b:Int):Lit:=.string (keyBytes [.int .i64 a,.int .i64 b])
def I64 (a:Int):Prop:=-9223372036854775808<=a/\a<=9223372036854775807
def qv (p:Elt):Value:=.agg #[.bool (ngB p.1.num),p.2.1,p.2.2]
structure MapD (D:DataW Value) (w:World) (T:List (List Rat)):Prop where
 hit:∀ (i j:Nat) (q:Rat),zW1 T i j=some q->q≠0->Maps.has D (klit i j)=true /\ ∃ p:Elt,(∀ z,D.atKey (klit i j) z=.held (qv p))/\p.1=q/\IsE .u64 4294967296 w p
 miss:∀ a b:Int,I64 a->I64 b->(∀ (i j:Nat) (q:Rat),a=i->b=j->zW1 T i j=some q->q=0)->Maps.has D (klit a b)=false
 cnt:Maps.size D=cntT T
theorem MapD.kept {D:DataW Value} {w w':World} {T:List (List Rat)} (h:MapD D w T) (hk:∀ p:Elt,IsE .u64 4294967296 w p->IsE .u64 4294967296 w' p):MapD D w' T :=
 ⟨fun i j q hq h0=>by obtain ⟨h1,p,h2,h3,h4⟩:=h.hit i j q hq h0;exact ⟨h1,p,h2,h3,hk p h4⟩,h.miss,h.cnt⟩
def IsM (w:World) (b:Nat):Prop:=∃ es ck,w.heap[b]?=some (.map es ck)
theorem IsM.no_cell {w:World} {b:Nat} (h:IsM w b) {p:Addr} {v:Value} (hp:w.cell? p=some v):some p.block≠some b:=by
 obtain ⟨es,ck,h1⟩:=h;intro e;injection e with e;unfold World.cell? at hp;rw [e,h1] at hp;cases hp
theorem IsM.off {w w':World} {b:Nat} (hm:IsM w b) {k:IntKind} {v:Value} {l:List Nat} (h:IsS w k v l) (hg:w.grownBy w' (some b)):IsS w' k v l:=by
 obtain ⟨A,c,rfl,h1,h2,h3⟩:=h;refine ⟨A,c,rfl,h1,h2,fun i d hd => ?_⟩;obtain ⟨ad,rfl,hc⟩:=h3 i d hd;exact ⟨ad,rfl,hg.cell hc (hm.no_cell hc)⟩
theorem zS4 {w:World} {g i:Nat} {t:TypeId} {cs:Array Value} (h:Blk w g t cs) (u:Value):Blk (w.setCell ⟨g,i,none⟩ u) g t (cs.setIfInBounds i u):=by
 unfold Blk at h |-;simp [World.setCell,Array.getElem?_modify,h]
theorem qM7 {w:World} {g:Nat} {t:TypeId} {a b c:Value} (h:Blk w g t #[a,b,c]) (x y z:Value):Blk (((w.setCell ⟨g,0,none⟩ x).setCell ⟨g,1,none⟩ y).setCell ⟨g,2,none⟩ z) g t #[x,y,z]:=zS4 (zS4 (zS4 h x) y) z
def lenS (T:List (List Rat)) (m:Nat):Prop:=∀ (i j:Nat) (q:Rat),zW1 T i j=some q->zC6 q m
theorem lenS.mono {T:List (List Rat)} {m n:Nat} (h:lenS T m) (hn:m<=n):lenS T n:=fun i j q hq=>(h i j q hq).mono hn
theorem zJ8 {w w2 w3:World} {row:Option Nat} (hg:w.grownBy w2 row) (hb:Below w2.heap.size w2 w3):w.grownBy w3 row :=
 ⟨hb.os.trans hg.os,hb.tape.trans hg.tape,hb.output.trans hg.output,zB5 hg.size hb.size,fun k hk hne=>(hb.block k (Nat.lt_of_lt_of_le hk hg.size)).trans (hg.block k hk hne)⟩
theorem qM8 {w w2:World} (hb:Below w.heap.size w w2) (row:Option Nat):w.grownBy w2 row:=⟨hb.os,hb.tape,hb.output,hb.size,fun k hk _=>hb.block k hk⟩
theorem yH2 {x:Rat} : (zK5 x.num 0 == 0)=decide (x=0):=by
 by_cases h:x=0
 ·rw [h,decide_eq_true rfl];rfl
 ·rw [decide_eq_false h,beq_eq_false_iff_ne];intro e;have hz:x.num≠0:=fun k=>h (Rat.num_eq_zero.1 k)
  rcases Int.lt_or_gt_of_ne hz with k | k
  ·rw [qE3 k] at e;cases e
  ·rw [qE4 k] at e;cases e
section
variable {w:World} {ops:Array Oper} {o:Oper} {a:Act} {K:Act->World->Prop} {Q:Exit->Act->World->Prop} {E:Prop} {b R C i j:Nat} {T:List (List Rat)}
end
abbrev Cel:=Nat × Elt
def IsVC (w:World) (v:Value) (xs:List Cel):Prop:=∃ A c,v=.slice A xs.length c/\xs.length<=c/\c<=maxLen /\ ∀ i x,xs[i]?=some x -> ∃ g o,A=some ⟨g,o,none⟩/\w.cell? ⟨g,o+i*4,none⟩=some (.int .i64 (x.1:Int))/\w.cell? ⟨g,o+i*4+1,none⟩=some (.bool (ngB x.2.1.num))/\w.cell? ⟨g,o+i*4+2,none⟩=some x.2.2.1/\w.cell? ⟨g,o+i*4+3,none⟩=some x.2.2.2
theorem IsVC.below {w w':World} {v:Value} {xs:List Cel} (h:IsVC w v xs) (hb:Below w.heap.size w w'):IsVC w' v xs:=by
 obtain ⟨A,c,e,h1,h2,h3⟩:=h;refine ⟨A,c,e,h1,h2,fun i x hx => ?_⟩;obtain ⟨g,o,e2,c0,c1,c2,c3⟩:=h3 i x hx;exact ⟨g,o,e2,(hb.cell (World.block_lt_of_cell? w _ c0)).trans c0,(hb.cell (World.block_lt_of_cell? w _ c1)).trans c1,(hb.cell (World.block_lt_of_cell? w _ c2)).trans c2,(hb.cell (World.block_lt_of_cell? w _ c3)).trans c3⟩
def celq (x:Cel):Nat × Rat:=(x.1,x.2.1)
def SlC (w:World) (v:Value) (l:List (Nat × Rat)):Prop:=∃ xs:List Cel,xs.map celq=l/\IsVC w v xs /\ ∀ x∈xs,IsE .u64 4294967296 w x.2
theorem SlC.below {w w':World} {v:Value} {l:List (Nat × Rat)} (h:SlC w v l) (hb:Below w.heap.size w w'):SlC w' v l:=by
 obtain ⟨xs,e,h1,h2⟩:=h;exact ⟨xs,e,h1.below hb,fun x hx=>(h2 x hx).below hb⟩
theorem yH3:∀ (l:List Value) (k:Nat) (x y z:Value),k+3<=l.length->((l.set k x).set (k+1) y).set (k+2) z=l.take k ++ [x,y,z] ++ l.drop (k+3)
  | [],k,x,y,z,h=>by simp at h
  | a :: l, k + 1, x, y, z, h => by
    have ih:=yH3 l k x y z (by simpa using h);rw [zA1,zA1,zA1,ih];simp
  | a :: l, 0, x, y, z, h => by
    match l,h with
    | b :: c :: l,_=>simp
    | [b],h=>simp at h
    | [],h=>simp at h
theorem jC6 {w:World} {g n i:Nat} {qs:List Rat} {q:Rat} {u t:Value} (h:zD8 w g n qs) (hi:i<n) (hu:IsS w .u64 u (digs 4294967296 q.num.natAbs)) (ht:IsS w .u64 t (digs 4294967296 q.den)) :
  w.grownBy (((w.setCell ⟨g,0+i*3,none⟩ (.bool (ngB q.num))).setCell ⟨g,0+i*3+1,none⟩ u).setCell ⟨g,0+i*3+2,none⟩ t) (some g)/\(i=qs.length->zD8 (((w.setCell ⟨g,0+i*3,none⟩ (.bool (ngB q.num))).setCell ⟨g,0+i*3+1,none⟩ u).setCell ⟨g,0+i*3+2,none⟩ t) g n (qs ++ [q]))/\(i<qs.length->zD8 (((w.setCell ⟨g,0+i*3,none⟩ (.bool (ngB q.num))).setCell ⟨g,0+i*3+1,none⟩ u).setCell ⟨g,0+i*3+2,none⟩ t) g n (qs.set i q)):=by
 have hg:w.grownBy (((w.setCell ⟨g,0+i*3,none⟩ (.bool (ngB q.num))).setCell ⟨g,0+i*3+1,none⟩ u).setCell ⟨g,0+i*3+2,none⟩ t) (some g) :=
  ((zE7 w g (0+i*3) _).andThen (zE7 _ g (0+i*3+1) _) (fun j e => .inr e)).andThen (zE7 _ g (0+i*3+2) _) (fun j e => .inr e)
 have hsz:∀ cs,Blk w g 83 cs->cs.size=n*3:=fun cs hcs=>by
  obtain ⟨ps,h1,_,h3,_⟩:=h;unfold Blk at h3 hcs;rw [h3] at hcs;injection hcs with hcs;injection hcs with hcs;rw [<- hcs,List.size_toArray,qG4,h1]
 refine ⟨hg,h.put hi hu ht hg fun cs hcs => ?_⟩;have h1:=zS4 (zS4 (zS4 hcs (i:=0+i*3) (.bool (ngB q.num))) (i:=0+i*3+1) u) (i:=0+i*3+2) t;have h2:=hsz cs hcs;obtain ⟨l⟩:=cs
 have e:(((⟨l⟩:Array Value).setIfInBounds (0+i*3) (.bool (ngB q.num))).setIfInBounds (0+i*3+1) u).setIfInBounds (0+i*3+2) t=(l.take (0+i*3) ++ [.bool (ngB q.num),u,t] ++ l.drop (0+i*3+3)).toArray:=by
  rw [<- yH3 l (0+i*3) (.bool (ngB q.num)) u t (by simp at h2;omega)];simp
 rw [e] at h1;exact h1
theorem zD8.places {w:World} {g n i:Nat} {qs:List Rat} (h:zD8 w g n qs) (hi:i<n):∃ x y z,w.cell? ⟨g,0+i*3,none⟩=some x/\w.cell? ⟨g,0+i*3+1,none⟩=some y/\w.cell? ⟨g,0+i*3+2,none⟩=some z/\w.frozen? ⟨g,0+i*3,none⟩=false/\w.frozen? ⟨g,0+i*3+1,none⟩=false/\w.frozen? ⟨g,0+i*3+2,none⟩=false:=by
 obtain ⟨ps,h1,h2,h3,h4,h5⟩:=h;obtain ⟨f0,f1,f2⟩:=qK9 ps i _ (zA3 (by omega));rw [Nat.zero_add];exact ⟨_,_,_,by rw [h3.cell,List.getElem?_toArray];exact f0,by rw [h3.cell,List.getElem?_toArray];exact f1,by rw [h3.cell,List.getElem?_toArray];exact f2,h3.frozen _,h3.frozen _,h3.frozen _⟩
theorem jC7 {w:World} {g n i:Nat} {qs:List Rat} {q:Rat} {u t:Value} (h:zD8 w g n qs) (hi:i<n) (hu:IsS w .u64 u (digs 4294967296 q.num.natAbs)) (ht:IsS w .u64 t (digs 4294967296 q.den)) :
  w.grownBy (((w.setCell ⟨g,i*3,none⟩ (.bool (ngB q.num))).setCell ⟨g,i*3+1,none⟩ u).setCell ⟨g,i*3+2,none⟩ t) (some g)/\(i=qs.length->zD8 (((w.setCell ⟨g,i*3,none⟩ (.bool (ngB q.num))).setCell ⟨g,i*3+1,none⟩ u).setCell ⟨g,i*3+2,none⟩ t) g n (qs ++ [q]))/\(i<qs.length->zD8 (((w.setCell ⟨g,i*3,none⟩ (.bool (ngB q.num))).setCell ⟨g,i*3+1,none⟩ u).setCell ⟨g,i*3+2,none⟩ t) g n (qs.set i q)):=by
 have h1:=jC6 h hi hu ht;rw [Nat.zero_add] at h1;exact h1
theorem zD8.place {w:World} {g n i:Nat} {qs:List Rat} (h:zD8 w g n qs) (hi:i<n):∃ x y z,w.cell? ⟨g,i*3,none⟩=some x/\w.cell? ⟨g,i*3+1,none⟩=some y/\w.cell? ⟨g,i*3+2,none⟩=some z/\w.frozen? ⟨g,i*3,none⟩=false/\w.frozen? ⟨g,i*3+1,none⟩=false/\w.frozen? ⟨g,i*3+2,none⟩=false:=by
 have h1:=h.places hi;rw [Nat.zero_add] at h1;exact h1
theorem indexN {P:Program} {t e:TypeId} (hu:P.underlying t=some (.slice e)) (hs:(P.info? e).map (·.size)=some 3) {g n c k:Nat} (hk:k<n) (w:World):(Instr.indexAt t (.slice (some ⟨g,0,none⟩) n c) (.int .i64 (k:Int))).run P w=.ok (.pointer (some ⟨g,k*3,none⟩)) w:=by
 have h:=zI9 (P:=P) hu hs (g:=g) (o:=0) (c:=c) hk w;rw [Nat.zero_add] at h;exact h
theorem zD8.away {w w':World} {g g2 n n2:Nat} {qs qs2:List Rat} (h:zD8 w g n qs) (h2:zD8 w g2 n2 qs2) (hg:w.grownBy w' (some g2)) (hne:g≠g2):zD8 w' g n qs:=by
 obtain ⟨ps,h1,_,h3,h4,_⟩:=h2;exact h.offb h3 (yG0 h4) hg hne
end Go.Proofs.YtagaabooccnamaaGreat.rat
namespace Go.Proofs.YtagaabooccnamaaGreat.rat
open Go.RowKit Go.ChangeShapes Go.WideShapes Go.ChangeAt Go.Joins Go.Deep num mem nat txt str flow whl
def zS5 (w:World) (v:Value):Prop:=∃ A n c,v=.slice A n c/\n<=c/\c<=maxLen /\ ∀ i,i<n -> ∃ ad u,A=some ad/\w.cell? (ad.add i)=some u/\zY8 w u
theorem zS5.below {w w':World} {v:Value} (h:zS5 w v) (hb:Below w.heap.size w w'):zS5 w' v:=by
 obtain ⟨A,n,c,e,h1,h2,h3⟩:=h;refine ⟨A,n,c,e,h1,h2,fun i hi => ?_⟩;obtain ⟨ad,u,a1,e0,k⟩:=h3 i hi;exact ⟨ad,u,a1,(hb.cell (World.block_lt_of_cell? w _ e0)).trans e0,zY8.below k hb⟩
theorem trod_qs {H:Type} {enc:TypeId × Value->H} {P:Program} {W:World} {fuel:Nat} {ts t e:TypeId} {f0 f1 g0 g1:Field} {v:Value} {x:DataW H × List MemPlace} (ht:P.underlying ts=some (.slice t)) (hs:P.underlying t=some (.struct #[f0,f1])) (hC:P.cellsOf t=3) (ho:(f0.offset == 0 && f1.offset == 2 && P.cellsOf f0.type == 2 && P.cellsOf f1.type == 1)=true)
    (hs2:P.underlying f0.type=some (.struct #[g0,g1])) (hone:oneCellFields P #[g0,g1]=true) (hb:P.underlying g0.type=some .bool) (hsl:P.underlying g1.type=some (.slice e)) (hsl2:P.underlying f1.type=some (.slice e)) (he:P.underlying e=some (.int .u64)) (ce:P.cellsOf e=1)
    (hf:DataW.trod enc P W 0 (fun _=>true) true fuel ts [v]=some x):zY8 W v:=by
  rcases Go.Deep.open_slice ht hf with ⟨hcs,hx⟩|⟨a,len',cap',m,n,D,Pl,hcs,_,hl,hm,hmm,hx,hrows⟩
  · injection hcs with hcs;subst hcs;exact ⟨none,0,0,rfl,by omega,by simp,fun i hi=>by omega⟩
  · injection hcs with hcs;subst hcs;refine ⟨some a,len',cap',rfl,hl,hm,fun i hi => ?_⟩;obtain ⟨cs',h1,h2⟩:=hrows i (by simp at hmm;omega);rw [hC] at h1;obtain ⟨_,hlen,hcell⟩:=World.cells?_some h1
    match cs',hlen with
    | [c0, c1, c2], _ =>
      obtain ⟨b,l,m',e0,k1,k2,k3,k4⟩:=trod_q hs ho hs2 hone hb hsl hsl2 he ce h2;subst e0;have g0:=hcell 0 (by omega);have g1:=hcell 1 (by omega);have g2:=hcell 2 (by omega);rw [add_add] at g0 g1 g2;exact ⟨a,b,c1,c2,l,m',rfl,by simpa using g0,by simpa using g1,by simpa using g2,k1,k2,k3,k4⟩
theorem arg_t {H:Type} {enc:TypeId × Value->H} {P:Program} {W:World} {base:Nat} {tt ts t e:TypeId} {f0 f1 g0 g1:Field} {v:Value} {d:DataW H} {p:List MemPlace} (htt:P.underlying tt=some (.slice ts)) (hC1:P.cellsOf ts=1) (ht:P.underlying ts=some (.slice t)) (hs:P.underlying t=some (.struct #[f0,f1])) (hC:P.cellsOf t=3) (ho:(f0.offset == 0 && f1.offset == 2 && P.cellsOf f0.type == 2 && P.cellsOf f1.type == 1)=true)
    (hs2:P.underlying f0.type=some (.struct #[g0,g1])) (hone:oneCellFields P #[g0,g1]=true) (hb:P.underlying g0.type=some .bool) (hsl:P.underlying g1.type=some (.slice e)) (hsl2:P.underlying f1.type=some (.slice e)) (he:P.underlying e=some (.int .u64)) (ce:P.cellsOf e=1)
    (hv:Value.okWide P W .any base tt v) (h:DataW.Trod enc P W 0 (fun _=>true) true tt v d p):zS5 W v:=by
  obtain ⟨a0,len,cap,rfl⟩:=okWide_slice htt hv;obtain ⟨fuel,hf⟩:=h;rcases Go.Deep.open_slice htt hf with ⟨hcs,hx⟩|⟨a,len',cap',m,n,D,Pl,hcs,_,hl,hm,hmm,hx,hrows⟩
  · simp [Value.cells] at hcs;obtain ⟨rfl,rfl,rfl⟩:=hcs;exact ⟨none,0,0,rfl,by omega,by simp,fun i hi=>by omega⟩
  · simp [Value.cells] at hcs;obtain ⟨rfl,rfl,rfl⟩:=hcs;refine ⟨some a,len,cap,rfl,hl,hm,fun i hi => ?_⟩;obtain ⟨cs',h1,h2⟩:=hrows i (by simp at hmm;omega);rw [hC1] at h1;obtain ⟨_,hlen,hcell⟩:=World.cells?_some h1
    match cs',hlen with
    | [c0], _ =>
      have g0:=hcell 0 (by omega);rw [add_add] at g0;exact ⟨a,c0,rfl,by simpa using g0,trod_qs ht hs hC ho hs2 hone hb hsl hsl2 he ce h2⟩
end Go.Proofs.YtagaabooccnamaaGreat.rat
namespace Go.Proofs.YtagaabooccnamaaGreat.rat
open Go.RowKit num mem nat txt str flow whl
section
variable {P:Program}
theorem yH4 {w:World} {ops:Array Oper} {rest:List Oper} {o:Oper} {a:Act} {Q:Exit->Act->World->Prop} (hgd:o.guard=none) (s x:Operand) {t:TypeId}
  (ho:o.op=.call { callee:=.builtin .append,args:=#[s,x],argTypes:=#[t,t] })
  {base:Nat} {T:TypeId} (hT:P.underlying t=some (.slice T)) (hI:∃ i,P.info? T=some i/\i.zero=some (.slice none 0 0)/\i.size=1/\i.bytes=24) {v u:Value} {vs:List Value} (hs:a.eval s=v) (hown:zD6 w base T v vs) (hx:a.eval x=.slice (some ⟨w.heap.size,0,none⟩) 1 1) (hu:u.oneCell'=true)
  (hlen:vs.length<=1000000000) (hbase:base<=w.heap.size)
  (h:∀ v' w',zD6 w' base T v' (vs ++ [u])->Below base w w'->Hid (zH5 w w' v v')->wpList P ops Q rest (a.put o.dst v') w'):wpList P ops Q (o :: rest) a (w.alloc (.cells #[u] T)):=by
 obtain ⟨i,hi,hz,hsz,hby⟩:=hI;refine wpList_append_lies (w.alloc (.cells #[u] T)) hgd s x t ho base T i (.slice none 0 0) 1 24 hT hi hz hsz hby rfl (by omega) v vs.length vs hs (World.ownsRow.alloc hown _) ⟨w.heap.size,0,none⟩ 1 1 [u] hx rfl ?_ ?_ (by omega) (by unfold maxLen;omega) (by omega) (by simp;omega) _ rfl ?_
 ·exact World.news_of_block (heap_alloc_new w _)
 ·intro u' hu';obtain rfl:=List.mem_singleton.1 hu';exact hu
 ·intro g cap w' g1 g2 g3 g4;have h5:w.grownBy w' v.ownBlock:=qI1 (World.grownBy_alloc w _ _) g2;refine h _ w' (by unfold zD6;rw [zA8];exact g1) ((Below.refl base w).grown h5 hbase hown.base_le) ?_;refine ⟨?_,h5,fun k hk hne e1 => ?_⟩
  ·intro k q l hq hf;refine ⟨hq.farKept hf h5,?_⟩;rintro ad n c rfl hn;rcases g3 with h3 | h3
   ·have:=hf ad n c rfl hn
    rw [h3] at this;exact this
   ·subst h3;intro e1;have e2:ad.block=(w.alloc (.cells #[u] T)).heap.size:=by simpa [Value.ownBlock] using e1
    obtain ⟨A,c',e3,k1,k2,k3⟩:=hq;injection e3 with e3 e4 e5;subst e3;subst e4;obtain ⟨ad',he,hc⟩:=k3 0 _ (zA3 hn);injection he with he;subst he;have h6:=World.block_lt_of_cell? w _ hc;rw [Go.ChangeShapes.block_add] at h6;simp at e2;omega
  ·have e2:g=k:=by simpa [Value.ownBlock] using e1
   subst e2;rcases g3 with h3 | h3
   ·exact hne h3
   ·simp at h3;omega
end
def RetFewW (n:Nat) (w:World) (e:Ending) (w':World):Prop:=∃ V U ps rs,e=.returned (.tuple #[V,U])/\zP7 w w' V U ps rs/\zI7 w.heap.size ps/\zI7 w.heap.size rs/\rs.map (·.1)=ps.map (·.1)/\ps.length=n/\(∀ p∈ps,zC6 p.1 1)
theorem jC8 (A0:Option Addr) (n0 c0 M:Nat) (w:World) (h0:zY8 w (.slice A0 n0 c0)) (hM:M<=8) :
  Calls prog 19 #[.slice A0 n0 c0,.int .i64 (M:Int)] w (RetFewW (min n0 M) w):=by
 obtain ⟨A0_,n0_,c0_,e_,hn0,hc0,hel⟩:=h0;injection e_ with e1_ e2_ e3_;subst e1_;subst e2_;subst e3_;have HEL:=hQ9 hel;clear hel;unfold maxLen at hc0;have bb:Below w.heap.size w w:=Below.refl _ _
 go_enter func19,ntmps19
 go_wp2
 go_loopw [6,7,8] (fun v4 v5 v6 wr => ∃ (k:Nat) (ps rs:List Elt),k<=M/\k<=n0/\Hid (ps.length=k)/\Hid (rs.map (·.1)=ps.map (·.1))/\Hid (∀ p∈ps,zC6 p.1 1)/\zP7 w wr v4 v5 ps rs/\zI7 w.heap.size ps/\zI7 w.heap.size rs/\v6=.int .i64 (k:Int)) (fun _ _ v6 _=>M-(intOf v6).toNat)
 case atStart =>
  have r0:=qF4 83 w w.heap.size (zB4 _);have r1:=qF4 65 (w.alloc (.cells #[] 83)) w.heap.size (by simp);have r0':=r0.below (zD1 (zB4 _) (.cells #[] 65));refine ⟨0,[],[],by omega,by omega,rfl,rfl,(by show ∀ p∈_,_;intro p hp;cases hp),⟨r0',?_,⟨zH0.nil _ _ _ _,zH0.nil _ _ _ _⟩,⟨zH0.nil _ _ _ _,zH0.nil _ _ _ _⟩,?_,(zD1 (zB4 _) _).alloc (by simp) _⟩,zI7.nil _,zI7.nil _,rfl⟩
  ·simpa using r1
  ·intro g h1 h2;simp [Value.ownBlock] at h1 h2;omega
 case round =>
  obtain ⟨k,ps,rs,hk8,hkn,HPL,HRP,HLQ,hTR,hNP,hNR,rfl⟩:=hrel;obtain ⟨u4,hu4⟩:∃ u4,u4=u6:=⟨_,rfl⟩;obtain ⟨u5,hu5⟩:∃ u5,u5=u7:=⟨_,rfl⟩;subst hu4;subst hu5;have bb':=hTR.2.2.2.2.2;clear bb;have bb:=bb';clear bb';by_cases hlt:k<n0/\k<M
  ·obtain ⟨hlt1,hlt2⟩:=hlt;obtain ⟨ad,b,ue,te,l,m,hA0,e0,e1,e2,hu,lu,ht,lt⟩:=HEL.out k hlt1;subst hA0;obtain ⟨Ae,ce,rfl,_⟩:=id hu;obtain ⟨De,ee,rfl,_⟩:=id ht;replace e0:=(bb.cell (World.block_lt_of_cell? w _ e0)).trans e0;replace e1:=(bb.cell (World.block_lt_of_cell? w _ e1)).trans e1;replace e2:=(bb.cell (World.block_lt_of_cell? w _ e2)).trans e2;replace hu:=hu.below bb;replace ht:=ht.below bb;obtain ⟨q,hq⟩:∃ q,q=qF5 b l m 1:=⟨_,rfl⟩;have lq:zC6 q 1:=by rw [hq];exact yX _ _ _ (by omega)
   have HQ:=hQ9 hq.symm;clear hq;have bl:Below wr.heap.size wr wr:=Below.refl _ _;have hszr:=bb.size;go_upto_region 5 with (fail);refine zC9 6 [Pd.eq (.slice (some ad) n0 c0),Pd.eq (.int .i64 (k:Int)),Pd.eq (.pointer (some (ad.add (k*3)))),Pd.eq (.agg #[.bool b,.slice Ae l.length ce,.slice De m.length ee]),pq (q) wr.heap.size,pn 83 #[.bool false,.slice none 0 0,.slice none 0 0] wr.heap.size] (by kernel_rfl) ?ob1 ?done1
   case ob1 =>
    refine zA (zC2 rfl (zB7 rfl) (zB9 rfl rfl) (fun _ _ h=>h)) ?_;refine zA (zC2 rfl (zB7 rfl) (zB9 rfl rfl) (fun _ _ h=>h)) ?_;refine zA (zI0 rfl (zB7 rfl) (zB8 (j:=0) (by kernel_rfl) rfl rfl) (zB8 (j:=1) (by kernel_rfl) rfl rfl) (fun _ _ _ hx hy=>⟨_,by rw [hx,hy];exact yX7 underlying44 (by kernel_rfl) ad hlt1 _,rfl⟩)) ?_;refine zA (zC rfl (zB7 rfl) (zB8 (j:=2) (by kernel_rfl) rfl rfl) (fun w2 hb=>yX8 underlying83 rfl (by kernel_rfl) ((hb.cell (World.block_lt_of_cell? wr _ e0)).trans e0) ((hb.cell (World.block_lt_of_cell? wr _ e1)).trans e1) ((hb.cell (World.block_lt_of_cell? wr _ e2)).trans e2)) (fun _ _=>rfl)) ?_;refine zA (zD0 rfl func51 (by kernel_rfl) (zB7 rfl) (zB8 (j:=3) (by kernel_rfl) rfl rfl) (zG2 _) (fun w2 u0 u1 hb h0 h1=>by obtain rfl:=h0;obtain rfl:=h1;exact (HQ.out ▸ yX0 b _ _ l m 1 1 _ rfl (hu.below hb) lu (ht.below hb) lt (by omega) (by omega)).mono fun e w3 h=>RetQ.pd h hb.size)) ?_;refine zA (zN2 (z:=.agg #[.bool false,.slice none 0 0,.slice none 0 0]) rfl rfl (fun _=>by kernel_rfl) (fun _ _ hB h=>⟨_,rfl,hB,h⟩)) ?_
    trivial
   case done1 =>
    refine fun w2 hb2 v0 h0 v1 h1 v2 h2 v3 h3 v4 h4 v5 h5 d5 b hbf => ?_;obtain rfl:=h0;obtain rfl:=h1;obtain rfl:=h2;obtain rfl:=h3;obtain ⟨q4,f4⟩:=h4;obtain ⟨g1_5,rfl,hg5,B5⟩:=h5;simp only [Act.put,zA0,zA2,zA1] at hbf;subst hbf;replace bb:=bb.trans (hb2.mono bb.size);have hsz2:=bb.size;replace bl:=bl.trans (hb2.mono bl.size);have BA9:=B5;obtain ⟨u4,t4,rfl,q4,d4⟩:=q4;obtain ⟨A7,c7,rfl,_⟩:=id q4;obtain ⟨D7,e7,rfl,_⟩:=id d4;refine zI5 (i:=6) rfl rfl rfl rfl rfl rfl (cells:=[.bool (ngB (q).num),.slice A7 (digs 4294967296 (q).num.natAbs).length c7,.slice D7 (digs 4294967296 (q).den).length e7]) rfl BA9 rfl (by kernel_rfl) (zI6 rfl rfl rfl) fun w3 hg3 BN3 => ?_;replace q4:=off q4 BA9 zE0 hg3;replace d4:=off d4 BA9 zE0 hg3;replace bb:=bb.trans ((Below.refl _ _).grown hg3 bb.size (fun g hg=>by injection hg with hg;omega));have hsz3:=bb.size;have B7:Blk w3 (g1_5) _ _:=BN3;have k7s:=q4;have k7d:=d4;have k7z:IsZ w3 (.agg #[.bool (ngB (q).num),.slice A7 (digs 4294967296 (q).num.natAbs).length c7]) ((q).num):=⟨_,rfl,k7s⟩;have k7:IsQ w3 (.agg #[.bool (ngB (q).num),.slice A7 (digs 4294967296 (q).num.natAbs).length c7,.slice D7 (digs 4294967296 (q).den).length e7]) (q):=⟨_,_,rfl,k7s,k7d⟩;have hq_:=bl.size;replace bl:=bl.trans ((Below.refl _ _).grown hg3 bl.size (fun g hg=>by injection hg with hg;omega));clear hq_;refine zD ?_;have g1:=(f4 _ _ _ rfl).1;have g2:=(f4 _ _ _ rfl).2;have under4:=hTR.1.under;have under5:=hTR.2.1.under;have far4:Far u4 (.slice A7 (digs 4294967296 (q).num.natAbs).length c7)/\Far u4 (.slice D7 (digs 4294967296 (q).den).length e7):=⟨g1.far under4,g2.far under4⟩;have far5:Far u5 (.slice A7 (digs 4294967296 (q).num.natAbs).length c7)/\Far u5 (.slice D7 (digs 4294967296 (q).den).length e7):=⟨g1.far under5,g2.far under5⟩;have hT2:=hTR.below bl;have HT2:=hQ9 hT2;have hr4:zD4 83 w3 w.heap.size u4 ps:=hT2.1;have hszT:w.heap.size<=w3.heap.size:=hT2.2.2.2.2.2.size;have hne4:u4.ownBlock≠some g1_5:=fun e=>by have:=under4 _ e;omega
    obtain ⟨x70,x71,x72,_,_,_⟩:=three B7;obtain ⟨P1,hP1⟩:∃ P1:Elt,P1=(q,.slice A7 (digs 4294967296 (q).num.natAbs).length c7,.slice D7 (digs 4294967296 (q).den).length e7):=⟨_,rfl⟩;have HP1:=hQ9 hP1;have k7d_:IsE .u64 4294967296 w3 (q,.slice A7 (digs 4294967296 (q).num.natAbs).length c7,.slice D7 (digs 4294967296 (q).den).length e7):=⟨k7s,k7d⟩;have lq3:zC6 q 30000:=⟨zB5 lq.1 (by decide),zB5 lq.2 (by decide)⟩
    have HL8:Hid (ps.length<=1000000000/\rs.length<=1000000000):=by
     have h1:=HPL.out;have h2:=congrArg List.length HRP.out;rw [zA9,zA9] at h2;exact ⟨by omega,by omega⟩
    clear hT2 hTR e0 e1 e2 hu ht lu lt hP1;obtain ⟨cA0,cA1,cA2⟩:=qR6 w3 83 (.bool (ngB (q).num)) (.slice A7 (digs 4294967296 (q).num.natAbs).length c7) (.slice D7 (digs 4294967296 (q).den).length e7);have bA:=zD1 (w:=w3) (zB4 _) (.cells #[.bool (ngB (q).num),.slice A7 (digs 4294967296 (q).num.natAbs).length c7,.slice D7 (digs 4294967296 (q).den).length e7] 83);obtain ⟨wA,hwA⟩:∃ wA,wA=w3.alloc (.cells #[.bool (ngB (q).num),.slice A7 (digs 4294967296 (q).num.natAbs).length c7,.slice D7 (digs 4294967296 (q).den).length e7] 83):=⟨_,rfl⟩;have HWA:=hQ9 hwA;rw [<- hwA] at cA0 cA1 cA2 bA;replace bA:=bA.drew;have rA:=hr4.below bA;have eA:=k7d_.below bA;have tA:=HT2.out.below bA;have BA_:=B7.below bA;have hszA:w.heap.size<=wA.drew.heap.size:=tA.2.2.2.2.2.size;have TA:=hQ9 tA;clear tA;subst hwA;obtain ⟨xA0,xA1,xA2,_,_,_⟩:=three BA_;go_upto_region 6 with (fail)
    go_region_law (first
     | (refine yE2 rfl (.tmp 28) (.tmp 30) rfl underlying44 zV9 (v:=u4) (p:=(q,.slice A7 (digs 4294967296 (q).num.natAbs).length c7,.slice D7 (digs 4294967296 (q).den).length e7)) (ps:=ps) (by rfl) (by exact rA) (ad:=⟨w3.heap.size,0,none⟩) (c:=1) (by rfl) (by exact cA0) (by exact cA1) (by exact cA2) rfl rfl HL8.out.1 (by exact hszA) ?_;intro v5 w5 row5 bb5 HK5;have T5:=hQ9 (TA.out.one row5 HK5.out bb5 eA far4 far5);have s5:=(HK5.out.1 _ _ _ eA.1 far4.1).1;have d5:=(HK5.out.1 _ _ _ eA.2 far4.2).1;have B5_:=BA_.other HK5.out.2.1 hne4;obtain ⟨x50,x51,x52,_,_,_⟩:=three B5_)
     | (go_simp;go_at_call 52;refine (jA0 _ q _ ⟨_,_,rfl,(by exact s5),(by exact d5)⟩ lq3).mono ?_;rintro e w6 ⟨v6,rfl,k6,f6,b6⟩;have T6:=hQ9 (T5.out.below b6);have row6:=T6.out.2.1;obtain ⟨u6,t6,rfl,q6,d6⟩:=k6;obtain ⟨A6,c6,rfl,_⟩:=id q6;obtain ⟨D6,e6,rfl,_⟩:=id d6;have hsz6:w.heap.size<=w6.heap.size:=T6.out.2.2.2.2.2.size;obtain ⟨cC0,cC1,cC2⟩:=qR6 w6 65 (.bool (ngB (q).num)) (.slice A6 (digs 10000 (q).num.natAbs).length c6) (.slice D6 (digs 10000 (q).den).length e6);have rC:=row6.below (zD1 (zB4 _) (.cells #[.bool (ngB (q).num),.slice A6 (digs 10000 (q).num.natAbs).length c6,.slice D6 (digs 10000 (q).den).length e6] 65));have hszC:=zB5 hsz6 (zD1 (w:=w6) (zB4 _) (.cells #[.bool (ngB (q).num),.slice A6 (digs 10000 (q).num.natAbs).length c6,.slice D6 (digs 10000 (q).den).length e6] 65)).size)
     | (refine yE2 rfl (.tmp 32) (.tmp 35) rfl underlying45 zY7 (v:=u5) (p:=(q,.slice A6 (digs 10000 (q).num.natAbs).length c6,.slice D6 (digs 10000 (q).den).length e6)) (ps:=rs) (by rfl) (by exact rC) (ad:=⟨w6.heap.size,0,none⟩) (c:=1) (by rfl) (by exact cC0) (by exact cC1) (by exact cC2) rfl rfl HL8.out.2 (by exact hszC) ?_;intro v7 w7 row7 bb7 HK7))
    all_goals
     have ba6:=zD1 (w:=w6) (zB4 _) (.cells #[.bool (ngB (q).num),.slice A6 (digs 10000 (q).num.natAbs).length c6,.slice D6 (digs 10000 (q).den).length e6] 65);have TC:=T6.out.below ba6;have EC:IsE .i64 10000 (w6.alloc (.cells #[.bool (ngB (q).num),.slice A6 (digs 10000 (q).num.natAbs).length c6,.slice D6 (digs 10000 (q).den).length e6] 65)) (q,.slice A6 (digs 10000 (q).num.natAbs).length c6,.slice D6 (digs 10000 (q).den).length e6):=⟨q6.below ba6,d6.below ba6⟩;have j1:=(f6 _ _ _ rfl).1;have j2:=(f6 _ _ _ rfl).2;have n4:=T5.out.1.under;have n5:=T5.out.2.1.under;have T7:=TC.two row7 HK7.out bb7 EC ⟨j1.far n4,j2.far n4⟩ ⟨j1.far n5,j2.far n5⟩;have NP7:=hNP.snoc (p:=(q,.slice A7 (digs 4294967296 (q).num.natAbs).length c7,.slice D7 (digs 4294967296 (q).den).length e7)) (g1.mono hszr) (g2.mono hszr);have hs5:w.heap.size<=w5.heap.size:=T5.out.2.2.2.2.2.size;have NR7:=hNR.snoc (p:=(q,.slice A6 (digs 10000 (q).num.natAbs).length c6,.slice D6 (digs 10000 (q).den).length e6)) (j1.mono hs5) (j2.mono hs5);have HPL7:Hid ((ps ++ [((q,.slice A7 (digs 4294967296 (q).num.natAbs).length c7,.slice D7 (digs 4294967296 (q).den).length e7):Elt)]).length=k+1):=by show _=_;rw [zA8,HPL.out];rfl
     have HRP7:Hid ((rs ++ [((q,.slice A6 (digs 10000 (q).num.natAbs).length c6,.slice D6 (digs 10000 (q).den).length e6):Elt)]).map (·.1)=(ps ++ [((q,.slice A7 (digs 4294967296 (q).num.natAbs).length c7,.slice D7 (digs 4294967296 (q).den).length e7):Elt)]).map (·.1)):=by show _=_;rw [List.map_append,List.map_append,HRP.out];rfl
     have HLQ7:Hid (∀ p∈ps ++ [((q,.slice A7 (digs 4294967296 (q).num.natAbs).length c7,.slice D7 (digs 4294967296 (q).den).length e7):Elt)],zC6 p.1 1):=fun p hp=>by
      rcases List.mem_append.1 hp with hp | hp
      ·exact HLQ.out p hp
      ·rw [List.mem_singleton.1 hp];exact lq
     have hme:M-(k+1)<M-k:=by omega
     go_wp2;go_roundw;case rel=>exact ⟨k+1,_,_,by omega,by omega,HPL7,HRP7,HLQ7,T7,NP7,NR7,rfl⟩
     case measure=>exact hme
  ·have HEND:Hid (zP7 w wr u4 u5 ps rs/\zI7 w.heap.size ps/\zI7 w.heap.size rs/\rs.map (·.1)=ps.map (·.1)/\ps.length=min n0 M/\(∀ p∈ps,zC6 p.1 1)):=⟨hTR,hNP,hNR,HRP.out,by rw [HPL.out];omega,HLQ.out⟩;clear hTR HRP HLQ HPL hNP hNR;have hx:¬ k<n0\/(k<n0 /\ ¬ k<M):=by omega
   rcases hx with hx | ⟨hx1,hx2⟩
   all_goals
    go_wp2;go_ret2;exact ⟨_,_,ps,rs,rfl,HEND.out.1,HEND.out.2.1,HEND.out.2.2.1,HEND.out.2.2.2.1,HEND.out.2.2.2.2.1,HEND.out.2.2.2.2.2⟩
theorem zD4.weak {T:TypeId} {w:World} {base base':Nat} {v:Value} {ps:List Elt} (h:zD4 T w base v ps) (hb:base'<=base):zD4 T w base' v ps:=by
 refine ⟨h.1,?_⟩;rcases h.2 with h2 | ⟨g,cap,cur,e,h1,h2⟩
 ·exact .inl h2
 ·exact .inr ⟨g,cap,cur,e,zB5 hb h1,h2⟩
theorem yH5:∀ (ps:List Elt) (m:Nat),zF1 (ps.take m)=(zF1 ps).take (m*3)
  | [],m=>by simp [zF1]
  | p :: ps,0=>by simp [zF1]
  | p :: ps, m + 1 => by
    rw [List.take_succ_cons,zZ1,zZ1,yH5 ps m,show (m+1)*3=m*3+3 from by omega,List.take_append,qT2,zA7 (l:=zL0 p) (by rw [qT2];omega),Nat.add_sub_cancel]
theorem zD4.take {T:TypeId} {w:World} {base n c m:Nat} {A:Option Addr} {ps:List Elt} (h:zD4 T w base (.slice A n c) ps) (hm:m<=ps.length):zD4 T w base (.slice A m c) (ps.take m):=by
 have hl:(ps.take m).length=m:=by rw [zB2];omega
 unfold zD4;rw [hl];refine ⟨by rw [qG4,hl],?_⟩;rcases h.2 with ⟨e,h0⟩|⟨g,cap,cur,e,h1,h2,h3,h4,h5,h6⟩
 ·injection e with e1 e2 e3;subst e1;subst e3;have:m=0:=by omega
  subst this;exact .inl ⟨rfl,rfl⟩
 ·injection e with e1 e2 e3;subst e1;subst e3;refine .inr ⟨g,c,cur,rfl,h1,h2,by omega,h4,h5,?_⟩;rw [yH5,<- h6,List.take_take,Nat.min_eq_left (by omega)]
structure TabK (T:TypeId) (w:World) (base:Nat) (TS:TypeId) (V:Value) (us:List Value) (pss:List (List Elt)):Prop where
 row:zD6 w base TS V us
 len:us.length=pss.length
 own:∀ (i:Nat) (u:Value) (ps:List Elt),us[i]?=some u->pss[i]?=some ps->zD4 T w base u ps
 apart:∀ (i j:Nat) (u v:Value),i≠j->us[i]?=some u->us[j]?=some v -> ∀ h,u.ownBlock=some h->v.ownBlock≠some h
theorem TabO.k {k:IntKind} {B:Nat} {T:TypeId} {w:World} {base:Nat} {TS:TypeId} {V:Value} {us:List Value} {pss:List (List Elt)} (h:TabO k B T w base TS V us pss):TabK T w base TS V us pss:=⟨h.row,h.len,h.own,h.apart⟩
theorem TabK.mem {T:TypeId} {w:World} {base:Nat} {TS:TypeId} {V:Value} {us:List Value} {pss:List (List Elt)} (h:TabK T w base TS V us pss) {u:Value} (hu:u∈us):∃ ps,zD4 T w base u ps:=by
 obtain ⟨i,hi⟩:=List.mem_iff_getElem?.1 hu;have hp:pss[i]?=some (pss[i]'(by rw [<- h.len];exact (zA4.1 hi).1)):=zA3 _;exact ⟨_,h.own i u _ hi hp⟩
theorem zD6.kept {w w':World} {base:Nat} {TS:TypeId} {V:Value} {us:List Value} {row:Option Nat} (h:zD6 w base TS V us) (hg:w.grownBy w' row) (hV:∀ g,V.ownBlock=some g->row≠some g):zD6 w' base TS V us :=
 World.ownsRow.kept (row:=row) h hg (by
  cases hv:V.ownBlock with
  | none=>exact .inl rfl
  | some g=>exact .inr fun e=>hV g hv e.symm)
theorem TabK.kept {T:TypeId} {w w':World} {base:Nat} {TS:TypeId} {V:Value} {us:List Value} {pss:List (List Elt)} {row:Option Nat} (h:TabK T w base TS V us pss) (hg:w.grownBy w' row) (hV:∀ g,V.ownBlock=some g->row≠some g) (hu:∀ u∈us,∀ g,u.ownBlock=some g->row≠some g):TabK T w' base TS V us pss :=
 ⟨zD6.kept h.row hg hV,h.len,fun i u ps hi hp=>(h.own i u ps hi hp).other hg (fun g e=>hu u (zA5 hi) g e),h.apart⟩
theorem TabK.below {T:TypeId} {w w':World} {base:Nat} {TS:TypeId} {V:Value} {us:List Value} {pss:List (List Elt)} (h:TabK T w base TS V us pss) (hb:Below w.heap.size w w'):TabK T w' base TS V us pss :=
 ⟨h.row.below hb,h.len,fun i u ps hi hp=>(h.own i u ps hi hp).below hb,h.apart⟩
theorem TabO.kept {k:IntKind} {B:Nat} {T:TypeId} {w w':World} {base:Nat} {TS:TypeId} {V:Value} {us:List Value} {pss:List (List Elt)} {row:Option Nat} (h:TabO k B T w base TS V us pss) (hg:w.grownBy w' row) (hV:∀ g,V.ownBlock=some g->row≠some g) (hu:∀ u∈us,∀ g,u.ownBlock=some g->row≠some g)
  (hf:∀ ps∈pss,∀ p∈ps,(∀ ad n c,p.2.1=.slice (some ad) n c->0<n->some ad.block≠row)/\(∀ ad n c,p.2.2=.slice (some ad) n c->0<n->some ad.block≠row)):TabO k B T w' base TS V us pss:=by
 have hk:=h.k.kept hg hV hu;refine ⟨hk.row,hk.len,hk.own,fun u hu' ps hp p hpp => ?_,fun ps hp p hpp => ?_,hk.apart⟩
 ·obtain ⟨e1,f1⟩:=h.far u hu' ps hp p hpp;exact ⟨⟨e1.1.farKept (hf ps hp p hpp).1 hg,e1.2.farKept (hf ps hp p hpp).2 hg⟩,f1⟩
 ·obtain ⟨e1,f1⟩:=h.farV ps hp p hpp;exact ⟨⟨e1.1.farKept (hf ps hp p hpp).1 hg,e1.2.farKept (hf ps hp p hpp).2 hg⟩,f1⟩
theorem TabO.snoc {k:IntKind} {B:Nat} {T:TypeId} {w w':World} {base:Nat} {TS:TypeId} {V V' u:Value} {us:List Value} {pss:List (List Elt)} {ps:List Elt} (hT:T≠TS) (h:TabO k B T w base TS V us pss) (hrow:zD6 w' base TS V' (us ++ [u])) (hg:zH5 w w' V V') (hu:zD4 T w base u ps)
  (hap:∀ v∈us,∀ g,v.ownBlock=some g->u.ownBlock≠some g) (hf1:zH0 k B w u ps) (hf2:∀ v∈us,∀ p∈ps,Far v p.2.1/\Far v p.2.2) (hf3:∀ p∈ps,Far V p.2.1/\Far V p.2.2) (hf4:∀ qs∈pss,∀ p∈qs,Far u p.2.1/\Far u p.2.2):TabO k B T w' base TS V' (us ++ [u]) (pss ++ [ps]):=by
 obtain ⟨k1,k2,k3⟩:=hg;have hlen:=h.len;have own':∀ {v:Value} {qs:List Elt},zD4 T w base v qs->zD4 T w' base v qs:=fun r=>r.other k2 fun g e e2=>r.notRow h.row hT g e e2
 have at_:∀ {i:Nat} {v:Value},(us ++ [u])[i]?=some v->(us[i]?=some v/\i<us.length)\/(i=us.length/\v=u):=by
  intro i v hi;by_cases hl:i<us.length
  ·rw [zB0 hl] at hi;exact .inl ⟨hi,hl⟩
  ·rw [List.getElem?_append_right (by omega)] at hi;rcases hj:i-us.length with _ | j
   ·rw [hj] at hi;refine .inr ⟨by omega,?_⟩;simpa using hi.symm
   ·rw [hj] at hi;simp at hi
 have all:∀ qs∈pss ++ [ps],∀ p∈qs,(IsE k B w' p/\Far V' p.2.1/\Far V' p.2.2)/\(∀ v∈us,Far v p.2.1/\Far v p.2.2)/\Far u p.2.1/\Far u p.2.2:=by
  intro qs hqs p hp
  have main:IsE k B w p->Far V p.2.1->Far V p.2.2->IsE k B w' p/\Far V' p.2.1/\Far V' p.2.2:=fun a b c=>by
   have x1:=k1 _ _ _ a.1 b;have x2:=k1 _ _ _ a.2 c;exact ⟨⟨x1.1,x2.1⟩,x1.2,x2.2⟩
  rcases List.mem_append.1 hqs with hqs | hqs
  ·obtain ⟨e1,f1,f2⟩:=h.farV qs hqs p hp;exact ⟨main e1 f1 f2,fun v hv=>(h.far v hv qs hqs p hp).2,hf4 qs hqs p hp⟩
  ·rw [List.mem_singleton.1 hqs] at hp;obtain ⟨e1,f1,f2⟩:=hf1 p hp;exact ⟨main e1 (hf3 p hp).1 (hf3 p hp).2,fun v hv=>hf2 v hv p hp,f1,f2⟩
 refine ⟨hrow,by rw [zA8,zA8,hlen];rfl,fun i v qs hv hq => ?_,fun v hv qs hqs p hp => ?_,fun qs hqs p hp=>(all qs hqs p hp).1,fun i j a b hij ha hb g hga hgb => ?_⟩
 ·rcases at_ hv with ⟨hv,hl⟩|⟨rfl,rfl⟩
  ·rw [zB0 (by omega)] at hq;exact own' (h.own i v qs hv hq)
  ·rw [List.getElem?_append_right (by omega),hlen,Nat.sub_self] at hq;obtain rfl:ps=qs:=by simpa using hq
   exact own' hu
 ·refine ⟨(all qs hqs p hp).1.1,?_⟩;rcases List.mem_append.1 hv with hv | hv
  ·exact (all qs hqs p hp).2.1 v hv
  ·rw [List.mem_singleton.1 hv];exact (all qs hqs p hp).2.2
 ·rcases at_ ha with ⟨ha1,hl⟩|⟨hi,rfl⟩
  ·rcases at_ hb with ⟨hb1,hl2⟩|⟨hj,rfl⟩
   ·exact h.apart i j a b hij ha1 hb1 g hga hgb
   ·exact hap a (zA5 ha1) g hga hgb
  ·rcases at_ hb with ⟨hb1,hl2⟩|⟨hj,rfl⟩
   ·exact hap b (zA5 hb1) g hgb hga
   ·exact hij (by omega)
theorem zS5.shape {w:World} {v:Value} (h:zS5 w v):∃ A n c,v=.slice A n c/\n<=c/\c<=maxLen:=by
 obtain ⟨A,n,c,e,h1,h2,_⟩:=h;exact ⟨A,n,c,e,h1,h2⟩
theorem zD6.notV {w:World} {base base':Nat} {TS TS':TypeId} {V U:Value} {us vs:List Value} (h:zD6 w base TS V us) (h':zD6 w base' TS' U vs) (hne:TS≠TS'):∀ g,V.ownBlock=some g->U.ownBlock≠some g:=by
 intro g e e2;rcases h.2 with ⟨rfl,_⟩|⟨g',cap,cur,rfl,_,hg,_⟩
 ·cases e
 ·rcases h'.2 with ⟨rfl,_⟩|⟨g2,cap2,cur2,rfl,_,hg2,_⟩
  ·cases e2
  ·have e1:g'=g:=by simpa [Value.ownBlock] using e
   have e3:g2=g:=by simpa [Value.ownBlock] using e2
   subst e1;subst e3;rw [hg] at hg2;injection hg2 with hg2;injection hg2 with _ hg2;exact hne hg2
theorem zD6.slice {w:World} {base:Nat} {TS:TypeId} {V:Value} {us:List Value} (h:zD6 w base TS V us):∃ A c,V=.slice A us.length c:=by
 rcases h.2 with ⟨e,h0⟩|⟨g,cap,cur,e,_⟩
 ·exact ⟨none,0,by rw [e,h0]⟩
 ·exact ⟨_,_,e⟩
structure TwoTabO (w wr:World) (V U:Value) (us vs:List Value) (pss qss:List (List Elt)):Prop where
 p:TabO .u64 4294967296 83 wr w.heap.size 44 V us pss
 q:TabO .i64 10000 65 wr w.heap.size 45 U vs qss
 c1:∀ ps∈pss,∀ p∈ps,(∀ v∈vs,Far v p.2.1/\Far v p.2.2)/\Far U p.2.1/\Far U p.2.2
 c2:∀ qs∈qss,∀ p∈qs,(∀ v∈us,Far v p.2.1/\Far v p.2.2)/\Far V p.2.1/\Far V p.2.2
 below:Below w.heap.size w wr
theorem TwoTabO.step {w wr w2 w3 w4:World} {V U a b V3 U4:Value} {us vs:List Value} {pss qss:List (List Elt)} {ps rs:List Elt} (h:TwoTabO w wr V U us vs pss qss) (hT:zP7 wr w2 a b ps rs) (n1:zI7 wr.heap.size ps) (n2:zI7 wr.heap.size rs) (r3:zD6 w3 w.heap.size 44 V3 (us ++ [a])) (g3:zH5 w2 w3 V V3) (b3:Below w.heap.size w2 w3) (r4:zD6 w4 w.heap.size 45 U4 (vs ++ [b])) (g4:zH5 w3 w4 U U4) (b4:Below w.heap.size w3 w4) :
  TwoTabO w w4 V3 U4 (us ++ [a]) (vs ++ [b]) (pss ++ [ps]) (qss ++ [rs]):=by
 obtain ⟨t1,t2,⟨t3,t4⟩,⟨t5,t6⟩,t7,b2⟩:=hT;have hw:w.heap.size<=wr.heap.size:=h.below.size
 have pu:∀ v∈us,∀ g,v.ownBlock=some g->g<wr.heap.size:=fun v hv g e=>by
  obtain ⟨qs,hq⟩:=h.p.k.mem hv;exact hq.under g e
 have qu:∀ v∈vs,∀ g,v.ownBlock=some g->g<wr.heap.size:=fun v hv g e=>by
  obtain ⟨qs,hq⟩:=h.q.k.mem hv;exact hq.under g e
 have pV:=h.p.row.under;have qU:=h.q.row.under;have a0:=t1.base_le;have b0:=t2.base_le;have p2:=h.p.below b2;have q2:=h.q.below b2;have oldp:∀ qs∈pss,∀ p∈qs,IsE .u64 4294967296 wr p:=fun qs hq p hp=>(h.p.farV qs hq p hp).1;have oldq:∀ qs∈qss,∀ p∈qs,IsE .i64 10000 wr p:=fun qs hq p hp=>(h.q.farV qs hq p hp).1;have P3:=p2.snoc (by decide) r3 g3 (t1.weak hw) (fun v hv g e e2=>by have:=pu v hv g e;have:=a0 g e2;omega) t3 (fun v hv=>n1.far (pu v hv)) (n1.far pV) (fun qs hq p hp=>⟨(oldp qs hq p hp).1.farOld a0,(oldp qs hq p hp).2.farOld a0⟩)
 have Q3:=q2.kept g3.2.1 (fun g e e2=>zD6.notV p2.row q2.row (by decide) g e2 e) (fun v hv g e e2=>by
  obtain ⟨qs,hq⟩:=q2.k.mem hv;exact hq.notRow p2.row (by decide) g e e2) (fun qs hq p hp=>⟨(h.c2 qs hq p hp).2.1,(h.c2 qs hq p hp).2.2⟩)
 have hb3:zD4 65 w3 wr.heap.size b rs:=t2.other g3.2.1 fun g e e2=>t2.notRow p2.row (by decide) g e e2;have n2V:=n2.far pV
 have e3:∀ p∈rs,IsE .i64 10000 w3 p/\Far V3 p.2.1/\Far V3 p.2.2:=fun p hp=>by
  have x1:=g3.1 _ _ _ (t6 p hp).1.1 (n2V p hp).1;have x2:=g3.1 _ _ _ (t6 p hp).1.2 (n2V p hp).2;exact ⟨⟨x1.1,x2.1⟩,x1.2,x2.2⟩
 have Q4:=Q3.snoc (by decide) r4 g4 (hb3.weak hw) (fun v hv g e e2=>by have:=qu v hv g e;have:=b0 g e2;omega) (fun p hp=>⟨(e3 p hp).1,(t6 p hp).2⟩) (fun v hv=>n2.far (qu v hv)) (n2.far qU) (fun qs hq p hp=>⟨(oldq qs hq p hp).1.farOld b0,(oldq qs hq p hp).2.farOld b0⟩);have n1U:=n1.far qU
 have c1U:∀ qs∈pss ++ [ps],∀ p∈qs,Far U p.2.1/\Far U p.2.2:=fun qs hq p hp=>by
  rcases List.mem_append.1 hq with hq | hq
  ·exact (h.c1 qs hq p hp).2
  ·rw [List.mem_singleton.1 hq] at hp;exact n1U p hp
 have P4:=P3.kept g4.2.1 (fun g e e2=>zD6.notV P3.row Q3.row (by decide) g e e2) (fun v hv g e e2=>by
  obtain ⟨qs,hq⟩:=P3.k.mem hv;exact hq.notRow Q3.row (by decide) g e e2) c1U
 refine ⟨P4,Q4,fun qs hq p hp => ?_,fun qs hq p hp => ?_,h.below.trans ((b2.mono hw).trans (b3.trans b4))⟩
 ·have eU:Far U4 p.2.1/\Far U4 p.2.2:=by
   have e1:=(P3.farV qs hq p hp).1;exact ⟨(g4.1 _ _ _ e1.1 (c1U qs hq p hp).1).2,(g4.1 _ _ _ e1.2 (c1U qs hq p hp).2).2⟩
  refine ⟨fun v hv => ?_,eU⟩;rcases List.mem_append.1 hq with hq | hq
  ·rcases List.mem_append.1 hv with hv | hv
   ·exact (h.c1 qs hq p hp).1 v hv
   ·rw [List.mem_singleton.1 hv];exact ⟨(oldp qs hq p hp).1.farOld b0,(oldp qs hq p hp).2.farOld b0⟩
  ·rw [List.mem_singleton.1 hq] at hp;rcases List.mem_append.1 hv with hv | hv
   ·exact n1.far (qu v hv) p hp
   ·rw [List.mem_singleton.1 hv];exact (t4 p hp).2
 ·rcases List.mem_append.1 hq with hq | hq
  ·have eV:Far V3 p.2.1/\Far V3 p.2.2:=by
    have e1:=(q2.farV qs hq p hp).1;have f:=(h.c2 qs hq p hp).2;exact ⟨(g3.1 _ _ _ e1.1 f.1).2,(g3.1 _ _ _ e1.2 f.2).2⟩
   refine ⟨fun v hv => ?_,eV⟩;rcases List.mem_append.1 hv with hv | hv
   ·exact (h.c2 qs hq p hp).1 v hv
   ·rw [List.mem_singleton.1 hv];exact ⟨(oldq qs hq p hp).1.farOld a0,(oldq qs hq p hp).2.farOld a0⟩
  ·rw [List.mem_singleton.1 hq] at hp;refine ⟨fun v hv => ?_,(e3 p hp).2⟩;rcases List.mem_append.1 hv with hv | hv
   ·exact n2.far (pu v hv) p hp
   ·rw [List.mem_singleton.1 hv];exact (t5 p hp).2
def yH6 (M:Nat) (w:World) (e:Ending) (w':World):Prop:=∃ V U us vs pss qss,e=.returned (.tuple #[V,U])/\TwoTabO w w' V U us vs pss qss/\zF4 qss=zF4 pss/\us.length<=M/\(∀ r∈zF4 pss,r.length<=M /\ ∀ x∈r,zC6 x 1)
theorem jC9 (a0:Value) (M:Nat) (w:World) (h0:zS5 w a0) (hM:M<=8) :
  Calls prog 7 #[a0,.int .i64 (M:Int)] w (yH6 M w):=by
 have at0:=h0;obtain ⟨A0,n0,c0,rfl,hc0,hm0⟩:=h0.shape;unfold maxLen at hm0
 go_enter func7,ntmps7
 go_wp2
 go_loopw [6,7,8] (fun v6 v7 v8 wr => ∃ (k:Nat) (us vs:List Value) (pss qss:List (List Elt)),k<=n0/\k<=M/\Hid (us.length=k)/\TwoTabO w wr v6 v7 us vs pss qss/\Hid (zF4 qss=zF4 pss)/\Hid (∀ r∈zF4 pss,r.length<=M /\ ∀ x∈r,zC6 x 1)/\v8=.int .i64 (k:Int)) (fun _ _ v8 _=>M-(intOf v8).toNat)
 case atStart =>
  have r0:=qP5 w w.heap.size 44 (zB4 _);have ba:=zD1 (w:=w) (zB4 _) (.cells #[] 44);have r1:=qP5 (w.alloc (.cells #[] 44)) w.heap.size 45 ba.size;have bb:=zD1 (w:=w.alloc (.cells #[] 44)) (zB4 _) (.cells #[] 45);refine ⟨0,[],[],[],[],by omega,by omega,rfl,⟨⟨r0.below bb,rfl,fun i u ps hu=>by simp at hu,fun u hu=>by simp at hu,fun u hu=>by simp at hu,fun i j u v _ hu=>by simp at hu⟩,⟨?_,rfl,fun i u ps hu=>by simp at hu,fun u hu=>by simp at hu,fun u hu=>by simp at hu,fun i j u v _ hu=>by simp at hu⟩,fun ps hp=>by simp at hp,fun ps hp=>by simp at hp,ba.trans (bb.mono ba.size)⟩,rfl,(by show ∀ r∈_,_;intro r hr;simp [zF4] at hr),rfl⟩;simpa using r1
 case round =>
  obtain ⟨k,us,vs,pss,qss,hk,hkM,HUL,hT,HQP,HVL,rfl⟩:=hrel;obtain ⟨A6,c6,e6⟩:=zD6.slice hT.p.row;obtain ⟨A7,c7,e7⟩:=zD6.slice hT.q.row;subst e6;subst e7;by_cases hlt:k<n0/\k<M
  ·obtain ⟨hlt1,hlt2⟩:=hlt;obtain ⟨A_,n_,c_,e_,_,_,hel⟩:=at0.below hT.below;injection e_ with e1 e2 e3;subst e1;subst e2;subst e3;obtain ⟨ad,ue,rfl,ec,hq⟩:=hel k hlt1;have HT:=hQ9 hT;clear hel hT;obtain ⟨Aq,nq,cq,rfl,_⟩:=id hq
   go_wp2_with fail
   refine (jC8 Aq nq cq M _ hq hM).mono ?_;rintro e w2 ⟨a,b,ps,rs,rfl,hTR,n1,n2,hrs,hpl,hlq⟩;have b2:=hTR.2.2.2.2.2;have hw2:w.heap.size<=w2.heap.size:=zB5 HT.out.below.size b2.size;have P2:=HT.out.p.row.below b2;have Q2:=HT.out.q.row.below b2;have HTR:=hQ9 hTR
   have HULb:Hid (us.length<=1000000000/\vs.length<=1000000000):=by
    have h1:=HUL.out;have h2:=congrArg List.length HQP.out;rw [qG5,qG5,<- HT.out.q.len,<- HT.out.p.len] at h2;exact ⟨by omega,by omega⟩
   obtain ⟨Aa,ca,ea,_⟩:=hTR.1.isVF;obtain ⟨Ab,cb,eb,_⟩:=hTR.2.1.isVF;subst ea;subst eb;have HPL:=hQ9 hpl;clear hTR ec hpl
   go_wp2_with (first
    | (at_builtin;refine yH4 rfl (.tmp 33) (.tmp 35) rfl underlying22 qT6 rfl P2 rfl rfl HULb.out.1 hw2 ?_;intro V3 w3 row3 b3 K3;have Q3:zD6 w3 w.heap.size 45 (.slice A7 vs.length c7) vs:=zD6.kept Q2 K3.out.2.1 (fun g e e2=>zD6.notV P2 Q2 (by decide) g e2 e);have hw3:w.heap.size<=w3.heap.size:=zB5 hw2 b3.size)
    | (at_builtin;refine yH4 rfl (.tmp 37) (.tmp 39) rfl underlying23 qM5 rfl Q3 rfl rfl HULb.out.2 hw3 ?_;intro U4 w4 row4 b4 K4))
   have T4:=HT.out.step HTR.out n1 n2 row3 K3.out b3 row4 K4.out b4;have HUL4:Hid ((us ++ [Value.slice Aa ps.length ca]).length=k+1):=by show _=_;rw [zA8,HUL.out];rfl
   have HQP4:Hid (zF4 (qss ++ [rs])=zF4 (pss ++ [ps])):=by
    show _=_
    have h1:=HQP.out;unfold zF4 at h1 |-;rw [List.map_append,List.map_append,h1,List.map_cons,List.map_cons,hrs];try rfl
   have HVL4:Hid (∀ r∈zF4 (pss ++ [ps]),r.length<=M /\ ∀ x∈r,zC6 x 1):=by
    show ∀ r∈_,_
    intro r hr;unfold zF4 at hr;rw [List.map_append] at hr;rcases List.mem_append.1 hr with hr | hr
    ·exact HVL.out r hr
    ·obtain rfl:r=ps.map (·.1):=by simpa using hr
     refine ⟨by rw [zA9,HPL.out];omega,fun x hx => ?_⟩;obtain ⟨p,hp,rfl⟩:=List.mem_map.1 hx;exact hlq p hp
   have hsk:M-(k+1)<M-k:=by omega
   clear P2 Q2 Q3 K3 K4 row3 row4 n1 n2 hlq hrs HTR;go_wp2;go_roundw;case rel=>exact ⟨k+1,_,_,_,_,by omega,by omega,HUL4,T4,HQP4,HVL4,by go_num⟩
   case measure=>simp [intOf];omega
  ·have hx:¬ k<n0\/(k<n0 /\ ¬ k<M):=by omega
   have HEND:Hid (yH6 M w (.returned (.tuple #[.slice A6 us.length c6,.slice A7 vs.length c7])) wr):=⟨_,_,us,vs,pss,qss,rfl,hT,HQP.out,by rw [HUL.out];exact hkM,HVL.out⟩;clear hT HQP HVL;rcases hx with hx | ⟨hx1,hx2⟩
   all_goals
    go_wp2;go_ret2;exact HEND.out
def RetFewT (M:Nat) (w:World) (e:Ending) (w':World):Prop:=∃ V U p,e=.returned (.tuple #[V,U])/\SlT .u64 4294967296 w' V p/\SlT .i64 10000 w' U p/\p.length<=M/\(∀ r∈p,r.length<=M)/\zH6 p 1/\Below w.heap.size w w'
theorem yH7 (a0:Value) (M:Nat) (w:World) (h0:zS5 w a0) (hM:M<=8):Calls prog 7 #[a0,.int .i64 (M:Int)] w (RetFewT M w) :=
 (jC9 a0 M w h0 hM).mono fun e w' h => by
  obtain ⟨V,U,us,vs,pss,qss,h1,h2,h3,h4,h5⟩:=h;refine ⟨V,U,zF4 pss,h1,h2.p.slT,by rw [<- h3];exact h2.q.slT,by rw [qG5,<- h2.p.len];exact h4,fun r hr=>(h5 r hr).1,fun r hr=>(h5 r hr).2,h2.below⟩
theorem yH8:∀ (ps:List Elt) (j:Nat) (u:Value),(zF1 ps)[j]?=some u -> ∃ i p,ps[i]?=some p/\((j=i*3/\u=.bool (ngB p.1.num))\/(j=i*3+1/\u=p.2.1)\/(j=i*3+2/\u=p.2.2))
  | [],j,u,h=>by simp [zF1] at h
  | p :: ps,0,u,h=>⟨0,p,rfl,.inl ⟨rfl,by simpa [zF1,zL0] using h.symm⟩⟩
  | p :: ps,1,u,h=>⟨0,p,rfl,.inr (.inl ⟨rfl,by simpa [zF1,zL0] using h.symm⟩)⟩
  | p :: ps,2,u,h=>⟨0,p,rfl,.inr (.inr ⟨rfl,by simpa [zF1,zL0] using h.symm⟩)⟩
  | p :: ps, j + 3, u, h => by
    have e:(zF1 (p :: ps))[j+3]?=(zF1 ps)[j]?:=by simp [zF1,zL0]
    rw [e] at h;obtain ⟨i,q,hq,h2⟩:=yH8 ps j u h;refine ⟨i+1,q,by simpa using hq,?_⟩;rcases h2 with ⟨a,b⟩|⟨a,b⟩|⟨a,b⟩
    · exact .inl ⟨by omega,b⟩
    · exact .inr (.inl ⟨by omega,b⟩)
    · exact .inr (.inr ⟨by omega,b⟩)
section
variable {P:Program}
theorem jD {w:World} {t ty T:TypeId} (hT:P.underlying t=some (.slice T)) (hI:∃ i,P.info? T=some i/\i.zero=some (.agg #[.bool false,.slice none 0 0,.slice none 0 0])/\i.size=3/\i.bytes=56) {A:Option Addr} {n c:Nat} (hn:n<=c) :
  (Builtin.append_ #[t,t] ty #[.slice A n c,.slice none 0 0]).run P w=.ok (.slice A n c) w:=by
 obtain ⟨i,hi,hz,hs,hb⟩:=hI
 cases A with
 | none=>simp [Builtin.append_,go_sem,run_underlying hT,sizeOf,typeInfo,hi,Builtin.lenOf,Builtin.firstCells,hn]
 | some a=>simp [Builtin.append_,go_sem,run_underlying hT,sizeOf,typeInfo,hi,Builtin.lenOf,Builtin.firstCells,hn,storeCells]
theorem yH9 {w:World} {base:Nat} {t ty T:TypeId} (hT:P.underlying t=some (.slice T)) (hI:∃ i,P.info? T=some i/\i.zero=some (.agg #[.bool false,.slice none 0 0,.slice none 0 0])/\i.size=3/\i.bytes=56) {v u:Value} {ps qs:List Elt} (hown:zD4 T w base v ps) (hu:zM8 w u qs) (hone:∀ p∈qs,p.2.1.oneCell'=true/\p.2.2.oneCell'=true) (hlen:ps.length<=1000000000) (hlen2:qs.length<=1000000000) (hbase:base<=w.heap.size) :
    ∃ v' w',(Builtin.append_ #[t,t] ty #[v,u]).run P w=.ok v' w'/\zD4 T w' base v' (ps ++ qs)/\zH5 w w' v v':=by
  obtain ⟨A,c,rfl,hc,hm,hcells⟩:=hu;obtain ⟨Av,cv,rfl,hcv,hmv,_⟩:=hown.isVF;by_cases hq:qs=[]
  · subst hq
    cases A with
    | none =>
      refine ⟨_,w,?_,by rw [List.append_nil];exact hown,zH5.of_below _ (Below.refl _ w)⟩;by_cases hc0:c=0
      · subst hc0;exact jD hT hI hcv
      · obtain ⟨i,hi,hz,hs,hb⟩:=hI
        cases Av with
        | none=>simp [Builtin.append_,go_sem,run_underlying hT,sizeOf,typeInfo,hi,Builtin.lenOf,Builtin.firstCells,hcv]
        | some a=>simp [Builtin.append_,go_sem,run_underlying hT,sizeOf,typeInfo,hi,Builtin.lenOf,Builtin.firstCells,hcv,storeCells]
    | some ad =>
      obtain ⟨i,hi,hz,hs,hb⟩:=hI;obtain ⟨v',w',g1,g2,g3,_,g5⟩:=run_append_own_at (P:=P) (w:=w) base t ty T i (.agg #[.bool false,.slice none 0 0,.slice none 0 0]) 3 56 hT hi hz hs hb rfl (by decide) _ ps.length (zF1 ps) hown ad 0 c [] rfl (fun j a ha=>by simp at ha) (fun a ha=>by simp at ha) (by unfold maxLen;omega) (by omega) hbase;refine ⟨v',w',g1,by unfold zD4;rw [List.append_nil];simpa using g2,qJ3 g3 g5,g3,fun g hg hne e1 => ?_⟩;rcases g5 with h | h
      · exact hne (h ▸ e1)
      · rw [h] at e1;injection e1 with e1;omega
  · obtain ⟨p0,hp0⟩:∃ p0,qs[0]?=some p0:=⟨_,zA3 (List.length_pos_iff.2 hq)⟩;obtain ⟨g0,o0,rfl,_⟩:=hcells 0 p0 hp0;obtain ⟨i,hi,hz,hs,hb⟩:=hI
    have hadd:∀ j,(⟨g0,o0,none⟩:Addr).add j=⟨g0,o0+j,none⟩:=by
      intro j;unfold Addr.add;by_cases h:j=0
      · simp [h]
      · simp [h]
    obtain ⟨v',w',g1,g2,g3,_,g5⟩:=run_append_own_at (P:=P) (w:=w) base t ty T i (.agg #[.bool false,.slice none 0 0,.slice none 0 0]) 3 56 hT hi hz hs hb rfl (by decide) _ ps.length (zF1 ps) hown ⟨g0,o0,none⟩ qs.length c (zF1 qs) (qG4 qs) (fun j a ha=>by
      obtain ⟨k,p,hp,h⟩:=yH8 qs j a ha;obtain ⟨g',o',e,c0,c1,c2⟩:=hcells k p hp;injection e with e;injection e with e1 e2;subst e1;subst e2;rw [hadd];rcases h with ⟨rfl,rfl⟩|⟨rfl,rfl⟩|⟨rfl,rfl⟩
      · exact c0
      · rw [<- Nat.add_assoc];exact c1
      · rw [<- Nat.add_assoc];exact c2) (fun a ha=>by
      obtain ⟨p,hp,hc⟩:=yG ha;simp only [zL0,List.mem_cons,List.not_mem_nil,or_false] at hc;rcases hc with rfl|rfl|rfl
      · rfl
      · exact (hone p hp).1
      · exact (hone p hp).2) (by unfold maxLen;omega) (by omega) hbase
    refine ⟨v',w',g1,by unfold zD4;rw [zA8,zF1,List.flatMap_append];exact g2,qJ3 g3 g5,g3,fun g hg hne e1 => ?_⟩;rcases g5 with h | h
    · exact hne (h ▸ e1)
    · rw [h] at e1;injection e1 with e1;omega
theorem yI {w:World} {ops:Array Oper} {o:Oper} {a:Act} {K:Act->World->Prop} {Q:Exit->Act->World->Prop} {E:Prop} (hgd:o.guard=none) (s x:Operand) {t:TypeId}
  (ho:o.op=.call { callee:=.builtin .append,args:=#[s,x],argTypes:=#[t,t] })
  {base:Nat} {T:TypeId} (hT:P.underlying t=some (.slice T)) (hI:∃ i,P.info? T=some i/\i.zero=some (.agg #[.bool false,.slice none 0 0,.slice none 0 0])/\i.size=3/\i.bytes=56) {v u:Value} {ps qs:List Elt} (hs:a.eval s=v) (hown:zD4 T w base v ps) (hx:a.eval x=u) (hu:zM8 w u qs) (hone:∀ p∈qs,p.2.1.oneCell'=true/\p.2.2.oneCell'=true) (hlen:ps.length<=1000000000) (hlen2:qs.length<=1000000000) (hbase:base<=w.heap.size)
  (h:∀ v' w',zD4 T w' base v' (ps ++ qs)->Below base w w'->Hid (zH5 w w' v v')->K (a.put o.dst v') w') :
  if Region.wanted o (yielded ops a.tmps)=true then Oper.wp P o a w K Q else E:=by
 have hw:Region.wanted o (yielded ops a.tmps)=true:=by simp [Region.wanted,hgd]
 rw [if_pos hw];obtain ⟨v',w',hrun,g2,g3⟩:=yH9 (P:=P) (ty:=o.type) hT hI hown hu hone hlen hlen2 hbase;unfold Oper.wp execOp;simp only [ho,resolve,invoke,builtin,Sem.run_bind,Sem.run_pure,Result.andThen_ok,List.map_toArray,List.map_cons,List.map_nil,hs,hx,hrun];exact h v' w' g2 ((Below.refl base w).grown g3.2.1 hbase hown.base_le) g3
end
structure TabJ (T:TypeId) (w:World) (base:Nat) (TS:TypeId) (V:Value) (us0 us:List Value) (pss:List (List Elt)):Prop where
 row:zD6 w base TS V us0
 len:us.length=pss.length
 own:∀ (i:Nat) (u:Value) (ps:List Elt),us[i]?=some u->pss[i]?=some ps->zD4 T w base u ps
 apart:∀ (i j:Nat) (u v:Value),i≠j->us[i]?=some u->us[j]?=some v -> ∀ h,u.ownBlock=some h->v.ownBlock≠some h
section
variable {T TS:TypeId} {w w1:World} {base:Nat} {V:Value} {us0 us:List Value} {pss:List (List Elt)}
theorem TabK.j (h:TabK T w base TS V us pss):TabJ T w base TS V us us pss:=⟨h.row,h.len,h.own,h.apart⟩
theorem TabJ.at (h:TabJ T w base TS V us0 us pss) {i:Nat} {u:Value} (hu:us[i]?=some u):∃ ps,pss[i]?=some ps/\zD4 T w base u ps:=by
 have hp:pss[i]?=some (pss[i]'(by rw [<- h.len];exact (zA4.1 hu).1)):=zA3 _;exact ⟨_,hp,h.own i u _ hu hp⟩
theorem TabJ.kept {row:Option Nat} (h:TabJ T w base TS V us0 us pss) (hg:w.grownBy w1 row) (hV:∀ g,V.ownBlock=some g->row≠some g) (hu:∀ u∈us,∀ g,u.ownBlock=some g->row≠some g):TabJ T w1 base TS V us0 us pss :=
 ⟨zD6.kept h.row hg hV,h.len,fun i u ps hi hp=>(h.own i u ps hi hp).other hg (fun g e=>hu u (zA5 hi) g e),h.apart⟩
theorem TabJ.below (h:TabJ T w base TS V us0 us pss) (hb:Below w.heap.size w w1):TabJ T w1 base TS V us0 us pss :=
 ⟨h.row.below hb,h.len,fun i u ps hi hp=>(h.own i u ps hi hp).below hb,h.apart⟩
end
def Els (L:List Value) (w:World) (es:List Elt):Prop:=∀ e∈es,IsE .u64 4294967296 w e /\ ∀ v∈L,Far v e.2.1/\Far v e.2.2
theorem Els.below {L:List Value} {w w':World} {es:List Elt} (h:Els L w es) (hb:Below w.heap.size w w'):Els L w' es:=fun e he=>⟨⟨(h e he).1.1.below hb,(h e he).1.2.below hb⟩,(h e he).2⟩
theorem Els.kept {L:List Value} {w w1:World} {es:List Elt} {u:Value} (h:Els L w es) (hu:u∈L) (hg:w.grownBy w1 u.ownBlock):Els L w1 es:=fun e he=>by
 obtain ⟨e1,e2⟩:=h e he;obtain ⟨f1,f2⟩:=e2 u hu;exact ⟨⟨e1.1.farKept f1 hg,e1.2.farKept f2 hg⟩,e2⟩
structure TwoE (w wr:World) (V U:Value) (us0 us vs0 vs:List Value) (pss qss:List (List Elt)):Prop where
 p:TabJ 83 wr w.heap.size 44 V us0 us pss
 q:TabJ 65 wr w.heap.size 45 U vs0 vs qss
 x:Els (V :: U :: (us ++ vs)) wr pss.flatten
 below:Below w.heap.size w wr
section
variable {w wr w1:World} {V U:Value} {us0 us vs0 vs:List Value} {pss qss:List (List Elt)}
theorem TwoTabO.e (h:TwoTabO w wr V U us vs pss qss):TwoE w wr V U us us vs vs pss qss:=⟨h.p.k.j,h.q.k.j,fun e he=>by
 obtain ⟨ps,hp,he⟩:=List.mem_flatten.1 he;have f:=h.p.farV ps hp e he;have c:=h.c1 ps hp e he;refine ⟨f.1,fun v hv => ?_⟩;rcases List.mem_cons.1 hv with rfl|hv
 ·exact f.2
 ·rcases List.mem_cons.1 hv with rfl|hv
  ·exact c.2
  ·rcases List.mem_append.1 hv with hv | hv
   ·exact (h.p.far v hv ps hp e he).2
   ·exact c.1 v hv,h.below⟩
end
theorem qT7 (g o i:Nat):(⟨g,o,none⟩:Addr).add i=⟨g,o+i,none⟩:=by
 unfold Addr.add;by_cases h:i=0
 ·simp [h]
 ·simp [h]
theorem zE4.at_ {k:IntKind} {B:Nat} {w:World} {g:Nat} {TS:TypeId} {us:List Value} {T:List (List Rat)} (h:zE4 k B w g TS us T) {i:Nat} {r:List Rat} (hr:T[i]?=some r):∃ Ar cr,us[i]?=some (.slice Ar r.length cr)/\w.cell? ⟨g,i,none⟩=some (.slice Ar r.length cr)/\SlF k B w (.slice Ar r.length cr) r:=by
 have hi:i<us.length:=by rw [h.2.1];exact (zA4.1 hr).1
 have hu:us[i]?=some us[i]:=zA3 hi;have hs:=h.2.2 i _ r hu hr;obtain ⟨Ar,cr,e,_,_⟩:=hs.shape;have hc:=h.1.cell hu;rw [zR2] at hc;rw [e] at hu hs hc;exact ⟨Ar,cr,hu,hc,hs⟩
theorem zE4.sub {k:IntKind} {B:Nat} {w:World} {g:Nat} {TS:TypeId} {us:List Value} {T:List (List Rat)} (h:zE4 k B w g TS us T) {o m c:Nat} (hm:o+m<=T.length) (hc:m<=c) (hx:c<=maxLen):SlT k B w (.slice (some ⟨g,o,none⟩) m c) ((T.drop o).take m):=by
 have hl:us.length=T.length:=h.2.1;have e1:((us.drop o).take m).length=m:=by rw [zB2,List.length_drop];omega
 refine ⟨(us.drop o).take m,by rw [e1,zB2,List.length_drop];omega,⟨some ⟨g,o,none⟩,c,by rw [e1],by rw [e1];exact hc,hx,fun i u hu=>⟨_,rfl,?_⟩⟩,fun i u r hu hr => ?_⟩
 ·rw [qT7];have hi:i<m:=by have:=(zA4.1 hu).1;omega
  rw [List.getElem?_take_of_lt hi,List.getElem?_drop] at hu;have hcc:=h.1.cell hu;rwa [zR2] at hcc
 ·have hi:i<m:=by have:=(zA4.1 hu).1;omega
  rw [List.getElem?_take_of_lt hi,List.getElem?_drop] at hu hr;exact h.2.2 _ u r hu hr
theorem TabO.tabS {T0:TypeId} {w:World} {base g n:Nat} {TS:TypeId} {us:List Value} {pss:List (List Elt)} {k:IntKind} {B:Nat} (h:TabO k B T0 w base TS (.slice (some ⟨g,0,none⟩) n n) us pss) (hn:us.length=n):zE4 k B w g TS us (zF4 pss):=by
  refine ⟨⟨?_,fun u hu => ?_⟩,by rw [qG5];exact h.len,fun i u r hu hr => ?_⟩
  · rcases h.row.2 with ⟨e,_⟩|⟨g',cap,cur,e,_,hg,_,_,h1,h2⟩
    · cases e
    · injection e with e1 e2 e3;injection e1 with e1;injection e1 with e1 _ _;subst e1
      have e:cur=us.toArray:=by
        apply Array.toList_inj.1;rw [<- h2,zA7 (by simp;omega)]
      unfold Blk;rw [hg,e]
  · obtain ⟨i,hi⟩:=List.mem_iff_getElem?.1 hu;obtain ⟨ps,hp⟩:∃ ps,pss[i]?=some ps:=⟨_,zA3 (by rw [<- h.len];exact (zA4.1 hi).1)⟩;have hf:=(h.own i u ps hi hp).isVF;obtain ⟨A,c,e,_⟩:=hf;exact ⟨A,_,c,e⟩
  · rw [zF4,zB1] at hr
    cases hp:pss[i]? with
    | none=>rw [hp] at hr;cases hr
    | some ps =>
      rw [hp] at hr;obtain rfl:ps.map (·.1)=r:=by simpa using hr
      exact (h.own i u ps hu hp).sl (h.far u (zA5 hu) ps (zA5 hp))
theorem zD6.weak {w:World} {base base':Nat} {TS:TypeId} {V:Value} {us:List Value} (h:zD6 w base TS V us) (hb:base'<=base):zD6 w base' TS V us:=by
 refine ⟨h.1,?_⟩;rcases h.2 with hn | ⟨g,cap,cur,hv,hg,rest⟩
 ·exact .inl hn
 ·exact .inr ⟨g,cap,cur,hv,zB5 hb hg,rest⟩
theorem TabO.weak {k:IntKind} {B:Nat} {T TS:TypeId} {w:World} {base base':Nat} {V:Value} {us:List Value} {pss:List (List Elt)} (h:TabO k B T w base TS V us pss) (hb:base'<=base):TabO k B T w base' TS V us pss :=
 ⟨zD6.weak h.row hb,h.len,fun i u ps hu hp=>zD4.weak (h.own i u ps hu hp) hb,h.far,h.farV,h.apart⟩
theorem jD0 {w:World} {v u0:Value} {t0:List (List Rat)} (h:IsV w v [u0]) (h0:SlT .u64 4294967296 w u0 t0):zO6 w v [t0] :=
  ⟨[u0], rfl, h, by simp, fun i u t hu ht => by
    rcases i with _ | i
    · obtain rfl:u0=u:=by simpa using hu
      obtain rfl:t0=t:=by simpa using ht
      exact h0
    · simp at hu⟩
def jD1 (L:List (List Rat)) (a:Nat) (w:World) (e:Ending) (w':World):Prop:=∃ k:Nat,e=.returned (.int .i64 (k:Int))/\k<=L.length/\(∀ i,i<k->zC0 L i a=0)/\(k<L.length->zC0 L k a≠0)/\Below w.heap.size w w'
theorem yI0 (a0:Value) (L:List (List Rat)) (a:Nat) (w:World) (h0:SlT .u64 4294967296 w a0 L) (hl:∀ r∈L,a<r.length):Calls prog 125 #[a0,.int .i64 (a:Int)] w (jD1 L a w):=by
 have st0:=h0;obtain ⟨A0,c0,rfl,hc0,hm0⟩:=h0.shape;unfold maxLen at hm0;have HL:=hQ9 hl;clear hl
 go_enter func125,ntmps125
 go_wp2
 go_loopw [8] (fun v8 wr => ∃ k:Nat,k<=L.length/\Hid (∀ i,i<k->zC0 L i a=0)/\Below w.heap.size w wr/\v8=.int .i64 (k:Int)) (fun v8 _=>L.length-(intOf v8).toNat)
 case atStart=>exact ⟨0,by omega,(by show ∀ i,_;intro i hi;omega),Below.refl _ _,rfl⟩
 case round =>
  obtain ⟨k,hk,HZ,bb,rfl⟩:=hrel;by_cases hlt:k<L.length
  ·obtain ⟨r,hr⟩:∃ r,L[k]?=some r:=⟨_,zA3 hlt⟩;have hal:=HL.out r (zA5 hr);obtain ⟨q,hq⟩:∃ q,r[a]?=some q:=⟨_,zA3 hal⟩;have he:Hid (zC0 L k a=q):=qS3 hr hq;obtain ⟨ad,rfl⟩:=st0.place (List.length_pos_iff.1 (by omega));obtain ⟨Ar,cr,hik,ecr,sr⟩:=(st0.below bb).at2 hr;obtain ⟨gr,or,u,t,rfl,hia,k0,k1,k2,su,st⟩:=sr.at_ hq;obtain ⟨Au,cu,rfl,_⟩:=id su;obtain ⟨At,ct,rfl,_⟩:=id st;have hix:=fun w=>zI9 (P:=prog) underlying44 (by kernel_rfl) (g:=gr) (o:=or) (c:=cr) hia w;have kq:IsQ wr (.agg #[.bool (ngB q.num),.slice Au (digs 4294967296 q.num.natAbs).length cu,.slice At (digs 4294967296 q.den).length ct]) q:=⟨_,_,rfl,su,st⟩;obtain ⟨t,ht⟩:∃ t,t=zK5 q.num 0:=⟨_,rfl⟩;have hz:(t == 0)=decide (q=0):=by rw [ht,yH2]
   have HT:=hQ9 ht;clear hr hq ht sr;go_wp2_with fail
   refine (zU2 _ q t _ kq HT.out).mono ?_;rintro e w4 ⟨rfl,b4⟩;have bb4:=bb.trans (b4.mono bb.size);by_cases hq0:q=0
   ·obtain rfl:t=0:=by
     rw [hq0] at hz;simpa using hz
    have HZ2:Hid (∀ i,i<k+1->zC0 L i a=0):=by
     show ∀ i,_
     intro i hi;by_cases e:i=k
     ·subst e;rw [he.out];exact hq0
     ·exact HZ.out i (by omega)
    clear hz hq0 kq k0 k1 k2;go_wp2;go_roundw;case rel=>exact ⟨k+1,by omega,HZ2,bb4,by go_num⟩
    case measure=>simp [intOf];omega
   ·have hz1:¬ t=0:=by
     intro e;rw [e,decide_eq_false hq0] at hz;exact absurd hz (by decide)
    have HN:Hid (zC0 L k a≠0):=by show _≠_;rw [he.out];exact hq0
    clear hz hq0 kq k0 k1 k2;go_wp2;go_ret;exact ⟨k,rfl,by omega,HZ.out,fun _=>HN.out,bb4⟩
  ·obtain rfl:k=L.length:=by omega
   go_wp2;go_ret;exact ⟨_,rfl,zB4 _,HZ.out,fun h=>by omega,bb⟩
theorem jD2 (T:List (List Rat)):zU4 T.length [T] ↔ zI3 T:=by
 unfold zU4
 constructor
 ·intro h;exact (h T List.mem_cons_self).1
 ·intro h t ht;obtain rfl:=List.mem_singleton.1 ht;exact ⟨h,rfl⟩
theorem jD3 (T:List (List Rat)):zP2 T.length [T]=T:=yE3 T
theorem jD4 (a0:Value) (T:List (List Rat)) (w:World) (h0:SlT .u64 4294967296 w a0 T) (hl:zD2 T<=200/\T.length<=200/\zH6 T 100000):Calls prog 89 #[a0] w (fun e w'=>(zI3 T/\RetTO T.length T w e w')\/(¬ zI3 T/\qG3 [] 8 w e w')):=by
 have st0:=h0;obtain ⟨A0,c0,rfl,hc0,hm0⟩:=h0.shape;have HL:=hQ9 hl;clear hl;have ba:=zD1 (w:=w) (zB4 _) (.cells #[.slice A0 T.length c0] 22);have HV:=jD0 (zR8 w 22 [.slice A0 T.length c0]) (st0.below ba);have HLV:=hQ9 HV;clear HV
 go_enter func89,ntmps89;go_wp2_with fail
 refine (yH1 _ [T] T _ HLV.out rfl ⟨by simp,by simp;exact HL.out.1,fun t ht=>by rw [List.mem_singleton.1 ht];exact HL.out.2.2,HL.out.2.1⟩).mono ?_;rintro e w2 h2;rw [jD2,jD3] at h2;rcases h2 with ⟨hm,g,us,pss,rfl,hT,hV,hU,hg,b2⟩|⟨hm,V,rfl,hS,b2⟩
 ·have bb:=ba.trans (b2.mono ba.size);have hw:w.heap.size<=(w.alloc (.cells #[.slice A0 T.length c0] 22)).heap.size:=ba.size;have HE:=hQ9 (zA hm (zA hV (zA hU (zB5 hw hg))));have HT:=hQ9 hT;clear hm hT hV hU hg hw;go_wp2;go_ret2;exact .inl ⟨HE.out.1,g,us,pss,rfl,TabO.weak HT.out ba.size,HE.out.2.1,HE.out.2.2.1,HE.out.2.2.2,bb⟩
 ·rw [if_neg (by decide)] at hS;obtain ⟨AV,cV,rfl,-,-⟩:=hS.shape;have bb:=ba.trans (b2.mono ba.size);have HN:=hQ9 hm;clear hm;go_wp2;go_ret2;exact .inr ⟨HN.out,_,rfl,by rw [if_neg (by decide)];exact hS,bb⟩
def zL9 (us:List Value) (G:Nat->Prop):Prop:=∀ u∈us,∀ g,u.ownBlock=some g -> ¬ G g
def zS6 (w:World) (us us':List Value):Prop:=∀ G:Nat->Prop,(∀ x,G x->x<w.heap.size)->zL9 us G->zL9 us' G
theorem zS6.refl (w:World) (us:List Value):zS6 w us us:=fun _ _ h=>h
theorem zS6.set {w w1:World} {us us':List Value} (h:zS6 w us us') (hw:w.heap.size<=w1.heap.size) {g n c:Nat} (hg:w1.heap.size<=g) (i:Nat):zS6 w us (us'.set i (.slice (some ⟨g,0,none⟩) n c)):=fun G hG ho u hu x hx=>by
 rcases List.mem_or_eq_of_mem_set hu with hu | rfl
 ·exact h G hG ho u hu x hx
 ·intro hGx;have h1:=hG x hGx;have h2:g=x:=by simpa [Value.ownBlock] using hx
  omega
def qM9 (g:Nat) (us:List Value) (T':List (List Rat)) (w:World) (e:Ending) (w':World):Prop:=e=.returned (.tuple #[]) /\ ∃ us',zE4 .u64 4294967296 w' g 44 us' T'/\w.grownBy w' (some g)/\zS6 w us us'
theorem qN (w:World) (row:Option Nat):w.grownBy w row:=qM8 (Below.refl _ w) row
theorem jD5 {w w1:World} {g i:Nat} {u:Value} (h:w.grownBy w1 (some g)):w.grownBy (w1.setCell ⟨g,i,none⟩ u) (some g):=h.trans (zE7 w1 g i u)
theorem yI1 (g o m c a n C S:Nat) (us:List Value) (a1:Value) (p:List Rat) (T:List (List Rat)) (P:Nat->Bool) (w:World) (h:zE4 .u64 4294967296 w g 44 us T) (hp:SlF .u64 4294967296 w a1 p) (hc:Hid (shp T n C/\p.length=C/\a<C/\o+m<=n/\m<=c/\n<=1000000/\C<=1000/\(∀ i,i<o->P i=false)/\(∀ i,o<=i->i<o+m->P i=true)/\(∀ r∈T,zL5 r S)/\zL5 p S/\(0<m->S+S<=4900))) :
  Calls prog 130 #[.slice (some ⟨g,o,none⟩) m c,a1,.int .i64 (a:Int)] w (qM9 g us (zF9 T P p a (o+m)) w):=by
 obtain ⟨A1,c1,rfl,_,_⟩:=hp.shape;have ha:=hc.out.2.2.1;have hom:=hc.out.2.2.2.1;have hmc:=hc.out.2.2.2.2.1;have hn:=hc.out.2.2.2.2.2.1
 go_enter func130,ntmps130
 go_wp2
 go_loopw [10] (fun v10 wr => ∃ (k:Nat) (us':List Value),k<=m/\zE4 .u64 4294967296 wr g 44 us' (zF9 T P p a (o+k))/\Hid (w.grownBy wr (some g))/\Hid (zS6 w us us')/\v10=.int .i64 (k:Int)) (fun v10 _=>m-(intOf v10).toNat)
 case atStart=>exact ⟨0,us,by omega,by rw [Nat.add_zero,qG1 o hc.out.2.2.2.2.2.2.2.1];exact h,qN _ _,zS6.refl _ _,rfl⟩
 case round =>
  obtain ⟨k,us',hk,TS,HG,HST,rfl⟩:=hrel;by_cases hlt:k<m
  ·have hs:=hc.out.1;obtain ⟨r,hr,hrl⟩:=zH7 hs (show o+k<n by omega);have hr2:(zF9 T P p a (o+k))[o+k]?=some r:=by rw [qG T P p a (o+k) (o+k) (zB4 _)];exact hr
   obtain ⟨q,hq⟩:∃ q,r[a]?=some q:=⟨_,zA3 (by omega)⟩;have he:Hid (zC0 T (o+k) a=q):=qS3 hr hq;have hP:=hc.out.2.2.2.2.2.2.2.2.1 (o+k) (by omega) (by omega);obtain ⟨Ar,cr,hur,ecr,sr⟩:=TS.at_ hr2;obtain ⟨gr,or,u,t,rfl,hia,k0,k1,k2,su,st⟩:=sr.at_ hq;obtain ⟨Au,cu,rfl,_⟩:=id su;obtain ⟨At,ct,rfl,_⟩:=id st;have hix:=fun w=>zI9 (P:=prog) underlying44 (by kernel_rfl) (g:=gr) (o:=or) (c:=cr) hia w;have ba:=zD1 (w:=wr) (zB4 _) (.cells #[.bool (ngB q.num),.slice Au (digs 4294967296 q.num.natAbs).length cu,.slice At (digs 4294967296 q.den).length ct] 83);have BT:=Blk.new wr 83 #[.bool (ngB q.num),.slice Au (digs 4294967296 q.num.natAbs).length cu,.slice At (digs 4294967296 q.den).length ct];have kq:IsQ (wr.alloc (.cells #[.bool (ngB q.num),.slice Au (digs 4294967296 q.num.natAbs).length cu,.slice At (digs 4294967296 q.den).length ct] 83)) (.agg #[.bool (ngB q.num),.slice Au (digs 4294967296 q.num.natAbs).length cu,.slice At (digs 4294967296 q.den).length ct]) q:=⟨_,_,rfl,su.below ba,st.below ba⟩;obtain ⟨t,ht⟩:∃ t,t=zK5 q.num 0:=⟨_,rfl⟩;have hz:(t == 0)=decide (q=0):=by rw [ht,yH2]
   have HT:=hQ9 ht;have sp:=(h.1.keepF HG.out hp).below ba;have TSa:=TS.below ba;have sra:=sr.below ba;have HR:=hQ9 (zA hr (zA hrl (zA hq (zA hP hr2))));clear hr hrl hq ht su st sr hr2 hP hs TS hur;go_wp2_with fail
   refine (zU2 _ q t _ kq HT.out).mono ?_;rintro e w4 ⟨rfl,b4⟩;have bb4:=ba.trans (b4.mono ba.size);have TS4:=TSa.below b4;have BT4:=BT.below b4;have kq4:=kq.below b4;have sp4:=sp.below b4;have sr4:=sra.below b4;have HG4:Hid (w.grownBy w4 (some g)):=zJ8 HG.out bb4;clear TSa BT kq sp sra b4 ba bb4 HG k0 k1 k2 ecr hix;by_cases hq0:q=0
   ·obtain rfl:t=0:=by
     rw [hq0] at hz;simpa using hz
    have TS5:zE4 .u64 4294967296 w4 g 44 us' (zF9 T P p a (o+(k+1))):=by
     rw [<- Nat.add_assoc,yZ5 HR.out.2.2.2.1 HR.out.1 (by rw [he.out];exact hq0) (by rw [HR.out.2.1];exact hc.out.2.1.symm)];exact TS4
    clear hz hq0 kq4 TS4 BT4 sp4 sr4;go_wp2;go_roundw;case rel=>exact ⟨k+1,us',by omega,TS5,HG4,HST,by go_num⟩
    case measure=>simp [intOf];omega
   ·have hz1:¬ t=0:=by
     intro e;rw [e,decide_eq_false hq0] at hz;exact absurd hz (by decide)
    clear hz;have bd:=(Below.refl w4.heap.size w4).drew;have TSd:=TS4.below bd;have BTd:Blk w4.drew _ _ _:=BT4.drew;obtain ⟨V0,V1,V2,_,_,_⟩:=three BTd;have kqd:=kq4.below bd;have spd:=sp4.below bd;have srd:=sr4.below bd;obtain ⟨Ar2,cr2,hur2,ecr2,srd2⟩:=TSd.at_ HR.out.2.2.2.2
    have HLS:Hid (r.length=p.length/\r.length<=1000/\(∀ x∈r,zC6 x S)/\zC6 q S/\(∀ x∈p,zC6 x S)/\S<=4900/\S+S<=4900):=by
     have h1:=hc.out.2.2.2.2.2.2.2.2.2.1 r (zA5 HR.out.1);have h2:=hc.out.2.2.2.2.2.2.2.2.2.2.1;have h3:=hc.out.2.2.2.2.2.2.2.2.2.2.2 (by omega);exact ⟨by rw [HR.out.2.1];exact hc.out.2.1.symm,by rw [HR.out.2.1];exact hc.out.2.2.2.2.2.2.1,h1.len,h1.len q (zA5 HR.out.2.2.1),h2.len,by omega,h3⟩
    have HNL:Hid ((zG4 r q p).length<=1000000000):=by
     show _<=_
     rw [qL1 HLS.out.1];have:=HLS.out.2.1;omega
    have HNX:Hid ((zF9 T P p a (o+k)).set (o+k) (zG4 r q p)=zF9 T P p a (o+(k+1))):=by
     show _=_
     rw [<- Nat.add_assoc,qL7 HR.out.2.2.2.1 HR.out.1,he.out]
    have hokl:o+k<(zF9 T P p a (o+k)).length:=(zA4.1 HR.out.2.2.2.2).1;have HG5:Hid (w.grownBy w4.drew (some g)):=zJ8 HG4.out bd;clear TS4 BT4 kq4 sp4 sr4 HG4 hq0;go_upto_region 5 with (fail)
    go_region_law (go_simp;go_at_call 153;refine (jB4 _ _ _ r q p S S S _ (by exact srd2) (by exact kqd) (by exact spd) HLS.out.1 HLS.out.2).mono ?_;rintro e w6 ⟨gn,rfl,RNn,hgn,b6⟩;have sR:=RNn.sl rfl HNL.out;have TS6:=TSd.below b6;obtain ⟨u0,c6⟩:=TS6.cellAt (i:=o+k) hokl;have f6:=TS6.frozenAt (o+k))
    all_goals
     have TS7:=TS6.stored (o+k) sR;rw [HNX.out] at TS7;have HG7:Hid (w.grownBy (w6.setCell ⟨g,o+k,none⟩ (.slice (some ⟨gn,0,none⟩) (zG4 r q p).length (zG4 r q p).length)) (some g)):=jD5 (zJ8 HG5.out b6);have HST7:Hid (zS6 w us (us'.set (o+k) (.slice (some ⟨gn,0,none⟩) (zG4 r q p).length (zG4 r q p).length))):=zS6.set HST.out HG5.out.size hgn (o+k);clear TS6 TSd;go_wp2;go_roundw;case rel=>exact ⟨k+1,_,by omega,TS7,HG7,HST7,by go_num⟩
     case measure=>simp [intOf];omega
  ·obtain rfl:k=m:=by omega
   go_wp2
   go_end0
   exact ⟨rfl,us',TS,HG.out,HST.out⟩
end Go.Proofs.YtagaabooccnamaaGreat.rat
