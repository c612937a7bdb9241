/- Package solve: Clear. Condition: as each says. -/
import Derived.Test.YtbfflcpmagjlnaaGreatKE6
import Derived.Deep.RegionHeld3
import Derived.Lib.AppendZerosOnto
import Derived.Shelf.Abstract
open Go.Proofs.Tryz
open Go.Lib renaming hid -> hQ9
set_option linter.unusedVariables false
set_option linter.unusedSimpArgs false
set_option maxRecDepth 100000
set_option maxHeartbeats 12800000
open And renaming intro -> zA
open List renaming set_cons_zero -> zA2, getElem?_eq_getElem -> zA3, getElem?_eq_some_iff -> zA4, mem_of_getElem? -> zA5, getD_eq_getElem?_getD -> zA6, take_of_length_le -> zA7, length_append -> zA8, length_map -> zA9, replicate -> zB, getElem?_append_left -> zB0, getElem?_map -> zB1, length_set -> zB2
open Nat renaming le_refl -> zB3, le_trans -> zB4
open Go.World renaming block_lt_of_cell? -> bQ0
open Classical renaming byContradiction -> bQ1
open List renaming getElem?_set_self -> bQ3, length_take -> bQ7, take_add_one -> bQ9, getElem?_append_right -> bW0, getElem?_set_ne -> bW1, length_replicate -> bW7, getElem?_toArray -> bW8, getElem?_drop -> bW9, ext_getElem? -> bX0, map_append -> bX5, take_zero -> bX6, map_toArray -> bX7
open Nat renaming pow_le_pow_right -> bX9, eq_zero_or_pos -> bY3, mul_le_mul_right -> bY4, zero_add -> bY5, mul_le_mul -> bY6
namespace Go.Proofs.YtbfflcpmagjlnaaGreat
namespace rat
open Go.RowKit num mem nat txt str flow whl
def zI4 (qs:List Rat):Nat:=qs.foldl (fun m q=>Nat.lcm m q.den) 1
theorem jP7 (qs:List Rat) (q:Rat):zI4 (qs ++ [q])=Nat.lcm (zI4 qs) q.den:=by unfold zI4;rw [List.foldl_append];rfl
theorem jP8:zI4 []=1:=rfl
theorem yP1 {qs:List Rat} {k:Nat} {q:Rat} (h:qs[k]?=some q):zI4 (qs.take (k+1))=Nat.lcm (zI4 (qs.take k)) q.den:=by rw [bQ9,h];exact jP7 _ _
theorem qX8 (qs:List Rat):0<zI4 qs:=by
 have key:∀ (l:List Rat) (m:Nat),0<m->0<l.foldl (fun m q=>Nat.lcm m q.den) m:=by
  intro l
  induction l with
  | nil=>exact fun m h=>h
  | cons q l ih=>exact fun m h=>ih _ (Nat.lcm_pos h q.den_pos)
 exact key qs 1 (by omega)
theorem yP2 {qs:List Rat}:∀ q∈qs,q.den∣zI4 qs:=by
  have key:∀ (l:List Rat) (m:Nat),m∣l.foldl (fun m q=>Nat.lcm m q.den) m /\ ∀ q∈l,q.den∣l.foldl (fun m q=>Nat.lcm m q.den) m:=by
    intro l
    induction l with
    | nil=>exact fun m=>⟨Nat.dvd_refl _,fun q hq=>by simp at hq⟩
    | cons q l ih =>
      intro m;obtain ⟨h1,h2⟩:=ih (Nat.lcm m q.den);refine ⟨Nat.dvd_trans (Nat.dvd_lcm_left m q.den) h1,fun x hx => ?_⟩;rcases List.mem_cons.1 hx with rfl|hx
      · exact Nat.dvd_trans (Nat.dvd_lcm_right m x.den) h1
      · exact h2 x hx
  exact (key qs 1).2
theorem lcm_len {x y m n:Nat} (hx:(digs 4294967296 x).length<=m) (hy:(digs 4294967296 y).length<=n) (h0:0<x) (h1:0<y):(digs 4294967296 (Nat.lcm x y)).length<=m+n:=by
 have h2:Nat.lcm x y<=x*y:=Nat.div_le_self _ _;have h3:=zG1 (B:=4294967296) (by omega) h2;have h4:=zY5 x y;omega
theorem yP3 {S:Nat}:∀ (qs:List Rat),(∀ q∈qs,zC3 q S) -> ∀ k,(digs 4294967296 (zI4 (qs.take k))).length<=1+S*k:=by
  intro qs h k
  induction k with
  | zero=>rw [bX6,jP8];exact zB4 (zG7 (k:=1) (by omega) (by decide)) (by omega)
  | succ k ih =>
    cases hq:qs[k]? with
    | none=>rw [bQ9,hq,Nat.mul_succ];simp;omega
    | some q =>
      rw [yP1 hq,Nat.mul_succ];have h2:=lcm_len ih (h q (zA5 hq)).2 (qX8 _) q.den_pos;omega
def zK4 (qs:List Rat):List Int:=qs.map fun q=>q.num*((zI4 qs / q.den:Nat):Int)
theorem yP4 {qs:List Rat} {k:Nat} {q:Rat} (h:qs[k]?=some q):(zK4 qs)[k]?=some (q.num*((zI4 qs / q.den:Nat):Int)):=by unfold zK4;rw [zB1,h];rfl
theorem zX8 (qs:List Rat):(zK4 qs).length=qs.length:=by unfold zK4;rw [zA9]
theorem jP9 {q:Rat} {m:Nat} (h:q.den∣m):((q.num*((m / q.den:Nat):Int):Int):Rat)=q*(m:Rat):=by
 obtain ⟨c,rfl⟩:=h
 have hd:(q.den:Rat)≠0:=by
  intro e;have h2:=q.den_pos;have h3:((q.den:Nat):Rat)=((0:Nat):Rat):=e
  have:=Rat.natCast_inj.1 h3
  omega
 rw [Nat.mul_div_cancel_left c q.den_pos,Rat.intCast_mul];have e1:q=(q.num:Rat) / (q.den:Rat):=(Rat.mkRat_self q).symm.trans (Rat.mkRat_eq_div q.num q.den);have e0:(q.num:Rat) / (q.den:Rat)*(q.den:Rat)=(q.num:Rat):=by rw [Rat.div_def,Rat.mul_assoc,Rat.mul_comm (q.den:Rat)⁻¹,Rat.mul_inv_cancel _ hd,Rat.mul_one]
 have e:(q.num:Rat)=q*(q.den:Rat):=by rw [<- e1] at e0;exact e0.symm
 rw [e];have e2:(((q.den*c:Nat):Nat):Rat)=(q.den:Rat)*(c:Rat):=Rat.natCast_mul _ _;rw [e2];show q*(q.den:Rat)*((c:Int):Rat)=q*((q.den:Rat)*(c:Rat))
 rw [show ((c:Int):Rat)=(c:Rat) from rfl]
 grind
theorem yP5 (a0:Value) (qs:List Rat) (S:Nat) (w:World) (h0:SlF .u64 4294967296 w a0 qs) (hc:Hid (qs.length<=100/\S<=100 /\ ∀ q∈qs,zC3 q S)) :
  Calls prog 48 #[a0] w (fun e w' => ∃ g v,e=.returned (.tuple #[.slice (some ⟨g,0,none⟩) qs.length qs.length,v])/\w.heap.size<=g/\zK w' g qs.length (zK4 qs)/\IsS w' .u64 v (digs 4294967296 (zI4 qs))/\Below w.heap.size w w'):=by
 obtain ⟨n,hn⟩:∃ n,n=qs.length:=⟨_,rfl⟩;obtain ⟨A0,c0,rfl,hc0,hm0⟩:=h0.shape;rw [<- hn] at h0 hc0 |-;have hn100:n<=100:=by rw [hn];exact hc.out.1
 have HN:=hQ9 hn;have HS0:=hQ9 h0
 have HLL:Hid (∀ k,k<=n->(digs 4294967296 (zI4 (qs.take k))).length<=10001):=fun k hk=>by
  have h1:=yP3 qs hc.out.2.2 k;have h2:S*k<=100*100:=bY6 hc.out.2.1 (by omega);omega
 unfold maxLen at hm0;clear h0 hn
 go_enter func48,ntmps48;go_wp2_with fail
 refine (qE8 _ 1 _ rfl (by omega)).mono ?_;rintro e w1 ⟨v1,rfl,k1,-,b1⟩;have k10:IsS w1 .u64 v1 (digs 4294967296 (zI4 (qs.take 0))):=by rw [bX6];exact k1
 have HB1:=hQ9 b1;clear k1 b1;go_wp2
 go_loopw [4,13] (fun v4 v13 wr => ∃ k:Nat,k<=n/\IsS wr .u64 v4 (digs 4294967296 (zI4 (qs.take k)))/\Hid (Below w.heap.size w wr)/\v13=.int .i64 (k:Int)) (fun _ v13 _=>n-(intOf v13).toNat)
 case atStart=>exact ⟨0,by omega,k10,HB1,rfl⟩
 case round =>
  clear k10 HB1;obtain ⟨k,hk,km,HB,rfl⟩:=hrel;obtain ⟨wo,hwo⟩:∃ wo,wo=wr:=⟨_,rfl⟩;subst hwo;obtain ⟨Am,cm,rfl,_⟩:=id km;by_cases hlt:k<n
  ·obtain ⟨q,hq⟩:∃ q,qs[k]?=some q:=⟨_,zA3 (by rw [<- HN.out];exact hlt)⟩;obtain ⟨g,o,u,t,rfl,hkn,p0,p1,p2,su,st⟩:=(HS0.out.bQ HB.out).at_ hq;obtain ⟨At,ct,rfl,_⟩:=id st;have hix:=fun w=>zH9 (P:=prog) underlying46 (by kernel_rfl) (g:=g) (o:=o) (c:=c0) hkn w;have hlq:=(hc.out.2.2 q (zA5 hq)).2;have hS:=hc.out.2.1;have hl1:(digs 4294967296 (zI4 (qs.take k))).length<=90000:=by have:=HLL.out k (by omega);omega
   obtain ⟨M,hM⟩:∃ M,M=zI4 (qs.take k):=⟨_,rfl⟩;obtain ⟨M2,hM2⟩:∃ M2,M2=Nat.lcm M q.den:=⟨_,rfl⟩;have HM2:Hid (zI4 (qs.take (k+1))=M2):=by show _=_;rw [yP1 hq,hM2,hM]
   have hMp:0<M:=by rw [hM];exact qX8 _
   rw [<- hM] at km hl1 |-;have CL:∀ w v u,IsS w .u64 v (digs 4294967296 M)->IsS w .u64 u (digs 4294967296 q.den)->Calls prog 80 #[v,u] w (zD7 .u64 (digs 4294967296 M2) w):=fun w v u h1 h2=>by rw [hM2];exact jO4 v u M q.den w h1 h2 hl1 (by omega) hMp
   clear hq hM hM2 hlq hl1 hMp;go_wp2_with fail
   refine (CL _ _ _ km st).mono ?_;rintro e w2 ⟨v2,rfl,k2,-,b2⟩;have k3:IsS w2 .u64 v2 (digs 4294967296 (zI4 (qs.take (k+1)))):=by rw [HM2.out];exact k2
   have HB2:Hid (Below w.heap.size w w2):=HB.out.trans (b2.mono HB.out.size);clear k2 b2 km st su p0 p1 p2 CL HB hix;go_wp2;go_roundw;case rel=>exact ⟨k+1,by omega,k3,HB2,by go_num⟩
   case measure=>simp [intOf];omega
  ·have km2:IsS wo .u64 (.slice Am (digs 4294967296 (zI4 (qs.take k))).length cm) (digs 4294967296 (zI4 qs)):=by
    have h:=km;rw [show qs.take k=qs from zA7 (by have:=HN.out;omega)] at h |-;exact h
   obtain ⟨lm,hlm⟩:∃ lm,lm=(digs 4294967296 (zI4 (qs.take k))).length:=⟨_,rfl⟩;rw [<- hlm] at km2 |-;obtain ⟨M,hM⟩:∃ M,M=zI4 qs:=⟨_,rfl⟩;rw [<- hM] at km2;have HM:=hQ9 hM
   have hlM:(digs 4294967296 M).length<=10001:=by
    have h:=HLL.out n (zB3 n);rw [show qs.take n=qs from zA7 (by have:=HN.out;omega)] at h;rw [hM];exact h
   obtain ⟨mk,hmk⟩:=Classical.axiomOfChoice (fun w=>yO0 (P:=prog) (w:=w) underlying83 whl.info_int n (by omega));have hmk1:=fun w=>(hmk w).1;have HMK:=hQ9 (fun w=>(hmk w).2);clear hmk hM hlm km;obtain ⟨ri,bm⟩:=HMK.out wo;have RI0:zK (mk wo) wo.heap.size n ((zK4 qs).take 0):=by rw [bX6];exact ri
   have HKM:=hQ9 km2;have HBo:=hQ9 HB.out;have HB0:Hid (Below wo.heap.size wo (mk wo)):=bm;have hwo2:=HB.out.size;clear ri bm km2 HB;go_wp2
   go_loopw [29] (fun v29 wr => ∃ k:Nat,k<=n/\zK wr wo.heap.size n ((zK4 qs).take k)/\Hid (Below wo.heap.size wo wr)/\v29=.int .i64 (k:Int)) (fun v29 _=>n-(intOf v29).toNat)
   case atStart=>exact ⟨0,by omega,RI0,HB0,rfl⟩
   case round =>
    clear RI0 HB0;obtain ⟨k,hk,RI,HBi,rfl⟩:=hrel;obtain ⟨wi,hwi⟩:∃ wi,wi=wr:=⟨_,rfl⟩;subst hwi;have HBx:Hid (Below w.heap.size w wi):=HBo.out.trans (HBi.out.mono hwo2);by_cases hlt:k<n
    ·obtain ⟨q,hq⟩:∃ q,qs[k]?=some q:=⟨_,zA3 (by rw [<- HN.out];exact hlt)⟩;obtain ⟨g,o,u,t,rfl,hkn,p0,p1,p2,su,st⟩:=(HS0.out.bQ HBx.out).at_ hq;obtain ⟨Au,cu,rfl,_⟩:=id su;obtain ⟨At,ct,rfl,_⟩:=id st;have hix:=fun w=>zH9 (P:=prog) underlying46 (by kernel_rfl) (g:=g) (o:=o) (c:=c0) hkn w;have hq2:=hc.out.2.2 q (zA5 hq);have hS:=hc.out.2.1;have hdv:=yP2 q (zA5 hq);obtain ⟨t2,ht2⟩:∃ t2,t2=M / q.den:=⟨_,rfl⟩;have hm0':M % q.den=0:=by rw [HM.out];exact Nat.mod_eq_zero_of_dvd hdv
     have hlt2:(digs 4294967296 t2).length<=10001:=by rw [ht2];exact zB4 (zG1 (by omega) (Nat.div_le_self _ _)) hlM
     have HDP:Hid (0<q.den):=q.den_pos;have HMD:=hQ9 hm0';have HT2:=hQ9 ht2;obtain ⟨Z,hZ⟩:∃ Z,Z=q.num*(t2:Int):=⟨_,rfl⟩
     have HZ:Hid ((zK4 qs).take (k+1)=(zK4 qs).take k ++ [Z]):=by
      show _=_
      rw [bQ9,yP4 hq,hZ,ht2,HM.out];rfl
     have hl0:zC2 q.num<=100:=zB4 hq2.1 hS;have hl1:(digs 4294967296 q.den).length<=90000:=by have:=hq2.2;omega
     have hl2:zC2 ((t2:Nat):Int)<=100000:=by unfold zC2;rw [Int.natAbs_natCast];omega
     have km:=HKM.out.bQ HBi.out;clear hq hq2 hdv hm0' ht2;go_wp2_with fail
     refine (qB4 _ _ M q.den _ km st (by omega) hl1 HDP.out t2 HMD.out HT2.out).mono ?_;rintro e w3 ⟨v3,rfl,k3,-,b3⟩;obtain ⟨A3,c3,rfl,_⟩:=id k3;have CMd:∀ w v,IsS w .u64 v (digs 4294967296 t2)->Calls prog 79 #[.bool false,v] w (zE9 ((t2:Nat):Int) w):=fun w v h=>whl.made_any false v t2 _ w h (by omega) rfl;obtain ⟨T2,hT2⟩:∃ T2:Int,T2=((t2:Nat):Int):=⟨_,rfl⟩;rw [<- hT2] at CMd hl2 hZ;have CMl:∀ w a b,IsZ w a q.num->IsZ w b T2->Calls prog 82 #[a,b] w (zE9 Z w):=fun w a b h1 h2=>zZ4 a b q.num T2 Z w h1 h2 (by omega) hl2 hZ;have b3d:=b3.trans ((Below.refl w3.heap.size w3).drew.mono b3.size);have RId:=RI.bQ b3d;have kx:IsZ w3.drew (.agg #[.bool (ngB q.num),.slice Au (digs 4294967296 q.num.natAbs).length cu]) q.num:=⟨_,rfl,su.bQ b3d⟩;have k3d:=k3.bQ (Below.refl _ w3).drew;have x0:=(b3d.cell (bQ0 wi _ p0)).trans p0;have x1:=(b3d.cell (bQ0 wi _ p1)).trans p1;have HBd:Hid (Below wo.heap.size wo w3.drew):=HBi.out.trans (b3d.mono HBi.out.size);have hrl:((zK4 qs).take k).length=k:=by rw [bQ7,zX8,<- HN.out];omega
     have HRL:=hQ9 hrl;have hixI:=fun w=>yO4 (P:=prog) underlying83 (by kernel_rfl) (g:=wo.heap.size) (c:=n) hlt w;have hszd:=HBd.out.size;clear hT2 hl0 hl1 hl2 hlt2 hZ km st su p0 p1 p2 RI b3 k3 hrl HBi;go_upto_region 12 with (fail)
     go_region_law (first | (go_simp;go_at_call 79;refine (CMd _ _ (by exact k3d)).mono ?_;rintro e w4 ⟨v4,rfl,k4,-,b4⟩;obtain ⟨u4,rfl,s4⟩:=k4;obtain ⟨A4,c4,rfl,_⟩:=id s4;have x04:=(b4.cell (bQ0 w3.drew _ x0)).trans x0;have x14:=(b4.cell (bQ0 w3.drew _ x1)).trans x1;have kx4:=kx.bQ b4)|(go_simp;go_at_call 82;refine (CMl _ _ _ (by exact kx4) ⟨_,rfl,(by exact s4)⟩).mono ?_;rintro e w5 ⟨v5,rfl,k5,-,b5⟩;obtain ⟨u5,rfl,s5⟩:=k5;obtain ⟨A5,c5,rfl,_⟩:=id s5;have RI5:=(RId.bQ b4).bQ b5;obtain ⟨X8,Y8,P0,P1,Q0,Q1⟩:=RI5.places hlt;rw [bY5] at P0 P1 Q0 Q1))
     all_goals
      obtain ⟨G8,R8⟩:=RI5.set2 (z:=Z) (by rw [HRL.out];exact hlt) s5;rw [HRL.out,bY5] at G8 R8;rw [<- HZ.out] at R8;have HB8:=hQ9 (((HBd.out.trans (b4.mono hszd)).trans (b5.mono (zB4 hszd b4.size))).grown G8 (zB4 (zB4 hszd b4.size) b5.size) (fun g e=>by injection e with e;omega));clear RId RI5 G8 kx kx4 k3d x0 x1 x04 x14 s4 s5 P0 P1 Q0 Q1 CMd CMl b4 b5 HBd hix hixI;go_wp2;go_roundw;case rel=>exact ⟨k+1,by omega,R8,HB8,by go_num⟩
      case measure=>simp [intOf];omega
    ·have HR:Hid (zK wi wo.heap.size n (zK4 qs)):=by
      have h:=RI;rw [zA7 (by rw [zX8,<- HN.out];omega)] at h;exact h
     have HKf:Hid (IsS wi .u64 (.slice Am lm cm) (digs 4294967296 M)):=HKM.out.bQ HBi.out;clear RI;go_wp2;go_ret2;exact ⟨_,_,rfl,hwo2,HR.out,by rw [<- HM.out];exact HKf.out,HBx.out⟩
theorem qX9 (a0 a1:Value) (T U:List (List Rat)) (b:Bool) (w:World) (h0:SlT .u64 4294967296 w a0 T) (h1:SlT .u64 4294967296 w a1 U) (hb:b=true ↔ zF5 T/\zF5 U/\T.length=U.length) :
  Calls prog 20 #[a0,a1] w (zE1 (.bool b) w):=by
 have st0:=h0;have st1:=h1;obtain ⟨A0,c0,rfl,hc0,hm0⟩:=h0.shape;obtain ⟨A1,c1,rfl,hc1,hm1⟩:=h1.shape;unfold maxLen at hm0 hm1;have HB:=hQ9 hb;clear hb h0 h1
 go_enter func20,ntmps20
 by_cases hT:zF5 T
 ·have CT:=qO3 _ T 0 _ st0 (by rw [if_pos hT]);have HT:=hQ9 hT;clear hT
  go_wp2_with fail
  refine CT.mono ?_;rintro e w1 ⟨rfl,b1⟩;have st2:=st1.bQ b1;by_cases hU:zF5 U
  ·have CU:=qO3 _ U 0 _ st2 (by rw [if_pos hU]);have HU:=hQ9 hU;clear hU
   go_wp2_with fail
   refine CU.mono ?_;rintro e w2 ⟨rfl,b2⟩;have bb:=b1.trans (b2.mono b1.size)
   have hv:(((T.length:Nat):Int) == ((U.length:Nat):Int))=b:=by
    rw [Bool.eq_iff_iff,beq_iff_eq,HB.out];exact ⟨fun h=>⟨HT.out,HU.out,by omega⟩,fun h=>by have:=h.2.2;omega⟩
   go_wp2;go_ret;exact ⟨rfl,bb⟩
  ·have CU:=qO3 _ U 8 _ st2 (by rw [if_neg hU]);have hv:b=false:=Bool.eq_false_iff.2 fun h=>hU (HB.out.1 h).2.1;subst hv;clear hU
   go_wp2_with fail
   refine CU.mono ?_;rintro e w2 ⟨rfl,b2⟩;have bb:=b1.trans (b2.mono b1.size);go_wp2;go_ret;exact ⟨rfl,bb⟩
 ·have CT:=qO3 _ T 8 _ st0 (by rw [if_neg hT]);have hv:b=false:=Bool.eq_false_iff.2 fun h=>hT (HB.out.1 h).1;subst hv;clear hT
  go_wp2_with fail
  refine CT.mono ?_;rintro e w1 ⟨rfl,b1⟩;go_wp2;go_ret;exact ⟨rfl,b1⟩
theorem qD5 (a0 a1:Value) (T U:List (List Rat)) (b:Bool) (w:World) (h0:SlT .u64 4294967296 w a0 T) (h1:SlT .u64 4294967296 w a1 U) (hb:b=true ↔ T.length=zC T/\zF5 T/\zF5 U/\T.length=U.length) :
  Calls prog 16 #[a0,a1] w (zE1 (.bool b) w):=by
 have st0:=h0;have st1:=h1;obtain ⟨A0,c0,rfl,hc0,hm0⟩:=h0.shape;obtain ⟨A1,c1,rfl,hc1,hm1⟩:=h1.shape;unfold maxLen at hm0 hm1;have HB:=hQ9 hb;clear hb h0 h1
 go_enter func16,ntmps16;go_wp2_with fail
 refine (zR _ T _ st0).mono ?_;rintro e w1 ⟨rfl,b1⟩;obtain ⟨C,hC⟩:∃ C,C=zC T:=⟨_,rfl⟩;have HC:=hQ9 hC;rw [<- hC];clear hC;by_cases he:T.length=C
 ·have hv:(((T.length:Nat):Int) == ((C:Nat):Int))=true:=by rw [beq_iff_eq];omega
  have CP:=qX9 _ _ T U b _ (st0.bQ b1) (st1.bQ b1) (by rw [HB.out];exact ⟨fun h=>h.2,fun h=>⟨by rw [<- HC.out];exact he,h⟩⟩);clear he;go_wp2_with fail
  refine CP.mono ?_;rintro e w2 ⟨rfl,b2⟩;have bb:=b1.trans (b2.mono b1.size);go_wp2;go_ret;exact ⟨rfl,bb⟩
 ·have hv:(((T.length:Nat):Int) == ((C:Nat):Int))=false:=by rw [Bool.eq_false_iff];intro h;rw [beq_iff_eq] at h;omega
  have hb:b=false:=Bool.eq_false_iff.2 fun h=>he (by rw [HC.out];exact (HB.out.1 h).1);subst hb;clear he;go_wp2;go_ret;exact ⟨rfl,b1⟩
end rat
namespace rat
open Go.RowKit Go.Shelf num mem nat txt str flow whl
def okq (A B:List (List Rat)):Prop:=A.length=zC A/\zF5 A/\zF5 B/\A.length=B.length
theorem okq.sa {A B:List (List Rat)} (h:okq A B):shp A A.length A.length:=⟨rfl,fun r hr=>by rw [h.2.1.2.2 r hr];exact h.1.symm⟩
theorem okq.sb {A B:List (List Rat)} (h:okq A B):shp B A.length (zC B):=⟨h.2.2.2.symm,fun r hr=>h.2.2.1.2.2 r hr⟩
theorem okq.wj {A B:List (List Rat)} (h:okq A B):zC (zF0 A B)=A.length+zC B\/A.length=0:=by
 by_cases h0:A.length=0
 ·exact .inr h0
 ·exact .inl (zX0 (zX1 h.sa h.sb) (fun e=>absurd e h0))
theorem okq.wj_le {A B:List (List Rat)} (h:okq A B):zC (zF0 A B)<=A.length+zC B:=by
 rcases h.wj with e | e
 ·omega
 ·have h1:=zX1 h.sa h.sb;have h2:zF0 A B=[]:=List.length_eq_zero_iff.1 (by rw [h1.1,e]);rw [h2];exact Nat.zero_le _
theorem okq.may {A B:List (List Rat)} (h:okq A B) (hw:A.length+zC B<=200):zF5 (zF0 A B):=by
 have h1:=zX1 h.sa h.sb;refine ⟨by rw [h1.1];have:=h.2.1.1;omega,zB4 h.wj_le hw,fun r hr => ?_⟩;rcases h.wj with e | e
 ·rw [e];exact h1.2 r hr
 ·have h2:zF0 A B=[]:=List.length_eq_zero_iff.1 (by rw [h1.1,e]);rw [h2] at hr;cases hr
theorem jQ (A B:List (List Rat)):zO7 A.length [A,B]=zF0 A B:=by
 show zF0 (zF0 (zB A.length []) A) B=zF0 A B
 rw [qV0]
theorem okq.stp {A B:List (List Rat)} {S:Nat} (h:okq A B) (ok:zX (zF0 A B) S):StpIn A B A.length (zC B) S:=⟨rfl,h.sa,h.sb,rfl,h.wj,ok⟩
def qP8 (A B:List (List Rat)) (L:Nat) (w:World) (e:Ending) (w':World):Prop:=(okq A B/\yN9 A B L w e w')\/(¬ okq A B/\e=.returned (.tuple #[.slice none 0 0,.int .i64 8])/\Below w.heap.size w w')
theorem qY {w:World} {a0 a1:Value} {A B:List (List Rat)} (T:TypeId) (h0:SlT .u64 4294967296 w a0 A) (h1:SlT .u64 4294967296 w a1 B):zL5 (w.alloc (.cells #[a0,a1] T)) (.slice (some ⟨w.heap.size,0,none⟩) 2 2) [A,B]:=by
 have hb:=zC9 (w:=w) (zB3 _) (.cells #[a0,a1] T);refine ⟨[a0,a1],rfl,zS7 w T [a0,a1],by simp,fun i u t hu ht => ?_⟩;rcases i with _ | _ | i
 ·obtain rfl:a0=u:=by simpa using hu
  obtain rfl:A=t:=by simpa using ht
  exact h0.bQ hb
 ·obtain rfl:a1=u:=by simpa using hu
  obtain rfl:B=t:=by simpa using ht
  exact h1.bQ hb
 ·simp at hu
structure SolIn (A B:List (List Rat)) (S:Nat):Prop where
 len:A.length<=200
 wide:zC A+zC B<=200
 la:zD6 A 100000
 lb:zD6 B 100000
 ok:okq A B->zX (zF0 A B) S
theorem jQ0 (a0 a1:Value) (A B:List (List Rat)) (S:Nat) (w:World) (h0:SlT .u64 4294967296 w a0 A) (h1:SlT .u64 4294967296 w a1 B) (hc:Hid (SolIn A B S)) :
  Calls prog 11 #[a0,a1] w (qP8 A B 2450 w):=by
 have st0:=h0;have st1:=h1;obtain ⟨A0,c0,rfl,hc0,hm0⟩:=h0.shape;obtain ⟨A1,c1,rfl,hc1,hm1⟩:=h1.shape;unfold maxLen at hm0 hm1;have HS0:=hQ9 st0;have HS1:=hQ9 st1;clear h0 h1 st0 st1
 go_enter func11,ntmps11
 by_cases ho:okq A B
 ·have CF:=qD5 _ _ A B true _ HS0.out HS1.out ⟨fun _=>ho,fun _=>rfl⟩;have HO:=hQ9 ho;clear ho
  go_wp2_with fail
  refine CF.mono ?_;rintro e w1 ⟨rfl,b1⟩;have k0:=HS0.out.bQ b1;have k1:=HS1.out.bQ b1;obtain ⟨w2,hw2⟩:∃ w2,w2=w1.alloc (.cells #[.slice A0 A.length c0,.slice A1 B.length c1] 22):=⟨_,rfl⟩;have hL:=qY 22 k0 k1;have hb2:=zC9 (w:=w1) (zB3 _) (.cells #[.slice A0 A.length c0,.slice A1 B.length c1] 22);have hsz2:w1.heap.size=w1.heap.size:=rfl;rw [<- hw2] at hL hb2;have HB2:Hid (Below w.heap.size w w2):=b1.trans (hb2.mono b1.size);have HL:=hQ9 hL;clear hL hb2 k0 k1;go_wp2_with fail
  rw [<- hw2];clear hw2 b1
  refine (jL0 _ [A,B] A _ HL.out rfl ⟨by simp,by simpa using hc.out.wide,fun t ht=>by
   rcases List.mem_cons.1 ht with rfl|ht
   ·exact hc.out.la
   ·rw [List.mem_singleton.1 ht];exact hc.out.lb,hc.out.len⟩).mono ?_
  rintro e w3 (⟨-,V,rfl,hV,b3⟩|⟨hn,_⟩)
  ·rw [if_pos rfl,jQ] at hV;have HB3:Hid (Below w.heap.size w w3):=HB2.out.trans (b3.mono HB2.out.size);obtain ⟨AV,cV,rfl,-,-⟩:=id hV.shape;have HW:Hid (zF5 (zF0 A B)):=HO.out.may (by have:=hc.out.wide;have:=HO.out.1;omega);have CB:=fun w (h:SlT .u64 4294967296 w (.slice AV (zF0 A B).length cV) (zF0 A B))=>jO3 _ A B A.length (zC B) S w h HW.out (HO.out.stp (hc.out.ok HO.out));clear b3
   go_wp2_with fail
   refine (CB _ hV).mono ?_;rintro e w4 ⟨b4,(⟨h5,V4,X,rfl,hX⟩|⟨h5,rfl⟩)⟩
   ·have HF:=hQ9 (zA h5 hX);have HB4:Hid (Below w.heap.size w w4):=HB3.out.trans (b4.mono HB3.out.size);clear h5 hX b4 hV;go_wp2;go_ret2;exact .inl ⟨HO.out,HB4.out,.inl ⟨HF.out.1,_,X,rfl,HF.out.2⟩⟩
   ·have HF:=hQ9 h5;have HB4:Hid (Below w.heap.size w w4):=HB3.out.trans (b4.mono HB3.out.size);clear h5 b4 hV;go_wp2;go_ret2;exact .inl ⟨HO.out,HB4.out,.inr ⟨HF.out,rfl⟩⟩
  ·exact absurd (fun t ht=>by
    rcases List.mem_cons.1 ht with rfl|ht
    ·exact ⟨HO.out.2.1,rfl⟩
    ·rw [List.mem_singleton.1 ht];exact ⟨HO.out.2.2.1,HO.out.2.2.2.symm⟩) hn
 ·have CF:=qD5 _ _ A B false _ HS0.out HS1.out ⟨fun h=>Bool.noConfusion h,fun h=>absurd h ho⟩;have HO:=hQ9 ho;clear ho
  go_wp2_with fail
  refine CF.mono ?_;rintro e w1 ⟨rfl,b1⟩;go_wp2;go_ret2;exact .inr ⟨HO.out,rfl,b1⟩
end rat
namespace rat
open Go.RowKit num mem nat txt str flow whl
def zX9 (C g:Nat):Value:=.slice (some ⟨g,0,none⟩) C C
def zR2 (C n:Nat) (gs:List Nat):List Value:=gs.map (zX9 C) ++ zB n (.slice none 0 0)
theorem yP6 (C n:Nat) (gs:List Nat):(zR2 C n gs).length=gs.length+n:=by simp [zR2]
theorem jQ1 {C n i g:Nat} {gs:List Nat} (h:gs[i]?=some g):(zR2 C n gs)[i]?=some (zX9 C g):=by
 unfold zR2;rw [zB0 (by rw [zA9];exact (zA4.1 h).1),zB1,h];rfl
theorem jQ2 (C n:Nat) (gs:List Nat) (g:Nat):(zR2 C (n+1) gs).set gs.length (zX9 C g)=zR2 C n (gs ++ [g]):=by
 unfold zR2;rw [List.set_append_right _ _ (by rw [zA9];exact zB3 _),zA9,Nat.sub_self,List.replicate_succ,zA2,bX5];simp
structure TabZ (w:World) (gT C base n:Nat) (gs:List Nat) (T:List (List Rat)):Prop where
 blk:zG0 w gT 46 (zR2 C n gs)
 len:gs.length=T.length
 row:∀ (i g:Nat) (r:List Rat),gs[i]?=some g->T[i]?=some r->r.length=C/\zD2 w g C r/\base<=g
 apart:∀ (i j g:Nat),gs[i]?=some g->gs[j]?=some g->i=j
theorem TabZ.bQ {w w':World} {gT C base n:Nat} {gs:List Nat} {T:List (List Rat)} (h:TabZ w gT C base n gs T) (hb:Below w.heap.size w w'):TabZ w' gT C base n gs T :=
 ⟨h.blk.bQ hb,h.len,fun i g r h1 h2=>⟨(h.row i g r h1 h2).1,(h.row i g r h1 h2).2.1.bQ hb,(h.row i g r h1 h2).2.2⟩,h.apart⟩
theorem zD2.notTab {w:World} {g n gT:Nat} {qs:List Rat} {us:List Value} (h:zD2 w g n qs) (ht:zG0 w gT 46 us):g≠gT:=fun e=>by
 obtain ⟨ps,_,_,h3,_⟩:=h;have h4:=ht.1;unfold Blk at h3 h4;rw [e,h4] at h3;injection h3 with h3;injection h3 with _ h3;exact absurd h3 (by decide)
theorem zD2.offT {w w':World} {g n gT:Nat} {qs:List Rat} {us:List Value} (h:zD2 w g n qs) (ht:zG0 w gT 46 us) (hg:w.grownBy w' (some gT)):zD2 w' g n qs :=
 h.offb ht.1 (fun c hc n e=>by
  obtain ⟨A,m,d,e1⟩:=ht.2 c (List.mem_toArray.1 hc);rw [e1] at e;cases e) hg (h.notTab ht)
theorem TabZ.rowAt {w:World} {gT C base n i:Nat} {gs:List Nat} {T:List (List Rat)} {r:List Rat} (h:TabZ w gT C base n gs T) (hr:T[i]?=some r):∃ g,gs[i]?=some g/\r.length=C/\zD2 w g C r/\base<=g:=by
 have h1:gs[i]?=some (gs[i]'(by rw [h.len];exact (zA4.1 hr).1)):=zA3 _;exact ⟨_,h1,h.row i _ r h1 hr⟩
theorem TabZ.slT {w:World} {gT C base R:Nat} {gs:List Nat} {T:List (List Rat)} (h:TabZ w gT C base 0 gs T) (hR:T.length=R) (hm:R<=1000000000) (hc:C<=1000000000):SlT .u64 4294967296 w (.slice (some ⟨gT,0,none⟩) R R) T:=by
 have hT:zE2 .u64 4294967296 w gT 46 (zR2 C 0 gs) T:=⟨h.blk,by rw [yP6,h.len];rfl,fun i u r hu hr=>by
  obtain ⟨g,h1,h2,h3,_⟩:=h.rowAt hr;rw [jQ1 h1] at hu;injection hu with hu;subst hu;exact h3.sl h2 hc⟩
 exact hT.slT hR hm
structure TabP (w:World) (gT C base n:Nat) (gs:List Nat) (T:List (List Rat)) (g:Nat) (r:List Rat):Prop where
 blk:zG0 w gT 46 (zR2 C n (gs ++ [g]))
 len:gs.length=T.length
 row:∀ (i g:Nat) (r:List Rat),gs[i]?=some g->T[i]?=some r->r.length=C/\zD2 w g C r/\base<=g
 apart:∀ (i j g':Nat),(gs ++ [g])[i]?=some g'->(gs ++ [g])[j]?=some g'->i=j
 cur:zD2 w g C r
 low:base<=g
theorem TabP.bQ {w w':World} {gT C base n g:Nat} {gs:List Nat} {T:List (List Rat)} {r:List Rat} (h:TabP w gT C base n gs T g r) (hb:Below w.heap.size w w'):TabP w' gT C base n gs T g r :=
 ⟨h.blk.bQ hb,h.len,fun i g r h1 h2=>⟨(h.row i g r h1 h2).1,(h.row i g r h1 h2).2.1.bQ hb,(h.row i g r h1 h2).2.2⟩,h.apart,h.cur.bQ hb,h.low⟩
theorem TabP.drew {w:World} {gT C base n g:Nat} {gs:List Nat} {T:List (List Rat)} {r:List Rat} (h:TabP w gT C base n gs T g r):TabP w.drew gT C base n gs T g r:=h.bQ (Below.refl _ w).drew
theorem TabP.start {w:World} {gT C base n g:Nat} {gs:List Nat} {T:List (List Rat)} (h:TabZ w gT C base (n+1) gs T) (hr:zD2 w g C []) (hb:base<=g) (hn:∀ i:Nat,gs[i]? ≠ some g):TabP (w.setCell ⟨gT,gs.length,none⟩ (zX9 C g)) gT C base n gs T g []:=by
 have hg:=zF4 w gT gs.length (zX9 C g);refine ⟨?_,h.len,fun i g' r' h1 h2 => ?_,fun i j g' h1 h2 => ?_,hr.offT h.blk hg,hb⟩
 ·rw [<- jQ2];exact h.blk.put (heap_setCell h.blk.1) ⟨_,_,_,rfl⟩
 ·obtain ⟨k1,k2,k3⟩:=h.row i g' r' h1 h2;exact ⟨k1,k2.offT h.blk hg,k3⟩
 ·have key:∀ i,(gs ++ [g])[i]?=some g'->(i<gs.length/\gs[i]?=some g')\/(i=gs.length/\g=g'):=fun i h1=>by
   by_cases hi:i<gs.length
   ·rw [zB0 hi] at h1;exact .inl ⟨hi,h1⟩
   ·have hi2:=(zA4.1 h1).1;rw [zA8,List.length_singleton] at hi2;obtain rfl:i=gs.length:=by omega
    rw [List.getElem?_concat_length] at h1;injection h1 with h1;exact .inr ⟨rfl,h1⟩
  rcases key i h1 with ⟨_,k1⟩|⟨e1,k1⟩<;>rcases key j h2 with ⟨_,k2⟩|⟨e2,k2⟩
  ·exact h.apart i j g' k1 k2
  ·rw [<- k2] at k1;exact absurd k1 (hn i)
  ·rw [<- k1] at k2;exact absurd k2 (hn j)
  ·omega
theorem TabP.ne {w:World} {gT C base n g:Nat} {gs:List Nat} {T:List (List Rat)} {r:List Rat} (h:TabP w gT C base n gs T g r) {i g':Nat} (hi:gs[i]?=some g'):g'≠g:=fun e=>by
 have h1:=(zA4.1 hi).1;have h2:=h.apart i gs.length g (by rw [zB0 h1,hi,e]) (List.getElem?_concat_length);omega
theorem TabP.set {w w':World} {gT C base n g:Nat} {gs:List Nat} {T:List (List Rat)} {r r':List Rat} (h:TabP w gT C base n gs T g r) (hg:w.grownBy w' (some g)) (hr:zD2 w' g C r'):TabP w' gT C base n gs T g r' :=
 ⟨h.blk.grown hg (fun e => h.cur.notTab h.blk (by injection e)), h.len, fun i g' r0 h1 h2 => by
  obtain ⟨k1,k2,k3⟩:=h.row i g' r0 h1 h2;exact ⟨k1,k2.away h.cur hg (h.ne h1),k3⟩,h.apart,hr,h.low⟩
theorem TabP.done {w:World} {gT C base n g:Nat} {gs:List Nat} {T:List (List Rat)} {r:List Rat} (h:TabP w gT C base n gs T g r) (hl:r.length=C):TabZ w gT C base n (gs ++ [g]) (T ++ [r]):=by
 refine ⟨h.blk,by rw [zA8,zA8,h.len];rfl,fun i g' r' h1 h2 => ?_,h.apart⟩;by_cases hi:i<gs.length
 ·rw [zB0 hi] at h1;rw [zB0 (by rw [<- h.len];exact hi)] at h2;exact h.row i g' r' h1 h2
 ·have hi2:=(zA4.1 h1).1;rw [zA8,List.length_singleton] at hi2;obtain rfl:i=gs.length:=by omega
  rw [List.getElem?_concat_length] at h1;rw [h.len,List.getElem?_concat_length] at h2;injection h1 with h1;injection h2 with h2;subst h1;subst h2;exact ⟨hl,h.cur,h.low⟩
theorem TabP.cellAt {w:World} {gT C base n g:Nat} {gs:List Nat} {T:List (List Rat)} {r:List Rat} (h:TabP w gT C base n gs T g r):w.cell? ⟨gT,gs.length,none⟩=some (zX9 C g):=by
 rw [h.blk.1.cell];unfold zR2;simp
def zM2 (d:Int) (r:List Int):List Rat:=r.map fun z=>Rat.divInt z d
def zI5 (d:Int) (T:List (List Int)):List (List Rat):=T.map (zM2 d)
theorem qP9 (d:Int) (r:List Int):(zM2 d r).length=r.length:=by unfold zM2;rw [zA9]
theorem qQ (d:Int) (T:List (List Int)):(zI5 d T).length=T.length:=by unfold zI5;rw [zA9]
theorem jQ3 {d:Int} {r:List Int} {k:Nat} {z:Int} (h:r[k]?=some z):(zM2 d r).take (k+1)=(zM2 d r).take k ++ [Rat.divInt z d]:=by
 rw [bQ9,zM2,zB1,h];rfl
theorem jQ4 {d:Int} {T:List (List Int)} {k:Nat} {r:List Int} (h:T[k]?=some r):(zI5 d T).take (k+1)=(zI5 d T).take k ++ [zM2 d r]:=by
 rw [bQ9,zI5,zB1,h];rfl
def RetOv (T:List (List Rat)) (w:World) (e:Ending) (w':World):Prop:=∃ v,e=.returned v/\SlT .u64 4294967296 w' v T/\Below w.heap.size w w'
theorem yP7 (a0 a1:Value) (T:List (List Int)) (d:Int) (n m:Nat) (w:World) (h0:SlW .u64 4294967296 w a0 T) (h1:IsZ w a1 d) (hd:d≠0) (hc:Hid (T.length=n/\(∀ r∈T,r.length=m)/\n<=200/\m<=200/\zC2 d<=1000 /\ ∀ r∈T,∀ z∈r,zC2 z<=1000)) :
  Calls prog 19 #[a0,a1] w (RetOv (zI5 d T) w):=by
 have HS0:=hQ9 h0;obtain ⟨A0,c0,rfl,hc0,hm0⟩:=h0.shape;rw [hc.out.1] at HS0 hc0 |-;obtain ⟨u1,rfl,s1⟩:=h1;obtain ⟨A1,c1,rfl,_⟩:=id s1;unfold maxLen at hm0;have hn:=hc.out.2.2.1;have HD:=hQ9 hd;clear h0 hd
 go_enter func19,ntmps19
 go_upto_region 1 with (fail)
 obtain ⟨wx,hwx,bb,B1,hsz⟩:=zL1 w 42 #[.bool (ngB d),.slice A1 (digs 4294967296 d.natAbs).length c1];rw [hwx];clear hwx;have HX:=hQ9 bb;have HB1:=hQ9 B1;have HS1:=hQ9 (s1.bQ bb);have HSX:Hid (SlW .u64 4294967296 wx (.slice A0 n c0) T):=HS0.out.bQ bb;clear bb B1 s1 HS0;obtain ⟨mk,hmk⟩:=Classical.axiomOfChoice (fun w=>qI1 (P:=prog) (w:=w) underlying22 qI5 n (by omega));have hmk1:=fun w=>(hmk w).1;have HMK:=hQ9 (fun w=>(hmk w).2);clear hmk;obtain ⟨tb,bm⟩:=HMK.out wx;have hgx:wx.heap.size<(mk wx).heap.size:=tb.lt
 have TZ0:TabZ (mk wx) wx.heap.size m wx.heap.size (n-0) [] ((zI5 d T).take 0):=by
  rw [bX6];exact ⟨tb,rfl,fun i g r h=>by simp at h,fun i j g h=>by simp at h⟩
 have HB0:Hid (Below wx.heap.size wx (mk wx)):=bm;clear tb bm HMK;go_wp2
 go_loopw [13] (fun v13 wr => ∃ (k:Nat) (gs:List Nat),k<=n/\TabZ wr wx.heap.size m wx.heap.size (n-k) gs ((zI5 d T).take k)/\Hid (Below wx.heap.size wx wr)/\v13=.int .i64 (k:Int)) (fun v13 _=>n-(intOf v13).toNat)
 case atStart=>exact ⟨0,[],by omega,TZ0,HB0,rfl⟩
 case round =>
  clear TZ0 HB0 hmk1;obtain ⟨k,gs,hk,TZ,HB,rfl⟩:=hrel;obtain ⟨wo,hwo⟩:∃ wo,wo=wr:=⟨_,rfl⟩;subst hwo;by_cases hlt:k<n
  ·obtain ⟨r,hr⟩:∃ r,T[k]?=some r:=⟨_,zA3 (by rw [hc.out.1];exact hlt)⟩;have hrm:r.length=m:=hc.out.2.1 r (zA5 hr);have hm:=hc.out.2.2.2.1;obtain ⟨ad,rfl⟩:=HSX.out.place (fun e=>by rw [e] at hr;simp at hr);obtain ⟨Ar,cr,hkn,ecr,sr⟩:=HSX.out.at2 hr;rw [hrm] at ecr sr;have HE:=hQ9 ecr;have HSR:=hQ9 sr;have HRZ:Hid (∀ z∈r,zC2 z<=1000):=hc.out.2.2.2.2.2 r (zA5 hr);have HTS:Hid ((zI5 d T).take (k+1)=(zI5 d T).take k ++ [zM2 d r]):=jQ4 hr;have HRM:=hQ9 hrm;have e0:=(HB.out.cell (bQ0 wx _ ecr)).trans ecr;obtain ⟨mkq,hmkq⟩:=Classical.axiomOfChoice (fun w=>qW3 (P:=prog) (w:=w) underlying46 zP3 m (by omega));have hmk1:=fun w=>(hmkq w).1;obtain ⟨RN0,bm⟩:=(hmkq wo).2;clear hmkq ecr sr hr hrm;obtain ⟨n',hn'⟩:∃ n',n-k=n'+1:=⟨n-k-1,by omega⟩;rw [hn'] at TZ;have HN':Hid (n'=n-(k+1)):=by show _=_;omega
   clear hn';have hgl:gs.length=k:=by rw [TZ.len,bQ7,qQ,hc.out.1];omega
   have HGL:=hQ9 hgl;have hgo:wx.heap.size<=wo.heap.size:=HB.out.size;have TB:=TZ.bQ bm
   have TP:=TabP.start TB RN0 hgo (fun i hi=>by
    have hi2:=(zA4.1 hi).1;obtain ⟨r2,hr2⟩:∃ r2,((zI5 d T).take k)[i]?=some r2:=⟨_,zA3 (by rw [<- TZ.len];exact hi2)⟩
    have:=(TZ.row i _ r2 hi hr2).2.1.lt
    omega)
   rw [hgl] at TP;unfold zX9 at TP;obtain ⟨u4,hu4⟩:∃ u,(zR2 m (n'+1) gs)[k]?=some u:=⟨_,zA3 (by rw [yP6];omega)⟩;have c4:(mkq wo).cell? ⟨wx.heap.size,k,none⟩=some u4:=by rw [TB.blk.1.cell,bW8];exact hu4
   have f4:=TB.blk.1.frozen k;have e1:=(bm.cell (bQ0 wo _ e0)).trans e0;have HBW:Hid (Below wx.heap.size wx _):=(HB.out.trans (bm.mono hgo)).setCell (p:=⟨wx.heap.size,k,none⟩) (zB3 _) (.slice (some ⟨wo.heap.size,0,none⟩) m m);have e2:=(HBW.out.cell (bQ0 wx _ HE.out)).trans HE.out;have ez:([]:List Rat)=(zM2 d r).take 0:=List.take_zero.symm;have TP0:=TP;rw [ez] at TP0;clear ez;clear TP TB TZ RN0 bm HB hu4 hgl;go_wp2
   go_loopw [30] (fun v30 wr => ∃ j:Nat,j<=m/\TabP wr wx.heap.size m wx.heap.size n' gs ((zI5 d T).take k) wo.heap.size ((zM2 d r).take j)/\Hid (Below wx.heap.size wx wr)/\v30=.int .i64 (j:Int)) (fun v30 _=>m-(intOf v30).toNat)
   case atStart=>exact ⟨0,by omega,TP0,HBW,rfl⟩
   case round =>
    clear TP0 HBW e0 e1 e2 c4 f4 hmk1;obtain ⟨j,hj,TP,HB,rfl⟩:=hrel;obtain ⟨wi,hwi⟩:∃ wi,wi=wr:=⟨_,rfl⟩;subst hwi;by_cases hjl:j<m
    ·obtain ⟨z,hz⟩:∃ z,r[j]?=some z:=⟨_,zA3 (by rw [HRM.out];exact hjl)⟩;have hbd:Below wx.heap.size wx wi.drew:=HB.out.trans ((Below.refl _ wi).drew.mono HB.out.size);have e0:wi.drew.cell? _=_:=(hbd.cell (bQ0 wx _ HE.out)).trans HE.out;obtain ⟨g2,o2,uz,rfl,hjm,p0,p1,sz⟩:=HSR.out.at_ hz;obtain ⟨Az,cz,rfl,_⟩:=id sz;have hix:=fun w=>zX2 (P:=prog) underlying83 (by kernel_rfl) (g:=g2) (o:=o2) (c:=cr) hjl w;have hixq:=fun w=>yL4 (P:=prog) underlying46 (by kernel_rfl) (g:=wo.heap.size) (c:=m) hjl w;have x0:=(hbd.cell (bQ0 wx _ p0)).trans p0;have x1:=(hbd.cell (bQ0 wx _ p1)).trans p1;have kz:IsZ wi.drew (.agg #[.bool (ngB z),.slice Az (digs 4294967296 z.natAbs).length cz]) z:=⟨_,rfl,sz.bQ hbd⟩;have BD:=HB1.out.bQ hbd;obtain ⟨y0,y1,_,_⟩:=Blk.two BD;have kd:IsZ wi.drew (.agg #[.bool (ngB d),.slice A1 (digs 4294967296 d.natAbs).length c1]) d:=⟨_,rfl,HS1.out.bQ hbd⟩;have TPd:=TP.drew;have q0:=TPd.cellAt;rw [HGL.out] at q0;unfold zX9 at q0;obtain ⟨Q,hQ⟩:∃ Q,Q=Rat.divInt z d:=⟨_,rfl⟩;have HRS:Hid ((zM2 d r).take (j+1)=(zM2 d r).take j ++ [Q]):=by rw [hQ];exact jQ3 hz
     have CM:∀ w a b,IsZ w a z->IsZ w b d->Calls prog 37 #[a,b] w (zU7 Q 0 w):=fun w a b h1 h2=>by rw [hQ];exact jI0 a z b d w h1 h2 (HRZ.out z (zA5 hz)) hc.out.2.2.2.2.1 HD.out
     have HBd:=hQ9 hbd;have hszd:=hbd.size;have hjq:j=((zM2 d r).take j).length:=by rw [bQ7,qP9,HRM.out];omega
     have HJQ:=hQ9 hjq;clear hz hQ hbd p0 p1 sz TP HB BD hjq hjm;go_upto_region 9 with (fail)
     go_region_law (first | (go_simp;go_at_call 37;refine (CM _ _ _ (by exact kz) (by exact kd)).mono ?_;rintro e w3 ⟨v3,rfl,k3,b3⟩;obtain ⟨u3,t3,rfl,s3,d3⟩:=k3;obtain ⟨A3,c3,rfl,_⟩:=id s3;obtain ⟨D3,e3,rfl,_⟩:=id d3;have TP3:=TPd.bQ b3;have q3:=(b3.cell (bQ0 wi.drew _ q0)).trans q0;have z0:=(b3.cell (bQ0 wi.drew _ e0)).trans e0;obtain ⟨p5,q5,t5,P0,P1,P2,F0,F1,F2⟩:=TP3.cur.place hjl))
     all_goals
      obtain ⟨G8,R8,-⟩:=yL3 TP3.cur hjl s3 d3;have TP8:=TP3.set G8 (R8 HJQ.out);rw [<- HRS.out] at TP8;have HB8:=hQ9 ((HBd.out.trans (b3.mono hszd)).grown G8 (zB4 hszd b3.size) (fun q e=>by injection e with e;omega));clear R8 G8 TP3 TPd q0 q3 z0 e0 x0 x1 y0 y1 kz kd s3 d3 b3 CM HBd HRS P0 P1 P2 F0 F1 F2;go_wp2;go_roundw;case rel=>exact ⟨j+1,by omega,TP8,HB8,by go_num⟩
      case measure=>simp [intOf];omega
    ·have TZ2:TabZ wi wx.heap.size m wx.heap.size (n-(k+1)) (gs ++ [wo.heap.size]) ((zI5 d T).take (k+1)):=by
      have h:=TP;rw [show (zM2 d r).take j=zM2 d r from zA7 (by rw [qP9,HRM.out];omega)] at h;rw [HTS.out,<- HN'.out];exact h.done (by rw [qP9,HRM.out])
     clear TP;go_wp2;go_roundw;case rel=>exact ⟨k+1,_,by omega,TZ2,HB,by go_num⟩
     case measure=>simp [intOf];omega
  ·have HT:Hid (SlT .u64 4294967296 wo (.slice (some ⟨wx.heap.size,0,none⟩) n n) (zI5 d T)):=by
    have h:=TZ;rw [zA7 (by rw [qQ,hc.out.1];omega),show n-k=0 by omega] at h;exact h.slT (by rw [qQ,hc.out.1]) (by omega) (by have:=hc.out.2.2.2.1;omega)
   have HBf:Hid (Below w.heap.size w wo):=HX.out.trans (HB.out.mono HX.out.size);clear TZ;go_wp2;go_ret;exact ⟨_,rfl,HT.out,HBf.out⟩
theorem digs_one:digs 4294967296 1=[1]:=by decide +kernel
def isB (v:Value):Prop:=(∃ b,v=.bool b) \/ ∃ A n c,v=.slice A n c
def zG6 (e:TypeId) (w:World) (base:Nat) (v:Value) (ps:List (Int × Value)):Prop:=w.ownsRow base e 2 v ps.length (zF2 ps) /\ ∀ g,v.ownBlock=some g -> ∃ cs,w.heap[g]?=some (.cells cs e (0,0)) /\ ∀ c∈cs,isB c
def qD6 (ps:List (Int × Value)):Prop:=∀ p∈ps,∃ A n c,p.2=.slice A n c
theorem jQ5 {ps:List (Int × Value)} (h:qD6 ps):∀ c∈zF2 ps,isB c:=fun c hc=>by
 obtain ⟨p,hp,hc⟩:=List.mem_flatMap.1 hc;obtain ⟨A,n,d,e⟩:=h p hp;simp only [e,List.mem_cons,List.not_mem_nil,or_false] at hc;rcases hc with rfl|rfl
 ·exact .inl ⟨_,rfl⟩
 ·exact .inr ⟨_,_,_,rfl⟩
theorem isB_one {c:Value} (h:isB c):c.oneCell'=true:=by
 rcases h with ⟨b,rfl⟩|⟨A,n,d,rfl⟩<;>rfl
theorem jQ6 (e:TypeId) (w:World) (base:Nat):zG6 e w base (.slice none 0 0) []:=⟨World.ownsRow_nil w base e 2,fun g h=>by cases h⟩
section
variable {P:Program}
theorem jQ7 {w:World} {base:Nat} {t ty e:TypeId} (hT:P.underlying t=some (.slice e)) (hI:∃ i,P.info? e=some i/\i.zero=some (.agg #[.bool false,.slice none 0 0])/\i.size=2/\i.bytes=32) {v:Value} {ps news:List (Int × Value)} (hown:zG6 e w base v ps) {ad:Addr} {m c:Nat} (hm:m=news.length) (hm0:0<m)
  (hr:∀ (i:Nat) (u:Value),(zF2 news)[i]?=some u->w.cell? (ad.add i)=some u) (h1:qD6 news) (hlen:ps.length+m<=1000000000) (hbase:base<=w.heap.size) :
  ∃ v' w',(Builtin.append_ #[t,t] ty #[v,.slice (some ad) m c]).run P w=.ok v' w'/\zG6 e w' base v' (ps ++ news)/\w.grownBy w' v.ownBlock/\(v'.ownBlock=v.ownBlock\/v'.ownBlock=some w.heap.size):=by
 obtain ⟨i,hi,hz,hs,hby⟩:=hI;subst hm;have hB:=jQ5 h1;have one:∀ u∈zF2 news,u.oneCell'=true:=fun u hu=>isB_one (hB u hu);have hl:(zF2 news).length=news.length*i.size:=by rw [hs,qP4]
 have zs:∀ n,∀ c∈Builtin.zeroCells (Value.agg #[.bool false,.slice none 0 0]).cells n,isB c:=by
  intro n c hc;unfold Builtin.zeroCells at hc;rw [show (Value.agg #[.bool false,.slice none 0 0]).cells = #[.bool false,.slice none 0 0] from rfl] at hc;simp at hc;obtain ⟨j,_,rfl⟩:=hc;rcases (show j % 2=0\/j % 2=1 by omega) with e | e
  ·simp [e];exact .inl ⟨_,rfl⟩
  ·simp [e];exact .inr ⟨_,_,_,rfl⟩
 obtain ⟨v',w',g1,g2,g3,_,g5⟩:=run_append_own_at (P:=P) w base t ty e i (.agg #[.bool false,.slice none 0 0]) 2 32 hT hi hz hs hby rfl (by decide) v ps.length (zF2 ps) hown.1 ad news.length c (zF2 news) (by rw [qP4]) (fun j u hu=>hr j u hu) one (by unfold maxLen;omega) (by omega) hbase;refine ⟨v',w',g1,⟨by rw [zA8,show zF2 (ps ++ news)=zF2 ps ++ zF2 news by simp [zF2]];exact g2,fun g hg => ?_⟩,g3,g5⟩;rcases hown.1.2 with ⟨rfl,h0⟩|⟨g',cap,cur,rfl,hbg,hgg,hnc,hcm,hcs,htake⟩
 ·have hx:ps=[]:=List.eq_nil_of_length_eq_zero h0;subst hx;have hr2:=run_append_nil (P:=P) w t ty e i (.agg #[.bool false,.slice none 0 0]) hT hi hz ad news.length c (zF2 news) hl hr hm0 (by omega) (by rw [hby];simp at hlen;omega);rw [hr2] at g1;injection g1 with g1 g1';subst g1;subst g1';obtain rfl:w.heap.size=g:=by simpa [Value.ownBlock] using hg
  refine ⟨_,heap_alloc_new w.drew _,fun c hc => ?_⟩;rcases Array.mem_append.1 hc with hc | hc
  ·exact hB c (by simpa using hc)
  ·exact zs _ c hc
 ·obtain ⟨cs,hcs1,hcs2⟩:=hown.2 g' rfl;rw [hgg] at hcs1;injection hcs1 with hcs1;injection hcs1 with hcs1 _ _;subst hcs1;by_cases hroom:ps.length+news.length<=cap
  ·have hfit:ps.length*i.size+(zF2 news).length<=cur.size:=by rw [hcs,hs,qP4];omega
   have hr2:=run_append_room (P:=P) w t ty e i hT hi g' ps.length cap cur hgg ad news.length c (zF2 news) hl hr one hroom hfit;rw [hr2] at g1;injection g1 with g1 g1';subst g1;subst g1';obtain rfl:g'=g:=by simpa [Value.ownBlock] using hg
   refine ⟨_,setRow_heap w g' cur _ e _ hgg,fun c hc => ?_⟩;have hc2:c∈cur.toList.take (ps.length*i.size) ++ zF2 news ++ cur.toList.drop (ps.length*i.size+(zF2 news).length):=by simpa using hc
   rcases List.mem_append.1 hc2 with hc2 | hc2
   ·rcases List.mem_append.1 hc2 with hc2 | hc2
    ·exact hcs2 c (by simpa using List.mem_of_mem_take hc2)
    ·exact hB c hc2
   ·exact hcs2 c (by simpa using List.mem_of_mem_drop hc2)
  ·have holds:∀ j u,(zF2 ps)[j]?=some u->w.cell? ((⟨g',0,none⟩:Addr).add j)=some u:=World.ownsRow.cells hown.1 (g:=g') rfl;have hr2:=run_append_grow (P:=P) w t ty e i (.agg #[.bool false,.slice none 0 0]) hT hi hz ⟨g',0,none⟩ ps.length cap (zF2 ps) (by rw [hs,qP4]) holds ad news.length c (zF2 news) hl hr (by omega) (by omega) (growslice_fits (by omega) (by rw [hby];omega));rw [hr2] at g1;injection g1 with g1 g1';subst g1;subst g1';obtain rfl:w.heap.size=g:=by simpa [Value.ownBlock] using hg
   refine ⟨_,heap_alloc_new w.drew _,fun c hc => ?_⟩;rcases Array.mem_append.1 hc with hc | hc
   ·rcases Array.mem_append.1 hc with hc | hc
    ·have hcv:c∈zF2 ps:=by simpa using hc
     rw [<- htake] at hcv;exact hcs2 c (by simpa using List.mem_of_mem_take hcv)
    ·exact hB c (by simpa using hc)
   ·exact zs _ c hc
end
section
variable {P:Program}
end
theorem zG6.under {e:TypeId} {w:World} {base:Nat} {v:Value} {ps:List (Int × Value)} (h:zG6 e w base v ps):∀ g,v.ownBlock=some g->base<=g/\g<w.heap.size:=fun g hg=>World.ownsRow.lt h.1 g hg
theorem zG6.slice {e:TypeId} {w:World} {base:Nat} {v:Value} {ps:List (Int × Value)} (h:zG6 e w base v ps):∃ A c,v=.slice A ps.length c:=by
 rcases h.1.2 with ⟨e1,h0⟩|⟨g,cap,cur,e1,_⟩
 ·exact ⟨none,0,by rw [e1,h0]⟩
 ·exact ⟨_,_,e1⟩
theorem zG6.bel {e:TypeId} {w w':World} {base:Nat} {v:Value} {ps:List (Int × Value)} (h:zG6 e w base v ps) (hg:w.grownBy w' v.ownBlock) (hb:base<=w.heap.size):Below base w w':=(Below.refl base w).grown hg hb (fun g e=>(h.under g e).1)
theorem zG6.keepS {e:TypeId} {w w':World} {base:Nat} {V:Value} {ps:List (Int × Value)} {k:IntKind} {v:Value} {l:List Nat} (h:zG6 e w base V ps) (hg:w.grownBy w' V.ownBlock) (hs:IsS w k v l):IsS w' k v l:=by
  cases ho:V.ownBlock with
  | none=>rw [ho] at hg;exact hs.bQ ⟨hg.os,hg.tape,hg.output,hg.size,fun k hk=>hg.block k hk (by simp)⟩
  | some g =>
    rw [ho] at hg;obtain ⟨cs,h1,h2⟩:=h.2 g ho;exact flow.off hs h1 (fun c hc n=>by rcases h2 c hc with ⟨b,rfl⟩|⟨A,m,d,rfl⟩<;>simp) hg
def SlP (w:World) (v:Value) (ps:List (Int × Value)):Prop:=∃ A c,v=.slice A ps.length c/\ps.length<=c/\c<=maxLen /\ ∀ (i:Nat) (p:Int × Value),ps[i]?=some p -> ∃ g o,A=some ⟨g,o,none⟩/\w.cell? ⟨g,o+i*2,none⟩=some (.bool (ngB p.1))/\w.cell? ⟨g,o+i*2+1,none⟩=some p.2
def zJ2 (k:IntKind) (B:Nat) (w:World) (ps:List (Int × Value)):Prop:=∀ p∈ps,IsS w k p.2 (digs B p.1.natAbs)
theorem SlZ.pairs {k:IntKind} {B:Nat} {w:World} {v:Value} {zs:List Int} (h:SlZ k B w v zs):∃ ps:List (Int × Value),ps.map (·.1)=zs/\SlP w v ps/\zJ2 k B w ps:=by
  obtain ⟨A,c,rfl,h2,h3,h4⟩:=h
  have h5:∀ i:Nat,∃ u:Value,∀ z,zs[i]?=some z -> ∃ g o,A=some ⟨g,o,none⟩/\w.cell? ⟨g,o+i*2,none⟩=some (.bool (ngB z))/\w.cell? ⟨g,o+i*2+1,none⟩=some u/\IsS w k u (digs B z.natAbs):=fun i=>by
    cases hz:zs[i]? with
    | none=>exact ⟨.bool false,fun z h=>by cases h⟩
    | some z =>
      obtain ⟨g,o,u,h⟩:=h4 i z hz;exact ⟨u,fun z' h'=>by injection h' with h';subst h';exact ⟨g,o,h⟩⟩
  obtain ⟨f,hf⟩:=Classical.axiomOfChoice h5;obtain ⟨ps,hps⟩:∃ ps:List (Int × Value),ps=(List.range zs.length).map fun i=>(zs.getD i 0,f i):=⟨_,rfl⟩;have hl:ps.length=zs.length:=by rw [hps];simp
  have at_:∀ (i:Nat) (p:Int × Value),ps[i]?=some p->zs[i]?=some p.1/\p.2=f i:=fun i p hp=>by
    have hi:=(zA4.1 hp).1;rw [hl] at hi;rw [hps,zB1,List.getElem?_range hi] at hp;injection hp with hp;subst hp;refine ⟨?_,rfl⟩;show zs[i]?=some (zs.getD i 0)
    rw [zA6,zA3 hi];rfl
  refine ⟨ps,?_,⟨A,c,by rw [hl],by rw [hl];exact h2,h3,fun i p hp => ?_⟩,fun p hp => ?_⟩
  · refine bX0 fun i => ?_;rw [zB1]
    cases hp:ps[i]? with
    | none =>
      have h6:¬ i<ps.length:=fun h=>by rw [zA3 h] at hp;cases hp
      rw [List.getElem?_eq_none (by omega)];rfl
    | some p=>rw [(at_ i p hp).1];rfl
  · obtain ⟨h6,h7⟩:=at_ i p hp;obtain ⟨g,o,e,c0,c1,_⟩:=hf i _ h6;exact ⟨g,o,e,c0,by rw [h7];exact c1⟩
  · obtain ⟨i,hi⟩:=List.mem_iff_getElem?.1 hp;obtain ⟨h6,h7⟩:=at_ i p hi;obtain ⟨g,o,e,c0,c1,s⟩:=hf i _ h6;rw [h7];exact s
theorem zJ2.sl {k:IntKind} {B:Nat} {w:World} {ps:List (Int × Value)} (h:zJ2 k B w ps):qD6 ps:=fun p hp=>by
 obtain ⟨A,c,e,_⟩:=h p hp;exact ⟨A,_,c,e⟩
theorem zJ2.bQ {k:IntKind} {B:Nat} {w w':World} {ps:List (Int × Value)} (h:zJ2 k B w ps) (hb:Below w.heap.size w w'):zJ2 k B w' ps:=fun p hp=>(h p hp).bQ hb
theorem zJ2.append {k:IntKind} {B:Nat} {w:World} {ps qs:List (Int × Value)} (h:zJ2 k B w ps) (h':zJ2 k B w qs):zJ2 k B w (ps ++ qs):=fun p hp=>by
 rcases List.mem_append.1 hp with hp | hp
 ·exact h p hp
 ·exact h' p hp
theorem zJ2.nil {k:IntKind} {B:Nat} {w:World} : zJ2 k B w []:=fun p hp=>by simp at hp
theorem SlP.bQ {w w':World} {v:Value} {ps:List (Int × Value)} (h:SlP w v ps) (hb:Below w.heap.size w w'):SlP w' v ps:=by
 obtain ⟨A,c,e,h1,h2,h3⟩:=h;refine ⟨A,c,e,h1,h2,fun i p hp => ?_⟩;obtain ⟨g,o,e2,c0,c1⟩:=h3 i p hp;exact ⟨g,o,e2,(hb.cell (bQ0 w _ c0)).trans c0,(hb.cell (bQ0 w _ c1)).trans c1⟩
theorem SlP.sl {k:IntKind} {B:Nat} {w:World} {v:Value} {ps:List (Int × Value)} (h:SlP w v ps) (hs:zJ2 k B w ps):SlZ k B w v (ps.map (·.1)):=by
  obtain ⟨A,c,e,h1,h2,h3⟩:=h;refine ⟨A,c,by rw [zA9];exact e,by rw [zA9];exact h1,h2,fun i z hz => ?_⟩;rw [zB1] at hz
  cases hp:ps[i]? with
  | none=>rw [hp] at hz;cases hz
  | some p =>
    rw [hp] at hz;obtain rfl:p.1=z:=by simpa using hz
    obtain ⟨g,o,e2,c0,c1⟩:=h3 i p hp;exact ⟨g,o,_,e2,c0,c1,hs p (zA5 hp)⟩
theorem yP8:∀ (ps:List (Int × Value)) (j:Nat) (u:Value),(zF2 ps)[j]?=some u -> ∃ i p,ps[i]?=some p/\((j=i*2/\u=.bool (ngB p.1))\/(j=i*2+1/\u=p.2))
  | [],j,u,h=>by simp [zF2] at h
  | p :: ps,0,u,h=>⟨0,p,rfl,.inl ⟨rfl,by simpa [zX3] using h.symm⟩⟩
  | p :: ps,1,u,h=>⟨0,p,rfl,.inr ⟨rfl,by simpa [zX3] using h.symm⟩⟩
  | p :: ps, j + 2, u, h => by
    have e:(zF2 (p :: ps))[j+2]?=(zF2 ps)[j]?:=by rw [zX3];simp
    rw [e] at h;obtain ⟨i,q,hq,h2⟩:=yP8 ps j u h;refine ⟨i+1,q,by simpa using hq,?_⟩;rcases h2 with ⟨a,b⟩|⟨a,b⟩
    · exact .inl ⟨by omega,b⟩
    · exact .inr ⟨by omega,b⟩
theorem SlP.flatAt {w:World} {A:Option Addr} {n c:Nat} {ps:List (Int × Value)} (h:SlP w (.slice A n c) ps) (hne:ps≠[]):∃ ad,A=some ad /\ ∀ (i:Nat) (u:Value),(zF2 ps)[i]?=some u->w.cell? (ad.add i)=some u:=by
 obtain ⟨A',c',e,h1,h2,h3⟩:=h;injection e with e1 e2 e3;subst e1;subst e2;subst e3;obtain ⟨p0,hp0⟩:∃ p0,ps[0]?=some p0:=⟨_,zA3 (List.length_pos_iff.2 hne)⟩;obtain ⟨g0,o0,rfl,_⟩:=h3 0 p0 hp0;refine ⟨_,rfl,fun j a ha => ?_⟩;obtain ⟨k,p,hp,h⟩:=yP8 ps j a ha;obtain ⟨g',o',e,c0,c1⟩:=h3 k p hp;injection e with e;injection e with e1 e2;subst e1;subst e2;rw [qW8];rcases h with ⟨rfl,rfl⟩|⟨rfl,rfl⟩
 ·exact c0
 ·rw [<- Nat.add_assoc];exact c1
section
variable {P:Program}
theorem jQ8 {w:World} {base:Nat} {t ty e:TypeId} (hT:P.underlying t=some (.slice e)) (hI:∃ i,P.info? e=some i/\i.zero=some (.agg #[.bool false,.slice none 0 0])/\i.size=2/\i.bytes=32) {v u:Value} {ps qs:List (Int × Value)} (hown:zG6 e w base v ps) (hu:SlP w u qs) (h1:qD6 qs) (hlen:ps.length+qs.length<=1000000000) (hbase:base<=w.heap.size) :
  ∃ v' w',(Builtin.append_ #[t,t] ty #[v,u]).run P w=.ok v' w'/\zG6 e w' base v' (ps ++ qs)/\w.grownBy w' v.ownBlock/\(v'.ownBlock=v.ownBlock\/v'.ownBlock=some w.heap.size):=by
 obtain ⟨A,c,rfl,hc,hm⟩:=id hu;by_cases hq:qs=[]
 ·subst hq;obtain ⟨i,hi,hz,hs,hb⟩:=hI
  have hcv:∃ Av cv,v=.slice Av ps.length cv/\ps.length<=cv:=by
   rcases hown.1.2 with ⟨e1,h0⟩|⟨g,cap,cur,e1,_,_,hn,_⟩
   ·exact ⟨none,0,by rw [e1,h0],by omega⟩
   ·exact ⟨_,cap,e1,hn⟩
  obtain ⟨Av,cv,rfl,hcv⟩:=hcv;refine ⟨_,w,?_,by rw [List.append_nil];exact hown,qO8 _ _,.inl rfl⟩;cases A<;>cases Av<;>simp [Builtin.append_,go_sem,run_underlying hT,sizeOf,typeInfo,hi,Builtin.lenOf,Builtin.firstCells,hcv,storeCells]
 ·obtain ⟨ad,rfl,hr⟩:=hu.flatAt hq;exact jQ7 hT hI hown rfl (List.length_pos_iff.2 hq) hr h1 hlen hbase
theorem jQ9 {w:World} {o:Oper} {a:Act} {K:Act->World->Prop} {Q:Exit->Act->World->Prop} (s x:Operand) {t:TypeId}
  (ho:o.op=.call { callee:=.builtin .append,args:=#[s,x],argTypes:=#[t,t] })
  {base:Nat} {e:TypeId} (hT:P.underlying t=some (.slice e)) (hI:∃ i,P.info? e=some i/\i.zero=some (.agg #[.bool false,.slice none 0 0])/\i.size=2/\i.bytes=32) {v u:Value} {ps qs:List (Int × Value)} (hs:a.eval s=v) (hown:zG6 e w base v ps) (hx:a.eval x=u) (hu:SlP w u qs) (h1:qD6 qs) (hlen:ps.length+qs.length<=1000000000) (hbase:base<=w.heap.size)
  (h:∀ v' w',zG6 e w' base v' (ps ++ qs)->Hid (w.grownBy w' v.ownBlock)->Hid (v'.ownBlock=v.ownBlock\/v'.ownBlock=some w.heap.size)->K (a.put o.dst v') w'):o.wp P a w K Q:=by
 obtain ⟨v',w',hrun,h2,h3,h4⟩:=jQ8 (P:=P) (ty:=o.type) hT hI hown hu h1 hlen hbase;unfold Oper.wp execOp;simp only [ho,resolve,invoke,builtin,Sem.run_bind,Sem.run_pure,Result.andThen_ok,bX7,List.map_cons,List.map_nil,hs,hx,hrun];exact h v' w' h2 h3 h4
theorem jR {w:World} {ops:Array Oper} {rest:List Oper} {o:Oper} {a:Act} {Q:Exit->Act->World->Prop} (hgd:o.guard=none) (s x:Operand) {t:TypeId}
  (ho:o.op=.call { callee:=.builtin .append,args:=#[s,x],argTypes:=#[t,t] })
  {base:Nat} {e:TypeId} (hT:P.underlying t=some (.slice e)) (hI:∃ i,P.info? e=some i/\i.zero=some (.agg #[.bool false,.slice none 0 0])/\i.size=2/\i.bytes=32) {v u:Value} {ps qs:List (Int × Value)} (hs:a.eval s=v) (hown:zG6 e w base v ps) (hx:a.eval x=u) (hu:SlP w u qs) (h1:qD6 qs) (hlen:ps.length+qs.length<=1000000000) (hbase:base<=w.heap.size)
  (h:∀ v' w',zG6 e w' base v' (ps ++ qs)->Hid (w.grownBy w' v.ownBlock)->Hid (v'.ownBlock=v.ownBlock\/v'.ownBlock=some w.heap.size)->wpList P ops Q rest (a.put o.dst v') w'):wpList P ops Q (o :: rest) a w :=
 wpList_plain hgd fun _ hK=>jQ9 s x ho hT hI hs hown hx hu h1 hlen hbase fun v' w' h2 h3 h4=>hK _ _ (h v' w' h2 h3 h4)
end
theorem zG6.slP {e:TypeId} {w:World} {base:Nat} {v:Value} {ps:List (Int × Value)} (h:zG6 e w base v ps):SlP w v ps:=by
 rcases h.1.2 with ⟨rfl,h0⟩|⟨g,cap,cur,rfl,_,hg,hn,hm,_,_⟩
 ·obtain rfl:ps=[]:=List.length_eq_zero_iff.1 h0;exact ⟨none,0,rfl,zB3 _,Nat.zero_le _,fun i p hp=>by simp at hp⟩
 ·refine ⟨some ⟨g,0,none⟩,cap,rfl,hn,hm,fun i p hp => ?_⟩;obtain ⟨f0,f1⟩:=qL9 ps i p hp;have k0:=World.ownsRow.cells h.1 (g:=g) rfl _ _ f0;have k1:=World.ownsRow.cells h.1 (g:=g) rfl _ _ f1;rw [zS] at k0 k1;exact ⟨g,0,rfl,by rw [bY5];exact k0,by rw [bY5];exact k1⟩
theorem zG6.keepN {e:TypeId} {w w':World} {base:Nat} {V:Value} {ps qs:List (Int × Value)} {k:IntKind} {B:Nat} (h:zG6 e w base V ps) (hg:w.grownBy w' V.ownBlock) (hs:zJ2 k B w qs):zJ2 k B w' qs:=fun p hp=>h.keepS hg (hs p hp)
theorem cell_ne {w:World} {a b:Addr} {c d:Value} (ha:w.cell? a=some c) (hb:w.cell? b=some d) (hn:c≠d):a≠b:=fun e=>by
 subst e;rw [ha] at hb;injection hb with hb;exact hn hb
theorem zY {w:World} {a b:Addr} {x:Value} (h:a≠b):(w.setCell a x).cell? b=w.cell? b:=by
 rw [World.cell?_setCell_other];exact h
theorem yP9 {w:World} {a:Addr} {x u:Value} (h:w.cell? a=some u):(w.setCell a x).cell? a=some x:=by
 apply World.cell?_setCell_same;exact h
theorem IsS.put {w:World} {k:IntKind} {v:Value} {l:List Nat} {a:Addr} {x c:Value} (h:IsS w k v l) (hc:w.cell? a=some c) (hn:∀ n,c ≠ .int k n):IsS (w.setCell a x) k v l:=by
 obtain ⟨A,cc,rfl,h1,h2,h3⟩:=h;refine ⟨A,cc,rfl,h1,h2,fun i d hd => ?_⟩;obtain ⟨ad,rfl,hq⟩:=h3 i d hd;refine ⟨ad,rfl,?_⟩;rw [zY (cell_ne hc hq (hn _))];exact hq
section
variable {w:World} {g o:Nat} {b0:Bool} {A0:Option Addr} {n0 c0:Nat} {x y:Value}
theorem off1 (g o:Nat):(⟨g,o,none⟩:Addr)≠⟨g,o+1,none⟩:=fun e=>by injection e with _ e;omega
theorem IsS.put2 {k:IntKind} {v:Value} {l:List Nat} (h:IsS w k v l) (k0:w.cell? ⟨g,o,none⟩=some (.bool b0)) (k1:w.cell? ⟨g,o+1,none⟩=some (.slice A0 n0 c0)):IsS ((w.setCell ⟨g,o,none⟩ x).setCell ⟨g,o+1,none⟩ y) k v l :=
 rat.IsS.put (rat.IsS.put h k0 (fun n=>by simp)) (c:=.slice A0 n0 c0) (by rw [zY (off1 g o)];exact k1) (fun n=>by simp)
theorem qY0 (w:World) (g o:Nat) (x y:Value):w.grownBy ((w.setCell ⟨g,o,none⟩ x).setCell ⟨g,o+1,none⟩ y) (some g):=(zF4 w g o x).trans (zF4 _ g (o+1) y)
theorem SlZ.put2 {k:IntKind} {B:Nat} {v:Value} {zs:List Int} (h:SlZ k B w v zs) (hne:v.ownBlock≠some g) (k0:w.cell? ⟨g,o,none⟩=some (.bool b0)) (k1:w.cell? ⟨g,o+1,none⟩=some (.slice A0 n0 c0)):SlZ k B ((w.setCell ⟨g,o,none⟩ x).setCell ⟨g,o+1,none⟩ y) v zs:=by
 obtain ⟨A,c,rfl,h2,h3,h4⟩:=h;refine ⟨A,c,rfl,h2,h3,fun i z hz => ?_⟩;obtain ⟨g',o',u,rfl,c0',c1',s⟩:=h4 i z hz;have hne':some g'≠some g:=fun e=>hne (by simpa [Value.ownBlock] using e);have hg:=qY0 w g o x y;exact ⟨g',o',u,rfl,hg.cell c0' hne',hg.cell c1' hne',rat.IsS.put2 s k0 k1⟩
theorem SlZ.setZ {k:IntKind} {B:Nat} {zs:List Int} {n c j:Nat} {z:Int} {u:Value} (h:SlZ k B w (.slice (some ⟨g,o,none⟩) n c) zs) (hj:j<zs.length) (hu:IsS w k u (digs B z.natAbs)):SlZ k B ((w.setCell ⟨g,o+j*2,none⟩ (.bool (ngB z))).setCell ⟨g,o+j*2+1,none⟩ u) (.slice (some ⟨g,o,none⟩) n c) (zs.set j z):=by
 obtain ⟨u0,hjn,p0,p1,s0⟩:=h.at2 (zA3 hj);obtain ⟨As,cs,rfl,_⟩:=id s0;obtain ⟨A,c',e,h2,h3,h4⟩:=h;injection e with e1 e2 e3;subst e1;subst e2;subst e3;refine ⟨_,_,by rw [zB2],by rw [zB2];exact h2,h3,fun i z' hz => ?_⟩;by_cases hi:j=i
 ·subst hi;rw [bQ3 hj] at hz;injection hz with hz;subst hz;refine ⟨g,o,u,rfl,?_,?_,rat.IsS.put2 hu p0 p1⟩
  ·rw [zY (fun e=>off1 g (o+j*2) e.symm),yP9 p0]
  ·exact yP9 (u:=.slice As (digs B (zs[j]).natAbs).length cs) (by rw [zY (off1 g (o+j*2))];exact p1)
 ·rw [bW1 hi] at hz;obtain ⟨g',o',u',e,c0',c1',s⟩:=h4 i z' hz;injection e with e;injection e with e4 e5;subst e4;subst e5;have d:∀ p q:Nat,p≠q->(⟨g,p,none⟩:Addr)≠⟨g,q,none⟩:=fun p q hn e=>by injection e with _ e;exact hn e
  refine ⟨g,o,u',rfl,?_,?_,rat.IsS.put2 s p0 p1⟩
  ·rw [zY (d _ _ (by omega)),zY (d _ _ (by omega))];exact c0'
  ·rw [zY (d _ _ (by omega)),zY (d _ _ (by omega))];exact c1'
end
theorem zE.setZ {B B0:Nat} {w:World} {g gr o n c i j:Nat} {TS:TypeId} {us:List Value} {T:List (List Int)} {r:List Int} {z:Int} {u:Value} (h:zE .u64 B w g TS us T) (ha:Apt w B0 us) (hu:us[i]?=some (.slice (some ⟨gr,o,none⟩) n c)) (hr:T[i]?=some r) (hj:j<r.length) (hs:IsS w .u64 u (digs B z.natAbs)) :
  zE .u64 B ((w.setCell ⟨gr,o+j*2,none⟩ (.bool (ngB z))).setCell ⟨gr,o+j*2+1,none⟩ u) g TS us (T.set i (r.set j z))/\gr≠g:=by
 have sr:=h.2.2 i _ r hu hr;obtain ⟨u0,hjn,p0,p1,s0⟩:=sr.at2 (zA3 hj);obtain ⟨As,cs,rfl,_⟩:=id s0
 have hne:gr≠g:=by
  intro e;subst e;rw [h.1.1.cell,bW8] at p0;obtain ⟨A',m,d,e4⟩:=h.1.2 _ (zA5 p0);cases e4
 refine ⟨⟨⟨Blk.grown h.1.1 (qY0 w gr (o+j*2) _ _) (fun e=>hne e.symm),h.1.2⟩,by rw [zB2];exact h.2.1,fun l x y hx hy => ?_⟩,hne⟩;by_cases hl:i=l
 ·subst hl;rw [bQ3 (zA4.1 hr).1] at hy;injection hy with hy;subst hy;rw [hu] at hx;injection hx with hx;subst hx;exact sr.setZ hj hs
 ·rw [bW1 hl] at hy;exact (h.2.2 l x y hx hy).put2 (fun e=>ha.2 i l _ x hl hu hx gr rfl e) p0 p1
theorem zG6.mono {e:TypeId} {w:World} {base base':Nat} {v:Value} {ps:List (Int × Value)} (h:zG6 e w base v ps) (hb:base'<=base):zG6 e w base' v ps:=by
 refine ⟨⟨h.1.1,?_⟩,h.2⟩;rcases h.1.2 with h1 | ⟨g,cap,cur,h1,h2,h3⟩
 ·exact .inl h1
 ·exact .inr ⟨g,cap,cur,h1,zB4 hb h2,h3⟩
theorem yQ (n:Nat):∀ c∈Builtin.zeroCells (Value.agg #[.bool false,.slice none 0 0]).cells n,isB c:=by
 intro c hc;unfold Builtin.zeroCells at hc;rw [show (Value.agg #[.bool false,.slice none 0 0]).cells = #[.bool false,.slice none 0 0] from rfl] at hc;simp at hc;obtain ⟨j,_,rfl⟩:=hc;rcases (show j % 2=0\/j % 2=1 by omega) with e | e
 ·simp [e];exact .inl ⟨_,rfl⟩
 ·simp [e];exact .inr ⟨_,_,_,rfl⟩
theorem yQ0 (n:Nat):(Builtin.zeroCells (Value.agg #[.bool false,.slice none 0 0]).cells n).size=n*2:=by
 unfold Builtin.zeroCells;rw [show (Value.agg #[.bool false,.slice none 0 0]).cells = #[.bool false,.slice none 0 0] from rfl];simp
section
variable {P:Program}
theorem jR0 {w:World} {t tn ty e:TypeId} {kn:IntKind} (hT:P.underlying t=some (.slice e)) (htn:P.underlying tn=some (.int kn)) (hI:∃ i,P.info? e=some i/\i.zero=some (.agg #[.bool false,.slice none 0 0])/\i.size=2/\i.bytes=32) {k:Nat} (h0:0<k) (hk:k<=1000000) :
  ∃ cap w',(Builtin.append_ #[t,tn] ty #[.slice none 0 0,.int .i64 (k:Int)]).run P w=.ok (.slice (some ⟨w.heap.size,0,none⟩) k cap) w'/\k<=cap/\zG6 e w' w.heap.size (.slice (some ⟨w.heap.size,0,none⟩) 0 cap) []/\Below w.heap.size w w':=by
 obtain ⟨i,hi,hz,hs,hb⟩:=hI;have h:=Go.Lib.run_append_grow_zeros (P:=P) w t tn ty e i (.agg #[.bool false,.slice none 0 0]) .i64 kn hT htn hi hz none 0 0 [] (by exact run_firstCells_none w.drew i.size 0 0 0) k h0 (by omega) (by omega) (by omega) (by rw [hb];omega) (growslice_fits (by omega) (by rw [hb];omega));obtain ⟨C,hC⟩:∃ C,C=grownCap w (0+k) 0 e:=⟨_,rfl⟩;have hC1:k<=C:=by rw [hC];have:=grownCap_ge w (0+k) 0 e;omega
 have hC2:C<=maxLen:=by rw [hC];exact grownCap_le_maxLen w (0+k) 0 e (by unfold maxLen;omega)
 rw [<- hC,bY5] at h;refine ⟨C,_,h,hC1,⟨⟨rfl,.inr ⟨w.heap.size,C,_,rfl,zB3 _,heap_alloc_new w.drew _,Nat.zero_le _,hC2,?_,by simp [zF2]⟩⟩,fun g hg => ?_⟩,((Below.refl w.heap.size w).drew).trans (zC9 (w:=w.drew) (zB3 _) _)⟩
 ·rw [Array.size_append,Array.size_append,yQ0,yQ0];simp;omega
 ·obtain rfl:w.heap.size=g:=by simpa [Value.ownBlock] using hg
  refine ⟨_,heap_alloc_new w.drew _,fun c hc => ?_⟩;rcases Array.mem_append.1 hc with hc | hc
  ·rcases Array.mem_append.1 hc with hc | hc
   ·simp at hc
   ·exact yQ _ c hc
  ·exact yQ _ c hc
theorem jR1 {w:World} {ops:Array Oper} {rest:List Oper} {o:Oper} {a:Act} {Q:Exit->Act->World->Prop} (hgd:o.guard=none) (s x:Operand) {t tn:TypeId} {kn:IntKind}
  (ho:o.op=.call { callee:=.builtin .append,args:=#[s,x],argTypes:=#[t,tn] })
  {e:TypeId} (hT:P.underlying t=some (.slice e)) (htn:P.underlying tn=some (.int kn)) (hI:∃ i,P.info? e=some i/\i.zero=some (.agg #[.bool false,.slice none 0 0])/\i.size=2/\i.bytes=32) {k:Nat} (hs:a.eval s=.slice none 0 0) (hx:a.eval x=.int .i64 (k:Int)) (h0:0<k) (hk:k<=1000000)
  (h:∀ cap w',k<=cap->zG6 e w' w.heap.size (.slice (some ⟨w.heap.size,0,none⟩) 0 cap) []->Below w.heap.size w w'->wpList P ops Q rest (a.put o.dst (.slice (some ⟨w.heap.size,0,none⟩) k cap)) w'):wpList P ops Q (o :: rest) a w :=
 wpList_plain hgd fun _ hK=>by
  obtain ⟨cap,w',hrun,h2,h3,h4⟩:=jR0 (P:=P) (w:=w) (ty:=o.type) hT htn hI h0 hk;unfold Oper.wp execOp;simp only [ho,resolve,invoke,builtin,Sem.run_bind,Sem.run_pure,Result.andThen_ok,bX7,List.map_cons,List.map_nil,hs,hx,hrun];exact hK _ _ (h cap w' h2 h3 h4)
end
theorem jR2 (n:Nat) (w:World) (hn:n<=1000000):Calls prog 76 #[.slice none 0 0,.int .i64 (n:Int)] w (fun e w' => ∃ V,e=.returned V/\zG6 42 w' w.heap.size V []/\Below w.heap.size w w'):=by
 by_cases h0:0<n
 ·go_enter func76,ntmps76
  go_wp2_with (at_builtin;refine jR1 rfl (.tmp 20) (.tmp 21) rfl underlying83 underlying3 whl.info_int (k:=n) rfl (by first | rfl | simp) h0 hn ?_;intro cap w2 hcap R2 b2)
  go_wp2;go_ret;exact ⟨_,rfl,R2,b2⟩
 ·obtain rfl:n=0:=by omega
  go_enter func76,ntmps76
  go_wp2;go_ret;exact ⟨_,rfl,jQ6 _ _ _,Below.refl _ _⟩
theorem qY1 {α : Type} {l:List (List α)} {k:Nat} {x:List α} (h:l[k]?=some x):(l.take (k+1)).flatten=(l.take k).flatten ++ x:=by rw [bQ9,h];simp
theorem qA6 {α : Type} {l:List (List α)} {k:Nat} {x:List α} (h:l[k]?=some x):((l.take (k+1)).flatten).length=((l.take k).flatten).length+x.length:=by rw [qY1 h,zA8]
theorem yQ1 {α : Type} {l:List (List α)} {m:Nat} (h:∀ x∈l,x.length<=m):∀ k,((l.take k).flatten).length<=k*m:=by
  intro k
  induction k with
  | zero=>simp
  | succ k ih =>
    cases hk:l[k]? with
    | none=>rw [bQ9,hk];simp;rw [Nat.succ_mul];have:=ih;simp at this;omega
    | some x=>rw [qA6 hk,Nat.succ_mul];have:=h x (zA5 hk);omega
theorem jR3 (V:Value) (vs:List Value) (pss:List (List (Int × Value))) (w:World) (hV:IsV w V vs) (hl:vs.length=pss.length) (hp:∀ (i:Nat) (v:Value) (ps:List (Int × Value)),vs[i]?=some v->pss[i]?=some ps->SlP w v ps/\zJ2 .u64 4294967296 w ps) (hn:pss.length<=10) (hs:∀ ps∈pss,ps.length<=1000) :
  Calls prog 44 #[V] w (fun e w' => ∃ V',e=.returned V'/\zG6 42 w' w.heap.size V' pss.flatten/\zJ2 .u64 4294967296 w' pss.flatten/\Below w.heap.size w w'):=by
 obtain ⟨A,c,rfl,hc,hcells⟩:=hV;have HC:=hQ9 hcells;have HP:=hQ9 hp;have HL:=hQ9 hl;obtain ⟨n,hnv⟩:∃ n,n=vs.length:=⟨_,rfl⟩;rw [<- hnv] at hl hc |-;have HN:Hid (n=vs.length/\n=pss.length/\n<=10):=⟨hnv,by omega,by omega⟩;have HB:=hQ9 (yQ1 hs);have hn10:n<=10:=HN.out.2.2;clear hcells hp hs hnv hl hn
 go_enter func44,ntmps44
 go_wp2
 go_loopw [3,11] (fun v3 v11 wr => ∃ k s:Nat,k<=n/\Hid (s=((pss.take k).flatten).length)/\Hid (Below w.heap.size w wr)/\v3=.int .i64 (s:Int)/\v11=.int .i64 (k:Int)) (fun _ v11 _=>n-(intOf v11).toNat)
 case atStart =>
  have H0:Hid (0=((pss.take 0).flatten).length):=by show _=_;simp
  exact ⟨0,0,by omega,H0,Below.refl _ _,rfl,rfl⟩
 case round =>
  obtain ⟨k,s,hk,HS,HBw,rfl,rfl⟩:=hrel;obtain ⟨wo,hwo⟩:∃ wo,wo=wr:=⟨_,rfl⟩;subst hwo;have hsb:s<=10000:=by have h1:=HB.out k;have h2:=HS.out;have h3:=HN.out;have:k*1000<=10*1000:=bY4 _ (by omega);omega
  by_cases hlt:k<n
  ·obtain ⟨v,hv⟩:∃ v,vs[k]?=some v:=⟨_,zA3 (by have:=HN.out.1;omega)⟩;obtain ⟨ps,hps⟩:∃ ps,pss[k]?=some ps:=⟨_,zA3 (by have:=HN.out.2.1;omega)⟩;obtain ⟨ad,rfl,ec0⟩:=HC.out k v hv;have ec:=(HBw.out.cell (bQ0 w _ ec0)).trans ec0;obtain ⟨Av,cv,rfl,hcv,hcm,-⟩:=(HP.out k v ps hv hps).1;have hpl:ps.length<=11000:=by have h1:=HB.out (k+1);rw [qA6 hps] at h1;have h3:=HN.out;have:(k+1)*1000<=11*1000:=bY4 _ (by omega);omega
   have HS2:Hid (s+ps.length=((pss.take (k+1)).flatten).length):=by show _=_;rw [qA6 hps,<- HS.out]
   clear hv hps ec0;go_wp2;go_roundw;case rel=>exact ⟨k+1,s+ps.length,by omega,HS2,HBw,by go_num,by go_num⟩
   case measure=>simp [intOf];omega
  ·obtain rfl:n=k:=by omega
   go_wp2_with fail
   refine (jR2 s _ (by omega)).mono ?_;rintro e w2 ⟨V2,rfl,R2,b2⟩;have hbo:=HBw.out.size;have R2m:=R2.mono hbo;have HB2:Hid (Below w.heap.size w w2):=HBw.out.trans (b2.mono hbo);obtain ⟨Ar,cr,rfl⟩:=R2.slice;clear R2 b2;go_wp2
   go_loopw [6,27] (fun v6 v27 wr => ∃ k:Nat,k<=n/\zG6 42 wr w.heap.size v6 (pss.take k).flatten/\Hid (zJ2 .u64 4294967296 wr (pss.take k).flatten)/\Hid (Below w.heap.size w wr)/\v27=.int .i64 (k:Int)) (fun _ v27 _=>n-(intOf v27).toNat)
   case atStart =>
    have HN0:Hid (zJ2 .u64 4294967296 w2 (pss.take 0).flatten):=by show zJ2 _ _ _ _;simp;exact zJ2.nil
    exact ⟨0,by omega,by simpa using R2m,HN0,HB2,rfl⟩
   case round =>
    clear R2m HB2;obtain ⟨k,hk,R,HNP,HBr,rfl⟩:=hrel;obtain ⟨wi,hwi⟩:∃ wi,wi=wr:=⟨_,rfl⟩;subst hwi;obtain ⟨A6,c6,rfl⟩:=R.slice;obtain ⟨m6,hm6⟩:∃ m6,m6=((pss.take k).flatten).length:=⟨_,rfl⟩;rw [<- hm6] at R |-;have HM6:=hQ9 hm6;have hm6b:m6<=10000:=by have h1:=HB.out k;have h3:=HN.out;have:k*1000<=10*1000:=bY4 _ (by omega);omega
    clear hm6;by_cases hlt:k<n
    ·obtain ⟨v,hv⟩:∃ v,vs[k]?=some v:=⟨_,zA3 (by have:=HN.out.1;omega)⟩;obtain ⟨ps,hps⟩:∃ ps,pss[k]?=some ps:=⟨_,zA3 (by have:=HN.out.2.1;omega)⟩;obtain ⟨ad,rfl,ec0⟩:=HC.out k v hv;have ec:=(HBr.out.cell (bQ0 w _ ec0)).trans ec0;obtain ⟨sp0,np0⟩:=HP.out k v ps hv hps;have sp:=sp0.bQ HBr.out;have np:=np0.bQ HBr.out;obtain ⟨Av,cv,rfl,hcv,hcm,-⟩:=id sp;have hlen:((pss.take k).flatten).length+ps.length<=1000000000:=by have h1:=HB.out (k+1);rw [qA6 hps] at h1;have h3:=HN.out;have:(k+1)*1000<=11*1000:=bY4 _ (by omega);omega
     have hbase:=HBr.out.size;have HF:Hid ((pss.take (k+1)).flatten=(pss.take k).flatten ++ ps):=qY1 hps;have hall:=np.sl;clear hv hps ec0 sp0 np0
     go_wp2_with (at_builtin;refine jR rfl (.tmp 31) (.tmp 32) rfl underlying83 whl.info_int rfl R rfl sp hall hlen hbase ?_;intro V3 w3 R3 G3 O3)
     have R4:zG6 42 w3 w.heap.size V3 (pss.take (k+1)).flatten:=by rw [HF.out];exact R3
     have HNP3:Hid (zJ2 .u64 4294967296 w3 (pss.take (k+1)).flatten):=by show zJ2 _ _ _ _;rw [HF.out];exact (R.keepN G3.out HNP.out).append (R.keepN G3.out np)
     have HB3:Hid (Below w.heap.size w w3):=HBr.out.trans (R.bel G3.out hbase);clear R3 R sp np HNP HBr G3 O3 ec;go_wp2;go_roundw;case rel=>exact ⟨k+1,by omega,R4,HNP3,HB3,by go_num⟩
     case measure=>simp [intOf];omega
    ·obtain rfl:k=n:=by omega
     have HT:Hid (pss.take k=pss):=zA7 (by have:=HN.out.2.1;omega);go_wp2;go_ret;exact ⟨_,rfl,by have:=R;rwa [HT.out] at this,by have:=HNP.out;rwa [HT.out] at this,HBr.out⟩
theorem zD0.mono {e:TypeId} {w:World} {base base':Nat} {v:Value} {ps:List Elt} (h:zD0 e w base v ps) (hb:base'<=base):zD0 e w base' v ps:=by
 refine ⟨h.1,?_⟩;rcases h.2 with h1 | ⟨g,cap,cur,h1,h2,h3⟩
 ·exact .inl h1
 ·exact .inr ⟨g,cap,cur,h1,zB4 hb h2,h3⟩
theorem zD0.slice {e:TypeId} {w:World} {base:Nat} {v:Value} {ps:List Elt} (h:zD0 e w base v ps):∃ A c,v=.slice A ps.length c:=by
 rcases h.2 with ⟨e1,h0⟩|⟨g,cap,cur,e1,_⟩
 ·exact ⟨none,0,by rw [e1,h0]⟩
 ·exact ⟨_,_,e1⟩
theorem yQ2 (n:Nat):(Builtin.zeroCells (Value.agg #[.bool false,.slice none 0 0,.slice none 0 0]).cells n).size=n*3:=by
 unfold Builtin.zeroCells;rw [show (Value.agg #[.bool false,.slice none 0 0,.slice none 0 0]).cells = #[.bool false,.slice none 0 0,.slice none 0 0] from rfl];simp
section
variable {P:Program}
theorem jR4 {w:World} {ops:Array Oper} {rest:List Oper} {o:Oper} {a:Act} {Q:Exit->Act->World->Prop} (hgd:o.guard=none) (s x:Operand) {t:TypeId}
  (ho:o.op=.call { callee:=.builtin .append,args:=#[s,x],argTypes:=#[t,t] })
  {base:Nat} {T:TypeId} (hT:P.underlying t=some (.slice T)) (hI:∃ i,P.info? T=some i/\i.zero=some (.agg #[.bool false,.slice none 0 0,.slice none 0 0])/\i.size=3/\i.bytes=56) {v u:Value} {ps qs:List Elt} (hs:a.eval s=v) (hown:zD0 T w base v ps) (hx:a.eval x=u) (hu:zP1 w u qs) (hone:∀ p∈qs,p.2.1.oneCell'=true/\p.2.2.oneCell'=true) (hlen:ps.length<=1000000000) (hlen2:qs.length<=1000000000) (hbase:base<=w.heap.size)
  (h:∀ v' w',zD0 T w' base v' (ps ++ qs)->Below base w w'->Hid (zH4 w w' v v')->wpList P ops Q rest (a.put o.dst v') w'):wpList P ops Q (o :: rest) a w :=
 wpList_plain hgd fun _ hK=>by
  obtain ⟨v',w',hrun,g2,g3⟩:=yM (P:=P) (ty:=o.type) hT hI hown hu hone hlen hlen2 hbase;unfold Oper.wp execOp;simp only [ho,resolve,invoke,builtin,Sem.run_bind,Sem.run_pure,Result.andThen_ok,bX7,List.map_cons,List.map_nil,hs,hx,hrun];exact hK _ _ (h v' w' g2 ((Below.refl base w).grown g3.2.1 hbase hown.base_le) g3)
theorem jR5 {w:World} {t tn ty e:TypeId} {kn:IntKind} (hT:P.underlying t=some (.slice e)) (htn:P.underlying tn=some (.int kn)) (hI:∃ i,P.info? e=some i/\i.zero=some (.agg #[.bool false,.slice none 0 0,.slice none 0 0])/\i.size=3/\i.bytes=56) {k:Nat} (h0:0<k) (hk:k<=1000000) :
  ∃ cap w',(Builtin.append_ #[t,tn] ty #[.slice none 0 0,.int .i64 (k:Int)]).run P w=.ok (.slice (some ⟨w.heap.size,0,none⟩) k cap) w'/\k<=cap/\zD0 e w' w.heap.size (.slice (some ⟨w.heap.size,0,none⟩) 0 cap) []/\Below w.heap.size w w':=by
 obtain ⟨i,hi,hz,hs,hb⟩:=hI;have h:=Go.Lib.run_append_grow_zeros (P:=P) w t tn ty e i (.agg #[.bool false,.slice none 0 0,.slice none 0 0]) .i64 kn hT htn hi hz none 0 0 [] (by exact run_firstCells_none w.drew i.size 0 0 0) k h0 (by omega) (by omega) (by omega) (by rw [hb];omega) (growslice_fits (by omega) (by rw [hb];omega));obtain ⟨C,hC⟩:∃ C,C=grownCap w (0+k) 0 e:=⟨_,rfl⟩;have hC1:k<=C:=by rw [hC];have:=grownCap_ge w (0+k) 0 e;omega
 have hC2:C<=maxLen:=by rw [hC];exact grownCap_le_maxLen w (0+k) 0 e (by unfold maxLen;omega)
 rw [<- hC,bY5] at h;refine ⟨C,_,h,hC1,⟨rfl,.inr ⟨w.heap.size,C,_,rfl,zB3 _,heap_alloc_new w.drew _,Nat.zero_le _,hC2,?_,by simp [zF1]⟩⟩,((Below.refl w.heap.size w).drew).trans (zC9 (w:=w.drew) (zB3 _) _)⟩;rw [Array.size_append,Array.size_append,yQ2,yQ2];simp;omega
theorem jR6 {w:World} {ops:Array Oper} {rest:List Oper} {o:Oper} {a:Act} {Q:Exit->Act->World->Prop} (hgd:o.guard=none) (s x:Operand) {t tn:TypeId} {kn:IntKind}
  (ho:o.op=.call { callee:=.builtin .append,args:=#[s,x],argTypes:=#[t,tn] })
  {e:TypeId} (hT:P.underlying t=some (.slice e)) (htn:P.underlying tn=some (.int kn)) (hI:∃ i,P.info? e=some i/\i.zero=some (.agg #[.bool false,.slice none 0 0,.slice none 0 0])/\i.size=3/\i.bytes=56) {k:Nat} (hs:a.eval s=.slice none 0 0) (hx:a.eval x=.int .i64 (k:Int)) (h0:0<k) (hk:k<=1000000)
  (h:∀ cap w',k<=cap->zD0 e w' w.heap.size (.slice (some ⟨w.heap.size,0,none⟩) 0 cap) []->Below w.heap.size w w'->wpList P ops Q rest (a.put o.dst (.slice (some ⟨w.heap.size,0,none⟩) k cap)) w'):wpList P ops Q (o :: rest) a w :=
 wpList_plain hgd fun _ hK=>by
  obtain ⟨cap,w',hrun,h2,h3,h4⟩:=jR5 (P:=P) (w:=w) (ty:=o.type) hT htn hI h0 hk;unfold Oper.wp execOp;simp only [ho,resolve,invoke,builtin,Sem.run_bind,Sem.run_pure,Result.andThen_ok,bX7,List.map_cons,List.map_nil,hs,hx,hrun];exact hK _ _ (h cap w' h2 h3 h4)
end
theorem jR7 (n:Nat) (w:World) (hn:n<=1000000):Calls prog 83 #[.slice none 0 0,.int .i64 (n:Int)] w (fun e w' => ∃ V,e=.returned V/\zD0 44 w' w.heap.size V []/\Below w.heap.size w w'):=by
 by_cases h0:0<n
 ·go_enter func83,ntmps83
  go_wp2_with (at_builtin;refine jR6 rfl (.tmp 20) (.tmp 21) rfl underlying46 underlying3 zP3 (k:=n) rfl (by first | rfl | simp) h0 hn ?_;intro cap w2 hcap R2 b2)
  go_wp2;go_ret;exact ⟨_,rfl,R2,b2⟩
 ·obtain rfl:n=0:=by omega
  go_enter func83,ntmps83
  go_wp2;go_ret;exact ⟨_,rfl,qT8 _ _ _,Below.refl _ _⟩
theorem IsE.one {k:IntKind} {B:Nat} {w:World} {p:Elt} (h:IsE k B w p):p.2.1.oneCell'=true/\p.2.2.oneCell'=true:=by
 obtain ⟨⟨A,c,e,_⟩,B',d,e',_⟩:=h;rw [e,e'];exact ⟨rfl,rfl⟩
theorem jR8 (V:Value) (vs:List Value) (pss:List (List Elt)) (w:World) (hV:IsV w V vs) (hl:vs.length=pss.length) (hp:∀ (i:Nat) (v:Value) (ps:List Elt),vs[i]?=some v->pss[i]?=some ps->zP1 w v ps /\ ∀ p∈ps,p.2.1.oneCell'=true/\p.2.2.oneCell'=true) (hn:pss.length<=10) (hs:∀ ps∈pss,ps.length<=1000) :
  Calls prog 49 #[V] w (fun e w' => ∃ V',e=.returned V'/\zD0 44 w' w.heap.size V' pss.flatten/\Below w.heap.size w w'):=by
 obtain ⟨A,c,rfl,hc,hcells⟩:=hV;have HC:=hQ9 hcells;have HP:=hQ9 hp;have HL:=hQ9 hl;obtain ⟨n,hnv⟩:∃ n,n=vs.length:=⟨_,rfl⟩;rw [<- hnv] at hl hc |-;have HN:Hid (n=vs.length/\n=pss.length/\n<=10):=⟨hnv,by omega,by omega⟩;have HB:=hQ9 (yQ1 hs);have hn10:n<=10:=HN.out.2.2;clear hcells hp hs hnv hl hn
 go_enter func49,ntmps49
 go_wp2
 go_loopw [3,11] (fun v3 v11 wr => ∃ k s:Nat,k<=n/\Hid (s=((pss.take k).flatten).length)/\Hid (Below w.heap.size w wr)/\v3=.int .i64 (s:Int)/\v11=.int .i64 (k:Int)) (fun _ v11 _=>n-(intOf v11).toNat)
 case atStart =>
  have H0:Hid (0=((pss.take 0).flatten).length):=by show _=_;simp
  exact ⟨0,0,by omega,H0,Below.refl _ _,rfl,rfl⟩
 case round =>
  obtain ⟨k,s,hk,HS,HBw,rfl,rfl⟩:=hrel;obtain ⟨wo,hwo⟩:∃ wo,wo=wr:=⟨_,rfl⟩;subst hwo;have hsb:s<=10000:=by have h1:=HB.out k;have h2:=HS.out;have h3:=HN.out;have:k*1000<=10*1000:=bY4 _ (by omega);omega
  by_cases hlt:k<n
  ·obtain ⟨v,hv⟩:∃ v,vs[k]?=some v:=⟨_,zA3 (by have:=HN.out.1;omega)⟩;obtain ⟨ps,hps⟩:∃ ps,pss[k]?=some ps:=⟨_,zA3 (by have:=HN.out.2.1;omega)⟩;obtain ⟨ad,rfl,ec0⟩:=HC.out k v hv;have ec:=(HBw.out.cell (bQ0 w _ ec0)).trans ec0;obtain ⟨Av,cv,rfl,hcv,hcm,-⟩:=(HP.out k v ps hv hps).1;have hpl:ps.length<=11000:=by have h1:=HB.out (k+1);rw [qA6 hps] at h1;have h3:=HN.out;have:(k+1)*1000<=11*1000:=bY4 _ (by omega);omega
   have HS2:Hid (s+ps.length=((pss.take (k+1)).flatten).length):=by show _=_;rw [qA6 hps,<- HS.out]
   clear hv hps ec0;go_wp2;go_roundw;case rel=>exact ⟨k+1,s+ps.length,by omega,HS2,HBw,by go_num,by go_num⟩
   case measure=>simp [intOf];omega
  ·obtain rfl:n=k:=by omega
   go_wp2_with fail
   refine (jR7 s _ (by omega)).mono ?_;rintro e w2 ⟨V2,rfl,R2,b2⟩;have hbo:=HBw.out.size;have R2m:=R2.mono hbo;have HB2:Hid (Below w.heap.size w w2):=HBw.out.trans (b2.mono hbo);obtain ⟨Ar,cr,rfl⟩:=R2.slice;clear R2 b2;go_wp2
   go_loopw [6,27] (fun v6 v27 wr => ∃ k:Nat,k<=n/\zD0 44 wr w.heap.size v6 (pss.take k).flatten/\Hid (Below w.heap.size w wr)/\v27=.int .i64 (k:Int)) (fun _ v27 _=>n-(intOf v27).toNat)
   case atStart=>exact ⟨0,by omega,by simpa using R2m,HB2,rfl⟩
   case round =>
    clear R2m HB2;obtain ⟨k,hk,R,HBr,rfl⟩:=hrel;obtain ⟨wi,hwi⟩:∃ wi,wi=wr:=⟨_,rfl⟩;subst hwi;obtain ⟨A6,c6,rfl⟩:=R.slice;obtain ⟨m6,hm6⟩:∃ m6,m6=((pss.take k).flatten).length:=⟨_,rfl⟩;rw [<- hm6] at R |-;have HM6:=hQ9 hm6;have hm6b:((pss.take k).flatten).length<=1000000000:=by have h1:=HB.out k;have h3:=HN.out;have:k*1000<=10*1000:=bY4 _ (by omega);omega
    clear hm6;by_cases hlt:k<n
    ·obtain ⟨v,hv⟩:∃ v,vs[k]?=some v:=⟨_,zA3 (by have:=HN.out.1;omega)⟩;obtain ⟨ps,hps⟩:∃ ps,pss[k]?=some ps:=⟨_,zA3 (by have:=HN.out.2.1;omega)⟩;obtain ⟨ad,rfl,ec0⟩:=HC.out k v hv;have ec:=(HBr.out.cell (bQ0 w _ ec0)).trans ec0;obtain ⟨sp0,hone⟩:=HP.out k v ps hv hps;have sp:=sp0.bQ HBr.out;obtain ⟨Av,cv,rfl,hcv,hcm,-⟩:=id sp;have hlen:ps.length<=1000000000:=by have h1:=HB.out (k+1);rw [qA6 hps] at h1;have h3:=HN.out;have:(k+1)*1000<=11*1000:=bY4 _ (by omega);omega
     have hbase:=HBr.out.size;have HF:Hid ((pss.take (k+1)).flatten=(pss.take k).flatten ++ ps):=qY1 hps;clear hv hps ec0 sp0
     go_wp2_with (at_builtin;refine jR4 rfl (.tmp 31) (.tmp 32) rfl underlying46 zP3 rfl R rfl sp hone hm6b hlen hbase ?_;intro V3 w3 R3 b3 G3)
     have R4:zD0 44 w3 w.heap.size V3 (pss.take (k+1)).flatten:=by rw [HF.out];exact R3
     have HB3:Hid (Below w.heap.size w w3):=HBr.out.trans b3;clear R3 R sp HBr G3 b3 ec;go_wp2;go_roundw;case rel=>exact ⟨k+1,by omega,R4,HB3,by go_num⟩
     case measure=>simp [intOf];omega
    ·obtain rfl:k=n:=by omega
     have HT:Hid (pss.take k=pss):=zA7 (by have:=HN.out.2.1;omega);go_wp2;go_ret;exact ⟨_,rfl,by have:=R;rwa [HT.out] at this,HBr.out⟩
theorem yQ3 (V x y:Value) (ps qs:List Rat) (w:World) (hV:IsV w V [x,y]) (h0:SlF .u64 4294967296 w x ps) (h1:SlF .u64 4294967296 w y qs) (l0:ps.length<=1000) (l1:qs.length<=1000) :
  Calls prog 49 #[V] w (fun e w' => ∃ V',e=.returned V'/\SlF .u64 4294967296 w' V' (ps ++ qs)/\Below w.heap.size w w'):=by
 obtain ⟨pa,hpa,va,ea⟩:=h0;obtain ⟨pb,hpb,vb,eb⟩:=h1;have la:pa.length=ps.length:=by rw [<- hpa,zA9]
 have lb:pb.length=qs.length:=by rw [<- hpb,zA9]
 refine (jR8 V [x,y] [pa,pb] w hV rfl (fun i v p hv hp=>by
  rcases i with _ | _ | i
  ·obtain rfl:x=v:=by simpa using hv
   obtain rfl:pa=p:=by simpa using hp
   exact ⟨va,fun p hp=>(ea p hp).one⟩
  ·obtain rfl:y=v:=by simpa using hv
   obtain rfl:pb=p:=by simpa using hp
   exact ⟨vb,fun p hp=>(eb p hp).one⟩
  ·simp at hv) (by simp) (fun p hp=>by simp at hp;rcases hp with rfl|rfl<;>omega)).mono ?_
 rintro e w' ⟨V',rfl,R,b⟩;refine ⟨V',rfl,⟨[pa,pb].flatten,by simp [hpa,hpb],R.isVF,fun p hp => ?_⟩,b⟩;simp at hp;rcases hp with hp | hp
 ·exact (ea p hp).bQ b
 ·exact (eb p hp).bQ b
theorem col_row (n C c j:Nat) (hn:n<=C) (hj:j<C):RowFn n C (fun M=>zC8 n (zG9 M c (fun r=>M r j))):=by
 have hd:=zT2 n;refine ⟨fun M M' h=>hd.congr _ _ fun i l hi hl => ?_,fun M a t ha => ?_,fun M a b t ha hb hab => ?_⟩
 ·unfold zG9;by_cases e:l=c
  ·rw [if_pos e,if_pos e];exact h i j hi hj
  ·rw [if_neg e,if_neg e];exact h i l hi (by omega)
 ·rw [<- hd.scale _ a t ha];refine hd.congr _ _ fun i l hi hl => ?_;unfold zG9 zE7;by_cases e:l=c
  ·simp only [if_pos e]
  ·simp only [if_neg e]
 ·rw [<- hd.add (zG9 M c (fun r=>M r j)) a b t ha hb hab];refine hd.congr _ _ fun i l hi hl => ?_;unfold zG9 zL9;by_cases e:l=c
  ·simp only [if_pos e]
  ·simp only [if_neg e]
theorem qQ0 (neg:Bool) (x:Int):((sgn neg x:Int):Rat)=(if neg=true then -1 else 1)*(x:Rat):=by
 unfold sgn;cases neg
 ·simp
 ·simp [Rat.intCast_neg];grind
theorem jR9 {n C:Nat} {T0 T:List (List Int)} {a:Nat->Nat->Int} {d:Int} {neg:Bool} (hB:BrT n C n a T d) (hP:Prm n C (zC5 T0) a (if neg=true then -1 else 1)) :
  ((sgn neg d:Int):Rat)=zC8 n (qF (zC5 T0))/\(∀ i j,i<n->n+j<C->zB9 n (fun c=>(zC5 T0 i c:Rat)*((sgn neg (zC5 T c j):Int):Rat))=((sgn neg d:Int):Rat)*(zC5 T0 i (n+j):Rat)) /\ ∀ c j,c<n->n+j<C->((sgn neg (zC5 T c j):Int):Rat)=zC8 n (zG9 (qF (zC5 T0)) c (fun r=>qF (zC5 T0) r (n+j))):=by
 have hn:=hB.wide;refine ⟨?_,fun i j hi hj => ?_,fun c j hc hj => ?_⟩
 ·rw [hP.fn _ ((zT2 n).wide hn),BrQ.det hB,qQ0]
 ·have h1:=hP.all (fun row=>(d:Rat)*(row (n+j):Rat)=zB9 n (fun c=>(row c:Rat)*(zC5 T c j:Rat))) (fun i hi=>by
   have h:=BrQ.rel hB i (n+j) hi (by omega) hj;rw [if_neg (by omega)] at h;rw [h];have e:zB9 n (fun c=>(a i c:Rat)*((zC5 T c (n+j-n):Int):Rat))=zB9 n (fun c=>(a i c:Rat)*(zC5 T c j:Rat)):=zE4 fun c _=>by rw [Nat.add_sub_cancel_left]
   rw [<- e]
   grind) i hi
  rw [qQ0 neg d,zE4 (g:=fun c=>(if neg=true then (-1:Rat) else 1)*((zC5 T0 i c:Rat)*(zC5 T c j:Rat))) (fun c _=>by rw [qQ0];grind),zH5,<- h1]
  grind
 ·have h1:=hP.fn _ (col_row n C c (n+j) hn hj);have h2:=BrQ.cramer hB hc (j:=n+j) (by omega) hj;rw [qQ0]
  have h3:zC8 n (zG9 (qF a) c (fun r=>qF a r (n+j)))=(zC5 T c j:Rat):=by
   rw [h2,Nat.add_sub_cancel_left]
  rw [h1,h3]
def qD7:Nat->(Nat->Int)->Int
 | 0,_=>0
 | n+1,f=>qD7 n f+f n
theorem yQ4:∀ (n:Nat) (f:Nat->Int),((qD7 n f:Int):Rat)=zB9 n (fun i=>(f i:Rat))
  | 0,f=>rfl
  | n + 1, f => by
    show ((qD7 n f+f n:Int):Rat)=zB9 n _+(f n:Rat)
    rw [Rat.intCast_add,yQ4 n f]
theorem yQ5 {L:Nat} {f:Nat->Int}:∀ j:Nat,(∀ c,c<j->zC2 (f c)<=L)->zC2 (qD7 j f)<=L+j
  | 0,_=>by show zC2 0<=_;rw [qT1];omega
  | j + 1, h => by
    have h1:=yQ5 j (fun c hc=>h c (by omega));have h2:=h j (by omega);exact yH0 (m:=L+j) h1 (by omega)
def sgI (j:Nat):Int:=if j % 2=0 then 1 else -1
theorem jS (j:Nat):((sgI j:Int):Rat)=sgN j:=by
 unfold sgI sgN
 split
 ·rfl
 ·rfl
theorem jS0 {x:Int} {m:Nat} (j:Nat) (h:zC2 x<=m):zC2 (sgI j*x)<=m:=by
 unfold sgI
 split
 ·rw [Int.one_mul];exact h
 ·rw [show (-1:Int)*x = -x by omega];exact yG8 h
def minJ (M:Nat->Nat->Int) (j:Nat):Nat->Nat->Int:=fun i c=>M (i+1) (zH0 j c)
def detI:Nat->(Nat->Nat->Int)->Int
 | 0,_=>1
 | n+1,M=>qD7 (n+1) (fun j=>sgI j*M 0 j*detI n (minJ M j))
theorem qY2:∀ (n:Nat) (M:Nat->Nat->Int),((detI n M:Int):Rat)=zC8 n (qF M)
  | 0,M=>rfl
  | n + 1, M => by
    show ((qD7 (n+1) _:Int):Rat)=zB9 (n+1) _
    rw [yQ4];refine zE4 fun j hj => ?_;rw [Rat.intCast_mul,Rat.intCast_mul,jS,qY2 n (minJ M j)]
    rfl
def dZ (S:Nat):Nat->Nat
 | 0=>1
 | n+1=>S+dZ S n+(n+1)
theorem qY3 {S:Nat}:∀ (n:Nat) {M:Nat->Nat->Int},(∀ i j,i<n->j<n->zC2 (M i j)<=S)->zC2 (detI n M)<=dZ S n
  | 0,_,_=>yO8
  | n + 1, M, h => by
    refine yQ5 (n+1) (fun c hc => ?_);rw [Int.mul_assoc];exact jS0 c (zQ8 (h 0 c (by omega) hc) (qY3 n (fun i j hi hj=>h _ _ (by omega) (zZ9 hj))))
theorem qY4 {T:List (List Int)} {n C i j:Nat} (h:shI T n C) (hi:i<n) (hj:j<C):∃ r,T[i]?=some r/\r.length=C/\r[j]?=some (zC5 T i j):=by
 obtain ⟨r,hr,hl⟩:=zV4 h hi;refine ⟨r,hr,hl,?_⟩;rw [zK0 hr,zA6,zA3 (by omega)];rfl
def zO1 (A B:List (List Int)):List (List Int):=List.zipWith (fun p q=>p ++ q) A B
def okS (A B:List (List Int)):Prop:=zX4 A/\qD4 B/\A.length=B.length
theorem qY5 {A B:List (List Int)} (h:A.length=B.length):(zO1 A B).length=A.length:=by unfold zO1;rw [List.length_zipWith];omega
theorem qQ1 {A B:List (List Int)} {i:Nat} {p q:List Int} (ha:A[i]?=some p) (hb:B[i]?=some q):(zO1 A B)[i]?=some (p ++ q):=by
 unfold zO1;rw [List.getElem?_zipWith,ha,hb]
theorem yQ6 {A B:List (List Int)} {r:List Int} (h:A.length=B.length) (hr:r∈zO1 A B):∃ p q,p∈A/\q∈B/\r=p ++ q:=by
 obtain ⟨i,hi⟩:=List.mem_iff_getElem?.1 hr;have hl:=(zA4.1 hi).1;rw [qY5 h] at hl;have e1:A[i]?=some A[i]:=zA3 hl;have e2:B[i]?=some (B[i]'(by omega)):=zA3 _;rw [qQ1 e1 e2] at hi;injection hi with hi;exact ⟨_,_,zA5 e1,zA5 e2,hi.symm⟩
theorem besI_sh {A B:List (List Int)} (h:okS A B):shI (zO1 A B) A.length (A.length+zG4 B):=by
 refine ⟨qY5 h.2.2,fun r hr => ?_⟩;obtain ⟨p,q,hp,hq,rfl⟩:=yQ6 h.2.2 hr;rw [zA8,h.1.2 p hp,(h.2.1.2 q hq).1]
theorem qY6 {A B:List (List Int)} (h:okS A B) {i j:Nat} (hi:i<A.length) (hj:j<A.length):zC5 (zO1 A B) i j=zC5 A i j:=by
 have e1:A[i]?=some A[i]:=zA3 hi;have e2:B[i]?=some (B[i]'(by rw [<- h.2.2];exact hi)):=zA3 _;have hl:=h.1.2 _ (zA5 e1);rw [zK0 (qQ1 e1 e2),zK0 e1,zA6,zA6,zB0 (by omega)]
theorem yQ7 {A B:List (List Int)} (h:okS A B) {i j:Nat} (hi:i<A.length):zC5 (zO1 A B) i (A.length+j)=zC5 B i j:=by
 have e1:A[i]?=some A[i]:=zA3 hi;have e2:B[i]?=some (B[i]'(by rw [<- h.2.2];exact hi)):=zA3 _;have hl:=h.1.2 _ (zA5 e1);rw [zK0 (qQ1 e1 e2),zK0 e2,zA6,zA6,bW0 (by omega),hl,Nat.add_sub_cancel_left]
theorem jS1 {A B:List (List Int)} {S:Nat} (h:A.length=B.length) (ha:zH1 A S) (hb:zH1 B S):zH1 (zO1 A B) S:=by
 intro r hr z hz;obtain ⟨p,q,hp,hq,rfl⟩:=yQ6 h hr;rcases List.mem_append.1 hz with hz | hz
 ·exact ha p hp z hz
 ·exact hb q hq z hz
theorem sgn_ne {b:Bool} {x:Int} (h:x≠0):sgn b x≠0:=by
 unfold sgn
 split<;>omega
theorem yQ8 (b:Bool):sgn b 0=0:=by
 unfold sgn
 split<;>omega
def sgR (neg:Bool) (r:List Int):List Int:=r.map (sgn neg)
def sgT (neg:Bool) (T:List (List Int)):List (List Int):=T.map (sgR neg)
theorem yQ9 (neg:Bool) (T:List (List Int)):(sgT neg T).length=T.length:=by unfold sgT;rw [zA9]
theorem yR {neg:Bool} {T:List (List Int)} {i:Nat} {r:List Int} (h:T[i]?=some r):(sgT neg T)[i]?=some (sgR neg r):=by unfold sgT;rw [zB1,h];rfl
theorem sgR_at {neg:Bool} {r:List Int} {j:Nat} {z:Int} (h:r[j]?=some z):(sgR neg r)[j]?=some (sgn neg z):=by unfold sgR;rw [zB1,h];rfl
theorem yR0 (neg:Bool) (r:List Int):(sgR neg r).length=r.length:=by unfold sgR;rw [zA9]
theorem yR1 (neg:Bool) (T:List (List Int)) (i j:Nat):zC5 (sgT neg T) i j=sgn neg (zC5 T i j):=by
  cases hr:T[i]? with
  | none =>
    have h1:(sgT neg T)[i]?=none:=by unfold sgT;rw [zB1,hr];rfl
    unfold zC5;rw [zA6 (l:=sgT neg T),h1,zA6 (l:=T),hr];show ([]:List Int).getD j 0=sgn neg (([]:List Int).getD j 0)
    rw [show ([]:List Int).getD j 0=0 by simp,yQ8]
  | some r =>
    rw [zK0 (yR hr),zK0 hr,zA6,zA6];unfold sgR;rw [zB1]
    cases hz:r[j]? with
    | none=>show (0:Int)=sgn neg 0;rw [yQ8]
    | some z=>rfl
theorem sgT_sh {neg:Bool} {T:List (List Int)} {n L:Nat} (h:shI T n L):shI (sgT neg T) n L:=by
 refine ⟨by rw [yQ9,h.1],fun r hr => ?_⟩;unfold sgT at hr;obtain ⟨x,hx,rfl⟩:=List.mem_map.1 hr;rw [yR0];exact h.2 x hx
theorem jS2 {neg:Bool} {T:List (List Int)} {S:Nat} (h:zH1 T S):zH1 (sgT neg T) S:=by
 intro r hr z hz;unfold sgT at hr;obtain ⟨x,hx,rfl⟩:=List.mem_map.1 hr;unfold sgR at hz;obtain ⟨y,hy,rfl⟩:=List.mem_map.1 hz;exact yP0 (h x hx y hy)
structure SolvedI (A B X:List (List Int)) (d:Int):Prop where
 sh:shI X A.length (zG4 B)
 len:zH1 X 5000
 dl:zC2 d<=5000
 ne:d≠0
 det:(d:Rat)=zC8 A.length (qF (zC5 A))
 sol:∀ i j,i<A.length->j<zG4 B->zB9 A.length (fun c=>(zC5 A i c:Rat)*(zC5 X c j:Rat))=(d:Rat)*(zC5 B i j:Rat)
 cra:∀ c j,c<A.length->j<zG4 B->(zC5 X c j:Rat)=zC8 A.length (zG9 (qF (zC5 A)) c (fun r=>qF (zC5 B) r j))
theorem yR2 {A B:List (List Int)} (h:okS A B):zC8 A.length (qF (zC5 (zO1 A B)))=zC8 A.length (qF (zC5 A)):=zL0 _ fun i j hi hj=>by
 show ((zC5 (zO1 A B) i j:Int):Rat)=((zC5 A i j:Int):Rat)
 rw [qY6 h hi hj]
theorem jS3 {A B T:List (List Int)} {a:Nat->Nat->Int} {d:Int} {neg:Bool} (h:okS A B) (hB:BrT A.length (A.length+zG4 B) A.length a T d) (hP:Prm A.length (A.length+zG4 B) (zC5 (zO1 A B)) a (if neg=true then -1 else 1)) (hs:shI T A.length (zG4 B)) (hl:zH1 T 5000) (hd:zC2 d<=5000):SolvedI A B (sgT neg T) (sgn neg d):=by
 obtain ⟨h1,h2,h3⟩:=jR9 hB hP;refine ⟨sgT_sh hs,jS2 hl,yP0 hd,sgn_ne hB.ne,h1.trans (yR2 h),fun i j hi hj => ?_,fun c j hc hj => ?_⟩
 ·have h4:=h2 i j hi (by omega);rw [yQ7 h hi] at h4;rw [<- h4];exact zE4 fun c hc=>by rw [qY6 h hi hc,yR1]
 ·rw [yR1,h3 c j hc (by omega)];refine zL0 _ fun i l hi hl => ?_;unfold zG9;by_cases e:l=c
  ·rw [if_pos e,if_pos e];show ((zC5 (zO1 A B) i (A.length+j):Int):Rat)=((zC5 B i j:Int):Rat)
   rw [yQ7 h hi]
  ·rw [if_neg e,if_neg e];show ((zC5 (zO1 A B) i l:Int):Rat)=((zC5 A i l:Int):Rat)
   rw [qY6 h hi hl]
def RetSol (A B:List (List Int)) (w:World) (e:Ending) (w':World):Prop:=Below w.heap.size w w'/\((okS A B /\ ∃ V v d X,e=.returned (.tuple #[V,v,.int .i64 0])/\SlW .u64 4294967296 w' V X/\IsZ w' v d/\SolvedI A B X d)\/(okS A B/\zC8 A.length (qF (zC5 A))=0/\e=.returned (.tuple #[.slice none 0 0,.agg #[.bool false,.slice none 0 0],.int .i64 7]))\/(¬ okS A B/\e=.returned (.tuple #[.slice none 0 0,.agg #[.bool false,.slice none 0 0],.int .i64 8])))
def zN2 (r s:List Int) (j:Nat):List Int:=s.take j ++ r.drop j
theorem jS4 (r s:List Int):zN2 r s 0=r:=by simp [zN2]
theorem jS5 {r s:List Int} (h:s.length=r.length):zN2 r s r.length=s:=by
 unfold zN2;rw [List.drop_eq_nil_of_le (zB3 _),List.append_nil,zA7 (by omega)]
theorem mixR_at {r s:List Int} {j:Nat} (h:s.length=r.length) (hj:j<=r.length):(zN2 r s j)[j]?=r[j]?:=by
 unfold zN2;have hl:(s.take j).length=j:=by rw [bQ7];omega
 rw [bW0 (by omega),hl,Nat.sub_self,bW9,Nat.add_zero]
theorem jS6 {r s:List Int} {j:Nat} {z:Int} (h:s.length=r.length) (hz:s[j]?=some z):(zN2 r s j).set j z=zN2 r s (j+1):=by
 have hj:=(zA4.1 hz).1;unfold zN2;have hl:(s.take j).length=j:=by rw [bQ7];omega
 rw [List.set_append_right _ _ (by omega),hl,Nat.sub_self,List.drop_eq_getElem_cons (show j<r.length by omega),zA2,bQ9,hz];simp
theorem jS7 {α : Type} {T:List α} {i:Nat} {r : α} (h:T[i]?=some r):T.set i r=T:=by
 refine bX0 fun j => ?_
 by_cases e:i=j
 ·subst e;rw [bQ3 (zA4.1 h).1,h]
 ·rw [bW1 e]
theorem zG6.bk {w:World} {base:Nat} {v:Value} {ps:List (Int × Value)} (h:zG6 42 w base v ps) {g:Nat} (hg:v.ownBlock=some g):base<=g/\zR1 w g:=by
 obtain ⟨cs,h1,_⟩:=h.2 g hg;exact ⟨(h.under g hg).1,cs,h1⟩
theorem jS8 (V x y:Value) (pa pb:List (Int × Value)) (w:World) (hV:IsV w V [x,y]) (h0:SlP w x pa) (n0:zJ2 .u64 4294967296 w pa) (h1:SlP w y pb) (n1:zJ2 .u64 4294967296 w pb) (l0:pa.length<=1000) (l1:pb.length<=1000) :
  Calls prog 44 #[V] w (fun e w' => ∃ V',e=.returned V'/\zG6 42 w' w.heap.size V' (pa ++ pb)/\zJ2 .u64 4294967296 w' (pa ++ pb)/\Below w.heap.size w w'):=by
 have h:=jR3 V [x,y] [pa,pb] w hV rfl (fun i v ps hv hp=>by
  rcases i with _ | _ | i
  ·obtain rfl:x=v:=by simpa using hv
   obtain rfl:pa=ps:=by simpa using hp
   exact ⟨h0,n0⟩
  ·obtain rfl:y=v:=by simpa using hv
   obtain rfl:pb=ps:=by simpa using hp
   exact ⟨h1,n1⟩
  ·simp at hv) (by simp) (fun ps hps=>by simp at hps;rcases hps with rfl|rfl;exact l0;exact l1)
 simpa using h
def zI6 (A B:List (List Rat)):List (List Int):=(zF0 A B).map fun r=>(zK4 r).take A.length
def zJ3 (A B:List (List Rat)):List (List Int):=(zF0 A B).map fun r=>(zK4 r).drop A.length
theorem zE.other {k:IntKind} {B:Nat} {w w':World} {g g':Nat} {TS:TypeId} {us us':List Value} {T:List (List Int)} (h:zE k B w g TS us T) (h':zG0 w g' TS us') (hne:g≠g') (hg:w.grownBy w' (some g')):zE k B w' g TS us T :=
 ⟨h.1.grown hg (fun e=>hne (by injection e with e;exact e.symm)),h.2.1,fun i u r hu hr=>h'.keepZ hg (h.2.2 i u r hu hr)⟩
theorem zE.blank {k:IntKind} {B:Nat} {w:World} {g n:Nat} {TS:TypeId} (h:zG0 w g TS (zB n (.slice none 0 0))):zE k B w g TS (zB n (.slice none 0 0)) (zB n []):=by
 refine ⟨h,by rw [bW7,bW7],fun i u r hu hr => ?_⟩;obtain rfl:=(List.mem_replicate.1 (zA5 hu)).2;obtain rfl:=(List.mem_replicate.1 (zA5 hr)).2;exact qJ0 _ _ _ (Nat.zero_le _)
theorem yR3 {B:Nat} {w:World} {gL gR k:Nat} {TS:TypeId} {us vs:List Value} {T1 T2:List (List Int)} {uL uR:Value} {rL rR:List Int} (TL:zE .u64 B w gL TS us T1) (TR:zE .u64 B w gR TS vs T2) (hne:gL≠gR) (sL:SlZ .u64 B w uL rL) (sR:SlZ .u64 B w uR rR) :
  zE .u64 B ((w.setCell ⟨gL,k,none⟩ uL).setCell ⟨gR,k,none⟩ uR) gL TS (us.set k uL) (T1.set k rL)/\zE .u64 B ((w.setCell ⟨gL,k,none⟩ uL).setCell ⟨gR,k,none⟩ uR) gR TS (vs.set k uR) (T2.set k rR):=by
 have L1:=TL.stored k sL;have R1:=TR.other TL.1 (fun e=>hne e.symm) (zF4 w gL k uL);have sR1:=TL.1.keepZ (zF4 w gL k uL) sR;exact ⟨L1.other R1.1 hne (zF4 _ gR k uR),R1.stored k sR1⟩
structure ClrIn (A B:List (List Rat)) (S:Nat):Prop where
 ok:okq A B
 wide:A.length+zC B<=100
 la:zD6 A S
 lb:zD6 B S
 small:S<=100
theorem yR4 (a0 a1:Value) (A B:List (List Rat)) (S:Nat) (w:World) (h0:SlT .u64 4294967296 w a0 A) (h1:SlT .u64 4294967296 w a1 B) (hc:Hid (ClrIn A B S)) :
    Calls prog 18 #[a0,a1] w (fun e w' => ∃ V U,e=.returned (.tuple #[V,U])/\SlW .u64 4294967296 w' V (zI6 A B)/\SlW .u64 4294967296 w' U (zJ3 A B)/\Below w.heap.size w w'):=by
  obtain ⟨n,hn⟩:∃ n,n=A.length:=⟨_,rfl⟩;obtain ⟨m,hm⟩:∃ m,m=zC B:=⟨_,rfl⟩;obtain ⟨A0,c0,rfl,hc0,hm0⟩:=h0.shape;obtain ⟨A1,c1,rfl,hc1,hm1⟩:=h1.shape;unfold maxLen at hm0 hm1;have hnm:n+m<=100:=by rw [hn,hm];exact hc.out.wide
  have hSA:shp A n n:=by rw [hn];exact hc.out.ok.sa
  have hSB:shp B n m:=by rw [hn,hm];exact hc.out.ok.sb
  have HSA:=hQ9 hSA;have HSB:=hQ9 hSB;have HS0:=hQ9 h0;have HS1:=hQ9 h1;have hBl:B.length=n:=hSB.1;have HNA:=hQ9 hn;have HM:=hQ9 hm;obtain ⟨M1,hM1⟩:∃ M1,M1=zI6 A B:=⟨_,rfl⟩;obtain ⟨M2,hM2⟩:∃ M2,M2=zJ3 A B:=⟨_,rfl⟩;obtain ⟨T0,hT0⟩:∃ T0,T0=zB n ([]:List Int):=⟨_,rfl⟩;have hJ:(zF0 A B).length=n:=(zX1 hSA hSB).1;have HML:Hid ((M1.length=T0.length/\M2.length=T0.length)/\T0.length=n):=⟨⟨by rw [hM1,hT0,bW7];unfold zI6;rw [zA9,hJ],by rw [hM2,hT0,bW7];unfold zJ3;rw [zA9,hJ]⟩,by rw [hT0,bW7]⟩;have HMM:=hQ9 (zA hM1 hM2);obtain ⟨mk,hmk⟩:=Classical.axiomOfChoice (fun w=>qI1 (P:=prog) (w:=w) underlying56 yP n (by omega));have hmk1:=fun w=>(hmk w).1;have HMK:=hQ9 (fun w=>(hmk w).2);have HT0:=hQ9 hT0;rw [<- hn] at hc0;rw [hBl] at hc1;clear hmk hM1 hM2 hT0 h0 h1 hSA hSB hJ
  go_enter func18,ntmps18
  rw [<- hn,hBl];clear hn hm hBl;go_upto_region 2 with (fail);obtain ⟨t1,m1⟩:=HMK.out w.drew;obtain ⟨t2,m2⟩:=HMK.out (mk w.drew);obtain ⟨x1,hx1⟩:∃ x1,x1=w.heap.size:=⟨_,rfl⟩;obtain ⟨x2,hx2⟩:∃ x2,x2=(mk w.drew).heap.size:=⟨_,rfl⟩;obtain ⟨w3,hw3⟩:∃ w3,w3=mk (mk w.drew):=⟨_,rfl⟩;have hxx:w.heap.size<=x1/\x1<x2:=⟨by omega,by rw [hx1,hx2];exact t1.lt⟩;have hbd:=(Below.refl w.heap.size w).drew
  have HB3:Hid (Below w.heap.size w w3):=by
    rw [hw3];exact (hbd.trans (m1.mono hbd.size)).trans (m2.mono (zB4 hbd.size m1.size))
  have TWx1:zE .u64 4294967296 w3 x1 83 (zB n (.slice none 0 0)) T0:=by
    rw [HT0.out,hw3,hx1];exact zE.blank (t1.bQ m2)
  have TWx2:zE .u64 4294967296 w3 x2 83 (zB n (.slice none 0 0)) T0:=by
    rw [HT0.out,hw3,hx2];exact zE.blank t2
  clear t1 m1 t2 m2 hbd;go_region
  · rw [<- hx1, <- hx2, <- hw3];clear hx1 hx2 hw3;have TL:=TWx1;have TR:=TWx2;have hLR : x1 ≠ x2:=by omega
    clear TWx1 TWx2;go_wp2
    go_loopw [19] (fun v19 wr => ∃ (k:Nat) (us vs:List Value),k<=n/\zE .u64 4294967296 wr x1 83 us (zF7 T0 M1 k)/\zE .u64 4294967296 wr x2 83 vs (zF7 T0 M2 k)/\Hid (Below w.heap.size w wr)/\v19=.int .i64 (k:Int)) (fun v19 _=>n-(intOf v19).toNat)
    case atStart=>exact ⟨0,_,_,by omega,by rw [qA4];exact TL,by rw [qA4];exact TR,HB3,rfl⟩
    case round =>
      clear TL TR HB3;obtain ⟨k,us,vs,hk,TL,TR,HB,rfl⟩:=hrel;obtain ⟨wi,hwi⟩:∃ wi,wi=wr:=⟨_,rfl⟩;subst hwi;by_cases hkn:k<n
      · obtain ⟨p,hp,hpl⟩:=zI0 HSA.out hkn;obtain ⟨q,hq,hql⟩:=zI0 HSB.out hkn;have k0:=HS0.out.bQ HB.out;have k1:=HS1.out.bQ HB.out;obtain ⟨ad0,rfl⟩:=k0.place (fun e=>by rw [e] at hp;cases hp);obtain ⟨ad1,rfl⟩:=k1.place (fun e=>by rw [e] at hq;cases hq);obtain ⟨Ap,cp,hip,ecp,sp⟩:=k0.at2 hp;obtain ⟨Aq,cq,hiq,ecq,sq⟩:=k1.at2 hq;rw [hpl] at ecp sp;rw [hql] at ecq sq;have HP:=hQ9 (zA hp (zA hpl (zA hq hql)));obtain ⟨PQ,hPQ⟩:∃ PQ,PQ=p ++ q:=⟨_,rfl⟩;obtain ⟨N,hN⟩:∃ N,N=n+m:=⟨_,rfl⟩;obtain ⟨Z,hZ⟩:∃ Z,Z=zK4 (p ++ q):=⟨_,rfl⟩;have HZ:=hQ9 hZ;have HZL:Hid (Z.length=N):=by show _=_;rw [hN,hZ,zX8,zA8,hpl,hql]
        have CC:∀ W,Below wi.heap.size wi W->Calls prog 49 #[.slice (some ⟨W.heap.size,0,none⟩) 2 2] (W.alloc (.cells #[.slice Ap n cp,.slice Aq m cq] 46)) (fun e w' => ∃ V,e=.returned V/\SlF .u64 4294967296 w' V PQ/\Below W.heap.size W w'):=fun W hb=>by
          have ba:=zC9 (w:=W) (zB3 _) (.cells #[.slice Ap n cp,.slice Aq m cq] 46);refine (yQ3 _ (.slice Ap n cp) (.slice Aq m cq) p q _ (zS7 W 46 [.slice Ap n cp,.slice Aq m cq]) ((sp.bQ hb).bQ ba) ((sq.bQ hb).bQ ba) (by omega) (by omega)).mono ?_;rintro e w' ⟨V,rfl,h2,h3⟩;exact ⟨V,rfl,by rw [hPQ];exact h2,ba.trans (h3.mono ba.size)⟩
        have CZ:∀ W V,SlF .u64 4294967296 W V PQ->Calls prog 48 #[V] W (fun e w' => ∃ (g o:Nat) (v:Value),e=.returned (.tuple #[.slice (some ⟨g,o,none⟩) N N,v])/\W.heap.size<=g/\SlZ .u64 4294967296 w' (.slice (some ⟨g,o,none⟩) N N) Z/\Below W.heap.size W w'):=fun W V h=>by
          have hl:(p ++ q).length=N:=by rw [zA8,hpl,hql,hN]
          rw [hPQ] at h;refine (yP5 V (p ++ q) S W h ⟨by omega,hc.out.small,fun x hx => ?_⟩).mono ?_
          · rcases List.mem_append.1 hx with hx | hx
            · exact hc.out.la p (zA5 hp) x hx
            · exact hc.out.lb q (zA5 hq) x hx
          · rintro e w' ⟨g,v,rfl,h1,h2,-,h4⟩;rw [hl] at h2 |-;exact ⟨g,0,v,rfl,h1,by rw [hZ];exact h2.sl (by rw [zX8,hl]) (by omega),h4⟩
        have HRK:Hid (M1[k]?=some (Z.take n)/\M2[k]?=some (Z.drop n)):=by
          show _/\_
          rw [HMM.out.1,HMM.out.2];unfold zI6 zJ3;rw [zB1,zB1,qP2 hp hq,HNA.out,hZ];exact ⟨rfl,rfl⟩
        have hNn:n<=N:=by omega
        have hN100:N<=100:=by omega
        clear hp hq hpl hql sp sq hZ k0 k1 hPQ hN;have hbd:=(Below.refl wi.heap.size wi).drew;go_upto_region 6 with (fail)
        go_region_law (first | (go_simp;go_at_call 49;refine (CC _ (by exact hbd)).mono ?_;rintro e w4 ⟨V4,rfl,s4,b4⟩;obtain ⟨A4,c4,rfl,-,-⟩:=id s4.shape)|(go_simp;go_at_call 48;refine (CZ _ _ (by exact s4)).mono ?_;rintro e w5 ⟨gx,ox,v5,rfl,hgx,s5,b5⟩))
        all_goals
          have b45:Below wi.heap.size wi w5:=(hbd.trans (b4.mono hbd.size)).trans (b5.mono (zB4 hbd.size b4.size));have TL5:=TL.bQ b45;have TR5:=TR.bQ b45;have HB5:Hid (Below w.heap.size w w5):=HB.out.trans (b45.mono HB.out.size);obtain ⟨A2,hA2⟩:∃ A2:Option Addr,A2=if N=n then some ⟨gx,ox,none⟩ else some ⟨gx,ox+n*2,none⟩:=⟨_,rfl⟩
          have sL:SlZ .u64 4294967296 w5 (.slice (some ⟨gx,ox,none⟩) n N) (Z.take n):=s5.take (by rw [HZL.out];exact hNn)
          have sR:SlZ .u64 4294967296 w5 (.slice A2 (N-n) (N-n)) (Z.drop n):=by
            by_cases e:N=n
            · rw [hA2,if_pos e,List.drop_eq_nil_of_le (by rw [HZL.out];omega),show N-n=0 by omega];exact qJ0 _ _ _ (Nat.zero_le _)
            · rw [hA2,if_neg e];exact s5.drop (by rw [HZL.out];exact hNn)
          obtain ⟨x,hx⟩:∃ x,T0[k]?=some x:=⟨_,zA3 (by rw [HML.out.2];exact hkn)⟩;have hm1:(zF7 T0 M1 k)[k]?=some x:=by rw [zX5 HML.out.1.1 (by rw [HML.out.2];omega)];exact hx
          have hm2:(zF7 T0 M2 k)[k]?=some x:=by rw [zX5 HML.out.1.2 (by rw [HML.out.2];omega)];exact hx
          obtain ⟨AL,cL,-,ecL,-⟩:=TL5.at_ hm1;obtain ⟨AR,cR,-,ecR,-⟩:=TR5.at_ hm2;have fL:=TL5.1.1.frozen k;have fR:=TR5.1.1.frozen k;have hA3:=hA2.symm;have hjc2:¬ N<n:=by omega
          have HX:=hQ9 (zA TL5 (zA TR5 (zA sL sR)));have hRL:x2≠x1:=fun e=>hLR e.symm;clear TL TR TL5 TR5 sL sR hx hm1 hm2 s5 b45 b4 b5 s4 HB CC CZ hA2 hgx hbd ecp ecq;go_upto_region 7 with (fail);go_region
          all_goals
            obtain ⟨TL6,TR6⟩:=yR3 (k:=k) HX.out.1 HX.out.2.1 hLR HX.out.2.2.1 HX.out.2.2.2;rw [zX6 HML.out.1.1 HRK.out.1] at TL6;rw [zX6 HML.out.1.2 HRK.out.2] at TR6;have TL7:=TL6.drew;have TR7:=TR6.drew;have G7:=(zF4 w5 x1 k (.slice (some ⟨gx,ox,none⟩) n N));have HB6:Hid (Below w.heap.size w _):=((HB5.out.setCell (p:=⟨x1,k,none⟩) (show w.heap.size<=x1 by omega) (.slice (some ⟨gx,ox,none⟩) n N)).setCell (p:=⟨x2,k,none⟩) (show w.heap.size<=x2 by omega) (.slice A2 (N-n) (N-n))).drew;clear TL6 TR6 HX HB5 G7 ecL ecR fL fR;go_wp2;go_roundw;case rel=>exact ⟨k+1,_,_,by omega,TL7,TR7,HB6,by go_num⟩
            case measure=>simp [intOf];omega
      · have TLn:zE .u64 4294967296 wi x1 83 us M1:=by
          have h1:=qA5 HML.out.1.1;rw [HML.out.2] at h1;rw [show k=n by omega,h1] at TL;exact TL
        have TRn:zE .u64 4294967296 wi x2 83 vs M2:=by
          have h1:=qA5 HML.out.1.2;rw [HML.out.2] at h1;rw [show k=n by omega,h1] at TR;exact TR
        have hV:=TLn.sub (o:=0) (m:=n) (c:=n) (by rw [HML.out.1.1,HML.out.2];omega) (zB3 n) (by unfold maxLen;omega);have hU:=TRn.sub (o:=0) (m:=n) (c:=n) (by rw [HML.out.1.2,HML.out.2];omega) (zB3 n) (by unfold maxLen;omega);rw [List.drop_zero,zA7 (by rw [HML.out.1.1,HML.out.2];exact zB3 n)] at hV;rw [List.drop_zero,zA7 (by rw [HML.out.1.2,HML.out.2];exact zB3 n)] at hU;have HVU:=hQ9 (zA hV hU);clear TL TR TLn TRn hV hU;go_wp2;go_ret2;exact ⟨_,_,rfl,by rw [<- HMM.out.1];exact HVU.out.1,by rw [<- HMM.out.2];exact HVU.out.2,HB.out⟩
  · rw [<- hx1, <- hx2, <- hw3];clear hx1 hx2 hw3;have TL:=TWx2;have TR:=TWx1;have hLR : x2 ≠ x1:=by omega
    clear TWx1 TWx2;go_wp2
    go_loopw [19] (fun v19 wr => ∃ (k:Nat) (us vs:List Value),k<=n/\zE .u64 4294967296 wr x2 83 us (zF7 T0 M1 k)/\zE .u64 4294967296 wr x1 83 vs (zF7 T0 M2 k)/\Hid (Below w.heap.size w wr)/\v19=.int .i64 (k:Int)) (fun v19 _=>n-(intOf v19).toNat)
    case atStart=>exact ⟨0,_,_,by omega,by rw [qA4];exact TL,by rw [qA4];exact TR,HB3,rfl⟩
    case round =>
      clear TL TR HB3;obtain ⟨k,us,vs,hk,TL,TR,HB,rfl⟩:=hrel;obtain ⟨wi,hwi⟩:∃ wi,wi=wr:=⟨_,rfl⟩;subst hwi;by_cases hkn:k<n
      · obtain ⟨p,hp,hpl⟩:=zI0 HSA.out hkn;obtain ⟨q,hq,hql⟩:=zI0 HSB.out hkn;have k0:=HS0.out.bQ HB.out;have k1:=HS1.out.bQ HB.out;obtain ⟨ad0,rfl⟩:=k0.place (fun e=>by rw [e] at hp;cases hp);obtain ⟨ad1,rfl⟩:=k1.place (fun e=>by rw [e] at hq;cases hq);obtain ⟨Ap,cp,hip,ecp,sp⟩:=k0.at2 hp;obtain ⟨Aq,cq,hiq,ecq,sq⟩:=k1.at2 hq;rw [hpl] at ecp sp;rw [hql] at ecq sq;have HP:=hQ9 (zA hp (zA hpl (zA hq hql)));obtain ⟨PQ,hPQ⟩:∃ PQ,PQ=p ++ q:=⟨_,rfl⟩;obtain ⟨N,hN⟩:∃ N,N=n+m:=⟨_,rfl⟩;obtain ⟨Z,hZ⟩:∃ Z,Z=zK4 (p ++ q):=⟨_,rfl⟩;have HZ:=hQ9 hZ;have HZL:Hid (Z.length=N):=by show _=_;rw [hN,hZ,zX8,zA8,hpl,hql]
        have CC:∀ W,Below wi.heap.size wi W->Calls prog 49 #[.slice (some ⟨W.heap.size,0,none⟩) 2 2] (W.alloc (.cells #[.slice Ap n cp,.slice Aq m cq] 46)) (fun e w' => ∃ V,e=.returned V/\SlF .u64 4294967296 w' V PQ/\Below W.heap.size W w'):=fun W hb=>by
          have ba:=zC9 (w:=W) (zB3 _) (.cells #[.slice Ap n cp,.slice Aq m cq] 46);refine (yQ3 _ (.slice Ap n cp) (.slice Aq m cq) p q _ (zS7 W 46 [.slice Ap n cp,.slice Aq m cq]) ((sp.bQ hb).bQ ba) ((sq.bQ hb).bQ ba) (by omega) (by omega)).mono ?_;rintro e w' ⟨V,rfl,h2,h3⟩;exact ⟨V,rfl,by rw [hPQ];exact h2,ba.trans (h3.mono ba.size)⟩
        have CZ:∀ W V,SlF .u64 4294967296 W V PQ->Calls prog 48 #[V] W (fun e w' => ∃ (g o:Nat) (v:Value),e=.returned (.tuple #[.slice (some ⟨g,o,none⟩) N N,v])/\W.heap.size<=g/\SlZ .u64 4294967296 w' (.slice (some ⟨g,o,none⟩) N N) Z/\Below W.heap.size W w'):=fun W V h=>by
          have hl:(p ++ q).length=N:=by rw [zA8,hpl,hql,hN]
          rw [hPQ] at h;refine (yP5 V (p ++ q) S W h ⟨by omega,hc.out.small,fun x hx => ?_⟩).mono ?_
          · rcases List.mem_append.1 hx with hx | hx
            · exact hc.out.la p (zA5 hp) x hx
            · exact hc.out.lb q (zA5 hq) x hx
          · rintro e w' ⟨g,v,rfl,h1,h2,-,h4⟩;rw [hl] at h2 |-;exact ⟨g,0,v,rfl,h1,by rw [hZ];exact h2.sl (by rw [zX8,hl]) (by omega),h4⟩
        have HRK:Hid (M1[k]?=some (Z.take n)/\M2[k]?=some (Z.drop n)):=by
          show _/\_
          rw [HMM.out.1,HMM.out.2];unfold zI6 zJ3;rw [zB1,zB1,qP2 hp hq,HNA.out,hZ];exact ⟨rfl,rfl⟩
        have hNn:n<=N:=by omega
        have hN100:N<=100:=by omega
        clear hp hq hpl hql sp sq hZ k0 k1 hPQ hN;have hbd:=(Below.refl wi.heap.size wi).drew;go_upto_region 6 with (fail)
        go_region_law (first | (go_simp;go_at_call 49;refine (CC _ (by exact hbd)).mono ?_;rintro e w4 ⟨V4,rfl,s4,b4⟩;obtain ⟨A4,c4,rfl,-,-⟩:=id s4.shape)|(go_simp;go_at_call 48;refine (CZ _ _ (by exact s4)).mono ?_;rintro e w5 ⟨gx,ox,v5,rfl,hgx,s5,b5⟩))
        all_goals
          have b45:Below wi.heap.size wi w5:=(hbd.trans (b4.mono hbd.size)).trans (b5.mono (zB4 hbd.size b4.size));have TL5:=TL.bQ b45;have TR5:=TR.bQ b45;have HB5:Hid (Below w.heap.size w w5):=HB.out.trans (b45.mono HB.out.size);obtain ⟨A2,hA2⟩:∃ A2:Option Addr,A2=if N=n then some ⟨gx,ox,none⟩ else some ⟨gx,ox+n*2,none⟩:=⟨_,rfl⟩
          have sL:SlZ .u64 4294967296 w5 (.slice (some ⟨gx,ox,none⟩) n N) (Z.take n):=s5.take (by rw [HZL.out];exact hNn)
          have sR:SlZ .u64 4294967296 w5 (.slice A2 (N-n) (N-n)) (Z.drop n):=by
            by_cases e:N=n
            · rw [hA2,if_pos e,List.drop_eq_nil_of_le (by rw [HZL.out];omega),show N-n=0 by omega];exact qJ0 _ _ _ (Nat.zero_le _)
            · rw [hA2,if_neg e];exact s5.drop (by rw [HZL.out];exact hNn)
          obtain ⟨x,hx⟩:∃ x,T0[k]?=some x:=⟨_,zA3 (by rw [HML.out.2];exact hkn)⟩;have hm1:(zF7 T0 M1 k)[k]?=some x:=by rw [zX5 HML.out.1.1 (by rw [HML.out.2];omega)];exact hx
          have hm2:(zF7 T0 M2 k)[k]?=some x:=by rw [zX5 HML.out.1.2 (by rw [HML.out.2];omega)];exact hx
          obtain ⟨AL,cL,-,ecL,-⟩:=TL5.at_ hm1;obtain ⟨AR,cR,-,ecR,-⟩:=TR5.at_ hm2;have fL:=TL5.1.1.frozen k;have fR:=TR5.1.1.frozen k;have hA3:=hA2.symm;have hjc2:¬ N<n:=by omega
          have HX:=hQ9 (zA TL5 (zA TR5 (zA sL sR)));have hRL:x1≠x2:=fun e=>hLR e.symm;clear TL TR TL5 TR5 sL sR hx hm1 hm2 s5 b45 b4 b5 s4 HB CC CZ hA2 hgx hbd ecp ecq;go_upto_region 7 with (fail);go_region
          all_goals
            obtain ⟨TL6,TR6⟩:=yR3 (k:=k) HX.out.1 HX.out.2.1 hLR HX.out.2.2.1 HX.out.2.2.2;rw [zX6 HML.out.1.1 HRK.out.1] at TL6;rw [zX6 HML.out.1.2 HRK.out.2] at TR6;have TL7:=TL6.drew;have TR7:=TR6.drew;have G7:=(zF4 w5 x2 k (.slice (some ⟨gx,ox,none⟩) n N));have HB6:Hid (Below w.heap.size w _):=((HB5.out.setCell (p:=⟨x2,k,none⟩) (show w.heap.size<=x2 by omega) (.slice (some ⟨gx,ox,none⟩) n N)).setCell (p:=⟨x1,k,none⟩) (show w.heap.size<=x1 by omega) (.slice A2 (N-n) (N-n))).drew;clear TL6 TR6 HX HB5 G7 ecL ecR fL fR;go_wp2;go_roundw;case rel=>exact ⟨k+1,_,_,by omega,TL7,TR7,HB6,by go_num⟩
            case measure=>simp [intOf];omega
      · have TLn:zE .u64 4294967296 wi x2 83 us M1:=by
          have h1:=qA5 HML.out.1.1;rw [HML.out.2] at h1;rw [show k=n by omega,h1] at TL;exact TL
        have TRn:zE .u64 4294967296 wi x1 83 vs M2:=by
          have h1:=qA5 HML.out.1.2;rw [HML.out.2] at h1;rw [show k=n by omega,h1] at TR;exact TR
        have hV:=TLn.sub (o:=0) (m:=n) (c:=n) (by rw [HML.out.1.1,HML.out.2];omega) (zB3 n) (by unfold maxLen;omega);have hU:=TRn.sub (o:=0) (m:=n) (c:=n) (by rw [HML.out.1.2,HML.out.2];omega) (zB3 n) (by unfold maxLen;omega);rw [List.drop_zero,zA7 (by rw [HML.out.1.1,HML.out.2];exact zB3 n)] at hV;rw [List.drop_zero,zA7 (by rw [HML.out.1.2,HML.out.2];exact zB3 n)] at hU;have HVU:=hQ9 (zA hV hU);clear TL TR TLn TRn hV hU;go_wp2;go_ret2;exact ⟨_,_,rfl,by rw [<- HMM.out.1];exact HVU.out.1,by rw [<- HMM.out.2];exact HVU.out.2,HB.out⟩
theorem yR5 {n:Nat} {M:Nat->Nat->Rat} : zC8 n M≠0 ↔ ∀ x,zT0 n n M x -> ∀ c,c<n->x c=0 :=
 ⟨fun h x hx c hc=>bQ1 fun hne=>h (yN0 hc hx hne),yN1⟩
theorem jS9 {n:Nat} {A B:Nat->Nat->Rat} {μ : Nat->Rat} (hμ:∀ i,i<n -> μ i≠0) (h:∀ i j,i<n->j<n->B i j=A i j * μ i):zC8 n B≠0 ↔ zC8 n A≠0:=by
 have key:∀ x,zT0 n n B x ↔ zT0 n n A x:=fun x=>by
  have e:∀ i,i<n->zB9 n (fun j=>B i j*x j) = μ i*zB9 n (fun j=>A i j*x j):=fun i hi=>by
   rw [<- zH5];exact zE4 fun j hj=>by rw [h i j hi hj];grind
  constructor
  ·intro k i hi;have h1:=k i hi;rw [e i hi] at h1;rcases Rat.mul_eq_zero.1 h1 with h2 | h2
   ·exact absurd h2 (hμ i hi)
   ·exact h2
  ·intro k i hi;rw [e i hi,k i hi,Rat.mul_zero]
 rw [yR5,yR5];exact ⟨fun h x hx=>h x ((key x).2 hx),fun h x hx=>h x ((key x).1 hx)⟩
theorem jT {c x y:Rat} (hc:c≠0) (h:c*x=c*y):x=y:=by
 have h1:=Rat.mul_inv_cancel _ hc;have h2:c⁻¹ * (c*x)=c⁻¹ * (c*y):=by rw [h]
 rw [<- Rat.mul_assoc,<- Rat.mul_assoc,Rat.mul_comm c⁻¹ c,h1,Rat.one_mul,Rat.one_mul] at h2;exact h2
theorem jT0 {z d:Int} (hd:d≠0):Rat.divInt z d*(d:Rat)=(z:Rat):=by
 have h:(d:Rat)≠0:=fun e=>hd (Rat.intCast_eq_zero_iff.1 e);rw [Rat.divInt_eq_div,Rat.div_def,Rat.mul_assoc,Rat.mul_comm (d:Rat)⁻¹,Rat.mul_inv_cancel _ h,Rat.mul_one]
theorem yR6 {z d:Int} {m:Nat} (hd:d≠0) (hz:zC2 z<=m) (hl:zC2 d<=m):zC3 (Rat.divInt z d) m:=by
 rcases Int.lt_or_gt_of_ne hd with h | h
 ·rw [yF2 h];exact zR6 (by omega) (by rw [qG];exact hz) hl
 ·rw [yF3 h];exact zR6 (by omega) hz hl
theorem yR7 {r:List Rat} {l:Nat} {x:Rat} (h:r[l]?=some x):(((zK4 r).getD l 0:Int):Rat)=x*(zI4 r:Rat):=by
 rw [zA6,yP4 h];exact jP9 (yP2 x (zA5 h))
theorem jT1 {qs:List Rat} {S:Nat} (h:∀ q∈qs,zC3 q S):∀ z∈zK4 qs,zC2 z<=S+(1+S*qs.length):=by
 intro z hz;unfold zK4 at hz;obtain ⟨q,hq,rfl⟩:=List.mem_map.1 hz;have h1:=yP3 qs h qs.length;rw [List.take_length] at h1
 have h2:zC2 ((zI4 qs / q.den:Nat):Int)<=1+S*qs.length:=by
  unfold zC2;rw [Int.natAbs_natCast];exact zB4 (zG1 (by omega) (Nat.div_le_self _ _)) h1
 exact zQ8 (h q hq).1 h2
theorem lcmL_ne (qs:List Rat):(zI4 qs:Rat)≠0:=by
 intro e;have h:=qX8 qs;have h3:((zI4 qs:Nat):Rat)=((0:Nat):Rat):=e
 have:=Rat.natCast_inj.1 h3
 omega
def zY0 (A B:List (List Rat)) (i:Nat):Rat:=(zI4 ((zF0 A B).getD i []):Rat)
theorem yR8 (A B:List (List Rat)) (i:Nat):zY0 A B i≠0:=lcmL_ne _
section
variable {A B:List (List Rat)}
theorem yR9 (ok:okq A B) {i:Nat} (hi:i<A.length):∃ p q,A[i]?=some p/\p.length=A.length/\B[i]?=some q/\q.length=zC B/\(zF0 A B)[i]?=some (p ++ q):=by
 obtain ⟨p,hp,hpl⟩:=zI0 ok.sa hi;obtain ⟨q,hq,hql⟩:=zI0 ok.sb hi;exact ⟨p,q,hp,hpl,hq,hql,qP2 hp hq⟩
theorem yS (ok:okq A B) {i j:Nat} (hi:i<A.length) (hj:j<A.length):((zC5 (zI6 A B) i j:Int):Rat)=zB8 A i j*zY0 A B i:=by
 obtain ⟨p,q,hp,hpl,hq,hql,hr⟩:=yR9 ok hi;have h1:(zI6 A B)[i]?=some ((zK4 (p ++ q)).take A.length):=by unfold zI6;rw [zB1,hr];rfl
 have hx:(p ++ q)[j]?=some (zB8 A i j):=by
  rw [zB0 (by omega),zM6 hp,zA6,zA3 (by omega:j<p.length)]
  rfl
 have e:zC5 (zI6 A B) i j=(zK4 (p ++ q)).getD j 0:=by
  rw [zK0 h1,zA6,zA6,List.getElem?_take,if_pos hj]
 rw [e,yR7 hx];unfold zY0;rw [zK5 hr]
theorem jT2 (ok:okq A B) {i j:Nat} (hi:i<A.length) (hj:j<zC B):((zC5 (zJ3 A B) i j:Int):Rat)=zB8 B i j*zY0 A B i:=by
 obtain ⟨p,q,hp,hpl,hq,hql,hr⟩:=yR9 ok hi;have h1:(zJ3 A B)[i]?=some ((zK4 (p ++ q)).drop A.length):=by unfold zJ3;rw [zB1,hr];rfl
 have hx:(p ++ q)[A.length+j]?=some (zB8 B i j):=by
  rw [bW0 (by omega),hpl,Nat.add_sub_cancel_left,zM6 hq,zA6,zA3 (by omega:j<q.length)]
  rfl
 have e:zC5 (zJ3 A B) i j=(zK4 (p ++ q)).getD (A.length+j) 0:=by
  rw [zK0 h1,zA6,zA6,bW9]
 rw [e,yR7 hx];unfold zY0;rw [zK5 hr]
theorem qD8 (ok:okq A B):shI (zI6 A B) A.length A.length:=by
 have hJ:=zX1 ok.sa ok.sb;refine ⟨by unfold zI6;rw [zA9,hJ.1],fun r hr => ?_⟩;unfold zI6 at hr;obtain ⟨x,hx,rfl⟩:=List.mem_map.1 hr;rw [bQ7,zX8,hJ.2 x hx];omega
theorem qQ2 (ok:okq A B):shI (zJ3 A B) A.length (zC B):=by
 have hJ:=zX1 ok.sa ok.sb;refine ⟨by unfold zJ3;rw [zA9,hJ.1],fun r hr => ?_⟩;unfold zJ3 at hr;obtain ⟨x,hx,rfl⟩:=List.mem_map.1 hr;rw [List.length_drop,zX8,hJ.2 x hx];omega
theorem qA7 (ok:okq A B):zG4 (zJ3 A B)=zC B:=by
 have h:=qQ2 ok;unfold zG4;by_cases h0:A.length=0
 ·have e1:zJ3 A B=[]:=List.length_eq_zero_iff.1 (by rw [h.1,h0]);have e2:B=[]:=List.length_eq_zero_iff.1 (by rw [<- ok.2.2.2,h0]);rw [e1,e2]
  rfl
 ·obtain ⟨r,hr,hl⟩:=zV4 h (show 0<A.length by omega);rw [zA6,hr];exact hl
theorem yS0 (ok:okq A B) (hw:A.length+zC B<=100):okS (zI6 A B) (zJ3 A B):=by
 have h1:=qD8 ok;have h2:=qQ2 ok;refine ⟨⟨by rw [h1.1];omega,fun r hr=>by rw [h1.1];exact h1.2 r hr⟩,⟨by rw [h2.1];omega,fun r hr => ?_⟩,by rw [h1.1,h2.1]⟩;rw [qA7 ok];exact ⟨h2.2 r hr,by rw [h2.2 r hr];omega⟩
theorem qQ3 (ok:okq A B):zC8 A.length (qF (zC5 (zI6 A B)))≠0 ↔ zC8 A.length (zB8 A)≠0 :=
 jS9 (μ:=zY0 A B) (fun i _=>yR8 A B i) fun i j hi hj=>yS ok hi hj
theorem yS1 {S:Nat} (ok:okq A B) (la:zD6 A S) (lb:zD6 B S):zH1 (zI6 A B) (S+(1+S*(A.length+zC B)))/\zH1 (zJ3 A B) (S+(1+S*(A.length+zC B))):=by
 have key:∀ r∈zF0 A B,∀ z∈zK4 r,zC2 z<=S+(1+S*(A.length+zC B)):=fun r hr z hz=>by
  have hl:=(zX1 ok.sa ok.sb).2 r hr
  have h:=jT1 (S:=S) (qs:=r) (fun x hx=>by
   obtain ⟨p,hp,q,hq,rfl⟩:=yL hr;rcases List.mem_append.1 hx with hx | hx
   ·exact la p hp x hx
   ·exact lb q hq x hx) z hz
  rwa [hl] at h
 constructor
 ·intro r hr z hz;unfold zI6 at hr;obtain ⟨x,hx,rfl⟩:=List.mem_map.1 hr;exact key x hx z (List.mem_of_mem_take hz)
 ·intro r hr z hz;unfold zJ3 at hr;obtain ⟨x,hx,rfl⟩:=List.mem_map.1 hr;exact key x hx z (List.mem_of_mem_drop hz)
theorem jT3 {X:List (List Int)} {n m i j:Nat} {d:Int} (h:shI X n m) (hi:i<n) (hj:j<m):zB8 (zI5 d X) i j=Rat.divInt (zC5 X i j) d:=by
 obtain ⟨r,hr,hl,hz⟩:=qY4 h hi hj;have h1:(zI5 d X)[i]?=some (zM2 d r):=by unfold zI5;rw [zB1,hr];rfl
 rw [zM6 h1,zA6];unfold zM2;rw [zB1,hz]
 rfl
theorem yS2 {X:List (List Int)} {d:Int} (ok:okq A B) (h:SolvedI (zI6 A B) (zJ3 A B) X d):SolQ A B (zI5 d X):=by
 have hla:=(qD8 ok).1;have hsh:=h.sh;rw [hla,qA7 ok] at hsh;refine ⟨⟨by rw [qQ,hsh.1],fun r hr => ?_⟩,fun i j hi hj => ?_⟩
 ·unfold zI5 at hr;obtain ⟨x,hx,rfl⟩:=List.mem_map.1 hr;rw [qP9];exact hsh.2 x hx
 ·have h1:=h.sol i j (by rw [hla];exact hi) (by rw [qA7 ok];exact hj);rw [hla,jT2 ok hi hj] at h1;have hd:(d:Rat)≠0:=fun e=>h.ne (Rat.intCast_eq_zero_iff.1 e)
  have h2:zB9 A.length (fun c=>(zC5 (zI6 A B) i c:Rat)*(zC5 X c j:Rat))=(zY0 A B i*(d:Rat))*zO A.length (zB8 A) (zB8 (zI5 d X)) i j:=by
   unfold zO;rw [<- zH5];refine zE4 fun c hc => ?_;rw [yS ok hi hc,jT3 hsh hc hj,<- jT0 (z:=zC5 X c j) h.ne]
   grind
  rw [h2] at h1
  have hx:zY0 A B i*(d:Rat)≠0:=fun e=>by
   rcases Rat.mul_eq_zero.1 e with e | e
   ·exact yR8 A B i e
   ·exact hd e
  exact jT hx (by rw [h1];grind)
theorem yS3 {X P Q:List (List Int)} {d:Int} {S:Nat} (h:SolvedI P Q X d) (lp:zH1 P S) (lq:zH1 Q S) (hp:shI P P.length P.length) (hq:shI Q P.length (zG4 Q)):zC2 d<=dZ S P.length/\zH1 X (dZ S P.length):=by
 have ep:∀ i j,i<P.length->j<P.length->zC2 (zC5 P i j)<=S:=fun i j hi hj=>by
  obtain ⟨r,hr,hl,hz⟩:=qY4 hp hi hj;exact lp r (zA5 hr) _ (zA5 hz)
 constructor
 ·have h1:=h.det;rw [<- qY2] at h1;rw [Rat.intCast_inj.1 h1];exact qY3 _ ep
 ·intro r hr z hz;obtain ⟨c,hc⟩:=List.mem_iff_getElem?.1 hr;obtain ⟨j,hj⟩:=List.mem_iff_getElem?.1 hz;have hcl:c<P.length:=by rw [<- h.sh.1];exact (zA4.1 hc).1
  have hjl:j<zG4 Q:=by rw [<- h.sh.2 r hr];exact (zA4.1 hj).1
  have h1:=h.cra c j hcl hjl
  have e:zC8 P.length (zG9 (qF (zC5 P)) c (fun r=>qF (zC5 Q) r j))=zC8 P.length (qF (fun i l=>if l=c then zC5 Q i j else zC5 P i l)):=zL0 _ fun i l hi hl=>by
   unfold zG9;by_cases e:l=c
   ·show _=(((if l=c then zC5 Q i j else zC5 P i l:Int)):Rat)
    rw [if_pos e,if_pos e]
    rfl
   ·show _=(((if l=c then zC5 Q i j else zC5 P i l:Int)):Rat)
    rw [if_neg e,if_neg e]
    rfl
  rw [e,<- qY2] at h1;have h2:=Rat.intCast_inj.1 h1;rw [yO1 hc hj] at h2;rw [h2];refine qY3 _ fun i l hi hl => ?_
  by_cases e2:l=c
  ·rw [if_pos e2];obtain ⟨r',hr',hl',hz'⟩:=qY4 hq hi hjl;exact lq r' (zA5 hr') _ (zA5 hz')
  ·rw [if_neg e2];exact ep i l hi hl
end
theorem yS4 (a0 a1:Value) (A B:List (List Int)) (S:Nat) (w:World) (h0:SlW .u64 4294967296 w a0 A) (h1:SlW .u64 4294967296 w a1 B) (hc:Hid (zH1 A S/\zH1 B S/\(S+1)*2^A.length<=5001)) :
    Calls prog 17 #[a0,a1] w (RetSol A B w):=by
  obtain ⟨n,hn⟩:∃ n,n=A.length:=⟨_,rfl⟩;obtain ⟨m,hm⟩:∃ m,m=B.length:=⟨_,rfl⟩;obtain ⟨A0,c0,rfl,hc0,hm0⟩:=h0.shape;obtain ⟨A1,c1,rfl,hc1,hm1⟩:=h1.shape;rw [<- hn] at h0 hc0 |-;rw [<- hm] at h1 hc1 |-;unfold maxLen at hm0 hm1;have ba0:=zC9 (w:=w) (zB3 _) (.cells #[.bool false,.slice none 0 0] 42);have BR0:=Blk.new w 42 #[.bool false,.slice none 0 0];have st0:=h0.bQ ba0;have st1:=h1.bQ ba0;have HNM:=hQ9 (zA hn hm);clear h0 h1 hn hm
  go_enter func17,ntmps17;go_wp2_with fail
  refine (jP _ A _ st0).mono ?_;rintro e w2 (⟨hS,rfl,b2⟩|⟨hS,rfl,b2⟩)
  · have HS:=hQ9 hS;have BR2:=BR0.bQ b2;have st02:=st0.bQ b2;have st12:=st1.bQ b2;have b02:=ba0.trans (b2.mono ba0.size);clear hS BR0 st0 st1 ba0 b2
    go_wp2_with fail
    refine (yO3 _ B _ st12).mono ?_;rintro e w3 (⟨hE,rfl,b3⟩|⟨hE,rfl,b3⟩)
    · have HEv:=hQ9 hE;have BR3:=BR2.bQ b3;have st03:=st02.bQ b3;have st13:=st12.bQ b3;have b03:=b02.trans (b3.mono b02.size);clear hE BR2 st02 st12 b02 b3;by_cases hl:n=m
      · have HOK : Hid (okS A B) := ⟨HS.out, HEv.out, by rw [<- HNM.out.1, <- HNM.out.2]; exact hl⟩;subst hl;have hn100 : n <= 100:=by rw [HNM.out.1]; exact HOK.out.1.1
        obtain ⟨mk,hmk⟩:=Classical.axiomOfChoice (fun w=>qI1 (P:=prog) (w:=w) underlying56 yP n (by omega));have hmk1:=fun w=>(hmk w).1;have HMK:=hQ9 (fun w=>(hmk w).2);clear hmk;obtain ⟨tb,bm⟩:=HMK.out w3;obtain ⟨T0,hT0⟩:∃ T0,T0=zB n ([]:List Int):=⟨_,rfl⟩;obtain ⟨M,hM⟩:∃ M,M=zO1 A B:=⟨_,rfl⟩;have HML:Hid (M.length=T0.length/\T0.length=n):=⟨by rw [hM,hT0,qY5 HOK.out.2.2,bW7,HNM.out.1],by rw [hT0,bW7]⟩
        have TW0:zE .u64 4294967296 (mk w3) w3.heap.size 83 (zB n (.slice none 0 0)) (zF7 T0 M 0):=by
          rw [qA4,hT0];refine ⟨tb,by rw [bW7,bW7],fun i u r hu hr => ?_⟩;obtain rfl:=(List.mem_replicate.1 (zA5 hu)).2;obtain rfl:=(List.mem_replicate.1 (zA5 hr)).2;exact qJ0 _ _ _ (Nat.zero_le _)
        have HAP0:Hid (Apt (mk w3) w3.heap.size (zB n (.slice none 0 0))):=by
          refine ⟨fun u hu g e => ?_,fun i j u v hij hu hv g e => ?_⟩
          · obtain rfl:=(List.mem_replicate.1 hu).2;cases e
          · obtain rfl:=(List.mem_replicate.1 (zA5 hu)).2;cases e
        have hw3:w.heap.size<w3.heap.size:=BR3.lt;have HM:=hQ9 hM;have HST:=hQ9 (zA st03 st13);have HB0:Hid (Below w3.heap.size w3 (mk w3)):=bm;have HB03:=hQ9 b03;have HBR:=hQ9 BR3;clear tb bm hT0 hM st03 st13 BR3 b03;go_wp2
        go_loopw [34] (fun v34 wr => ∃ (i:Nat) (us:List Value),i<=n/\zE .u64 4294967296 wr w3.heap.size 83 us (zF7 T0 M i)/\Hid (Apt wr w3.heap.size us)/\Hid (Below w3.heap.size w3 wr)/\v34=.int .i64 (i:Int)) (fun v34 _=>n-(intOf v34).toNat)
        case atStart=>exact ⟨0,_,by omega,TW0,HAP0,HB0,rfl⟩
        case round =>
          clear TW0 HB0 HAP0;obtain ⟨i,us,hi,TW,HAP,HBi,rfl⟩:=hrel;obtain ⟨wi,hwi⟩:∃ wi,wi=wr:=⟨_,rfl⟩;subst hwi;by_cases hin:i<n
          · obtain ⟨p,hp⟩:∃ p,A[i]?=some p:=⟨_,zA3 (by rw [<- HNM.out.1];exact hin)⟩;obtain ⟨q,hq⟩:∃ q,B[i]?=some q:=⟨_,zA3 (by rw [<- HNM.out.2];exact hin)⟩;have hpl:p.length<=100:=by rw [HOK.out.1.2 p (zA5 hp)];exact HOK.out.1.1
            have hql:q.length<=100:=(HOK.out.2.1.2 q (zA5 hq)).2;have bd:=(Below.refl wi.heap.size wi).drew;have HBd:Hid (Below w3.heap.size w3 wi.drew):=HBi.out.drew;have s0d:=HST.out.1.bQ HBd.out;have s1d:=HST.out.2.bQ HBd.out;obtain ⟨ad0,rfl⟩:=s0d.place (List.length_pos_iff.1 (by have:=HNM.out.1;omega));obtain ⟨ad1,rfl⟩:=s1d.place (List.length_pos_iff.1 (by have:=HNM.out.2;omega));obtain ⟨Ap,cp,hia,ecp,sp⟩:=s0d.at2 hp;obtain ⟨Aq,cq,hib,ecq,sq⟩:=s1d.at2 hq;obtain ⟨pa,hpa,vpa,npa⟩:=sp.pairs;obtain ⟨pb,hpb,vpb,npb⟩:=sq.pairs;have hla:pa.length<=1000:=by rw [<- zA9 (f:=(·.1)),hpa];omega
            have hlb:pb.length<=1000:=by rw [<- zA9 (f:=(·.1)),hpb];omega
            have TMd:=TW.bQ bd;obtain ⟨x,hx⟩:∃ x,T0[i]?=some x:=⟨_,zA3 (by rw [HML.out.2];exact hin)⟩;have hm2:(zF7 T0 M i)[i]?=some x:=by rw [zX5 HML.out.1 (by rw [HML.out.2];omega)];exact hx
            have HMI:Hid ((zF7 T0 M i).set i (p ++ q)=zF7 T0 M (i+1)):=zX6 HML.out.1 (by rw [HM.out];exact qQ1 hp hq);have HX:=hQ9 hm2;have HPP:=hQ9 (zA hpa hpb);have ba:=zC9 (w:=wi.drew) (zB3 _) (.cells #[.slice Ap p.length cp,.slice Aq q.length cq] 83);have HV:=zS7 wi.drew 83 [.slice Ap p.length cp,.slice Aq q.length cq];have HPA:=hQ9 (zA (vpa.bQ ba) (zA (npa.bQ ba) (zA (vpb.bQ ba) (npb.bQ ba))));have HBA:=hQ9 ba;clear hp hq hx hm2 hpa hpb vpa npa vpb npb ba sp sq s0d s1d hpl hql TW;go_upto_region 7 with (fail)
            go_region_law (go_simp;go_at_call 44;refine (jS8 _ _ _ pa pb _ (by exact HV) HPA.out.1 HPA.out.2.1 HPA.out.2.2.1 HPA.out.2.2.2 hla hlb).mono ?_;rintro e w6 ⟨V6,rfl,R6,N6,b6⟩;obtain ⟨A6,c6,rfl⟩:=R6.slice;obtain ⟨m6,hm6⟩:∃ m6,m6=(pa ++ pb).length:=⟨_,rfl⟩;rw [<- hm6] at R6 |-;clear hm6;have b06:Below wi.drew.heap.size wi.drew w6:=HBA.out.trans (b6.mono HBA.out.size);have TM6:=TMd.bQ b06;obtain ⟨A6',c6',hu6,ec6,-⟩:=TM6.at_ HX.out;have f6:=TM6.1.1.frozen i)
            all_goals
              have sR:SlZ .u64 4294967296 w6 (.slice A6 m6 c6) (p ++ q):=by
                have h:=R6.slP.sl N6;rwa [bX5,HPP.out.1,HPP.out.2] at h
              have TM7:=TM6.stored i sR;rw [HMI.out] at TM7;have HB7:=hQ9 ((HBd.out.trans (b06.mono HBd.out.size)).grown (zF4 w6 w3.heap.size i (.slice A6 m6 c6)) (zB4 HBd.out.size b06.size) (fun x e=>by injection e with e;omega));have HA7:Hid (Apt (w6.setCell ⟨w3.heap.size,i,none⟩ (.slice A6 m6 c6)) w3.heap.size (us.set i (.slice A6 m6 c6))):=Apt.newR (HAP.out.grow (zO0 bd)) ((zO0 b06).trans (zS3 w6 w3.heap.size i _)) HBd.out.size (fun g e=>⟨zB4 HBA.out.size (R6.bk e).1,(zS3 w6 w3.heap.size i _).2 g (R6.bk e).2⟩);clear TM6 sR R6 N6 b6 b06 TMd ec6 f6 ecp ecq HV HAP HBi bd;go_wp2;go_roundw;case rel=>exact ⟨i+1,_,by omega,TM7,HA7,HB7,by go_num⟩
              case measure=>simp [intOf];omega
          · have TWn:zE .u64 4294967296 wi w3.heap.size 83 us M:=by
              have h1:=qA5 HML.out.1;rw [HML.out.2] at h1;rw [show i=n by omega,h1] at TW;exact TW
            have hwb:zG4 B<=100:=by
              unfold zG4
              cases hB:B with
              | nil=>simp
              | cons r B'=>exact (HOK.out.2.1.2 r (by rw [hB];exact List.mem_cons_self ..)).2
            have HCW:Hid (shI M n (n+zG4 B)/\n<=n+zG4 B/\n<=100/\n+zG4 B<=200/\zH1 M S/\(S+1)*2^n<=5001):=by
              rw [HM.out,HNM.out.1];exact ⟨besI_sh HOK.out,Nat.le_add_right _ _,HOK.out.1.1,by have:=HOK.out.1.1;omega,jS1 HOK.out.2.2 hc.out.1 hc.out.2.1,hc.out.2.2⟩
            clear TW hwb;go_wp2_with fail
            refine (jP6 w3.heap.size n (n+zG4 B) S us M _ TWn HCW).mono ?_;rintro e w5 ⟨hg5,⟨us5,T,d,neg,v5,a,rfl,hv5,TS5,hsh,hlT,hld,hBr,hPr,hAp⟩|⟨v5,rfl,hv5,hd0⟩⟩
            · obtain ⟨u5, rfl, s5⟩ := hv5;obtain ⟨A5,c5,rfl,_⟩:=id s5;have HAP5 : Hid (Apt w5 w3.heap.size us5):=hAp _ HBi.out.size HAP.out
              have HSV:Hid (SolvedI A B (sgT neg T) (sgn neg d)):=by
                have e:=HNM.out.1;rw [HM.out] at hPr;rw [e] at hBr hPr hsh;exact jS3 HOK.out hBr hPr (by rw [show zG4 B=A.length+zG4 B-A.length by omega];exact hsh) hlT hld
              have hd0:d≠0:=hBr.ne;obtain ⟨L,hL⟩:∃ L,L=zG4 B:=⟨_,rfl⟩;have HSH:Hid (shI T n L):=by rw [hL,show zG4 B=n+zG4 B-n by omega];exact hsh
              obtain ⟨X,hX⟩:∃ X,X=sgT neg T:=⟨_,rfl⟩;have HX:=hQ9 hX;have HXL:Hid (X.length=T.length/\T.length=n):=⟨by rw [hX,yQ9],hsh.1⟩;have HLT:=hQ9 hlT
              have hLb:L<=100:=by
                rw [hL];unfold zG4
                cases hB:B with
                | nil=>simp
                | cons r B'=>exact (HOK.out.2.1.2 r (by rw [hB];exact List.mem_cons_self ..)).2
              have HLD:=hQ9 hld;have hsz5:w3.heap.size<=w5.heap.size:=zB4 HBi.out.size hg5.size;have b05:=HB03.out.trans (HBi.out.mono HB03.out.size);have b06:=b05.grown hg5 b05.size (fun x e=>by injection e with e;omega);have BR5:=Blk.grown (HBR.out.bQ HBi.out) hg5 (show w.heap.size≠w3.heap.size by omega);have ba:=zC9 (w:=w5) (zB3 _) (.cells #[.bool (ngB d),.slice A5 (digs 4294967296 d.natAbs).length c5] 42);have B6:=Blk.new w5 42 #[.bool (ngB d),.slice A5 (digs 4294967296 d.natAbs).length c5];have s6:=s5.bQ ba;have BR6:=BR5.bQ ba;have b07:=b06.trans (ba.mono b06.size);have TS6:=TS5.bQ ba;have HAP6:=hQ9 (HAP5.out.grow (zO0 ba));have HGR:Hid (∀ u∈us5,∀ g,u.ownBlock=some g->w3.heap.size<=g/\g<w5.heap.size):=fun u hu g e=>⟨(HAP5.out.1 u hu g e).1,(HAP5.out.1 u hu g e).2.lt⟩;obtain ⟨t,ht⟩:∃ t,t=zJ4 d 0:=⟨_,rfl⟩;have hz1:(t == 0)=false:=by rw [ht,beq_eq_false_iff_ne];exact fun e=>hd0 ((qX6 d).1 e)
              have HT:=hQ9 ht;clear hsh hlT hld hBr hPr hAp hX hL ht hd0 hg5 b05 b06 BR5 s5 ba TS5 TWn HAP HBi;go_wp2_with fail
              refine (qC2 _ d t _ ⟨_,rfl,s6⟩ HT.out).mono ?_;rintro e w7 ⟨rfl,b7⟩;have BR7:=BR6.bQ b7;have B7:=B6.bQ b7;have s7:=s6.bQ b7;have TS7:zE .u64 4294967296 w7 w3.heap.size 83 us5 (zF7 T X 0):=by rw [qA4];exact TS6.bQ b7
              have HAP7:=hQ9 (HAP6.out.grow (zO0 b7));have HB7:Hid (Below w.heap.size w w7):=b07.trans (b7.mono b07.size);clear BR6 B6 s6 TS6 HAP6 b07 b7;go_wp2
              go_loopw [62] (fun v62 wr => ∃ i:Nat,i<=n/\zE .u64 4294967296 wr w3.heap.size 83 us5 (zF7 T X i)/\Hid (Apt wr w3.heap.size us5)/\Blk wr w5.heap.size 42 #[.bool (ngB d),.slice A5 (digs 4294967296 d.natAbs).length c5]/\IsS wr .u64 (.slice A5 (digs 4294967296 d.natAbs).length c5) (digs 4294967296 d.natAbs)/\Blk wr w.heap.size 42 #[.bool false,.slice none 0 0]/\Hid (Below w.heap.size w wr)/\v62=.int .i64 (i:Int)) (fun v62 _=>n-(intOf v62).toNat)
              case atStart=>exact ⟨0,by omega,TS7,HAP7,B7,s7,BR7,HB7,rfl⟩
              case round =>
                clear TS7 HAP7 B7 s7 BR7 HB7;obtain ⟨i,hi,TS,HAP,BP,su,BR,HB,rfl⟩:=hrel;obtain ⟨wo,hwo⟩:∃ wo,wo=wr:=⟨_,rfl⟩;subst hwo;by_cases hin:i<n
                · obtain ⟨r,hr,hrl⟩:=zV4 HSH.out hin;have hr2:(zF7 T X i)[i]?=some r:=by rw [zX5 HXL.out.1 (by rw [HXL.out.2];omega)];exact hr
                  obtain ⟨Ar,cr,hur,ecr,sr⟩:=TS.at_ hr2;obtain ⟨r2,hr3⟩:∃ r2,r2=sgR neg r:=⟨_,rfl⟩;have HRX:Hid (X[i]?=some r2):=by rw [HX.out,hr3];exact yR hr
                  have HRL:Hid (r2.length=r.length/\r.length=L):=⟨by rw [hr3,yR0],hrl⟩
                  have HRZ:Hid (∀ (j:Nat) (z:Int),r[j]?=some z->r2[j]?=some (sgn neg z)/\zC2 z<=5000):=by
                    show ∀ j z,_
                    intro j z hz;rw [hr3];exact ⟨sgR_at hz,HLT.out r (zA5 hr) z (zA5 hz)⟩
                  have HR:=hQ9 (zA hr hr2);have HUR:=hQ9 hur;have TS0:zE .u64 4294967296 wo w3.heap.size 83 us5 ((zF7 T X i).set i (zN2 r r2 0)):=by rw [jS4,jS7 hr2];exact TS
                  have HL:Hid (i<(zF7 T X i).length):=(zA4.1 hr2).1;obtain ⟨rl,hrl2⟩:∃ rl,rl=r.length:=⟨_,rfl⟩;rw [<- hrl2] at hur ecr sr;have HRL2:=hQ9 hrl2;have hrlb:rl<=100:=by omega
                  have HURL:Hid (us5[i]?=some (.slice Ar rl cr)):=hur;clear hr hr2 hr3 hrl hur sr TS HUR hrl2;go_wp2
                  go_loopw [70] (fun v70 wr => ∃ j:Nat,j<=rl/\zE .u64 4294967296 wr w3.heap.size 83 us5 ((zF7 T X i).set i (zN2 r r2 j))/\Hid (Apt wr w3.heap.size us5)/\Blk wr w5.heap.size 42 #[.bool (ngB d),.slice A5 (digs 4294967296 d.natAbs).length c5]/\IsS wr .u64 (.slice A5 (digs 4294967296 d.natAbs).length c5) (digs 4294967296 d.natAbs)/\Blk wr w.heap.size 42 #[.bool false,.slice none 0 0]/\Hid (Below w.heap.size w wr)/\v70=.int .i64 (j:Int)) (fun v70 _=>rl-(intOf v70).toNat)
                  case atStart=>exact ⟨0,by omega,TS0,HAP,BP,su,BR,HB,rfl⟩
                  case round =>
                    clear TS0 HAP BP su BR HB ecr;obtain ⟨j,hj,TS,HAP,BP,su,BR,HB,rfl⟩:=hrel;obtain ⟨wi2,hwi2⟩:∃ wi2,wi2=wr:=⟨_,rfl⟩;subst hwi2;by_cases hjl:j<rl
                    · obtain ⟨z,hz⟩:∃ z,r[j]?=some z:=⟨_,zA3 (by rw [<- HRL2.out];exact hjl)⟩;have hmj:(zN2 r r2 j)[j]?=some z:=by rw [mixR_at HRL.out.1 (by rw [<- HRL2.out];omega)];exact hz
                      obtain ⟨Z,hZ⟩:∃ Z,Z=sgn neg z:=⟨_,rfl⟩;have hzl:zC2 z<=5000:=(HRZ.out j z hz).2;have CG:∀ w a,IsZ w a z->Calls prog 47 #[.bool neg,a] w (zE9 Z w):=fun w a h=>by rw [hZ];exact yO9 neg a z w h (by omega)
                      have HSET:Hid ((zN2 r r2 j).set j Z=zN2 r r2 (j+1)):=jS6 HRL.out.1 (by rw [hZ];exact (HRZ.out j z hz).1);have hcur:((zF7 T X i).set i (zN2 r r2 j))[i]?=some (zN2 r r2 j):=bQ3 HL.out;have HCUR:=hQ9 hcur;have bd:=(Below.refl wi2.heap.size wi2).drew;have TSd:=TS.bQ bd;have srow:=TSd.2.2 i _ _ HURL.out hcur;obtain ⟨gr,or,rfl,hgr⟩:=srow.place (fun e=>by rw [e] at hmj;simp at hmj);obtain ⟨uz,hjn,p0,p1,sz⟩:=srow.at2 hmj;obtain ⟨Az,cz,rfl,_⟩:=id sz;have ecd:=TSd.1.cell HURL.out;rw [zS] at ecd;have hfz:=((HAP.out.1 _ (zA5 HURL.out) gr rfl).2);have hgb:=HGR.out _ (zA5 HURL.out) gr rfl;have hix:=fun w=>zX2 (P:=prog) underlying83 (by kernel_rfl) (g:=gr) (o:=or) (c:=cr) hjn w;have BPd:=BP.bQ bd;have sud:=su.bQ bd;have BRd:=BR.bQ bd;have HBd:Hid (Below w.heap.size w wi2.drew):=HB.out.drew;have HAPd:=hQ9 (HAP.out.grow (zO0 bd));have fz:=(zO0 bd).2 gr hfz;have f0:=fz.frozen (or+j*2);have f1:=fz.frozen (or+j*2+1);have HMJ:=hQ9 (zA hmj (zA4.1 hmj).1);have hszd:=HBd.out.size;clear hz hmj hZ hzl hcur hgr TS BP su BR HB HAP bd hfz;go_upto_region 18 with (fail)
                      go_region_law (go_simp;go_at_call 47;refine (CG _ _ ⟨_,rfl,by exact sz⟩).mono ?_;rintro e w8 ⟨v8,rfl,k8,-,b8⟩;obtain ⟨u8,rfl,s8⟩:=k8;obtain ⟨A8,c8,rfl,_⟩:=id s8;have TS8:=TSd.bQ b8;have srow8:=TS8.2.2 i _ _ HURL.out HCUR.out;obtain ⟨uz8,-,p08,p18,sz8⟩:=srow8.at2 HMJ.out.1;have ec8:=TS8.1.cell HURL.out;rw [zS] at ec8;have fz8:=(zO0 b8).2 gr fz;have f08:=fz8.frozen (or+j*2);have f18:=fz8.frozen (or+j*2+1))
                      all_goals
                        obtain ⟨TS9,hne9⟩:=TS8.setZ (HAPd.out.grow (zO0 b8)) HURL.out HCUR.out HMJ.out.2 s8;obtain ⟨Az8,cz8,rfl,_⟩:=id sz8;rw [HSET.out,List.set_set] at TS9;have G9:=qY0 w8 gr (or+j*2) (.bool (ngB Z)) (.slice A8 (digs 4294967296 Z.natAbs).length c8);have BP9:=Blk.grown (BPd.bQ b8) G9 (by omega);have su9:=rat.IsS.put2 (x:=.bool (ngB Z)) (y:=.slice A8 (digs 4294967296 Z.natAbs).length c8) (sud.bQ b8) p08 p18;have BR9:=Blk.grown (BRd.bQ b8) G9 (by omega);have HB9:=hQ9 ((HBd.out.trans (b8.mono hszd)).grown G9 (zB4 hszd b8.size) (fun x e=>by injection e with e;omega));have HAP9:=hQ9 ((HAPd.out.grow (zO0 b8)).grow ((zS3 w8 gr (or+j*2) (.bool (ngB Z))).trans (zS3 _ gr (or+j*2+1) (.slice A8 (digs 4294967296 Z.natAbs).length c8))));clear TS8 srow8 sz8 p08 p18 ec8 fz8 f08 f18 s8 b8 G9 TSd srow p0 p1 sz ecd BPd sud BRd fz f0 f1 HAPd HBd;go_wp2;go_roundw;case rel=>exact ⟨j+1,by omega,TS9,HAP9,BP9,su9,BR9,HB9,by go_num⟩
                        case measure=>simp [intOf];omega
                    · have TS9:zE .u64 4294967296 wi2 w3.heap.size 83 us5 (zF7 T X (i+1)):=by
                        have h1:=jS5 HRL.out.1;rw [show j=r.length by rw [<- HRL2.out];omega,h1,zX6 HXL.out.1 HRX.out] at TS;exact TS
                      clear TS;go_wp2;go_roundw;case rel=>exact ⟨i+1,by omega,TS9,HAP,BP,su,BR,HB,by go_num⟩
                      case measure=>simp [intOf];omega
                · have TSn:zE .u64 4294967296 wo w3.heap.size 83 us5 X:=by
                    have h1:=qA5 HXL.out.1;rw [HXL.out.2] at h1;rw [show i=n by omega,h1] at TS;exact TS
                  obtain ⟨Z,hZ⟩:∃ Z,Z=sgn neg d:=⟨_,rfl⟩;have CG:∀ w a,IsZ w a d->Calls prog 47 #[.bool neg,a] w (zE9 Z w):=fun w a h=>by rw [hZ];exact yO9 neg a d w h (by have:=HLD.out;omega)
                  have HSV2:Hid (SolvedI A B X Z):=by rw [HX.out,hZ];exact HSV.out
                  obtain ⟨V0,V1,F0,F1⟩:=Blk.two BP;clear TS hZ HSV HAP;go_wp2_with fail
                  refine (CG _ _ ⟨_,rfl,su⟩).mono ?_;rintro e w8 ⟨v8,rfl,k8,-,b8⟩;obtain ⟨u8,rfl,s8⟩:=k8;obtain ⟨A8,c8,rfl,_⟩:=id s8;have BR8:=BR.bQ b8;have TS8:=TSn.bQ b8;have b08:=HB.out.trans (b8.mono HB.out.size);obtain ⟨W0,W1,K0,K1⟩:=Blk.two BR8;have G9:=zX7 w8 w.heap.size (.bool (ngB Z)) (.slice A8 (digs 4294967296 Z.natAbs).length c8);obtain ⟨C0,C1,-,-⟩:=Blk.two (zT7 BR8 (.bool (ngB Z)) (.slice A8 (digs 4294967296 Z.natAbs).length c8));have s9:=flow.off s8 BR8 no_ints2 G9;have HB9:=hQ9 (b08.grown G9 b08.size (fun k e=>by injection e with e;omega));have TS9:=TS8.offZ BR8 no_ints2 (by decide) G9 (fun u hu e=>by have:=(HGR.out u hu _ e).1;omega);have SL9:=TS9.sub (o:=0) (m:=n) (c:=n) (by have:=HXL.out;omega) (zB3 n) (by unfold maxLen;omega);rw [List.drop_zero,zA7 (by have:=HXL.out;omega)] at SL9;clear TS9 G9 TS8 BR8 b08 b8 s8 BR HB TSn su BP V0 V1 F0 F1 CG;go_wp2;refine bodyPost_ret (v:=.tuple #[.slice (some ⟨w3.heap.size,0,none⟩) n n,.agg #[.bool (ngB Z),.slice A8 (digs 4294967296 Z.natAbs).length c8],.int .i64 0]) (by simp [results,results17,go_sem,C0,C1]) rfl ?_;exact ⟨HB9.out,.inl ⟨HOK.out,_,_,Z,X,rfl,SL9,⟨_,rfl,s9⟩,HSV2.out⟩⟩
            · obtain ⟨u5,rfl,s5⟩:=hv5;obtain ⟨A5,c5,rfl,_⟩:=id s5
              have HN:Hid (zC8 A.length (qF (zC5 A))=0):=by
                have e:=HNM.out.1;rw [HM.out,e,yR2 HOK.out] at hd0;exact hd0
              obtain ⟨O,hO⟩:∃ O:Int,O=0:=⟨_,rfl⟩;have s5o:IsS w5 .u64 (.slice A5 (digs 4294967296 (0:Int).natAbs).length c5) (digs 4294967296 O.natAbs):=by rw [hO];exact s5
              obtain ⟨b5,hb5⟩:∃ b5,b5=ngB 0:=⟨_,rfl⟩;obtain ⟨l5,hl5⟩:∃ l5,l5=(digs 4294967296 (0:Int).natAbs).length:=⟨_,rfl⟩;rw [<- hb5,<- hl5];rw [<- hl5] at s5o;have hbo:b5=ngB O:=by rw [hb5,hO]
              obtain ⟨t,ht⟩:∃ t,t=zJ4 O 0:=⟨_,rfl⟩;have hz1:(t == 0)=true:=by rw [ht,beq_iff_eq];exact (qX6 O).2 hO
              have HT:=hQ9 ht;have HBO:=hQ9 hbo;have b05:=HB03.out.trans (HBi.out.mono HB03.out.size);have b06:=b05.grown hg5 b05.size (fun x e=>by injection e with e;omega);have BR5:=Blk.grown (HBR.out.bQ HBi.out) hg5 (show w.heap.size≠w3.heap.size by omega);have ba:=zC9 (w:=w5) (zB3 _) (.cells #[.bool b5,.slice A5 l5 c5] 42);have B6:=Blk.new w5 42 #[.bool b5,.slice A5 l5 c5];have s6:=s5o.bQ ba;have BR6:=BR5.bQ ba;have b07:=b06.trans (ba.mono b06.size);clear hd0 hO hb5 hl5 hbo ht hg5 b05 b06 BR5 s5 s5o ba TWn HAP HBi;go_wp2_with fail
              refine (qC2 _ O t _ ⟨_,by rw [<- HBO.out],s6⟩ HT.out).mono ?_;rintro e w7 ⟨rfl,b7⟩;have BR7:=BR6.bQ b7;have b08:=b07.trans (b7.mono b07.size);clear BR6 B6 s6 b07 b7
              skip
              obtain ⟨V0,V1,F0,F1⟩:=Blk.two BR7;have G8:=zX7 w7 w.heap.size (.bool false) (.slice none 0 0);obtain ⟨C0,C1,-,-⟩:=Blk.two (zT7 BR7 (.bool false) (.slice none 0 0));have HB:=hQ9 (b08.grown G8 b08.size (fun k e=>by injection e with e;omega));clear G8 BR7 b08;go_wp2;refine bodyPost_ret (v:=.tuple #[.slice none 0 0,.agg #[.bool false,.slice none 0 0],.int .i64 7]) (by simp [results,results17,go_sem,C0,C1]) rfl ?_;exact ⟨HB.out,.inr (.inl ⟨HOK.out,HN.out,rfl⟩)⟩
      · have HN:Hid (¬ okS A B):=fun h=>hl (by rw [HNM.out.1,HNM.out.2];exact h.2.2);have g1:(((n:Nat):Int) != ((m:Nat):Int))=true:=by rw [bne_iff_ne];omega
        obtain ⟨V0,V1,F0,F1⟩:=Blk.two BR3;have G8:=zX7 w3 w.heap.size (.bool false) (.slice none 0 0);obtain ⟨C0,C1,-,-⟩:=Blk.two (zT7 BR3 (.bool false) (.slice none 0 0));have HB:=hQ9 (b03.grown G8 b03.size (fun k e=>by injection e with e;omega));clear G8 BR3 b03 st03 st13;go_wp2;refine bodyPost_ret (v:=.tuple #[.slice none 0 0,.agg #[.bool false,.slice none 0 0],.int .i64 8]) (by simp [results,results17,go_sem,C0,C1]) rfl ?_;exact ⟨HB.out,.inr (.inr ⟨HN.out,rfl⟩)⟩
    · have HN:Hid (¬ okS A B):=fun h=>hE h.2.1;have BR3:=BR2.bQ b3;have b03:=b02.trans (b3.mono b02.size);clear hE BR2 b02 b3 st02 st12;obtain ⟨V0,V1,F0,F1⟩:=Blk.two BR3;have G8:=zX7 w3 w.heap.size (.bool false) (.slice none 0 0);obtain ⟨C0,C1,-,-⟩:=Blk.two (zT7 BR3 (.bool false) (.slice none 0 0));have HB:=hQ9 (b03.grown G8 b03.size (fun k e=>by injection e with e;omega));clear G8 BR3 b03;go_wp2;refine bodyPost_ret (v:=.tuple #[.slice none 0 0,.agg #[.bool false,.slice none 0 0],.int .i64 8]) (by simp [results,results17,go_sem,C0,C1]) rfl ?_;exact ⟨HB.out,.inr (.inr ⟨HN.out,rfl⟩)⟩
  · have HN:Hid (¬ okS A B):=fun h=>hS h.1;have BR2:=BR0.bQ b2;have b02:=ba0.trans (b2.mono ba0.size);clear hS BR0 ba0 b2 st0 st1;obtain ⟨V0,V1,F0,F1⟩:=Blk.two BR2;have G8:=zX7 w2 w.heap.size (.bool false) (.slice none 0 0);obtain ⟨C0,C1,-,-⟩:=Blk.two (zT7 BR2 (.bool false) (.slice none 0 0));have HB:=hQ9 (b02.grown G8 b02.size (fun k e=>by injection e with e;omega));clear G8 BR2 b02;go_wp2;refine bodyPost_ret (v:=.tuple #[.slice none 0 0,.agg #[.bool false,.slice none 0 0],.int .i64 8]) (by simp [results,results17,go_sem,C0,C1]) rfl ?_;exact ⟨HB.out,.inr (.inr ⟨HN.out,rfl⟩)⟩
structure ExIn (A B:List (List Rat)) (S:Nat):Prop where
 wide:A.length+zC B<=100
 la:zD6 A S
 lb:zD6 B S
 small:S<=100
 steps:(S+(1+S*(A.length+zC B))+1)*2^A.length<=5001
 big:dZ (S+(1+S*(A.length+zC B))) A.length<=1000
theorem jT4 (a0 a1:Value) (A B:List (List Rat)) (S:Nat) (w:World) (h0:SlT .u64 4294967296 w a0 A) (h1:SlT .u64 4294967296 w a1 B) (hc:Hid (ExIn A B S)) :
  Calls prog 7 #[a0,a1] w (qP8 A B 1000 w):=by
 obtain ⟨A0,c0,rfl,hc0,hm0⟩:=h0.shape;obtain ⟨A1,c1,rfl,hc1,hm1⟩:=h1.shape;unfold maxLen at hm0 hm1;have HS0:=hQ9 h0;have HS1:=hQ9 h1;obtain ⟨m,hm⟩:∃ m,m=zC B:=⟨_,rfl⟩;have hnm:A.length+m<=100:=by rw [hm];exact hc.out.wide
 have HM:=hQ9 hm;clear h0 h1
 go_enter func7,ntmps7;go_wp2_with fail
 refine (zR _ B _ HS1.out).mono ?_;rintro e w1 ⟨rfl,b1⟩;rw [<- hm];clear hm;by_cases ho:okq A B
 ·have CF:=qD5 _ _ A B true _ (HS0.out.bQ b1) (HS1.out.bQ b1) ⟨fun _=>ho,fun _=>rfl⟩;have HO:=hQ9 ho;have HB1:=hQ9 b1;clear ho
  go_wp2_with fail
  refine CF.mono ?_;rintro e w2 ⟨rfl,b2⟩;have HB2:Hid (Below w.heap.size w w2):=HB1.out.trans (b2.mono HB1.out.size);have hmx1:¬ (100:Int)<((A.length:Nat):Int):=by omega
  have hmx2:¬ (100:Int)<((m:Nat):Int):=by omega
  clear b1 b2 CF;obtain ⟨T,hT⟩:∃ T,T=S+(1+S*(A.length+zC B)):=⟨_,rfl⟩;have HSZ:Hid ((T+1)*2^A.length<=5001/\dZ T A.length<=1000):=⟨by rw [hT];exact hc.out.steps,by rw [hT];exact hc.out.big⟩
  have HLN:Hid (zH1 (zI6 A B) T/\zH1 (zJ3 A B) T):=by
   show _/\_
   rw [hT];exact yS1 HO.out hc.out.la hc.out.lb
  have HOS:Hid (okS (zI6 A B) (zJ3 A B)):=yS0 HO.out hc.out.wide;have HLA:Hid ((zI6 A B).length=A.length):=(qD8 HO.out).1;clear hT;have CK:=fun w2 h0 h1=>yR4 (.slice A0 A.length c0) (.slice A1 B.length c1) A B S w2 h0 h1 ⟨HO.out,hc.out.wide,hc.out.la,hc.out.lb,hc.out.small⟩
  go_wp2_with fail
  all_goals
   refine (CK _ (HS0.out.bQ HB2.out) (HS1.out.bQ HB2.out)).mono ?_;rintro e w3 ⟨V3,U3,rfl,sv3,su3,b3⟩;have HB3:Hid (Below w.heap.size w w3):=HB2.out.trans (b3.mono HB2.out.size);obtain ⟨AV,cV,rfl,-,-⟩:=id sv3.shape;obtain ⟨AU,cU,rfl,-,-⟩:=id su3.shape;have CS:=yS4 _ _ (zI6 A B) (zJ3 A B) T w3 sv3 su3 ⟨HLN.out.1,HLN.out.2,by rw [HLA.out];exact HSZ.out.1⟩;obtain ⟨P,hP⟩:∃ P,P=zI6 A B:=⟨_,rfl⟩;obtain ⟨Q,hQ⟩:∃ Q,Q=zJ3 A B:=⟨_,rfl⟩;rw [<- hP,<- hQ] at CS;have HPQ:=hQ9 (zA hP hQ);rw [<- hP,<- hQ];clear CK b3 sv3 su3 hP hQ;go_wp2_with fail
   refine CS.mono ?_;rintro e w4 ⟨b4,(⟨-,V4,v4,d,X,rfl,sv4,hz4,hS4⟩|⟨-,hD4,rfl⟩|⟨hn4,_⟩)⟩
   ·have HB4:Hid (Below w.heap.size w w4):=HB3.out.trans (b4.mono HB3.out.size);obtain ⟨u4,rfl,s4⟩:=hz4;obtain ⟨A4,c4,rfl,_⟩:=id s4;obtain ⟨AX,cX,rfl,-,-⟩:=id sv4.shape;obtain ⟨wx,hwx,bx,BX,hsx⟩:=zL1 w4 42 #[.bool false,.slice none 0 0];obtain ⟨V0,V1,F0,F1⟩:=Blk.two BX;obtain ⟨C0,C1,-,-⟩:=Blk.two (zT7 BX (.bool (ngB d)) (.slice A4 (digs 4294967296 d.natAbs).length c4));have b8:=(bx.setCell (p:=⟨w4.heap.size,0,none⟩) (zB3 _) (.bool (ngB d))).setCell (p:=⟨w4.heap.size,1,none⟩) (zB3 _) (.slice A4 (digs 4294967296 d.natAbs).length c4);have sX8:=sv4.bQ b8;have s8:=s4.bQ b8;have HB8:Hid (Below w.heap.size w _):=HB4.out.trans (b8.mono HB4.out.size);rw [HPQ.out.1,HPQ.out.2] at hS4;have HSOL:Hid (SolQ A B (zI5 d X)):=yS2 HO.out hS4
    have HDET:Hid (zC8 A.length (zB8 A)≠0):=by
     refine (qQ3 HO.out).1 ?_;have h:=hS4.det;rw [HLA.out] at h;rw [<- h];exact fun e=>hS4.ne (Rat.intCast_eq_zero_iff.1 e)
    have hcr:=yS3 (S:=T) hS4 HLN.out.1 HLN.out.2 (by rw [HLA.out];exact qD8 HO.out) (by rw [HLA.out,qA7 HO.out];exact qQ2 HO.out);rw [HLA.out] at hcr;have HCR:Hid (zC2 d<=1000/\zH1 X 1000):=⟨zB4 hcr.1 HSZ.out.2,fun r hr z hz=>zB4 (hcr.2 r hr z hz) HSZ.out.2⟩;have hsh:=hS4.sh;rw [HLA.out,qA7 HO.out] at hsh
    have HLT:Hid (zD6 (zI5 d X) 1000):=by
     show zD6 _ _
     intro r hr x hx;unfold zI5 at hr;obtain ⟨y,hy,rfl⟩:=List.mem_map.1 hr;unfold zM2 at hx;obtain ⟨z,hz,rfl⟩:=List.mem_map.1 hx;exact yR6 hS4.ne (HCR.out.2 y hy z hz) HCR.out.1
    have CO:=fun W v u (h0:SlW .u64 4294967296 W v X) (h1:IsZ W u d)=>yP7 v u X d A.length (zC B) W h0 h1 hS4.ne ⟨hsh.1,hsh.2,by omega,by have:=HM.out;omega,HCR.out.1,HCR.out.2⟩;clear hS4 hcr hsh sv4 s4 b8 BX bx CS b4
    go_wp2_with fail
    refine (CO _ _ _ (by exact sX8) ⟨_,rfl,(by exact s8)⟩).mono ?_;rintro e w9 ⟨v9,rfl,s9,b9⟩;have HS9:=hQ9 s9;have HB9:Hid (Below w.heap.size w w9):=HB8.out.trans (b9.mono HB8.out.size);clear s9 b9 sX8 s8 CO C0 C1 V0 V1 F0 F1 hwx;go_wp2;go_ret2;exact .inl ⟨HO.out,HB9.out,.inl ⟨HDET.out,v9,zI5 d X,rfl,HS9.out,HSOL.out,HLT.out⟩⟩
   ·have HB4:Hid (Below w.heap.size w w4):=HB3.out.trans (b4.mono HB3.out.size);have HDET:Hid (zC8 A.length (zB8 A)=0):=bQ1 fun h=>(qQ3 HO.out).2 h (by rw [HPQ.out.1,HLA.out] at hD4;exact hD4);obtain ⟨wx,hwx,bx,BX,hsx⟩:=zL1 w4 42 #[.bool false,.slice none 0 0];obtain ⟨V0,V1,F0,F1⟩:=Blk.two BX;have b8:=(bx.setCell (p:=⟨w4.heap.size,0,none⟩) (zB3 _) (.bool false)).setCell (p:=⟨w4.heap.size,1,none⟩) (zB3 _) (.slice none 0 0);have HB8:Hid (Below w.heap.size w _):=HB4.out.trans (b8.mono HB4.out.size);clear hD4 BX bx b8 CS b4;go_wp2;go_ret2;exact .inl ⟨HO.out,HB8.out,.inr ⟨HDET.out,rfl⟩⟩
   ·rw [HPQ.out.1,HPQ.out.2] at hn4;exact absurd HOS.out hn4
 ·have CF:=qD5 _ _ A B false _ (HS0.out.bQ b1) (HS1.out.bQ b1) ⟨fun h=>Bool.noConfusion h,fun h=>absurd h ho⟩;have HO:=hQ9 ho;clear ho
  go_wp2_with fail
  refine CF.mono ?_;rintro e w2 ⟨rfl,b2⟩;have HB2:Hid (Below w.heap.size w w2):=b1.trans (b2.mono b1.size);clear CF b1 b2;go_wp2;go_ret2;exact .inr ⟨HO.out,rfl,HB2.out⟩
end rat
namespace rat
open Go.RowKit Go.Shelf num mem nat txt str flow whl
theorem qJ2 (w:World) (T1 T2:TypeId) {q:Rat} {u t:Value} (h1:IsS w .u64 u (digs 4294967296 q.num.natAbs)) (h2:IsS w .u64 t (digs 4294967296 q.den)) :
  ∃ w2,(w.alloc (.cells #[.bool (ngB q.num),u,t] T1)).alloc (.cells #[.slice (some ⟨w.heap.size,0,none⟩) 1 1] T2)=w2/\SlT .u64 4294967296 w2 (.slice (some ⟨w.heap.size+1,0,none⟩) 1 1) [[q]]/\Below w.heap.size w w2:=by
 obtain ⟨w1,hw1⟩:∃ w1,w1=w.alloc (.cells #[.bool (ngB q.num),u,t] T1):=⟨_,rfl⟩;have hs:=jK2 w T1 h1 h2;have b1:=zC9 (w:=w) (zB3 _) (.cells #[.bool (ngB q.num),u,t] T1);have hz:w1.heap.size=w.heap.size+1:=by rw [hw1];simp
 rw [<- hw1] at hs b1 |-;have b2:=zC9 (w:=w1) (zB3 _) (.cells #[.slice (some ⟨w.heap.size,0,none⟩) 1 1] T2);have hv:=zS7 w1 T2 [.slice (some ⟨w.heap.size,0,none⟩) 1 1];have st:=slT_one hv (hs.bQ b2) (fun A n c e=>by injection e with _ _ e3;subst e3;unfold maxLen;simp);rw [hz] at st;exact ⟨_,rfl,st,b1.trans (b2.mono b1.size)⟩
theorem jT5:zD6 [[(2:Rat)]] 1/\zD6 [[(1:Rat)]] 1/\zD6 [[(2:Rat),1]] 1:=by
 have h2:zC3 (2:Rat) 1:=⟨zG7 (k:=1) (by omega) (by decide +kernel),zG7 (k:=1) (by omega) (by decide +kernel)⟩;have h1:zC3 (1:Rat) 1:=⟨zG7 (k:=1) (by omega) (by decide +kernel),zG7 (k:=1) (by omega) (by decide +kernel)⟩;refine ⟨fun r hr x hx => ?_,fun r hr x hx => ?_,fun r hr x hx => ?_⟩
 ·simp at hr;subst hr;simp at hx;subst hx;exact h2
 ·simp at hr;subst hr;simp at hx;subst hx;exact h1
 ·simp at hr;subst hr;simp at hx;rcases hx with rfl|rfl;exact h2;exact h1
theorem yS5:SolIn [[(2:Rat)]] [[(1:Rat)]] 3/\ExIn [[(2:Rat)]] [[(1:Rat)]] 1:=by
 obtain ⟨l1,l2,l3⟩:=jT5;refine ⟨⟨by simp,by show 1+1<=200;omega,fun r hr x hx=>(l1 r hr x hx).mono (by omega),fun r hr x hx=>(l2 r hr x hx).mono (by omega),fun _ => ?_⟩,⟨by show 1+1<=100;omega,l1,l2,by omega,by show (1+(1+1*(1+1))+1)*2^1<=5001;omega,by show dZ (1+(1+1*(1+1))) 1<=1000;decide⟩⟩;show zX [[(2:Rat),1]] 3
 have hs:shp [[(2:Rat),1]] 1 2:=⟨rfl,fun r hr=>by simp at hr;subst hr;rfl⟩;exact ⟨by simp,by show 2<=200;omega,jH3 hs l3,by omega,by simp,by simp⟩
theorem ex16_ok:okq [[(2:Rat)]] [[(1:Rat)]]:=⟨rfl,⟨by simp,by show 1<=200;omega,fun r hr=>by simp at hr;subst hr;rfl⟩,⟨by simp,by show 1<=200;omega,fun r hr=>by simp at hr;subst hr;rfl⟩,rfl⟩
theorem yS6:zC8 1 (zB8 [[(2:Rat)]])≠0:=by
 show zC8 1 (zB8 [[(2:Rat)]])≠0
 decide +kernel
theorem jT6:SolQ [[(2:Rat)]] [[(1:Rat)]] [[Rat.divInt 1 2]]:=by
 refine ⟨⟨rfl,fun r hr=>by simp at hr;subst hr;rfl⟩,fun i j hi hj => ?_⟩;obtain rfl:i=0:=by have:i<1:=hi;omega
 obtain rfl:j=0:=by have:j<1:=hj;omega
 decide +kernel
theorem yS7 {L:Nat} {w:World} {e:Ending} {w':World} {P O:Rat} (hP:P=2) (hO:O=1) (h:qP8 [[P]] [[O]] L w e w'):Below w.heap.size w w' /\ ∃ V,e=.returned (.tuple #[V,.int .i64 0])/\SlT .u64 4294967296 w' V [[Rat.divInt 1 2]]:=by
 subst hP;subst hO;rcases h with ⟨_,hb,(⟨hd,V,X,he,hs,hx,_⟩|⟨hd,_⟩)⟩|⟨hn,_⟩
 ·exact ⟨hb,V,he,by rw [jT6.one hx yS6];exact hs⟩
 ·exact absurd hd yS6
 ·exact absurd ex16_ok hn
theorem jT7 (w:World):Calls prog 4 #[] w (zE1 (.bool true) w):=by
 obtain ⟨O,hO⟩:∃ O:Rat,O=((1:Int):Rat):=⟨_,rfl⟩;obtain ⟨P,hP⟩:∃ P:Rat,P=((2:Int):Rat):=⟨_,rfl⟩;obtain ⟨H,hH⟩:∃ H:Rat,H=Rat.divInt 1 2:=⟨_,rfl⟩;have CO:∀ w,Calls prog 12 #[.int .i64 1] w (RetQ O w):=fun w=>by rw [hO];exact qD 1 _ (by omega) (by omega)
 have CP:∀ w,Calls prog 12 #[.int .i64 2] w (RetQ P w):=fun w=>by rw [hP];exact qD 2 _ (by omega) (by omega)
 have CH:∀ w,Calls prog 13 #[.int .i64 1,.int .i64 2] w (zU7 H 0 w):=fun w=>by rw [hH];exact jI2 1 2 w (by omega) (by omega) (by omega)
 have eP:P=2:=by rw [hP];rfl
 have eO:O=1:=by rw [hO];rfl
 have HE:=hQ9 (zA eP eO);have HH:=hQ9 hH;have CS:∀ w a b,SlT .u64 4294967296 w a [[P]]->SlT .u64 4294967296 w b [[O]]->Calls prog 11 #[a,b] w (fun e w'=>Below w.heap.size w w' /\ ∃ V,e=.returned (.tuple #[V,.int .i64 0])/\SlT .u64 4294967296 w' V [[H]]):=fun w a b h0 h1=>(jQ0 a b [[P]] [[O]] 3 w h0 h1 (by rw [eP,eO];exact yS5.1)).mono fun e w' h=>by rw [hH];exact yS7 eP eO h
 have CX:∀ w a b,SlT .u64 4294967296 w a [[P]]->SlT .u64 4294967296 w b [[O]]->Calls prog 7 #[a,b] w (fun e w'=>Below w.heap.size w w' /\ ∃ V,e=.returned (.tuple #[V,.int .i64 0])/\SlT .u64 4294967296 w' V [[H]]):=fun w a b h0 h1=>(jT4 a b [[P]] [[O]] 1 w h0 h1 (by rw [eP,eO];exact yS5.2)).mono fun e w' h=>by rw [hH];exact yS7 eP eO h
 have CM:∀ w a b,SlT .u64 4294967296 w a [[H]]->SlT .u64 4294967296 w b [[H]]->Calls prog 10 #[a,b] w (zE1 (.bool true) w):=fun w a b h0 h1=>yK4 a b [[H]] [[H]] true w h0 h1 (by simp);clear hO hP hH eP eO
 go_enter func4,ntmps4;go_wp2_with fail
 refine (CP _).mono ?_;rintro e w1 ⟨v0,rfl,k0,-,b1⟩;obtain ⟨u0,t0,rfl,q0,d0⟩:=k0;obtain ⟨A0,c0,rfl,_⟩:=id q0;obtain ⟨D0,e0,rfl,_⟩:=id d0;obtain ⟨w2,hw2,st2,b2⟩:=qJ2 w1 44 46 q0 d0;have B2:=b1.trans (b2.mono b1.size);clear q0 d0 b1 b2;go_wp2_with fail
 refine (CO _).mono ?_;rintro e w3 ⟨v1,rfl,k1,-,b3⟩;obtain ⟨u1,t1,rfl,q1,d1⟩:=k1;obtain ⟨A1,c1,rfl,_⟩:=id q1;obtain ⟨D1,e1,rfl,_⟩:=id d1;obtain ⟨w4,hw4,st4,b4⟩:=qJ2 w3 44 46 q1 d1;have st24:=(st2.bQ b3).bQ (b4.mono (zB3 _));have B3:=B2.trans (b3.mono B2.size);have B4:=B3.trans (b4.mono B3.size);clear q1 d1 b3 b4 st2 B2 B3;go_wp2_with fail
 refine (CS _ _ _ st24 st4).mono ?_;rintro e w5 ⟨b5,V5,rfl,sx⟩;have B5:=B4.trans (b5.mono B4.size);obtain ⟨AX,cX,rfl,-,-⟩:=id sx.shape;clear st24 st4 b5 B4 hw2 hw4;go_wp2_with fail
 refine (CH _).mono ?_;rintro e w6 ⟨v6,rfl,k6,b6⟩;obtain ⟨u6,t6,rfl,q6,d6⟩:=k6;obtain ⟨A6,c6,rfl,_⟩:=id q6;obtain ⟨D6,e6,rfl,_⟩:=id d6;have B6:=B5.trans (b6.mono B5.size);have sx6:=sx.bQ b6;obtain ⟨wx,hwx,bx,BX,hsx⟩:=zL1 w6 44 #[.bool false,.slice none 0 0,.slice none 0 0];have V0:wx.cell? ⟨w6.heap.size,0,none⟩=some (.bool false):=BX.cell 0;have V1:wx.cell? ⟨w6.heap.size,1,none⟩=some (.slice none 0 0):=BX.cell 1;have V2:wx.cell? ⟨w6.heap.size,2,none⟩=some (.slice none 0 0):=BX.cell 2;have F0:=BX.frozen 0;have F1:=BX.frozen 1;have F2:=BX.frozen 2;have BY:=qD3 BX (.bool (ngB H.num)) (.slice A6 (digs 4294967296 H.num.natAbs).length c6) (.slice D6 (digs 4294967296 H.den).length e6);obtain ⟨w7,hw7⟩:∃ w7,((wx.setCell ⟨w6.heap.size,0,none⟩ (.bool (ngB H.num))).setCell ⟨w6.heap.size,1,none⟩ (.slice A6 (digs 4294967296 H.num.natAbs).length c6)).setCell ⟨w6.heap.size,2,none⟩ (.slice D6 (digs 4294967296 H.den).length e6)=w7:=⟨_,rfl⟩
 have b7:Below w6.heap.size w6 w7:=by
  rw [<- hw7];exact ((bx.setCell (p:=⟨w6.heap.size,0,none⟩) (zB3 _) _).setCell (p:=⟨w6.heap.size,1,none⟩) (zB3 _) _).setCell (p:=⟨w6.heap.size,2,none⟩) (zB3 _) _
 rw [hw7] at BY;have B7:=B6.trans (b7.mono B6.size);have sx7:=sx6.bQ b7;have q7:=q6.bQ b7;have d7:=d6.bQ b7;clear sx sx6 b6 b7 bx BX B5 B6 q6 d6;clear hsx;go_wp2_with fail
 refine (CP _).mono ?_;rintro e w8 ⟨v8,rfl,k8,-,b8⟩;obtain ⟨u8,t8,rfl,q8,d8⟩:=k8;obtain ⟨A8,c8,rfl,_⟩:=id q8;obtain ⟨D8,e8,rfl,_⟩:=id d8;obtain ⟨w9,hw9,st9,b9⟩:=qJ2 w8 44 46 q8 d8;have B8:=B7.trans (b8.mono B7.size);have B9:=B8.trans (b9.mono B8.size);have c79:=b8.trans (b9.mono b8.size);have BY9:=BY.bQ c79;have sx9:=sx7.bQ c79;have q9:=q7.bQ c79;have d9:=d7.bQ c79;clear hw7 V0 V1 V2 F0 F1 F2 hwx BY sx7 q7 d7 q8 d8 b8 b9 c79 B7 B8;go_wp2_with fail
 refine (CO _).mono ?_;rintro e w10 ⟨v10,rfl,k10,-,b10⟩;obtain ⟨u10,t10,rfl,q10,d10⟩:=k10;obtain ⟨A10,c10,rfl,_⟩:=id q10;obtain ⟨D10,e10,rfl,_⟩:=id d10;obtain ⟨w11,hw11,st11,b11⟩:=qJ2 w10 44 46 q10 d10;have B10:=B9.trans (b10.mono B9.size);have B11:=B10.trans (b11.mono B10.size);have c911:=b10.trans (b11.mono b10.size);have BY11:=BY9.bQ c911;have sx11:=sx9.bQ c911;have q11:=q9.bQ c911;have d11:=d9.bQ c911;have st911:=st9.bQ c911;clear hw9 BY9 sx9 q9 d9 q10 d10 b10 b11 c911 B9 B10 st9;go_wp2_with fail
 refine (CX _ _ _ st911 st11).mono ?_;rintro e w12 ⟨b12,V12,rfl,sy⟩;have B12:=B11.trans (b12.mono B11.size);obtain ⟨AY,cY,rfl,-,-⟩:=id sy.shape;have BY12:=BY11.bQ b12;have sx12:=sx11.bQ b12;have q12:=q11.bQ b12;have d12:=d11.bQ b12;have C0:w12.cell? ⟨w6.heap.size,0,none⟩=some (.bool (ngB H.num)):=BY12.cell 0;have C1:w12.cell? ⟨w6.heap.size,1,none⟩=some (.slice A6 (digs 4294967296 H.num.natAbs).length c6):=BY12.cell 1;have C2:w12.cell? ⟨w6.heap.size,2,none⟩=some (.slice D6 (digs 4294967296 H.den).length e6):=BY12.cell 2;obtain ⟨w13,hw13,st13,b13⟩:=qJ2 w12 44 46 q12 d12;have sx13:=sx12.bQ b13;have sy13:=sy.bQ b13;have B13:=B12.trans (b13.mono B12.size);clear hw11 BY11 sx11 q11 d11 st911 st11 b12 B11 BY12 q12 d12 b13 B12 sx12 sy;go_wp2_with fail
 refine (CM _ _ _ sx13 st13).mono ?_;rintro e w14 ⟨rfl,b14⟩;have B14:=B13.trans (b14.mono B13.size);have sx14:=sx13.bQ b14;have sy14:=sy13.bQ b14;clear hw13 C0 C1 C2 st13 sx13 sy13 b14 B13;go_wp2_with fail
 refine (CM _ _ _ sy14 sx14).mono ?_;rintro e w15 ⟨rfl,b15⟩;go_wp2;go_ret;exact ⟨rfl,B14.trans (b15.mono B14.size)⟩
theorem qY7 (n D:Nat) (M:Nat->Nat->Rat):∀ a,a<=D -> ∃ (E:Nat->Nat->Rat) (k:Nat) (p:Nat->Nat) (P:Nat->Nat->Rat),Ech n a E k p/\Red n E k p 0/\zF3 n D M E /\ ∀ i j,i<n->E i j=zB9 n (fun l=>P i l*M l j)
  | 0, _ => by
    refine ⟨M,0,id,fun i l=>if i=l then 1 else 0,Ech.zero n M id,fun m _ h=>by omega,zF3.refl _ _ _,fun i j hi => ?_⟩;rw [zL3 (a:=i) hi (fun l _ hne=>by simp only [if_neg (fun e:i=l=>hne e.symm)];exact Rat.zero_mul _)];simp only [if_true];exact (Rat.one_mul _).symm
  | a + 1, ha => by
    obtain ⟨E,k,p,P,hE,hR,hK,hP⟩:=qY7 n D M a (by omega);by_cases h0:∀ i,k<=i->i<n->E i a=0
    · exact ⟨E,k,p,P,hE.skip h0,hR,hK,hP⟩
    · obtain ⟨i,hi,hin,hne⟩:∃ i,k<=i/\i<n/\E i a≠0:=bQ1 fun h=>h0 fun i h1 h2=>bQ1 fun h3=>h ⟨i,h1,h2,h3⟩;have hk:k<n:=by omega
      have hP1:∀ r j,r<n->zD4 E k i r j=zB9 n (fun l=>zD4 P k i r l*M l j):=fun r j hr=>by
        unfold zD4;by_cases e1:r=k
        · simp only [if_pos e1];exact hP i j hin
        · by_cases e2:r=i
          · simp only [if_neg e1,if_pos e2];exact hP k j hk
          · simp only [if_neg e1,if_neg e2];exact hP r j hr
      have hE1:=hE.swap hi hin;have hR1:=hR.swap hi hin;have hne1:zD4 E k i k a≠0:=by unfold zD4;rw [if_pos rfl];exact hne
      have hi1:=Rat.mul_inv_cancel _ hne1;obtain ⟨c,hc⟩:∃ c,c=(zD4 E k i k a)⁻¹:=⟨_,rfl⟩
      have hine:c≠0:=fun e=>by
        rw [<- hc,e] at hi1
        revert hi1
        rw [Rat.mul_zero]
        decide
      have hE2:=hE1.scale c;have h1:zE7 (zD4 E k i) k c k a=1:=by unfold zE7;rw [if_pos rfl,hc];exact hi1
      have hP2:∀ r j,r<n->zE7 (zD4 E k i) k c r j=zB9 n (fun l=>zE7 (zD4 P k i) k c r l*M l j):=fun r j hr=>by
        unfold zE7;by_cases e:r=k
        · simp only [if_pos e];rw [hP1 r j hr,Rat.mul_comm,<- zH5];exact zE4 fun l _=>by grind
        · simp only [if_neg e];exact hP1 r j hr
      obtain ⟨t,ht⟩:∃ t:Nat->Rat,t=fun r=>if r=k then 0 else zE7 (zD4 E k i) k c r a:=⟨_,rfl⟩
      have htk:t k=0:=by rw [ht];exact if_pos rfl
      have hts:∀ r,r≠k->t r=zE7 (zD4 E k i) k c r a:=fun r hr=>by rw [ht];exact if_neg hr
      have hE3:=hE2.clear (t:=t) hk h1 htk (fun r hr _=>hts r (by omega));have hR3:=Red.clear (t:=t) (hR1.scale c) hE2 hk h1 htk (fun r hr _=>hts r hr);refine ⟨_,_,_,zI1 (zE7 (zD4 P k i) k c) k t,hE3,hR3,hK.trans ((qV1 E hk hin).trans ((qV2 _ hine).trans (qN _ hk htk))),fun r j hr => ?_⟩;unfold zI1;rw [hP2 r j hr,hP2 k j hk,<- zH5];have e:zB9 n (fun l=>zE7 (zD4 P k i) k c r l*M l j)-zB9 n (fun l=>t r*(zE7 (zD4 P k i) k c k l*M l j))=zB9 n (fun l=>zE7 (zD4 P k i) k c r l*M l j)+(-1)*zB9 n (fun l=>t r*(zE7 (zD4 P k i) k c k l*M l j)):=by grind
      rw [e,<- zH5,<- zT];exact zE4 fun l _=>by grind
theorem fred {n C:Nat} {A:Nat->Nat->Rat} {b:Nat->Rat} (h:∀ y:Nat->Rat,(∀ j,j<C->zB9 n (fun i=>y i*A i j)=0)->zB9 n (fun i=>y i*b i)=0):∃ x:Nat->Rat,∀ i,i<n->zB9 C (fun j=>A i j*x j)=b i:=by
 obtain ⟨E,k,p,P,hE,hR,hK,hP⟩:=qY7 n (C+1) (fun i j=>if j<C then A i j else b i) C (by omega)
 have hz:∀ i,k<=i->i<n->E i C=0:=fun i hi hin=>by
  rw [hP i C hin]
  have h1:=h (P i) (fun j hj=>by
   have h2:=hP i j hin;rw [hE.rest i hi hin j hj] at h2;rw [h2];exact zE4 fun l _=>by simp only [if_pos hj])
  rw [<- h1];exact zE4 fun l _=>by simp only [if_neg (Nat.lt_irrefl C)]
 have hE2:=hE.skip hz;have hf:∀ i,i<k->p i≠C:=fun i hi e=>by have:=hE.lt i hi;omega
 have h1:=(hK _).2 (zW7 hE2 hR (show C<C+1 by omega) hf);refine ⟨fun j => -(nv E k p C j),fun i hi => ?_⟩;have h2:=h1 i hi
 have e:zB9 (C+1) (fun j=>(if j<C then A i j else b i)*nv E k p C j)=zB9 C (fun j=>A i j*nv E k p C j)+b i:=by
  show zB9 C _+_=_
  rw [zE4 (g:=fun j=>A i j*nv E k p C j) (fun j hj=>by simp only [if_pos hj])];simp only [if_neg (Nat.lt_irrefl C),zT1]
  grind
 rw [e] at h2;have e2:=qO9 C (fun j=>A i j) (fun j=>nv E k p C j);rw [e2]
 grind
theorem nv_span {n C k:Nat} {E:Nat->Nat->Rat} {p:Nat->Nat} (hE:Ech n C E k p) (hR:Red n E k p 0) {y:Nat->Rat} (hy:zT0 n C E y) {b:Nat->Rat} (hb:∀ j,j<C->(∀ i,i<k->p i≠j)->zB9 C (fun c=>nv E k p j c*b c)=0):zB9 C (fun c=>y c*b c)=0:=by
 classical
 obtain ⟨F,hF⟩:∃ F:Nat->Rat,F=fun j=>if (∀ i,i<k->p i≠j) then y j else 0:=⟨_,rfl⟩
 have key:∀ c,c<C->y c=zB9 C (fun j=>F j*nv E k p j c):=fun c hc=>by
  by_cases hf:∀ i,i<k->p i≠c
  ·rw [zL3 (a:=c) hc (fun j hj hne=>by
    rw [hF];by_cases hfj:∀ i,i<k->p i≠j
    ·rw [zZ8 (fun e=>hne e.symm) hf,Rat.mul_zero]
    ·simp only [if_neg hfj];exact Rat.zero_mul _),zT1,hF]
   simp only [if_pos hf];exact (Rat.mul_one _).symm
  ·obtain ⟨i,hi,hpc⟩:∃ i,i<k/\p i=c:=bQ1 fun h=>hf fun i hi e=>h ⟨i,hi,e⟩;subst hpc;have hin:i<n:=by have:=hE.le;omega
   have h1:=hy i hin
   have e:zB9 C (fun j=>E i j*y j)=zB9 C (fun j=>(if j=p i then y j else 0)+E i j*F j):=zE4 fun j hj=>by
    rw [hF];by_cases hj1:j=p i
    ·subst hj1;have hnf:¬ ∀ m,m<k->p m≠p i:=fun h=>h i hi rfl;simp only [if_neg hnf,if_true];rw [hE.one i hi];grind
    ·by_cases hfj:∀ m,m<k->p m≠j
     ·simp only [if_neg hj1,if_pos hfj];grind
     ·obtain ⟨m,hm,hpm⟩:∃ m,m<k/\p m=j:=bQ1 fun h=>hfj fun m hm e=>h ⟨m,hm,e⟩;subst hpm;simp only [if_neg hj1,if_neg hfj];rw [hR m (Nat.zero_le _) hm i hin (fun e=>hj1 (by rw [e]))];grind
   rw [e,zT,zL3 (a:=p i) hc (fun j hj hne=>if_neg hne),if_pos rfl] at h1
   have e2:zB9 C (fun j=>F j*nv E k p j (p i))=zB9 C (fun j=>(-1)*(E i j*F j)):=zE4 fun j hj=>by
    by_cases hne:p i=j
    ·have h0:F j=0:=by rw [hF];exact if_neg fun h=>h i hi hne
     rw [h0];grind
    ·rw [qH6 hE hi hne];grind
   rw [e2,zH5]
   grind
 rw [zE4 (g:=fun c=>zB9 C (fun j=>F j*nv E k p j c*b c)) (fun c hc=>by
  have h1:=key c hc;have e:=zH5 C (b c) (fun j=>F j*nv E k p j c);rw [<- h1] at e;rw [Rat.mul_comm,<- e];exact zE4 fun j _=>by grind),qH5]
 refine zN9 fun j hj => ?_
 by_cases hf:∀ i,i<k->p i≠j
 ·have h1:=hb j hj hf;have e:=zH5 C (F j) (fun c=>nv E k p j c*b c);rw [h1,Rat.mul_zero] at e;rw [<- e];exact zE4 fun c _=>by grind
 ·have h0:F j=0:=by rw [hF];exact if_neg hf
  exact zN9 fun c _=>by rw [h0];grind
def zT8 (n C:Nat) (A:Nat->Nat->Rat) (b:Nat->Rat):Prop:=∃ x:Nat->Rat,∀ i,i<n->zB9 C (fun j=>A i j*x j)=b i
theorem yS8 {n C:Nat} {A:Nat->Nat->Rat} {b y:Nat->Rat} (h:zT8 n C A b) (hy:∀ j,j<C->zB9 n (fun i=>y i*A i j)=0):zB9 n (fun i=>y i*b i)=0:=by
 obtain ⟨x,hx⟩:=h
 rw [zE4 (g:=fun i=>zB9 C (fun j=>y i*A i j*x j)) (fun i hi=>by
  rw [<- hx i hi,<- zH5];exact zE4 fun j _=>by grind),qH5]
 refine zN9 fun j hj => ?_;have e:=zH5 n (x j) (fun i=>y i*A i j);rw [hy j hj,Rat.mul_zero] at e;rw [<- e];exact zE4 fun i _=>by grind
theorem jT8 {n C:Nat} {A:Nat->Nat->Rat} {b:Nat->Rat} : zT8 n C A b ↔ ∀ y:Nat->Rat,(∀ j,j<C->zB9 n (fun i=>y i*A i j)=0)->zB9 n (fun i=>y i*b i)=0:=⟨fun h y hy=>yS8 h hy,fred⟩
theorem jT9 {n C m k:Nat} {A B E:Nat->Nat->Rat} {p:Nat->Nat} (hE:Ech n (C+m) E k p) (hR:Red n E k p 0) (hK:zF3 n (C+m) (zJ6 C A B) E):(∀ i,i<k->p i<C) ↔ ∀ c,c<m->zT8 n C A (fun i=>B i c):=by
  constructor
  · intro h c hc;have h1:=(hK _).2 (zW7 hE hR (show C+c<C+m by omega) (fun i hi e=>by have:=h i hi;omega));refine ⟨fun j => -(nv E k p (C+c) j),fun i hi => ?_⟩;have h2:=h1 i hi;rw [qI9] at h2;have e1:zB9 C (fun j=>zJ6 C A B i j*nv E k p (C+c) j)=zB9 C (fun j=>A i j*nv E k p (C+c) j):=zE4 fun j hj=>by unfold zJ6;rw [if_pos hj]
    have e2:zB9 m (fun j=>zJ6 C A B i (C+j)*nv E k p (C+c) (C+j))=B i c:=by
      rw [zL3 (a:=c) hc (fun j hj hne=>by
        rw [zZ8 (fun e=>hne (by omega)) (fun i hi e=>by have:=h i hi;omega),Rat.mul_zero]),zT1]
      unfold zJ6;rw [if_neg (by omega),Nat.add_sub_cancel_left,Rat.mul_one]
    rw [e1,e2] at h2;have e3:=qO9 C (fun j=>A i j) (fun j=>nv E k p (C+c) j);rw [e3]
    grind
  · intro h i hi;refine bQ1 fun hn => ?_;have hlt:=hE.lt i hi;have hin:i<n:=by have:=hE.le;omega
    obtain ⟨x,hx0⟩:=h (p i-C) (by omega);have hx:∀ r,r<n->zB9 C (fun j=>A r j*x j)=B r (p i-C):=hx0
    have h1:=(hK (fun j=>if j<C then x j else if j=p i then -1 else 0)).1 (fun r hr=>by
      rw [qI9]
      have e1:zB9 C (fun j=>zJ6 C A B r j*(if j<C then x j else if j=p i then -1 else 0))=B r (p i-C):=by
        rw [<- hx r hr];exact zE4 fun j hj=>by unfold zJ6;rw [if_pos hj,if_pos hj]
      have e2:zB9 m (fun j=>zJ6 C A B r (C+j)*(if C+j<C then x (C+j) else if C+j=p i then -1 else 0)) = -(B r (p i-C)):=by
        rw [zL3 (a:=p i-C) (by omega) (fun j hj hne=>by
          rw [if_neg (by omega),if_neg (by omega),Rat.mul_zero]),if_neg (by omega),if_pos (by omega)]
        unfold zJ6;rw [if_neg (by omega),Nat.add_sub_cancel_left]
        grind
      rw [e1,e2]
      grind) i hin
    rw [zL3 (a := p i) hlt (fun j hj hne=>by
      rcases Nat.lt_trichotomy j (p i) with hl|hl|hl
      · rw [hE.lead i hi j hl,Rat.zero_mul]
      · exact absurd hl hne
      · simp only [if_neg (show ¬ j<C by omega),if_neg hne];exact Rat.mul_zero _),hE.one i hi] at h1
    simp only [if_neg hn,if_true] at h1;rw [Rat.one_mul] at h1
    revert h1
    decide
theorem jU {n C m k k':Nat} {A B E T:Nat->Nat->Rat} {p p':Nat->Nat} (hE:Ech n (C+m) E k p) (hR:Red n E k p 0) (hK:zF3 n (C+m) (zJ6 C A B) E) (hT:Ech n C T k' p') (hR':Red n T k' p' 0) (hK':zF3 n C A T):k'<k ↔ ¬ ∀ i,i<k->p i<C:=by
  obtain ⟨q, hq1, hq2, hq3⟩ : ∃ q, q <= k /\ (∀ i, i < q -> p i < C) /\ ∀ i, q <= i -> i < k -> C <= p i := by
    have key:∀ t,t<=k -> ∃ q,q<=t/\(∀ i,i<q->p i<C) /\ ∀ i,q<=i->i<t->C<=p i:=by
      intro t
      induction t with
      | zero=>intro _;exact ⟨0,zB3 0,fun i h=>by omega,fun i _ h=>by omega⟩
      | succ t ih =>
        intro ht;obtain ⟨q,h1,h2,h3⟩:=ih (by omega);by_cases hpt:p t<C
        · have hqt:q=t:=bQ1 fun hne=>by
            have h4:=h3 q (zB3 q) (by omega);have h5:=hE.rise q t (by omega) (by omega);omega
          subst hqt;refine ⟨q+1,zB3 _,fun i hi => ?_,fun i h4 h5=>by omega⟩;by_cases e:i=q
          · subst e;exact hpt
          · exact h2 i (by omega)
        · refine ⟨q,by omega,h2,fun i h4 h5 => ?_⟩;by_cases e:i=t
          · subst e;omega
          · exact h3 i h4 (by omega)
    exact key k (zB3 k)
  have hEq:Ech n C E q p:=by
    have hle:=hE.le;refine ⟨by omega,fun i j hi hj=>hE.rise i j hi (by omega),hq2,fun i hi=>hE.one i (by omega),fun i hi j hj=>hE.lead i (by omega) j hj,fun i h1 h2 j hj => ?_⟩;by_cases hik:i<k
    · exact hE.lead i hik j (by have:=hq3 i h1 hik;omega)
    · exact hE.rest i (by omega) h2 j (by omega)
  have hRq:Red n E q p 0:=fun a h1 h2 i h3 h4=>hR a h1 (by omega) i h3 h4
  have hKq:zF3 n C A E:=fun x=>by
    have e:∀ (M:Nat->Nat->Rat) i,zB9 (C+m) (fun j=>M i j*(if j<C then x j else 0))=zB9 C (fun j=>M i j*x j):=fun M i=>by
      rw [qP0 (n:=C) (C+m) (by omega) (fun j h1 h2=>by rw [if_neg (by omega),Rat.mul_zero])];exact zE4 fun j hj=>by rw [if_pos hj]
    have e1:∀ i,zB9 (C+m) (fun j=>zJ6 C A B i j*(if j<C then x j else 0))=zB9 C (fun j=>A i j*x j):=fun i=>by
      rw [e];exact zE4 fun j hj=>by unfold zJ6;rw [if_pos hj]
    constructor
    · intro h i hi;rw [<- e];exact (hK _).1 (fun r hr=>by rw [e1];exact h r hr) i hi
    · intro h i hi;rw [<- e1];exact (hK _).2 (fun r hr=>by rw [e];exact h r hr) i hi
  obtain ⟨e,_⟩:=jG1 hT hR' hEq hRq (hK'.symm.trans hKq);subst e
  constructor
  · intro h h2;have h3:=hq3 k' (zB3 _) h;have h4:=h2 k' h;omega
  · intro h;refine bQ1 fun hn=>h fun i hi=>hq2 i (by omega)
theorem ann_piv {n C k:Nat} {A T:Nat->Nat->Rat} {p:Nat->Nat} (hT:Ech n C T k p) (hR:Red n T k p 0) (hK:zF3 n C A T) {y:Nat->Rat} (hy:∀ i,i<k->zB9 n (fun l=>y l*A l (p i))=0):∀ j,j<C->zB9 n (fun l=>y l*A l j)=0:=by
  intro j hj;by_cases hf:∀ i,i<k->p i≠j
  · have h1:=(hK _).2 (zW7 hT hR hj hf);have h2:zB9 n (fun l=>y l*zB9 C (fun c=>A l c*nv T k p j c))=0:=zN9 fun l hl=>by rw [h1 l hl,Rat.mul_zero]
    rw [zE4 (g:=fun l=>zB9 C (fun c=>y l*A l c*nv T k p j c)) (fun l hl=>by
      rw [<- zH5];exact zE4 fun c _=>by grind),qH5] at h2
    have h3:∀ c,c<C->zB9 n (fun l=>y l*A l c*nv T k p j c)=nv T k p j c*zB9 n (fun l=>y l*A l c):=fun c hc=>by
      rw [<- zH5];exact zE4 fun l _=>by grind
    rw [zE4 h3, zL3 (a := j) hj (fun c hc hne=>by
      by_cases hfc:∀ i,i<k->p i≠c
      · rw [zZ8 hne hfc,Rat.zero_mul]
      · obtain ⟨i,hi,hpc⟩:∃ i,i<k/\p i=c:=bQ1 fun h=>hfc fun i hi e=>h ⟨i,hi,e⟩;subst hpc;rw [hy i hi,Rat.mul_zero]),zT1,Rat.one_mul] at h2
    exact h2
  · obtain ⟨i,hi,hpc⟩:∃ i,i<k/\p i=j:=bQ1 fun h=>hf fun i hi e=>h ⟨i,hi,e⟩;subst hpc;exact hy i hi
theorem dZ_le {S n:Nat} (hn:n<=5):dZ S n<=5*S+16:=by
 rcases (show n=0\/n=1\/n=2\/n=3\/n=4\/n=5 by omega) with rfl|rfl|rfl|rfl|rfl|rfl<;>simp only [dZ]<;>omega
def qJ3 (T:List (List Rat)):Prop:=∀ r∈T,∀ x∈r,x=0
theorem yS9 {x:Rat} : zJ4 x.num 0=0 ↔ x=0:=by
 rw [<- Rat.num_eq_zero];unfold zJ4
 constructor
 ·intro h
  split at h
  ·omega
  ·split at h<;>omega
 ·intro h;rw [h];simp
theorem yT (a0 : Value) (T : List (List Rat)) (b : Bool) (w : World) (h0 : SlT .u64 4294967296 w a0 T) (hb : b = true ↔ qJ3 T) (hc : Hid (T.length <= 1000 /\ ∀ r ∈ T, r.length <= 1000)) : Calls prog 55 #[a0] w (zE1 (.bool b) w) := by
  have HB:=hQ9 hb;have HS:=hQ9 h0;obtain ⟨A0,c0,rfl,hc0,hm0⟩:=h0.shape;obtain ⟨n,hn⟩:∃ n,n=T.length:=⟨_,rfl⟩;have hn1:n<=1000:=by rw [hn];exact hc.out.1
  have HN:=hQ9 hn;rw [<- hn] at HS hc0 |-;unfold maxLen at hm0;clear hb h0 hn
  go_enter func55,ntmps55
  go_wp2
  go_loopw [7] (fun v7 wr => ∃ k:Nat,k<=n/\Hid (Below w.heap.size w wr)/\Hid (∀ i r,i<k->T[i]?=some r -> ∀ x∈r,x=0)/\v7=.int .i64 (k:Int)) (fun v7 _=>n-(intOf v7).toNat)
  case atStart=>exact ⟨0,by omega,Below.refl _ _,fun i r h=>by omega,rfl⟩
  case round =>
    obtain ⟨k,hk,HBk,HZ,rfl⟩:=hrel;obtain ⟨wo,hwo⟩:∃ wo,wo=wr:=⟨_,rfl⟩;subst hwo;by_cases hlt:k<n
    · obtain ⟨r, hr⟩ : ∃ r, T[k]? = some r := ⟨_, zA3 (by rw [<- HN.out]; exact hlt)⟩;obtain ⟨ad,rfl⟩:=HS.out.place (fun e => by rw [e] at hr; cases hr);have kw:=HS.out.bQ HBk.out;obtain ⟨Ar,cr,hin,ecr,-⟩:=kw.at2 hr;obtain ⟨m,hm⟩ : ∃ m,m = r.length:=⟨_,rfl⟩;have hm1 : m <= 1000:=by rw [hm]; exact hc.out.2 r (zA5 hr)
      rw [<- hm] at ecr;have HM:=hQ9 hm;have HR:=hQ9 hr;have HE:=hQ9 ecr;clear kw hr hm;go_wp2
      go_loopw [15] (fun v15 wr => ∃ j:Nat,j<=m/\Hid (Below wo.heap.size wo wr)/\Hid (∀ i x,i<j->r[i]?=some x->x=0)/\v15=.int .i64 (j:Int)) (fun v15 _=>m-(intOf v15).toNat)
      case atStart=>exact ⟨0,by omega,Below.refl _ _,fun i x h=>by omega,rfl⟩
      case round =>
        clear ecr;obtain ⟨j,hj,HBj,HZj,rfl⟩:=hrel;obtain ⟨wi,hwi⟩:∃ wi,wi=wr:=⟨_,rfl⟩;subst hwi;have HBw:Hid (Below w.heap.size w wi):=HBk.out.trans (HBj.out.mono HBk.out.size);by_cases hjm:j<m
        · obtain ⟨x,hx⟩:∃ x,r[j]?=some x:=⟨_,zA3 (by rw [<- HM.out];exact hjm)⟩;obtain ⟨Ar',cr',hin',ecr',sr⟩:=(HS.out.bQ HBw.out).at2 HR.out;have ec2:=(HBj.out.cell (bQ0 wo _ HE.out)).trans HE.out;rw [ec2] at ecr';injection ecr' with ecr';injection ecr' with e1 e2 e3;subst e1;subst e3;clear e2;rw [<- HM.out] at sr;obtain ⟨g,o,u,t,rfl,him,p0,p1,p2,su,st⟩:=sr.at_ hx;obtain ⟨Au,cu,rfl,_⟩:=id su;obtain ⟨At,ct,rfl,_⟩:=id st;have hix:=fun w=>zH9 (P:=prog) underlying46 (by kernel_rfl) (g:=g) (o:=o) (c:=cr) him w;have HX:=hQ9 hx;have kq:IsQ wi (.agg #[.bool (ngB x.num),.slice Au (digs 4294967296 x.num.natAbs).length cu,.slice At (digs 4294967296 x.den).length ct]) x:=⟨_,_,rfl,su,st⟩;by_cases hx0:x=0
          · have CS:=zR8 _ x 0 wi kq (yS9.2 hx0).symm
            have HZ2:Hid (∀ i x,i<j+1->r[i]?=some x->x=0):=fun i y hi hy=>by
              by_cases e:i=j
              · subst e;rw [HX.out] at hy;injection hy with hy;rw [<- hy];exact hx0
              · exact HZj.out i y (by omega) hy
            clear hx0 hx su st kq sr HZj;go_wp2_with fail
            refine CS.mono ?_;rintro e w2 ⟨rfl,b2⟩;have HB2:Hid (Below wo.heap.size wo w2):=HBj.out.trans (b2.mono HBj.out.size);clear CS b2 p0 p1 p2 ec2;go_wp2;go_roundw;case rel=>exact ⟨j+1,by omega,HB2,HZ2,by go_num⟩
            case measure=>simp [intOf];omega
          · obtain ⟨q,hq⟩:∃ q,q=zJ4 x.num 0:=⟨_,rfl⟩;have hq0:(q == 0)=false:=by rw [beq_eq_false_iff_ne,hq];exact fun e=>hx0 (yS9.1 e)
            have CS:=zR8 _ x q wi kq hq;obtain rfl:b=false:=Bool.eq_false_iff.2 fun h=>hx0 (HB.out.1 h r (zA5 HR.out) x (zA5 HX.out));clear hx0 hx su st kq sr HZj hq
            go_wp2_with fail
            refine CS.mono ?_;rintro e w2 ⟨rfl,b2⟩;have HB2:Hid (Below w.heap.size w w2):=HBw.out.trans (b2.mono HBw.out.size);clear CS b2 p0 p1 p2 ec2;go_wp2;go_ret;exact ⟨rfl,HB2.out⟩
        · have HZ2:Hid (∀ i r',i<k+1->T[i]?=some r' -> ∀ x∈r',x=0):=fun i r' hi hr' x hx=>by
            by_cases e:i=k
            · subst e;rw [HR.out] at hr';injection hr' with hr';subst hr';obtain ⟨l,hl⟩:=List.mem_iff_getElem?.1 hx;exact HZj.out l x (by have:=(zA4.1 hl).1;have:=HM.out;omega) hl
            · exact HZ.out i r' (by omega) hr' x hx
          clear HZj;go_wp2;go_roundw;case rel=>exact ⟨k+1,by omega,HBw,HZ2,by go_num⟩
          case measure=>simp [intOf];omega
    · obtain rfl:b=true:=HB.out.2 fun r hr x hx=>by
        obtain ⟨i,hi⟩:=List.mem_iff_getElem?.1 hr;exact HZ.out i r (by have:=(zA4.1 hi).1;have:=HN.out;omega) hi x hx
      go_wp2;go_ret;exact ⟨rfl,HBk.out⟩
def zI7 (C:Nat) (ps:List Nat):List Nat:=(List.range C).filter fun j => !(decide (j∈ps))
theorem jU0 {C:Nat} {ps:List Nat} (h:C∈ps):zI7 (C+1) ps=zI7 C ps:=by
 unfold zI7;rw [List.range_succ,List.filter_append];simp [h]
theorem jU1 {C:Nat} {ps:List Nat} (h:¬ C∈ps):zI7 (C+1) ps=zI7 C ps ++ [C]:=by
 unfold zI7;rw [List.range_succ,List.filter_append];simp [h]
theorem jU2 (C:Nat) (ps:List Nat):(zI7 C ps).length<=C:=by
 unfold zI7;have h:=List.length_filter_le (fun j => !(decide (j∈ps))) (List.range C);rw [List.length_range] at h;exact h
theorem jU3 (a1:Value) (C:Nat) (ps:List Nat) (w:World) (h1:PvI w a1 ps) (hc:C<=1000/\ps.length<=1000):Calls prog 22 #[.int .i64 (C:Int),a1] w (fun e w' => ∃ v,e=.returned v/\zE6 isI w' w.heap.size 3 v (pI (zI7 C ps))/\Below w.heap.size w w'):=by
 have HP:=hQ9 h1;obtain ⟨A1,c1,rfl,-⟩:=id h1;clear h1
 go_enter func22,ntmps22
 go_wp2
 go_loopw [5,8] (fun v5 v8 wr => ∃ k:Nat,k<=C/\zE6 isI wr w.heap.size 3 v5 (pI (zI7 k ps))/\Hid (Below w.heap.size w wr)/\v8=.int .i64 (k:Int)) (fun _ v8 _=>C-(intOf v8).toNat)
 case atStart=>exact ⟨0,by omega,qW9 isI w w.heap.size 3,Below.refl _ _,rfl⟩
 case round =>
  obtain ⟨k,hk,RX,HB,rfl⟩:=hrel;obtain ⟨wi,hwi⟩:∃ wi,wi=wr:=⟨_,rfl⟩;subst hwi;obtain ⟨A5,c5,e5⟩:=zD1.slice RX.1;subst e5;by_cases hlt:k<C
  ·have CC:=qX3 _ ps k wi (HP.out.bQ HB.out) hc.2;by_cases hin:k∈ps
   ·rw [decide_eq_true hin] at CC;have RX2:=RX;have HF:Hid (zI7 (k+1) ps=zI7 k ps):=jU0 hin;clear hin
    go_wp2_with fail
    refine CC.mono ?_;rintro e w2 ⟨rfl,b2⟩;have RX3:zE6 isI w2 w.heap.size 3 (.slice A5 (pI (zI7 k ps)).length c5) (pI (zI7 (k+1) ps)):=by rw [HF.out];exact RX2.bQ b2
    have HB2:Hid (Below w.heap.size w w2):=HB.out.trans (b2.mono HB.out.size);clear RX RX2 CC b2;go_wp2;go_roundw;case rel=>exact ⟨k+1,by omega,RX3,HB2,by go_num⟩
    case measure=>simp [intOf];omega
   ·rw [decide_eq_false hin] at CC;have HF:Hid (zI7 (k+1) ps=zI7 k ps ++ [k]):=jU1 hin;clear hin
    go_wp2_with fail
    refine CC.mono ?_;rintro e w2 ⟨rfl,b2⟩;have HB2:Hid (Below w.heap.size w w2):=HB.out.trans (b2.mono HB.out.size);have RX2:=RX.bQ b2;obtain ⟨w3,hw3,b3,B3,h3⟩:=zL1 w2 3 #[.int .i64 (k:Int)];have RX3:=RX2.bQ b3;have hone:=cell_one_new w2 (.int .i64 (k:Int)) 3;rw [hw3] at hone;have HB3:Hid (Below w.heap.size w w3):=HB2.out.trans (b3.mono HB2.out.size);have hb3:=HB3.out.size;have hlu:(pI (zI7 k ps)).length+1<=1000000000:=by rw [zR0];have:=jU2 k ps;omega
    clear RX RX2 CC b2 b3 B3
    go_wp2_with (at_builtin;refine qX rfl (.tmp 15) (.tmp 17) rfl underlying32 info_int rfl RX3 rfl rfl (by decide) hone (fun u hu=>by (obtain rfl:=List.mem_singleton.1 hu;exact ⟨_,rfl⟩)) hlu hb3 ?_;intro v4 w4 RX4 HG4 HX4)
    rw [yM3,<- HF.out] at RX4;have HB4:Hid (Below w.heap.size w w4):=HB3.out.grown HG4.out HB3.out.size (fun g hg=>RX3.1.base_le g hg);clear RX3 hone HG4 HX4;go_wp2;go_roundw;case rel=>exact ⟨k+1,by omega,RX4,HB4,by go_num⟩
    case measure=>simp [intOf];omega
  ·obtain rfl:k=C:=by omega
   have HR:=hQ9 RX;clear RX;go_wp2;go_ret;exact ⟨_,rfl,HR.out,HB.out⟩
def zN3 (r:List Rat) (ps:List Nat):List Rat:=ps.map fun j=>r.getD j 0
def zI9 (T:List (List Rat)) (ps:List Nat):List (List Rat):=T.map fun r=>zN3 r ps
theorem qY8 (T:List (List Rat)) (ps:List Nat):(zI9 T ps).length=T.length:=by unfold zI9;rw [zA9]
theorem yT0 {T:List (List Rat)} {ps:List Nat} {i:Nat} {r:List Rat} (h:T[i]?=some r):(zI9 T ps)[i]?=some (zN3 r ps):=by unfold zI9;rw [zB1,h];rfl
theorem yT1 (r:List Rat) (ps:List Nat):(zN3 r ps).length=ps.length:=by unfold zN3;rw [zA9]
theorem jU4 {r:List Rat} {ps:List Nat} {j:Nat} {x:Rat} (hj:j<ps.length) (hx:r[pv ps j]?=some x):zN3 r (ps.take (j+1))=zN3 r (ps.take j) ++ [x]:=by
 have hp:ps[j]?=some (pv ps j):=by
  unfold pv;rw [zA6,zA3 hj]
  rfl
 unfold zN3;rw [bQ9,hp,bX5]
 congr 1
 show [r.getD (pv ps j) 0]=[x]
 rw [zA6,hx]
 rfl
def zR3 (D:List (List Rat)) (n k:Nat) (r:List Rat):List (List Rat):=D.take k ++ r :: zB (n-k-1) []
theorem midT_at {D:List (List Rat)} {n k:Nat} {r:List Rat} (h:D.length=n) (hk:k<n):(zR3 D n k r)[k]?=some r:=by
 unfold zR3;have hl:(D.take k).length=k:=by rw [bQ7];omega
 rw [bW0 (by omega),hl,Nat.sub_self]
 rfl
theorem jU5 {D:List (List Rat)} {n k:Nat} {r s:List Rat} (h:D.length=n) (hk:k<n):(zR3 D n k r).set k s=zR3 D n k s:=by
 unfold zR3;have hl:(D.take k).length=k:=by rw [bQ7];omega
 rw [List.set_append_right _ _ (by omega),hl,Nat.sub_self]
 rfl
theorem jU6 {D:List (List Rat)} {n k:Nat} (hk:k<n):D.take k ++ zB (n-k) []=zR3 D n k []:=by
 unfold zR3;rw [show n-k=(n-k-1)+1 by omega,List.replicate_succ,show n-k-1+1-1=n-k-1 by omega]
theorem jU7 {D:List (List Rat)} {n k:Nat} {r:List Rat} (hr:D[k]?=some r):zR3 D n k r=D.take (k+1) ++ zB (n-(k+1)) []:=by
 unfold zR3;rw [bQ9,hr,List.append_assoc,show n-k-1=n-(k+1) by omega]
 rfl
theorem jU8 (a0 a1:Value) (T:List (List Rat)) (ps:List Nat) (w:World) (h0:SlT .u64 4294967296 w a0 T) (h1:PvI w a1 ps) (hc:Hid ((T.length<=200/\ps.length<=200) /\ ∀ r∈T,∀ i,i<ps.length->pv ps i<r.length)) :
    Calls prog 24 #[a0,a1] w (fun e w' => ∃ v,e=.returned v/\SlT .u64 4294967296 w' v (zI9 T ps)/\Below w.heap.size w w'):=by
  obtain ⟨n,hn⟩:∃ n,n=T.length:=⟨_,rfl⟩;obtain ⟨q,hq⟩:∃ q,q=ps.length:=⟨_,rfl⟩;obtain ⟨A0,c0,rfl,hc0,hm0⟩:=h0.shape;obtain ⟨A1,c1,rfl,hcell1⟩:=id h1;have hn2:n<=200:=by rw [hn];exact hc.out.1.1
  have hq2:q<=200:=by rw [hq];exact hc.out.1.2
  rw [<- hn] at h0 hc0;rw [<- hq] at h1 hcell1;unfold maxLen at hm0;have HS0:=hQ9 h0;have HC1:=hQ9 hcell1;have HN:=hQ9 (zA hn hq);obtain ⟨mk,hmk⟩:=Classical.axiomOfChoice (fun w=>qI1 (P:=prog) (w:=w) underlying22 qI5 n (by omega));have hmk1:=fun w=>(hmk w).1;have HMK:=hQ9 (fun w=>(hmk w).2);obtain ⟨D,hD⟩:∃ D,D=zI9 T ps:=⟨_,rfl⟩;have HD:=hQ9 hD;have HDL:Hid (D.length=n):=by show _=_;rw [hD,qY8,hn]
  clear hmk h0 h1 hcell1 hD
  go_enter func24,ntmps24
  rw [<- hn,<- hq];clear hn hq;obtain ⟨tb,bm⟩:=HMK.out w
  have TR0:zP9 (mk w) w.heap.size (.slice (some ⟨w.heap.size,0,none⟩) n n) (zB n (.slice none 0 0)) (zB n []):=by
    refine ⟨tb.rowV (by rw [bW7]) (zB3 _) (by omega),by rw [bW7,bW7],fun i u r hu hr => ?_,fun u hu r hr x hx => ?_,fun r hr x hx => ?_,fun i j u v hij hu hv g hg => ?_⟩
    · obtain rfl:=(List.mem_replicate.1 (zA5 hu)).2;obtain rfl:=(List.mem_replicate.1 (zA5 hr)).2;exact qT8 _ _ _
    · obtain rfl:=(List.mem_replicate.1 hr).2;cases hx
    · obtain rfl:=(List.mem_replicate.1 hr).2;cases hx
    · obtain rfl:=(List.mem_replicate.1 (zA5 hu)).2;cases hg
  have HV0:Hid (zD5 (zB n ([]:List Elt))=D.take 0 ++ zB (n-0) []):=by
    show _=_
    rw [bX6,List.nil_append,Nat.sub_zero];unfold zD5;rw [List.map_replicate]
    rfl
  have HB0:Hid (Below w.heap.size w (mk w)):=bm;clear tb bm HMK;go_wp2
  go_loopw [14] (fun v14 wr => ∃ (k:Nat) (us:List Value) (pss:List (List Elt)),k<=n/\zP9 wr w.heap.size (.slice (some ⟨w.heap.size,0,none⟩) n n) us pss/\Hid (zD5 pss=D.take k ++ zB (n-k) [])/\Hid (Below w.heap.size w wr)/\v14=.int .i64 (k:Int)) (fun v14 _=>n-(intOf v14).toNat)
  case atStart=>exact ⟨0,_,_,by omega,TR0,HV0,HB0,rfl⟩
  case round =>
    clear TR0 HV0 HB0 hmk1;obtain ⟨k,us,pss,hk,TR,HV,HB,rfl⟩:=hrel;obtain ⟨wo,hwo⟩:∃ wo,wo=wr:=⟨_,rfl⟩;subst hwo;by_cases hlt:k<n
    · obtain ⟨r, hr⟩ : ∃ r, T[k]? = some r := ⟨_, zA3 (by rw [<- HN.out.1]; exact hlt)⟩;obtain ⟨ad0,rfl⟩:=HS0.out.place (fun e => by rw [e] at hr; cases hr);have HR:=hQ9 hr
      have HV1:Hid (zD5 pss=zR3 D n k (zN3 r (ps.take 0))):=by
        show _=_
        rw [HV.out,jU6 hlt]
        rfl
      clear hr;go_wp2
      go_loopw [19] (fun v19 wr => ∃ (j:Nat) (us:List Value) (pss:List (List Elt)),j<=q/\zP9 wr w.heap.size (.slice (some ⟨w.heap.size,0,none⟩) n n) us pss/\Hid (zD5 pss=zR3 D n k (zN3 r (ps.take j)))/\Hid (Below w.heap.size w wr)/\v19=.int .i64 (j:Int)) (fun v19 _=>q-(intOf v19).toNat)
      case atStart=>exact ⟨0,us,pss,by omega,TR,HV1,HB,rfl⟩
      case round =>
        clear TR HV1 HB HV;obtain ⟨j,us,pss,hj,TR,HV,HB,rfl⟩:=hrel;obtain ⟨wi,hwi⟩:∃ wi,wi=wr:=⟨_,rfl⟩;subst hwi;by_cases hjq:j<q
        · have hlr:pv ps j<r.length:=hc.out.2 r (zA5 HR.out) j (by rw [<- HN.out.2];exact hjq);obtain ⟨x,hx⟩:∃ x,r[pv ps j]?=some x:=⟨_,zA3 hlr⟩;obtain ⟨d,hd⟩:∃ d,d=pv ps j:=⟨_,rfl⟩;rw [<- hd] at hx hlr;obtain ⟨ad1,rfl,ec1⟩:=HC1.out j hjq;rw [<- hd] at ec1;have HNX:Hid (zN3 r (ps.take (j+1))=zN3 r (ps.take j) ++ [x]):=jU4 (by rw [<- HN.out.2];exact hjq) (by rw [<- hd];exact hx);obtain ⟨Ar,cr,hin,ecr,sr⟩:=HS0.out.at2 HR.out;obtain ⟨g,o,u,t,rfl,him,p0,p1,p2,su,st⟩:=sr.at_ hx;obtain ⟨Au,cu,rfl,_⟩:=id su;obtain ⟨At,ct,rfl,_⟩:=id st;have hvk:(zD5 pss)[k]?=some (zN3 r (ps.take j)):=by rw [HV.out];exact midT_at HDL.out hlt
          have hkp:k<pss.length:=by
            have h:=(zA4.1 hvk).1;unfold zD5 at h;rwa [zA9] at h
          obtain ⟨pp,hpp⟩:∃ pp,pss[k]?=some pp:=⟨_,zA3 hkp⟩
          have hppv:pp.map (·.1)=zN3 r (ps.take j):=by
            have h2:=qI2 hpp;rw [hvk] at h2;exact (Option.some.inj h2).symm
          obtain ⟨uk,huk⟩:∃ uk,us[k]?=some uk:=⟨_,zA3 (by rw [TR.len];exact hkp)⟩;have hown:=TR.own k uk pp huk hpp;obtain ⟨Ak,ck,eu,hck⟩:=hown.isVF;subst eu;have bw:=HB.out.drew;have bd:=(Below.refl wi.heap.size wi).drew;have f1:=(bw.cell (bQ0 w _ ec1)).trans ec1;have f1i:=(HB.out.cell (bQ0 w _ ec1)).trans ec1;have fr:=(bw.cell (bQ0 w _ ecr)).trans ecr;have q0:=(bw.cell (bQ0 w _ p0)).trans p0;have q1:=(bw.cell (bQ0 w _ p1)).trans p1;have q2:=(bw.cell (bQ0 w _ p2)).trans p2;have hcell:wi.drew.cell? ⟨w.heap.size,k,none⟩=some (.slice Ak pp.length ck):=TR.cell huk;have hix:=fun w=>zH9 (P:=prog) underlying46 (by kernel_rfl) (g:=g) (o:=o) (c:=cr) him w;obtain ⟨wL,hwL,bL0,-,-⟩:=zL1 wi.drew 44 #[.bool (ngB x.num),.slice Au (digs 4294967296 x.num.natAbs).length cu,.slice At (digs 4294967296 x.den).length ct];have bL:Below wi.heap.size wi wL:=bd.trans (bL0.mono bd.size)
          have VL:zP1 wL (.slice (some ⟨wi.heap.size,0,none⟩) 1 1) [(x,.slice Au (digs 4294967296 x.num.natAbs).length cu,.slice At (digs 4294967296 x.den).length ct)]:=by
            have hB:=Blk.new wi.drew 44 #[.bool (ngB x.num),.slice Au (digs 4294967296 x.num.natAbs).length cu,.slice At (digs 4294967296 x.den).length ct];rw [<- hwL];refine ⟨some ⟨wi.heap.size,0,none⟩,1,rfl,zB3 _,by unfold maxLen;omega,fun i p hp => ?_⟩;rcases i with _ | i
            · obtain rfl:(x,_,_)=p:=by simpa using hp
              exact ⟨_,_,rfl,hB.cell 0,hB.cell 1,hB.cell 2⟩
            · simp at hp
          have TRL:=TR.bQ bL;have hownL:=hown.bQ bL;have hcellL:wL.cell? ⟨w.heap.size,k,none⟩=some (.slice Ak pp.length ck):=TRL.cell huk
          have one1:∀ p∈([(x,.slice Au (digs 4294967296 x.num.natAbs).length cu,.slice At (digs 4294967296 x.den).length ct)]:List Elt),p.2.1.oneCell'=true/\p.2.2.oneCell'=true:=fun p hp=>by
            obtain rfl:=List.mem_singleton.1 hp;exact ⟨rfl,rfl⟩
          have HBL:Hid (Below w.heap.size w wL):=HB.out.trans (bL.mono HB.out.size);have hbL:=HBL.out.size;have suL:=su.bQ HBL.out;have stL:=st.bQ HBL.out
          have HFA:Hid (∀ v∈us,Far v (.slice Au (digs 4294967296 x.num.natAbs).length cu)/\Far v (.slice At (digs 4294967296 x.den).length ct)):=fun v hv=>by
            obtain ⟨i,hi⟩:=List.mem_iff_getElem?.1 hv;obtain ⟨pi,hpi⟩:∃ pi,pss[i]?=some pi:=⟨_,zA3 (by rw [<- TR.len];exact (zA4.1 hi).1)⟩;have hb:=(TR.own i v pi hi hpi).base_le;exact ⟨su.farOld hb,st.farOld hb⟩
          have HFV:Hid (Far (.slice (some ⟨w.heap.size,0,none⟩) n n) (.slice Au (digs 4294967296 x.num.natAbs).length cu)/\Far (.slice (some ⟨w.heap.size,0,none⟩) n n) (.slice At (digs 4294967296 x.den).length ct)):=by
            have hb:∀ g,(Value.slice (some ⟨w.heap.size,0,none⟩) n n).ownBlock=some g->w.heap.size<=g:=fun g hg=>by
              obtain rfl:w.heap.size=g:=by simpa [Value.ownBlock] using hg
              exact zB3 _
            exact ⟨su.farOld hb,st.farOld hb⟩
          have hpl:pp.length<=1000000000:=by
            have h:=congrArg List.length hppv;rw [zA9,yT1,bQ7] at h
            have:=HN.out.2
            omega
          have HU:=hQ9 (zA huk (zA hpp hppv));have HTL:=hQ9 TRL;have HSL:=hQ9 (zA suL stL);clear TR TRL hown huk hpp hppv hvk hkp ecr ec1 p0 p1 p2 su st sr suL stL hd hx bw bd bL0;go_upto_region 8 with (fail)
          go_region_law (refine jL6 rfl (.tmp 28) (.tmp 36) rfl underlying46 zP3 rfl hownL rfl VL one1 hpl (by simp) hbL ?_;intro v9 w9 RF9 b9 HK9;obtain ⟨A9,c9,e9,-⟩:=RF9.isVF;obtain ⟨m9,hm9⟩:∃ m9,m9=(pp ++ [((x,.slice Au (digs 4294967296 x.num.natAbs).length cu,.slice At (digs 4294967296 x.den).length ct):Elt)]).length:=⟨_,rfl⟩;rw [<- hm9] at e9;clear hm9;subst e9;have hVr:=HTL.out.mid (by decide) HU.out.1 HU.out.2.1 HK9.out;have hc9:=hVr.cellAt HU.out.1;have hf9:=hVr.frozenAt k)
          all_goals
            have hnew:zH .u64 4294967296 w9 (.slice A9 m9 c9) [(x,.slice Au (digs 4294967296 x.num.natAbs).length cu,.slice At (digs 4294967296 x.den).length ct)]:=fun p hp=>by
              obtain rfl:=List.mem_singleton.1 hp;have k1:=HK9.out.1 _ _ _ HSL.out.1 (HFA.out _ (zA5 HU.out.1)).1;have k2:=HK9.out.1 _ _ _ HSL.out.2 (HFA.out _ (zA5 HU.out.1)).2;exact ⟨⟨k1.1,k2.1⟩,k1.2,k2.2⟩
            have hT2:=HTL.out.put (by decide) HU.out.1 HU.out.2.1 RF9 HK9.out hnew (fun v hv p hp=>by obtain rfl:=List.mem_singleton.1 hp;exact HFA.out v hv) (fun p hp=>by obtain rfl:=List.mem_singleton.1 hp;exact HFV.out)
            have HV2:Hid (zD5 (pss.set k (pp ++ [((x,.slice Au (digs 4294967296 x.num.natAbs).length cu,.slice At (digs 4294967296 x.den).length ct):Elt)]))=zR3 D n k (zN3 r (ps.take (j+1)))):=by
              show _=_
              rw [qW5,HV.out,bX5,HU.out.2.2,HNX.out,jU5 HDL.out hlt]
              rfl
            have HB2:Hid (Below w.heap.size w (w9.setCell ⟨w.heap.size,k,none⟩ (.slice A9 m9 c9))):=(HBL.out.trans b9).setCell (p:=⟨w.heap.size,k,none⟩) (zB3 _) (.slice A9 m9 c9);clear RF9 HK9 hnew hVr hownL VL hcell hcellL b9 f1 f1i fr q0 q1 q2;go_wp2;go_roundw;case rel=>exact ⟨j+1,_,_,by omega,hT2,HV2,HB2,by go_num⟩
            case measure=>simp [intOf];omega
        · have HV2:Hid (zD5 pss=D.take (k+1) ++ zB (n-(k+1)) []):=by
            show _=_
            rw [HV.out,zA7 (by rw [<- HN.out.2];omega),jU7 (by rw [HD.out];exact yT0 HR.out)]
          clear HV;go_wp2;go_roundw;case rel=>exact ⟨k+1,us,pss,by omega,TR,HV2,HB,by go_num⟩
          case measure=>simp [intOf];omega
    · have hS:SlT .u64 4294967296 wo (.slice (some ⟨w.heap.size,0,none⟩) n n) D:=by
        have h:=TR.slT;rw [HV.out,show n-k=0 by omega,zA7 (by have:=HDL.out;omega)] at h;simpa using h
      have HS:=hQ9 hS;clear hS TR;go_wp2;go_ret;exact ⟨_,rfl,by rw [<- HD.out];exact HS.out,HB.out⟩
theorem yT2 {n C:Nat} {M:Nat->Nat->Rat} {ps:List Nat} (h:Ech n C M ps.length (pv ps)):∀ j:Nat,j<=C -> ∃ c,c<=ps.length/\(∀ i,i<c->pv ps i<j)/\(∀ i,c<=i->i<ps.length->j<=pv ps i)/\(frs ps j).length+c=j
  | 0,_=>⟨0,by omega,fun i h=>by omega,fun i _ _=>Nat.zero_le _,by simp [frs]⟩
  | j + 1, hj => by
    obtain ⟨c,h1,h2,h3,h4⟩:=yT2 h j (by omega);by_cases hin:j∈ps
    · obtain ⟨i,hi,e⟩:=qA1.2 hin
      have hci:c=i:=by
        rcases Nat.lt_trichotomy i c with h5 | h5 | h5
        · have:=h2 i h5;omega
        · exact h5.symm
        · have:=h3 c (zB3 _) (by omega)
          have:=h.rise c i h5 hi
          omega
      subst hci;refine ⟨c+1,by omega,fun k hk => ?_,fun k h5 h6 => ?_,by rw [yN3 hin];omega⟩
      · by_cases e2:k=c
        · subst e2;omega
        · have:=h2 k (by omega);omega
      · have:=h.rise c k (by omega) h6;omega
    · refine ⟨c,h1,fun k hk=>by have:=h2 k hk;omega,fun k h5 h6 => ?_,by rw [yN4 hin,zA8];simp;omega⟩;have h7:=h3 k h5 h6;have h8:pv ps k≠j:=fun e=>hin (qA1.1 ⟨k,h6,e⟩);omega
theorem yT3 {n C:Nat} {M:Nat->Nat->Rat} {ps:List Nat} (h:Ech n C M ps.length (pv ps)):(frs ps C).length+ps.length=C:=by
 obtain ⟨c,h1,h2,h3,h4⟩:=yT2 h C (zB3 _)
 have:c=ps.length:=by
  rcases Nat.lt_or_ge c ps.length with h5 | h5
  ·have:=h3 c (zB3 _) h5
   have:=h.lt c h5
   omega
  ·omega
 omega
theorem yT4 {T:List (List Rat)} {ps:List Nat} {n C:Nat} {M:Nat->Nat->Rat} (h:Ech n C M ps.length (pv ps)):(nvT T ps C C).length+ps.length=C:=by
 unfold nvT;rw [zA9];exact yT3 h
theorem jU9 {T:List (List Rat)} {ps:List Nat} {n C j m:Nat} (hs:shp T n C) (he:Ech n C (zB8 T) ps.length (pv ps)) (hl:zD6 T m) (hm:1<=m) (hj:¬ j∈ps) (hjC:j<C):∀ y∈nvR T ps C j ps.length,zC3 y m:=by
 intro y hy;obtain ⟨c,hc⟩:=List.mem_iff_getElem?.1 hy;have hcC:c<C:=by have:=(zA4.1 hc).1;rwa [zS1] at this
 rw [qJ hcC] at hc;injection hc with hc;subst hc;by_cases e:c=j
 ·subst e;rw [zT1];exact (qU7 (.inr rfl)).mono hm
 ·by_cases h:∃ i,i<ps.length/\pv ps i=c
  ·obtain ⟨i,hi,rfl⟩:=h;rw [qH6 he hi e];have hin:i<n:=Nat.lt_of_lt_of_le hi he.le;obtain ⟨r,hr,_,hq⟩:=zW8 hs hin hjC;exact qT2 (hl r (zA5 hr) _ (zA5 hq))
  ·rw [zZ8 e (fun i hi e2=>h ⟨i,hi,e2⟩)];exact (qU7 (.inl rfl)).mono hm
theorem jV {T:List (List Rat)} {n C:Nat} (h:shp T n C):qJ3 T ↔ ∀ i j,i<n->j<C->zB8 T i j=0:=by
 constructor
 ·intro hz i j hi hj;obtain ⟨r,hr,_,hx⟩:=zW8 h hi hj;exact hz r (zA5 hr) _ (zA5 hx)
 ·intro hz r hr x hx;obtain ⟨i,hi⟩:=List.mem_iff_getElem?.1 hr;obtain ⟨j,hj⟩:=List.mem_iff_getElem?.1 hx;have h1:i<n:=by rw [<- h.1];exact (zA4.1 hi).1
  have h2:j<C:=by rw [<- h.2 r hr];exact (zA4.1 hj).1
  have h3:=hz i j h1 h2;rwa [qN0 hi hj] at h3
theorem qY9 {A:List (List Rat)} {ps:List Nat} {n:Nat} (h:A.length=n):shp (zI9 A ps) n ps.length:=⟨by rw [qY8,h],fun r hr=>by
 unfold zI9 at hr;obtain ⟨x,_,rfl⟩:=List.mem_map.1 hr;exact yT1 x ps⟩
theorem jV0 {A:List (List Rat)} {ps:List Nat} {n i j:Nat} (h:A.length=n) (hi:i<n) (hj:j<ps.length):zB8 (zI9 A ps) i j=zB8 A i (pv ps j):=by
 have hr:A[i]?=some (A[i]'(by omega)):=zA3 (by omega)
 have hp:ps[j]?=some (pv ps j):=by
  unfold pv;rw [zA6,zA3 hj]
  rfl
 rw [zM6 (yT0 hr),zM6 hr,zA6];unfold zN3;rw [zB1,hp]
 rfl
theorem jV1 {t:List (List Rat)} {i j:Nat} (hj:j<zC t):zB8 (zG8 t) j i=zB8 t i j:=by
 rw [zM6 (jE4 hj),qX2]
theorem qZ {ps:List Nat} {C f:Nat} : f∈frs ps C ↔ f<C /\ ¬ f∈ps:=by
 unfold frs;rw [List.mem_filter,List.mem_range,decide_eq_true_iff]
theorem yT5 {T2 B:List (List Rat)} {qs:List Nat} {n f c:Nat} (hB:B.length=n):zI8 (nvR T2 qs n f qs.length) (zJ8 B c)=zB9 n (fun l=>nv (zB8 T2) qs.length (pv qs) f l*zB8 B l c):=by
 have hl:(nvR T2 qs n f qs.length).length=(zJ8 B c).length:=by rw [zS1,qC6,hB]
 have h:=qX1 hl n (by rw [zS1];exact zB3 n);rw [zA7 (by rw [zS1];exact zB3 n),zA7 (by rw [qC6,hB];exact zB3 n)] at h;rw [h];refine zE4 fun l hl2 => ?_;rw [qX2,zA6,qJ hl2]
 rfl
section
variable {A B T:List (List Rat)} {ps:List Nat} {n C m:Nat}
theorem jV2 {T2:List (List Rat)} {qs:List Nat} {S:Nat} (hA:shp A n C) (hB:shp B n m) (hw:zC B=m) (hT:Ech n C (zB8 T) ps.length (pv ps)) (hR:Red n (zB8 T) ps.length (pv ps) 0) (hK:zF3 n C (zB8 A) (zB8 T)) (hn:0<n) (h2:KerE (zG8 (zI9 A ps)) ps.length n S T2 qs) :
  qJ3 (zI (nvT T2 qs n n) B) ↔ ∀ c,c<m->zT8 n C (zB8 A) (fun i=>zB8 B i c):=by
 have hsh:=qY9 (ps:=ps) hA.1;have hwc:zC (zI9 A ps)=ps.length:=zX0 hsh (fun e=>by omega)
 have hker:∀ y:Nat->Rat,zT0 ps.length n (zB8 (zG8 (zI9 A ps))) y ↔ ∀ j,j<ps.length->zB9 n (fun l=>y l*zB8 A l (pv ps j))=0:=fun y=>by
  have e:∀ j,j<ps.length->zB9 n (fun l=>zB8 (zG8 (zI9 A ps)) j l*y l)=zB9 n (fun l=>y l*zB8 A l (pv ps j)):=fun j hj=>zE4 fun l hl=>by
   rw [jV1 (by rw [hwc];exact hj),jV0 hA.1 hl hj,Rat.mul_comm]
  exact ⟨fun h j hj=>by rw [<- e j hj];exact h j hj,fun h j hj=>by rw [e j hj];exact h j hj⟩
 constructor
 ·intro hz c hc;refine jT8.2 fun y hy => ?_;have hy1:=(h2.ker y).1 ((hker y).2 fun j hj=>hy _ (hT.lt j hj));refine nv_span h2.ech h2.red hy1 fun f hf hfree => ?_
  have hfq:¬ f∈qs:=fun hm=>by
   obtain ⟨i,hi,e⟩:=qA1.2 hm;exact hfree i hi e
  have h3:=hz (zQ9 (nvR T2 qs n f qs.length) B (zC B)) (by
   unfold zI nvT;rw [List.map_map];exact List.mem_map.2 ⟨f,qZ.2 ⟨hf,hfq⟩,rfl⟩) (zI8 (nvR T2 qs n f qs.length) (zJ8 B c)) (zA5 (yH8 (by rw [hw];exact hc)))
  rw [yT5 hB.1] at h3;exact h3
 ·intro hr r hr1 x hx;unfold zI at hr1;obtain ⟨y,hy,rfl⟩:=List.mem_map.1 hr1;unfold nvT at hy;obtain ⟨f,hf,rfl⟩:=List.mem_map.1 hy;obtain ⟨hf1,hf2⟩:=qZ.1 hf;unfold zQ9 at hx;obtain ⟨c,hc,rfl⟩:=List.mem_map.1 hx;rw [List.mem_range,hw] at hc;rw [yT5 hB.1];have h3:=(h2.ker _).2 (zW7 h2.ech h2.red hf1 (fun i hi e=>hf2 (qA1.1 ⟨i,hi,e⟩)));exact yS8 (hr c hc) (ann_piv hT hR hK ((hker _).1 h3))
theorem yT6 (hA:shp A n C) (hT:Ech n C (zB8 T) ps.length (pv ps)) (hR:Red n (zB8 T) ps.length (pv ps) 0) (hK:zF3 n C (zB8 A) (zB8 T)) (hk:ps.length=n):∀ c,c<m->zT8 n C (zB8 A) (fun i=>zB8 B i c):=by
 obtain ⟨E,k,p,P,hE,hRE,hKE,_⟩:=qY7 n (C+m) (zJ6 C (zB8 A) (zB8 B)) (C+m) (zB3 _);refine (jT9 hE hRE hKE).1 ?_;refine bQ1 fun hn => ?_;have h1:=(jU hE hRE hKE hT hR hK).2 hn
 have:=hE.le
 omega
theorem jV3 (hA:shp A n C) (hB:shp B n m) (hT:Ech n C (zB8 T) ps.length (pv ps)) (hK:zF3 n C (zB8 A) (zB8 T)) (hk:ps.length=0):qJ3 B ↔ ∀ c,c<m->zT8 n C (zB8 A) (fun i=>zB8 B i c):=by
 have hz:∀ i j,i<n->j<C->zB8 A i j=0:=fun i j hi hj=>by
  have h1:=(hK (fun l=>if l=j then 1 else 0)).2 (fun r hr=>zN9 fun l hl=>by rw [hT.rest r (by omega) hr l hl,Rat.zero_mul]) i hi;rw [zL3 (a:=j) hj (fun l hl hne=>by simp only [if_neg hne];exact Rat.mul_zero _)] at h1;simpa using h1
 rw [jV hB]
 constructor
 ·intro h c hc
  exact ⟨fun _=>0,fun i hi=>by
   rw [zN9 fun j _=>by rw [Rat.mul_zero]];exact (h i c hi hc).symm⟩
 ·intro h i c hi hc;obtain ⟨x,hx⟩:=h c hc;have h1:=hx i hi;rw [zN9 fun j hj=>by rw [hz i j hi hj,Rat.zero_mul]] at h1;exact h1.symm
end
theorem yT7:zC3 (0:Rat) 1:=⟨zG7 (k:=1) (by omega) (by decide +kernel),zG7 (k:=1) (by omega) (by decide +kernel)⟩
theorem yT8 {A:List (List Rat)} {ps:List Nat} (h:zD6 A 1):zD6 (zI9 A ps) 1:=fun r hr x hx=>by
 unfold zI9 at hr;obtain ⟨y,hy,rfl⟩:=List.mem_map.1 hr;unfold zN3 at hx;obtain ⟨j,_,rfl⟩:=List.mem_map.1 hx;rw [zA6]
 cases hz:y[j]? with
 | none=>exact yT7
 | some z=>exact h y hy z (zA5 hz)
theorem jV4 {t:List (List Rat)} (h:zD6 t 1):zD6 (zG8 t) 1:=fun r hr x hx=>by
 unfold zG8 at hr;obtain ⟨j,_,rfl⟩:=List.mem_map.1 hr;unfold zJ8 at hx;obtain ⟨y,hy,rfl⟩:=List.mem_map.1 hx;rw [zA6]
 cases hz:y[j]? with
 | none=>exact yT7
 | some z=>exact h y hy z (zA5 hz)
theorem jV5 {T:List (List Rat)} {qs:List Nat} {k n L:Nat} (hs:shp T k n) (he:Ech k n (zB8 T) qs.length (pv qs)) (hl:zD6 T L) (hL:1<=L):zD6 (nvT T qs n n) L:=fun r hr x hx=>by
 unfold nvT at hr;obtain ⟨f,hf,rfl⟩:=List.mem_map.1 hr;obtain ⟨h1,h2⟩:=qZ.1 hf;exact jU9 hs he hl hL h2 h1 x hx
theorem may_shp {a:List (List Rat)} {n:Nat} (h:shp a n n) (hn:n<=200):zF5 a:=by
 have hw:zC a=n:=zX0 h (fun e=>e);exact ⟨by rw [h.1];exact hn,by rw [hw];exact hn,fun r hr=>by rw [hw];exact h.2 r hr⟩
def whyq (A B:List (List Rat)):Prop:=zF5 A/\zF5 B/\A.length=B.length
def RetWhy (A B:List (List Rat)) (w:World) (e:Ending) (w':World):Prop:=Below w.heap.size w w'/\((whyq A B /\ ∃ v T ps b,e=.returned (.tuple #[.agg #[.int .i64 ((ps.length:Nat):Int),v,.bool b],.int .i64 0])/\PvI w' v (zI7 (zC A) ps)/\shp T A.length (zC A)/\Ech A.length (zC A) (zB8 T) ps.length (pv ps)/\Red A.length (zB8 T) ps.length (pv ps) 0/\zF3 A.length (zC A) (zB8 A) (zB8 T)/\(b=true ↔ ¬ ∀ c,c<zC B->zT8 A.length (zC A) (zB8 A) (fun i=>zB8 B i c)))\/(¬ whyq A B/\e=.returned (.tuple #[.agg #[.int .i64 0,.slice none 0 0,.bool false],.int .i64 8])))
theorem bool_ex (p:Prop):∃ b:Bool,b=true ↔ p:=by
 by_cases h:p
 ·exact ⟨true,fun _=>h,fun _=>rfl⟩
 ·exact ⟨false,fun e=>Bool.noConfusion e,fun e=>absurd e h⟩
def zO2 (M N:Nat):Nat->Nat
 | 0=>N
 | n+1=>(zO2 M N n+zO2 M N n+1)*M+1
theorem qZ0 (M N:Nat) (hM:1<=M):∀ n,N<=zO2 M N n
  | 0=>zB3 _
  | n + 1 => by
    have ih:=qZ0 M N hM n;have h:=Nat.mul_le_mul_left (zO2 M N n+zO2 M N n+1) hM;show N<=(zO2 M N n+zO2 M N n+1)*M+1
    omega
theorem yT9 (a0:Value) (ts:List (List (List Rat))) (M N:Nat) (w:World) (hN:Hid (1<=N/\1<=M/\M<=8/\N<=2000/\(N+N+1)*M+1<=4800)) (h0:zL5 w a0 ts) (hl:ts.length<=2 /\ ∀ t∈ts,t.length<=M/\(∀ r∈t,r.length<=M)/\zD6 t N) :
    Calls prog 9 #[a0] w (fun e w'=>(zZ7 ts/\zV1 (qM9 ts) 0 w e w')\/(¬ zZ7 ts/\zV1 [] 8 w e w')):=by
  have st0:=h0;obtain ⟨A0,c0,rfl,hc0⟩:=h0.shape;have HL:=hQ9 hl;have hl3:ts.length<=2:=hl.1;clear hl
  go_enter func9,ntmps9
  by_cases hn:ts=[]
  · subst hn;go_wp2;go_ret2;exact .inr ⟨fun h=>h.1 rfl,qD2 8 (by decide) (Below.refl _ _)⟩
  have hpos:0<ts.length:=List.length_pos_iff.2 hn;have hne0:¬ ((ts.length:Nat):Int)=0:=by omega
  have hneb:(((ts.length:Nat):Int) == 0)=false:=by rw [beq_eq_false_iff_ne];omega
  obtain ⟨ad,rfl⟩:=st0.place hn;go_wp2
  go_loopw [14] (fun v14 wr => ∃ k:Nat,k<=ts.length/\Hid (∀ (i:Nat) (t:List (List Rat)),i<k->ts[i]?=some t->okAt ts i t)/\Below w.heap.size w wr/\v14=.int .i64 (k:Int)) (fun v14 _=>ts.length-(intOf v14).toNat)
  case atStart=>exact ⟨0,by omega,(by show ∀ i,_;intro i t hi;omega),Below.refl _ _,rfl⟩
  case round =>
    obtain ⟨k,hk,HA,bb,rfl⟩:=hrel;by_cases hlt:k<ts.length
    · obtain ⟨t, ht⟩ : ∃ t, ts[k]? = some t := ⟨_, zA3 hlt⟩;have HT:=hQ9 ht;obtain ⟨At,ct,hit,ect,stt⟩:=(st0.bQ bb).at2 ht;clear ht;by_cases hm:zF5 t
      · have HM:=hQ9 hm;clear hm
        go_wp2_with fail
        refine (zW9 _ t true _ stt (decide_eq_true HM.out).symm).mono ?_;rintro e w2 ⟨rfl,b2⟩;have bb2:=bb.trans (b2.mono bb.size);have stt2:=stt.bQ b2;clear ect stt b2;by_cases hk0:0<k
        · obtain ⟨j,rfl⟩:∃ j,k=j+1:=⟨k-1,by omega⟩;obtain ⟨s,hs⟩:∃ s,ts[j]?=some s:=⟨_,zA3 (by omega)⟩;have HS:=hQ9 hs;obtain ⟨As,cs,his,ecs,sts⟩:=(st0.bQ bb2).at2 hs;have hgt:(0:Int)<((j+1:Nat):Int):=by omega
          clear hs;go_wp2_with fail
          by_cases hf:zC s=t.length
          · have HF:=hQ9 hf;clear hf;refine (yK3 _ _ s t true _ sts stt2 (decide_eq_true HF.out).symm).mono ?_;rintro e w3 ⟨rfl,b3⟩;have bb3:=bb2.trans (b3.mono bb2.size)
            have HA2:Hid (∀ (i:Nat) (t:List (List Rat)),i<j+1+1->ts[i]?=some t->okAt ts i t):=by
              show ∀ i,_
              intro i t' hi h';by_cases e:i=j+1
              · subst e;rw [HT.out] at h';injection h' with h';subst h';refine ⟨HM.out,fun s' _ hs' => ?_⟩;rw [Nat.add_sub_cancel,HS.out] at hs';injection hs' with hs';subst hs';exact HF.out
              · exact HA.out i t' (by omega) h'
            have hsk:ts.length-(j+1+1)<ts.length-(j+1):=by omega
            clear ecs sts stt2 b3 HA;go_wp2;go_roundw;case rel=>exact ⟨j+1+1,by omega,HA2,bb3,by go_num⟩
            case measure=>simp [intOf];omega
          · have HF:=hQ9 hf;clear hf;refine (yK3 _ _ s t false _ sts stt2 (decide_eq_false HF.out).symm).mono ?_;rintro e w3 ⟨rfl,b3⟩;have bb3:=bb2.trans (b3.mono bb2.size);have HN:Hid (¬ zZ7 ts):=fun h=>HF.out ((h.2 (j+1) t HT.out).2 s (by omega) (by rw [Nat.add_sub_cancel];exact HS.out));clear ecs sts stt2 b3 HA;go_wp2;go_ret2;exact .inr ⟨HN.out,qD2 8 (by decide) bb3⟩
        · have hgt:¬ (0:Int)<(k:Int):=by omega
          have HA2:Hid (∀ (i:Nat) (t:List (List Rat)),i<k+1->ts[i]?=some t->okAt ts i t):=by
            show ∀ i,_
            intro i t' hi h';obtain rfl:i=k:=by omega
            rw [HT.out] at h';injection h' with h';subst h';exact ⟨HM.out,fun s' h0' _=>absurd h0' hk0⟩
          have hsk:ts.length-(k+1)<ts.length-k:=by omega
          clear HA stt2;go_wp2;go_roundw;case rel=>exact ⟨k+1,by omega,HA2,bb2,by go_num⟩
          case measure=>simp [intOf];omega
      · have HM:=hQ9 hm;clear hm
        go_wp2_with fail
        refine (zW9 _ t false _ stt (decide_eq_false HM.out).symm).mono ?_;rintro e w2 ⟨rfl,b2⟩;have bb2:=bb.trans (b2.mono bb.size);have HN:Hid (¬ zZ7 ts):=fun h=>HM.out (h.2 k t HT.out).1;go_wp2;go_ret2;exact .inr ⟨HN.out,qD2 8 (by decide) bb2⟩
    · obtain rfl:k=ts.length:=by omega
      have HF:Hid (zZ7 ts):=⟨hn,fun i t ht=>HA.out i t (zA4.1 ht).1 ht⟩;obtain ⟨t0,ht0⟩:∃ t0,ts[0]?=some t0:=⟨_,zA3 hpos⟩;have HT0:=hQ9 ht0;have bd:=bb.drew;obtain ⟨At,ct,hit,ecd,std⟩:=(st0.bQ bd).at2 ht0;have HB0:Hid (t0.length<=M/\(∀ r∈t0,r.length<=M)/\zD6 t0 N):=HL.out.2 t0 (zA5 ht0);have hM8:M<=8:=hN.out.2.2.1;have ht04:t0.length<=8:=zB4 HB0.out.1 hM8;have ead:ad.add 0=ad:=by simp [Addr.add]
      rw [ead] at ecd;have ecz:wr.cell? ad=some (.slice At t0.length ct):=ecd;clear ht0 HA;go_upto_region 9 with (fail)
      go_region_law (first
        | (go_simp;go_at_call 28;refine (qO5 _ t0.length _ rfl (by omega)).mono ?_;rintro e w4 ⟨g,rfl,TB,hg,b4⟩;have TO:zP9 w4 wr.drew.heap.size _ _ _:=TB.owned hg (by omega);have ec4:=(b4.cell (bQ0 _ _ ecd)).trans ecd)
        | (go_simp;go_at_call 27;refine (yK6 g t0.length t0.length _ _ _ t0 wr.drew w4 TO std b4 (by simp) rfl hg ⟨fun r hr=>by rw [qO0] at hr;rw [(List.mem_replicate.1 hr).2];exact Nat.zero_le _,fun r hr=>zB4 (zB4 (HB0.out.2.1 r hr) hN.out.2.2.1) (by decide),HB0.out.2.2.mono (by have:=hN.out;omega)⟩).mono ?_;rintro e w5 ⟨us5,pss5,rfl,T5,V5,L5,b5⟩))
      all_goals
        have SA:SlT .u64 4294967296 w5 (.slice (some ⟨g,0,none⟩) t0.length t0.length) t0:=by
          have h:=T5.slT;rw [V5,qO0,qV0] at h;exact h
        have bb5:Below w.heap.size w w5:=bd.trans ((b4.trans b5).mono bd.size)
        obtain ⟨A',hA',stT⟩:∃ A':Addr,(if c0=1 then some ad else some ({ block:=ad.block,off:=ad.off+1 } : Addr))=some A'/\zL5 w (.slice (some A') (ts.length-1) (c0-1)) ts.tail:=by
          have h:=st0.tail hn;by_cases hc1:c0=1
          · rw [if_pos hc1] at h;exact ⟨ad,by rw [if_pos hc1],h⟩
          · rw [if_neg hc1] at h;exact ⟨_,by rw [if_neg hc1];simp [Addr.add],h⟩
        have h1n:(1:Int)<=((ts.length:Nat):Int):=by omega
        have HTL:Hid (ts.tail.length=ts.length-1):=List.length_tail;clear T5 V5 L5 TB TO b4 b5 std ecz ecd bb bd;go_wp2
        go_loopw [6,49] (fun v6 v49 wr => ∃ (j:Nat) (ans:List (List Rat)),j<=ts.length-1/\SlT .u64 4294967296 wr v6 ans/\Hid (ans=(ts.tail.take j).foldl zI t0)/\Hid ((∀ s,ts[j]?=some s -> ∀ r∈ans,r.length=zC s)/\ans.length<=M/\zD6 ans (zO2 M N j))/\Below w.heap.size w wr/\v49=.int .i64 (j:Int)) (fun _ v49 _=>(ts.length-1)-(intOf v49).toNat)
        case atStart=>exact ⟨0,t0,by omega,SA,by show _=_;rw [bX6];rfl,⟨fun s hs r hr=>by rw [HT0.out] at hs;injection hs with hs;subst hs;exact ((HF.out.2 0 t0 HT0.out).1.2.2 r hr),HB0.out.1,HB0.out.2.2⟩,bb5,rfl⟩
        case round =>
          clear SA bb5;obtain ⟨j,ans,hj,SA,HAN,HAB,bb,rfl⟩:=hrel;obtain ⟨AA,cA,eA,_,_⟩:=SA.shape;subst eA;by_cases hlt2:j<ts.length-1
          · obtain ⟨t,ht⟩:∃ t,ts.tail[j]?=some t:=⟨_,zA3 (by rw [HTL.out];exact hlt2)⟩;have HT:=hQ9 ht;obtain ⟨At1,ct1,hit1,ect,stt⟩:=(stT.bQ bb).at2 ht;have ht1:ts[j+1]?=some t:=by rw [List.getElem?_tail] at ht;exact ht
            obtain ⟨s,hs⟩:∃ s,ts[j]?=some s:=⟨_,zA3 (by omega)⟩;have hok:=HF.out.2 (j+1) t ht1;have htm:=zA5 ht1;have hws:zC s=t.length:=hok.2 s (by omega) (by rw [Nat.add_sub_cancel];exact hs)
            have hj1:zO2 M N j<=N:=by
              obtain rfl:j=0:=by omega
              exact zB3 _
            have htl:t.length<=M:=(HL.out.2 t htm).1;have hrows:∀ r∈ans,r.length=t.length:=fun r hr=>by rw [HAB.out.1 s hs r hr,hws]
            have hmul:(N+zO2 M N j+1)*t.length+1<=4800:=by
              have h1:=bY6 (show N+zO2 M N j+1<=N+N+1 by omega) htl;have h2:=hN.out.2.2.2.2;omega
            have HPR:Hid ((∀ r∈ans,r.length=t.length)/\ans.length<=1000/\t.length<=1000/\zC t<=1000/\zR9 t/\zD6 ans (zO2 M N j)/\zD6 t N/\1<=N/\N<=4800/\(N+zO2 M N j+1)*t.length+1<=4800):=⟨hrows,by have:=HAB.out.2.1;omega,by omega,zB4 hok.1.2.1 (by decide),hok.1.2.2,HAB.out.2.2,(HL.out.2 t htm).2.2,hN.out.1,by have:=hN.out;omega,hmul⟩;have HAN2:Hid (zI ans t=(ts.tail.take (j+1)).foldl zI t0):=by show _=_;rw [yK8 zI t0 HT.out,HAN.out]
            have HAB2:Hid ((∀ s,ts[j+1]?=some s -> ∀ r∈zI ans t,r.length=zC s)/\(zI ans t).length<=M/\zD6 (zI ans t) (zO2 M N (j+1))):=by
              refine ⟨fun s' hs' r hr => ?_,by rw [qM6];exact HAB.out.2.1,?_⟩
              · rw [ht1] at hs';injection hs' with hs';subst hs';exact qV r hr
              · exact jG0 HAB.out.2.2 ((HL.out.2 t htm).2.2.mono (qZ0 M N hN.out.2.1 j)) (zB4 hN.out.1 (qZ0 M N hN.out.2.1 j)) hrows htl
            clear ht ht1 hs hok htm hws hrows hmul;go_wp2_with fail
            refine (jK8 _ _ ans t (zO2 M N j) N _ SA stt HPR.out.1 HPR.out.2).mono ?_;rintro e w7 ⟨V7,rfl,S7,b7⟩;have bb7:=bb.trans (b7.mono bb.size);have hsk:ts.length-1-(j+1)<ts.length-1-j:=by omega
            obtain ⟨A7,c7,e7,_,_⟩:=S7.shape;subst e7;clear SA stt ect HAN HAB;go_wp2;go_roundw;case rel=>exact ⟨j+1,zI ans t,by omega,S7,HAN2,HAB2,bb7,by go_num⟩
            case measure=>simp [intOf];omega
          · obtain rfl:j=ts.length-1:=by omega
            have HE:Hid (ans=qM9 ts):=by
              show _=_
              rw [HAN.out,zA7 (by rw [HTL.out];exact zB3 _),qM9]
              congr 1
              cases ts with
              | nil=>exact absurd rfl hn
              | cons a l=>have h:=HT0.out;simpa using h.symm
            have hS:SlT .u64 4294967296 wr (.slice AA ans.length cA) (qM9 ts):=by rw [<- HE.out];exact SA
            clear SA HAN HAB;go_wp2;go_ret2;exact .inl ⟨HF.out,_,rfl,by rw [if_pos rfl];exact hS,bb⟩
structure ClashI5 (A B T:List (List Rat)) (ps:List Nat) (n C m:Nat):Prop where
 sa:shp A n C
 sb:shp B n m
 wb:zC B=m
 ech:Ech n C (zB8 T) ps.length (pv ps)
 red:Red n (zB8 T) ps.length (pv ps) 0
 ker:zF3 n C (zB8 A) (zB8 T)
 n5:n<=5
 m5:m<=5
 la:zD6 A 1
 lb:zD6 B 1
theorem jV6 (a0 a1:Value) (A B T:List (List Rat)) (ps:List Nat) (n C m:Nat) (b:Bool) (w:World) (h0:SlT .u64 4294967296 w a0 (zI9 A ps)) (h1:SlT .u64 4294967296 w a1 B) (hb:b=true ↔ ¬ ∀ c,c<m->zT8 n C (zB8 A) (fun i=>zB8 B i c)) (hc:Hid (ClashI5 A B T ps n C m)) :
    Calls prog 23 #[a0,a1] w (zE1 (.bool b) w):=by
  have HB:=hQ9 hb;have HS0:=hQ9 h0;have HS1:=hQ9 h1;obtain ⟨A0,c0,rfl,hc0,hm0⟩:=h0.shape;obtain ⟨A1,c1,rfl,hc1,hm1⟩:=h1.shape;have hl:(zI9 A ps).length=n:=by rw [qY8,hc.out.sa.1]
  have hl1:B.length=n:=hc.out.sb.1;obtain ⟨W,hW⟩:∃ W,W=zC (zI9 A ps):=⟨_,rfl⟩
  have HW:Hid ((n=0->W=0)/\(0<n->W=ps.length)):=by
    refine ⟨fun e => ?_,fun e => ?_⟩
    · rw [hW,List.length_eq_zero_iff.1 (show (zI9 A ps).length=0 by omega)]
      rfl
    · rw [hW];exact zX0 (qY9 hc.out.sa.1) (fun e2=>by omega)
  have CZ:=zR _ (zI9 A ps) w HS0.out;rw [hl,<- hW] at CZ;rw [hl] at HS0 hc0 |-;rw [hl1] at HS1 hc1 |-;have HWE:=hQ9 hW;have HL:=hQ9 hl;unfold maxLen at hm0 hm1;have hn4:=hc.out.n5;clear hb h0 h1 hl hl1 hW
  go_enter func23,ntmps23;go_wp2_with fail
  refine CZ.mono ?_;rintro e w1 ⟨rfl,b1⟩;clear CZ;by_cases hWn:W=n
  · have hfalse:b=false:=Bool.eq_false_iff.2 fun h=>HB.out.1 h (by
      rcases bY3 n with e | e
      · exact fun c _=>⟨fun _=>0,fun i hi=>by omega⟩
      · exact yT6 hc.out.sa hc.out.ech hc.out.red hc.out.ker (by rw [<- HW.out.2 e];exact hWn))
    subst hfalse;subst hWn;go_wp2;go_ret;exact ⟨rfl,b1⟩
  · have hz1 : (((W : Nat) : Int) == ((n : Nat) : Int)) = false := by rw [beq_eq_false_iff_ne]; omega
    have hn0:0<n:=by
      rcases bY3 n with e | e
      · exact absurd (by rw [HW.out.1 e,e]) hWn
      · exact e
    have hWp:W=ps.length:=HW.out.2 hn0;have HWn:=hQ9 hWn;have hz1':¬ ((W:Nat):Int)=((n:Nat):Int):=by omega
    by_cases hW0:W=0
    · have CN:=fun w h=>yT (.slice A1 n c1) B (!b) w h (by
        rw [jV3 hc.out.sa hc.out.sb hc.out.ech hc.out.ker (by rw [<- hWp];exact hW0)]
        cases hbb:b with
        | false =>
          simp only [Bool.not_false,true_iff];refine bQ1 fun hn => ?_
          have:=HB.out.2 hn
          rw [hbb] at this;exact Bool.noConfusion this
        | true =>
          simp only [Bool.not_true,Bool.false_eq_true,false_iff];exact HB.out.1 hbb) ⟨by rw [hc.out.sb.1];omega,fun r hr=>by rw [hc.out.sb.2 r hr];have:=hc.out.m5;omega⟩
      have hz2:(((W:Nat):Int) == 0)=true:=by rw [beq_iff_eq];omega
      have hz2':((W:Nat):Int)=0:=by omega
      clear hWn hW0 hWp;go_wp2_with fail
      refine (CN _ (HS1.out.bQ b1)).mono ?_;rintro e w2 ⟨rfl,b2⟩;go_wp2;go_ret;exact ⟨rfl,b1.trans (b2.mono b1.size)⟩
    · have hz2 : (((W : Nat) : Int) == 0) = false := by rw [beq_eq_false_iff_ne]; omega
      have hz2':¬ ((W:Nat):Int)=0:=by omega
      have hk4:ps.length<=4:=by have:=hc.out.ech.le;omega
      have HK:Hid (0<ps.length/\ps.length<n):=⟨by omega,by have:=hc.out.ech.le;omega⟩;have hmay:zF5 (zI9 A ps):=⟨by rw [HL.out];omega,by rw [<- HWE.out];omega,fun r hr=>by rw [<- HWE.out,hWp];exact (qY9 hc.out.sa.1).2 r hr⟩;have CT:=jK9 _ (zI9 A ps) w1 (HS0.out.bQ b1) (fun r hr x hx=>(yT8 hc.out.la r hr x hx).mono (by omega));have HB1:=hQ9 b1;have HWP:=hQ9 hWp;clear hWn hW0 b1 hWp;go_wp2_with fail
      refine CT.mono ?_;rintro e w2 (⟨-,V2,rfl,s2,b2⟩|⟨hnm,_⟩)
      · rw [if_pos rfl] at s2;have HB2 : Hid (Below w.heap.size w w2):=HB1.out.trans (b2.mono HB1.out.size);have htl : (zG8 (zI9 A ps)).length = ps.length:=by rw [qU8,<- HWE.out,HWP.out]
        have htw:zC (zG8 (zI9 A ps))=n:=by rw [jE8 (by rw [<- HWE.out,HWP.out];exact HK.out.1),HL.out]
        have hgs:zX (zG8 (zI9 A ps)) 6:=by
          have hx:2^(ps.length-1)<=2^3:=bX9 (by omega) (by omega);have h4:(6+1)*2^(ps.length-1)<=7*2^3:=bY6 (by omega) hx;have h5:(6+1)*2^(ps.length-1)*2^(ps.length-1)<=7*2^3*2^3:=bY6 h4 hx;exact ⟨by rw [htl];omega,by rw [htw];omega,yN6 (m:=5) (fun r hr=>by rw [qM7 r hr,HL.out];exact hn4) (jV4 (yT8 hc.out.la)),by omega,by rw [htl];omega,by rw [htl];omega⟩
        have hmt:zF5 (zG8 (zI9 A ps)):=⟨by rw [htl];omega,by rw [htw];omega,jE6 _⟩;have CK:=fun w h=>jO V2 (zG8 (zI9 A ps)) 6 w h hgs;rw [htl,htw] at CK;obtain ⟨A2,c2,rfl,-,-⟩:=id s2.shape;have HMT:=hQ9 (zA hmt (zA htl htw));have HMY:=hQ9 hmay;clear CT b2 hgs hmt htl htw hmay
        go_wp2_with fail
        refine (CK _ s2).mono ?_;rintro e w3 (⟨-,V3,T2,qs,rfl,s3,hK2,b3⟩|⟨hnm,_⟩)
        · have HB3:Hid (Below w.heap.size w w3):=HB2.out.trans (b3.mono HB2.out.size);obtain ⟨A3,c3,rfl,-,-⟩:=id s3.shape;have HK2:=hQ9 hK2;obtain ⟨R,hR⟩:∃ R,R=nvT T2 qs n n:=⟨_,rfl⟩;have hRl:R.length+qs.length=n:=by rw [hR];exact yT4 hK2.ech
          have hqk:qs.length<=ps.length:=hK2.ech.le;have HR:Hid (R=nvT T2 qs n n):=hR
          have hRsh:∀ r∈R,r.length=n:=fun r hr=>by
            rw [hR] at hr;unfold nvT at hr;obtain ⟨f,_,rfl⟩:=List.mem_map.1 hr;exact zS1 _ _ _ _ _
          have hRp:0<R.length:=by have:=HK.out.2;omega
          have hRw:zC R=n:=qU9 (List.length_pos_iff.1 hRp) hRsh
          have hRL:zD6 R 448:=by
            rw [hR];obtain ⟨S',h1,h2⟩:=hK2.len;have h3:=qI8 (S:=6) (show min qs.length (ps.length-1)<=3 by omega);have h4:(6+1)*2^(min qs.length (ps.length-1))*2^(qs.length-1)<=(6+1)*2^3*2^3:=bY6 h3 (bX9 (by omega) (by omega));exact jV5 hK2.sh hK2.ech (h1.len.mono (by omega)) (by omega)
          rw [<- hR] at s3;have k1:=HS1.out.bQ HB3.out;rw [<- hR];obtain ⟨w4,hw4⟩:∃ w4,w4=w3.alloc (.cells #[.slice A3 R.length c3,.slice A1 n c1] 22):=⟨_,rfl⟩;have hL:=qY 22 s3 k1;have hb4:=zC9 (w:=w3) (zB3 _) (.cells #[.slice A3 R.length c3,.slice A1 n c1] 22);rw [<- hw4] at hL hb4;have HB4:Hid (Below w.heap.size w w4):=HB3.out.trans (hb4.mono HB3.out.size)
          have CM:=yT9 _ [R,B] 5 448 w4 ⟨by omega,by omega,by omega,by omega,by omega⟩ hL ⟨by simp,fun t ht=>by
            rcases List.mem_cons.1 ht with rfl|ht
            · exact ⟨by omega,fun r hr=>by rw [hRsh r hr];exact hn4,hRL⟩
            · rw [List.mem_singleton.1 ht];exact ⟨by rw [hc.out.sb.1];exact hn4,fun r hr=>by rw [hc.out.sb.2 r hr];exact hc.out.m5,fun r hr x hx=>(hc.out.lb r hr x hx).mono (by omega)⟩⟩
          have HFT:Hid (zZ7 [R,B]):=by
            refine ⟨by simp,fun i t ht => ?_⟩;rcases i with _ | _ | i
            · obtain rfl:R=t:=by simpa using ht
              exact ⟨⟨by omega,by omega,fun r hr=>by rw [hRw];exact hRsh r hr⟩,fun s h0=>by omega⟩
            · obtain rfl:B=t:=by simpa using ht
              refine ⟨⟨by rw [hc.out.sb.1];omega,by rw [hc.out.wb];have:=hc.out.m5;omega,fun r hr=>by rw [hc.out.wb];exact hc.out.sb.2 r hr⟩,fun s _ hs => ?_⟩;obtain rfl:R=s:=by simpa using hs
              rw [hRw,hc.out.sb.1]
            · simp at ht
          have HIF:Hid (qJ3 (zI R B) ↔ ∀ c,c<m->zT8 n C (zB8 A) (fun i=>zB8 B i c)):=by
            show _ ↔ _
            rw [hR];exact jV2 hc.out.sa hc.out.sb hc.out.wb hc.out.ech hc.out.red hc.out.ker hn0 hK2
          clear CK b3 s3 hK2 hR hRl hqk hRsh hRp hRw hRL k1 hL hb4 s2;go_wp2_with fail
          rw [<- hw4];clear hw4;refine CM.mono ?_;rintro e w5 (⟨-,V5,rfl,s5,b5⟩|⟨hnf,_⟩)
          · rw [if_pos rfl] at s5;have HB5 : Hid (Below w.heap.size w w5):=HB4.out.trans (b5.mono HB4.out.size);have s5' : SlT .u64 4294967296 w5 V5 (zI R B):=s5;obtain ⟨A5,c5,rfl,-,-⟩:=id s5'.shape
            have CN:=yT _ (zI R B) (!b) w5 s5' (by
              rw [HIF.out]
              cases hbb:b with
              | false =>
                simp only [Bool.not_false,true_iff];refine bQ1 fun hn => ?_
                have:=HB.out.2 hn
                rw [hbb] at this;exact Bool.noConfusion this
              | true =>
                simp only [Bool.not_true,Bool.false_eq_true,false_iff]
                exact HB.out.1 hbb) ⟨by
                  have h2:=HK2.out.ech;have h3:R.length+qs.length=n:=by rw [HR.out];exact yT4 h2
                  rw [qM6];omega,fun r hr=>by rw [qV r hr,hc.out.wb];have:=hc.out.m5;omega⟩
            clear CM b5 s5 s5';go_wp2_with fail
            refine CN.mono ?_;rintro e w6 ⟨rfl,b6⟩;go_wp2;go_ret;exact ⟨rfl,HB5.out.trans (b6.mono HB5.out.size)⟩
          · exact absurd HFT.out hnf
        · exact absurd HMT.out.1 hnm
      · exact absurd hmay hnm
end rat
end Go.Proofs.YtbfflcpmagjlnaaGreat
