/- Package vect: own, EqualFunc, Less, Same, Greatest. Condition: as each says. -/
import Derived.Test.YtbfflcpmagjlnaaGreatKE4
import Derived.Deep.RegionHeld3
import Derived.BigRegion
import Derived.Deep.CutRange
open Go.Proofs.Tryz
open Go.Lib renaming hid -> hQ9
set_option linter.unusedVariables false
set_option linter.unusedSimpArgs false
set_option maxRecDepth 100000
set_option maxHeartbeats 6400000
open And renaming intro -> zA
open List renaming setIfInBounds_toArray -> zA0, set_cons_succ -> zA1, set_cons_zero -> zA2, getElem?_eq_getElem -> zA3, getElem?_eq_some_iff -> zA4, mem_of_getElem? -> zA5, take_of_length_le -> zA7, length_append -> zA8, length_map -> zA9, replicate -> zB, getElem?_append_left -> zB0, getElem?_map -> zB1, length_set -> zB2
open Nat renaming le_refl -> zB3, le_trans -> zB4
open Go.World renaming block_lt_of_cell? -> bQ0
open Classical renaming byContradiction -> bQ1
open List renaming length_take -> bQ7, take_add_one -> bQ9, getElem?_append_right -> bW0, mem_or_eq_of_mem_set -> bW3, getElem?_toArray -> bW8, getElem?_drop -> bW9, length_drop -> bX2, map_append -> bX5, map_toArray -> bX7
open Nat renaming lt_of_lt_of_le -> bY2, zero_add -> bY5
namespace Go.Proofs.YtbfflcpmagjlnaaGreat
namespace rat
open Go.RowKit num mem nat txt str flow whl
theorem jJ8 (a0:Value) (x:Rat) (w:World) (h0:IsQ w a0 x) (hl:zC3 x 100000) :
  Calls prog 133 #[a0] w (RetQ x w):=by
 obtain ⟨u0,t0,rfl,s0,r0⟩:=h0;obtain ⟨A0,c0,rfl,_⟩:=id s0;obtain ⟨D0,e0,rfl,_⟩:=id r0
 go_enter func133,ntmps133
 go_upto_region 1 with (fail)
 obtain ⟨wx,hwx,bb,B0,BR0,hsz⟩:=zK3 w 44 44 #[.bool (ngB (x).num),.slice A0 (digs 4294967296 (x).num.natAbs).length c0,.slice D0 (digs 4294967296 (x).den).length e0] #[.bool false,.slice none 0 0,.slice none 0 0];rw [hwx];clear hwx;have k0s:=s0.bQ bb;have k0d:=r0.bQ bb;have k0z:IsZ wx (.agg #[.bool (ngB (x).num),.slice A0 (digs 4294967296 (x).num.natAbs).length c0]) (x).num:=⟨_,rfl,k0s⟩;have k0:IsQ wx (.agg #[.bool (ngB (x).num),.slice A0 (digs 4294967296 (x).num.natAbs).length c0,.slice D0 (digs 4294967296 (x).den).length e0]) (x):=⟨_,_,rfl,k0s,k0d⟩;have hsz0:=bb.size;have sB:=bb.size;refine flow 13 [Pd.eq (.pointer (some ⟨w.heap.size,0,none⟩)),Pd.eq (.pointer (some ⟨w.heap.size,0,none⟩)),Pd.eq (.bool (ngB (x).num)),Pd.eq (.pointer (some ⟨w.heap.size,0,none⟩)),Pd.eq (.pointer (some ⟨w.heap.size,1,none⟩)),Pd.eq (.slice A0 (digs 4294967296 (x).num.natAbs).length c0),ps .u64 (digs 4294967296 (x).num.natAbs) wx.heap.size,Pd.eq (.pointer (some ⟨w.heap.size,2,none⟩)),Pd.eq (.slice D0 (digs 4294967296 (x).den).length e0),ps .u64 (digs 4294967296 (x).den) wx.heap.size,Pd.eq (.bool (ngB (x).num)),ps .u64 (digs 4294967296 (x).num.natAbs) wx.heap.size,ps .u64 (digs 4294967296 (x).den) wx.heap.size] (by kernel_rfl) (by kernel_rfl) ?ob1 ?done1
 case ob1 =>
  refine zA (zC4 rfl (zB5 rfl) (zB7 rfl rfl) (fun _=>by kernel_rfl) (fun _=>rfl)) ?_;refine zA (zC4 rfl (zB5 rfl) (zB6 (j:=0) (by kernel_rfl) rfl rfl) (fun _=>by kernel_rfl) (fun _=>rfl)) ?_;refine zA (zC1 rfl (zB5 rfl) (zB6 (j:=1) (by kernel_rfl) rfl rfl) (fun w2 hb=>zD underlying4 rfl ((B0.drew.bQ hb).cell 0)) (fun _ _=>rfl)) ?_;refine zA (zC4 rfl (zB5 rfl) (zB7 rfl rfl) (fun _=>by kernel_rfl) (fun _=>rfl)) ?_;refine zA (zC4 rfl (zB5 rfl) (zB6 (j:=3) (by kernel_rfl) rfl rfl) (fun _=>by kernel_rfl) (fun _=>rfl)) ?_;refine zA (zC1 rfl (zB5 rfl) (zB6 (j:=4) (by kernel_rfl) rfl rfl) (fun w2 hb=>zD underlying40 rfl ((B0.drew.bQ hb).cell 1)) (fun _ _=>rfl)) ?_;refine zA (zE8 rfl func112 (by kernel_rfl) (zB5 rfl) (zB6 (j:=5) (by kernel_rfl) rfl rfl) (fun w2 u0 hb h0=>by obtain rfl:=h0;exact (zV7 _ _ _ (k0s.drew.bQ hb) (zB4 hl.1 (by decide))).mono fun e w3 h=>zD7.pd h hb.size)) ?_;refine zA (zC4 rfl (zB5 rfl) (zB7 rfl rfl) (fun _=>by kernel_rfl) (fun _=>rfl)) ?_;refine zA (zC1 rfl (zB5 rfl) (zB6 (j:=7) (by kernel_rfl) rfl rfl) (fun w2 hb=>zD underlying40 rfl ((B0.drew.bQ hb).cell 2)) (fun _ _=>rfl)) ?_;refine zA (zE8 rfl func112 (by kernel_rfl) (zB5 rfl) (zB6 (j:=8) (by kernel_rfl) rfl rfl) (fun w2 u0 hb h0=>by obtain rfl:=h0;exact (zV7 _ _ _ (k0d.drew.bQ hb) (zB4 hl.2 (by decide))).mono fun e w3 h=>zD7.pd h hb.size)) ?_;refine zA (zE0 rfl (zB5 rfl) (zB6 (j:=2) (by kernel_rfl) rfl rfl) (fun _ _ h=>h)) ?_;refine zA (zE0 rfl (zB5 rfl) (zB6 (j:=6) (by kernel_rfl) rfl rfl) (fun _ _ h=>h)) ?_;refine zA (zE0 rfl (zB5 rfl) (zB6 (j:=9) (by kernel_rfl) rfl rfl) (fun _ _ h=>h)) ?_
  trivial
 case done1 =>
  refine fun w1 hb1 v0 h0 v1 h1 v2 h2 v3 h3 v4 h4 v5 h5 v6 h6 v7 h7 v8 h8 v9 h9 v10 h10 v11 h11 v12 h12 b hbf => ?_;obtain rfl:=h0;obtain rfl:=h1;obtain rfl:=h2;obtain rfl:=h3;obtain rfl:=h4;obtain rfl:=h5;obtain rfl:=h7;obtain rfl:=h8;obtain rfl:=h10;obtain ⟨q6,f6⟩:=h6;obtain ⟨q9,f9⟩:=h9;obtain ⟨q11,f11⟩:=h11;obtain ⟨q12,f12⟩:=h12;simp only [Act.put,zA0,zA2,zA1] at hbf;subst hbf;replace B0:=B0.bQ hb1;replace k0s:=k0s.bQ hb1;replace k0d:=k0d.bQ hb1;replace k0z:=k0z.bQ hb1;replace k0:=k0.bQ hb1;replace BR0:=BR0.bQ hb1;replace bb:=bb.trans (hb1.mono bb.size);have hsz1:=bb.size;have s_6:=sB;have s_9:=sB;have s_11:=sB;have s_12:=sB;refine zJ0 (by kernel_rfl) ?_;obtain ⟨A4,c4,rfl,_⟩:=id q11;have n4:=q11;have n4f:=f11;have n4z_:=s_11;obtain ⟨A5,c5,rfl,_⟩:=id q12;have n5:=q12;have n5f:=f12;have n5z_:=s_12;have sB:=bb.size;go_upto_region 2 with (fail);refine zC6 5 [Pd.eq (.bool (ngB (x).num)),Pd.eq (.slice A4 (digs 4294967296 (x).num.natAbs).length c4),Pd.eq (.agg #[.bool (ngB (x).num),.slice A4 (digs 4294967296 (x).num.natAbs).length c4]),Pd.eq (.slice A5 (digs 4294967296 (x).den).length c5),Pd.eq (.agg #[.bool (ngB (x).num),.slice A4 (digs 4294967296 (x).num.natAbs).length c4,.slice A5 (digs 4294967296 (x).den).length c5])] (by kernel_rfl) ?ob2 ?done2
  case ob2 =>
   refine zA (zC0 rfl (zB5 rfl) (zB7 rfl rfl) (fun _ _ h=>h)) ?_;refine zA (zC0 rfl (zB5 rfl) (zB7 rfl rfl) (fun _ _ h=>h)) ?_;refine zA (zM5 rfl (zB5 rfl) (zB6 (j:=0) (by kernel_rfl) rfl rfl) (zB6 (j:=1) (by kernel_rfl) rfl rfl) (fun w2 u v hb hu hv=>by obtain rfl:=hu;obtain rfl:=hv;exact ⟨.agg #[.bool (ngB (x).num),.slice A4 (digs 4294967296 (x).num.natAbs).length c4],by kernel_rfl,rfl⟩)) ?_;refine zA (zC0 rfl (zB5 rfl) (zB7 rfl rfl) (fun _ _ h=>h)) ?_;refine zA (zM5 rfl (zB5 rfl) (zB6 (j:=2) (by kernel_rfl) rfl rfl) (zB6 (j:=3) (by kernel_rfl) rfl rfl) (fun w2 u v hb hu hv=>by obtain rfl:=hu;obtain rfl:=hv;exact ⟨.agg #[.bool (ngB (x).num),.slice A4 (digs 4294967296 (x).num.natAbs).length c4,.slice A5 (digs 4294967296 (x).den).length c5],by kernel_rfl,rfl⟩)) ?_
   trivial
  case done2 =>
   refine fun w2 hb2 v0 h0 v1 h1 v2 h2 v3 h3 v4 h4 b hbf => ?_;obtain rfl:=h0;obtain rfl:=h1;obtain rfl:=h2;obtain rfl:=h3;obtain rfl:=h4;simp only [Act.put,zA0,zA2,zA1] at hbf;subst hbf;replace B0:=B0.bQ hb2;replace k0s:=k0s.bQ hb2;replace k0d:=k0d.bQ hb2;replace k0z:=k0z.bQ hb2;replace k0:=k0.bQ hb2;replace BR0:=BR0.bQ hb2;replace n4:=n4.bQ hb2;replace n5:=n5.bQ hb2;replace bb:=bb.trans (hb2.mono bb.size);have hsz2:=bb.size;refine zG5 (i:=5) rfl rfl rfl rfl rfl rfl (cells:=[.bool (ngB (x).num),.slice A4 (digs 4294967296 (x).num.natAbs).length c4,.slice A5 (digs 4294967296 (x).den).length c5]) rfl BR0 rfl (by kernel_rfl) (zH2 rfl rfl rfl) fun w9 hg9 B9 => ?_;have k9:=off n4 BR0 zD3 hg9;have d9:=off n5 BR0 zD3 hg9;have bb9:=bb.trans ((Below.refl _ _).grown hg9 bb.size (fun g hg=>by injection hg with hg;omega));obtain ⟨C0,C1,C2,_,_,_⟩:=three B9;refine zC7 ?_;go_wp2;exact bodyPost_ret (v:=.agg #[.bool (ngB (x).num),.slice A4 (digs 4294967296 (x).num.natAbs).length c4,.slice A5 (digs 4294967296 (x).den).length c5]) (by simp [results,results133,go_sem,C0,C1,C2]) rfl ⟨_,rfl,zW3 k9 d9 rfl rfl rfl,zM4 (n4f.mono n4z_) (n5f.mono n5z_),bb9⟩
theorem jJ9 (a0 a1 a2:Value) (p:List Rat) (K:Rat) (q:List Rat) (m l n:Nat) (w:World) (h0:SlF .u64 4294967296 w a0 p) (h1:IsQ w a1 K) (h2:SlF .u64 4294967296 w a2 q) (he:p.length=q.length) (hl:p.length<=1000/\(∀ x∈p,zC3 x m)/\zC3 K l/\(∀ x∈q,zC3 x n)/\m<=4900/\l+n<=4900) :
    Calls prog 116 #[a0,a1,a2] w (qD0 (zJ5 p K q) w):=by
  obtain ⟨u1,t1,rfl,s1,r1⟩:=h1;obtain ⟨A1,c1,rfl,_⟩:=id s1;obtain ⟨D1,e1,rfl,_⟩:=id r1;have sl0:=h0;obtain ⟨A0,c0,rfl,hc0,hm0⟩:=h0.shape;unfold maxLen at hm0;have sl2:=h2;obtain ⟨A2,c2,rfl,hc2,hm2⟩:=h2.shape;unfold maxLen at hm2;have HNE:Hid ((((p.length:Nat):Int) != ((q.length:Nat):Int))=false):=by show _=_;rw [bne_eq_false_iff_eq];omega
  have HE:=hQ9 he;have HL:=hQ9 hl;have lK:zC3 K l:=hl.2.2.1;have hm9:m<=4900:=hl.2.2.2.2.1;have hn9:l+n<=4900:=hl.2.2.2.2.2;have hl8:p.length<=1000:=hl.1;have HRL:Hid ((zJ5 p K q).length=p.length):=qU5 he;clear hl he
  go_enter func116,ntmps116
  go_upto_region 1 with (fail)
  obtain ⟨wx,hwx,bb,B1,hsz⟩:=zL1 w 44 #[.bool (ngB (K).num),.slice A1 (digs 4294967296 (K).num.natAbs).length c1,.slice D1 (digs 4294967296 (K).den).length e1];rw [hwx];clear hwx;have k1s:=s1.bQ bb;have k1d:=r1.bQ bb;have k1z:IsZ wx (.agg #[.bool (ngB (K).num),.slice A1 (digs 4294967296 (K).num.natAbs).length c1]) (K).num:=⟨_,rfl,k1s⟩;have k1:IsQ wx (.agg #[.bool (ngB (K).num),.slice A1 (digs 4294967296 (K).num.natAbs).length c1,.slice D1 (digs 4294967296 (K).den).length e1]) (K):=⟨_,_,rfl,k1s,k1d⟩;have hsz0:=bb.size;have sB:=bb.size;refine zC6 5 [Pd.eq (.slice A0 p.length c0),Pd.eq (.int .i64 ((p.length:Nat):Int)),Pd.eq (.slice A2 q.length c2),Pd.eq (.int .i64 ((q.length:Nat):Int)),Pd.eq (.bool false)] (by kernel_rfl) ?ob4 ?done4
  case ob4 =>
    refine zA (zC0 rfl (zB5 rfl) (zB7 rfl rfl) (fun _ _ h=>h)) ?_;refine zA (zK7 rfl (zB5 rfl) (zB6 (j:=0) (by kernel_rfl) rfl rfl) (fun _ _ hx=>⟨_,by rw [hx];exact zK8 underlying46 _ _ _ _,rfl⟩)) ?_;refine zA (zC0 rfl (zB5 rfl) (zB7 rfl rfl) (fun _ _ h=>h)) ?_;refine zA (zK7 rfl (zB5 rfl) (zB6 (j:=2) (by kernel_rfl) rfl rfl) (fun _ _ hx=>⟨_,by rw [hx];exact zK8 underlying46 _ _ _ _,rfl⟩)) ?_;refine zA (zG3 rfl (zB5 rfl) (zB6 (j:=1) (by kernel_rfl) rfl rfl) (zB6 (j:=3) (by kernel_rfl) rfl rfl) (fun _ _ _ hx hy=>⟨.bool false,by rw [hx,hy,zZ0,HNE.out],rfl⟩)) ?_
    trivial
  case done4 =>
    refine fun w1 hb1 v0 h0 v1 h1 v2 h2 v3 h3 v4 h4 b hbf => ?_;obtain rfl:=h0;obtain rfl:=h1;obtain rfl:=h2;obtain rfl:=h3;obtain rfl:=h4;simp only [Act.put,zA0,zA2,zA1] at hbf;subst hbf;replace B1:=B1.bQ hb1;replace k1s:=k1s.bQ hb1;replace k1d:=k1d.bQ hb1;replace k1z:=k1z.bQ hb1;replace k1:=k1.bQ hb1;replace bb:=bb.trans (hb1.mono bb.size);have hsz1:=bb.size;refine zC7 ?_
    go_wp2_with (at_make;refine qW4 rfl _ _ rfl underlying46 zP3 p.length rfl rfl (by omega) ?_;intro wm RN hbm)
    have hwg:w.heap.size<=w1.heap.size:=bb.size;have hlb4:=B1.lt;replace B1:=B1.bQ hbm;replace k1s:=k1s.bQ hbm;replace k1d:=k1d.bQ hbm;replace k1z:=k1z.bQ hbm;replace k1:=k1.bQ hbm;replace bb:=bb.trans (hbm.mono bb.size);have hsz2:=bb.size;obtain ⟨g,hg⟩:∃ g,g=w1.heap.size:=⟨_,rfl⟩;rw [<- hg] at RN |-;have hg_:w1.heap.size<=g:=by omega
    clear hg;have hg:=hg_;clear hg_;have hgw:w.heap.size<=g:=by omega
    have RN0:zD2 wm g p.length ((zJ5 p K q).take 0):=RN;clear RN;go_wp2
    go_loopw [21] (fun v21 wr => ∃ k:Nat,k<=p.length/\zD2 wr g p.length ((zJ5 p K q).take k)/\Blk wr (w.heap.size) 44 #[.bool (ngB (K).num),.slice A1 (digs 4294967296 (K).num.natAbs).length c1,.slice D1 (digs 4294967296 (K).den).length e1]/\Below w.heap.size w wr/\v21=.int .i64 (k:Int)) (fun v21 _=>p.length-(intOf v21).toNat)
    case atStart=>exact ⟨0,by omega,RN0,B1,bb,rfl⟩
    case round =>
      obtain ⟨k,hk,hR,hB4,hbw,rfl⟩:=hrel;clear RN0 bb B1 k1s k1d k1z k1;have RN:=hR;have bb:=hbw;clear hR hbw;have B1:=hB4;have k1s:=s1.bQ bb;have k1d:=r1.bQ bb;have k1z:IsZ wr (.agg #[.bool (ngB (K).num),.slice A1 (digs 4294967296 (K).num.natAbs).length c1]) (K).num:=⟨_,rfl,k1s⟩;have k1:IsQ wr (.agg #[.bool (ngB (K).num),.slice A1 (digs 4294967296 (K).num.natAbs).length c1,.slice D1 (digs 4294967296 (K).den).length e1]) (K):=⟨_,_,rfl,k1s,k1d⟩;have hlc4:=B1.lt;clear hB4;have hszr:=bb.size;have hgl:=RN.lt;by_cases hlt:k<p.length
      · obtain ⟨x, hq0_⟩ : ∃ x, p[k]? = some x := ⟨_, zA3 hlt⟩;obtain ⟨g0_,o0_,ue0,te0,hA0_,_,e00,e01,e02,es0,ed0⟩:=(sl0.bQ bb).at_ hq0_;subst hA0_;have HQ0:=hQ9 hq0_;clear hq0_;obtain ⟨Ae0,ce0,rfl,_⟩:=id es0;obtain ⟨De0,ee0,rfl,_⟩:=id ed0;have ke0 : IsQ wr (.agg #[.bool (ngB x.num),.slice Ae0 (digs 4294967296 x.num.natAbs).length ce0,.slice De0 (digs 4294967296 x.den).length ee0]) x:=⟨_,_,rfl,es0,ed0⟩;have hlt2 : k < q.length:=by have:=HE.out; omega
        obtain ⟨y,hy⟩:∃ y,q[k]?=some y:=⟨_,zA3 hlt2⟩;have HY:=hQ9 hy;have lx:zC3 x m:=HL.out.2.1 x (zA5 HQ0.out);have ly:zC3 y n:=HL.out.2.2.2.1 y (zA5 hy);have lky:zC3 (K*y) (l+n):=qG2 lK ly;have HAT:Hid ((zJ5 p K q)[k]?=some (x-K*y)):=qU3 HQ0.out hy;clear hy;have hneq:q≠[]:=List.length_pos_iff.1 (by omega);have HTK:Hid ((zJ5 p K q).take (k+1)=(zJ5 p K q).take k ++ [(x-K*y)]):=zS9 HAT.out;have HLK:Hid (k=((zJ5 p K q).take k).length):=by show _=_;rw [bQ7,HRL.out];omega
        have sB:=bb.size;go_upto_region 6 with (fail);have lt3_4:=Blk.lt B1;refine zC6 5 [Pd.eq (.int .i64 (k:Int)),Pd.eq (.pointer (some ⟨g0_,o0_+k*3,none⟩)),Pd.eq (.agg #[.bool (ngB x.num),.slice Ae0 (digs 4294967296 x.num.natAbs).length ce0,.slice De0 (digs 4294967296 x.den).length ee0]),pn 44 #[.bool false,.slice none 0 0,.slice none 0 0] wr.heap.size,Pd.eq (.int .i64 (k:Int))] (by kernel_rfl) ?ob5 ?done5
        case ob5 =>
          refine zA (zC0 rfl (zB5 rfl) (zB7 rfl rfl) (fun _ _ h=>h)) ?_;refine zA (zH8 rfl (zB5 rfl) (zB7 rfl rfl) (zB7 rfl rfl) (fun _ _ _ hx hy=>⟨_,by rw [hx,hy];exact zH9 underlying46 (by kernel_rfl) hlt _,rfl⟩)) ?_;refine zA (zC1 rfl (zB5 rfl) (zB6 (j:=1) (by kernel_rfl) rfl rfl) (fun w2 hb=>zP2 underlying44 rfl (by kernel_rfl) ((hb.cell (bQ0 wr _ e00)).trans e00) ((hb.cell (bQ0 wr _ e01)).trans e01) ((hb.cell (bQ0 wr _ e02)).trans e02)) (fun _ _=>rfl)) ?_;refine zA (zM9 (z:=.agg #[.bool false,.slice none 0 0,.slice none 0 0]) rfl rfl (fun _=>by kernel_rfl) (fun _ _ hB h=>⟨_,rfl,hB,h⟩)) ?_;refine zA (zE0 rfl (zB5 rfl) (zB6 (j:=0) (by kernel_rfl) rfl rfl) (fun _ _ h=>h)) ?_
          trivial
        case done5 =>
          refine fun w4 hb4 v0 h0 v1 h1 v2 h2 v3 h3 d3 v4 h4 b hbf => ?_;obtain rfl:=h0;obtain rfl:=h1;obtain rfl:=h2;obtain rfl:=h4;obtain ⟨g5_3,rfl,hg3,B3⟩:=h3;simp only [Act.put,zA0,zA2,zA1] at hbf;subst hbf;replace B1:=B1.bQ hb4;replace k1s:=k1s.bQ hb4;replace k1d:=k1d.bQ hb4;replace k1z:=k1z.bQ hb4;replace k1:=k1.bQ hb4;replace RN:=RN.bQ hb4;replace es0:=es0.bQ hb4;replace ed0:=ed0.bQ hb4;replace bb:=bb.trans (hb4.mono bb.size);have hsz4:=bb.size;have BA10:=B3;have q2:=es0;have d2:=ed0;refine zG5 (i:=5) rfl rfl rfl rfl rfl rfl (cells:=[.bool (ngB (x).num),.slice Ae0 (digs 4294967296 (x).num.natAbs).length ce0,.slice De0 (digs 4294967296 (x).den).length ee0]) rfl BA10 rfl (by kernel_rfl) (zH2 rfl rfl rfl) fun w5 hg5 BN5 => ?_;replace q2:=off q2 BA10 zD3 hg5;replace d2:=off d2 BA10 zD3 hg5;replace RN:=zD2.offb RN BA10 zD3 hg5 (by omega);replace k1s:=off k1s BA10 zD3 hg5;replace k1d:=off k1d BA10 zD3 hg5;replace k1z:IsZ w5 (.agg #[.bool (ngB (K).num),.slice A1 (digs 4294967296 (K).num.natAbs).length c1]) ((K).num):=⟨_,rfl,k1s⟩;replace k1:IsQ w5 (.agg #[.bool (ngB (K).num),.slice A1 (digs 4294967296 (K).num.natAbs).length c1,.slice D1 (digs 4294967296 (K).den).length e1]) (K):=⟨_,_,rfl,k1s,k1d⟩;replace B1:=B1.grown hg5 (by omega);replace bb:=bb.trans ((Below.refl _ _).grown hg5 bb.size (fun g hg=>by injection hg with hg;omega));have hsz5:=bb.size;have Be0:Blk w5 (g5_3) _ _:=BN5;have ke0s:=q2;have ke0d:=d2;have ke0z:IsZ w5 (.agg #[.bool (ngB (x).num),.slice Ae0 (digs 4294967296 (x).num.natAbs).length ce0]) ((x).num):=⟨_,rfl,ke0s⟩;have ke0:IsQ w5 (.agg #[.bool (ngB (x).num),.slice Ae0 (digs 4294967296 (x).num.natAbs).length ce0,.slice De0 (digs 4294967296 (x).den).length ee0]) (x):=⟨_,_,rfl,ke0s,ke0d⟩;refine zC7 ?_;have hle:=Be0.lt;have hneE:g≠g5_3:=by omega
          obtain ⟨g2_,o2_,cp2_,hA2_,_,_,_⟩:=sl2.place hneq;injection hA2_ with e1_ _ e3_;subst e1_;subst e3_;obtain ⟨uy,ty,hlty,zy0,zy1,zy2,zys,zyd⟩:=(sl2.bQ bb).at2 HY.out;obtain ⟨Ay,cy,rfl,_⟩:=id zys;obtain ⟨Dy,ey,rfl,_⟩:=id zyd;have zy:IsQ w5 (.agg #[.bool (ngB (y).num),.slice Ay (digs 4294967296 (y).num.natAbs).length cy,.slice Dy (digs 4294967296 (y).den).length ey]) (y):=⟨_,_,rfl,zys,zyd⟩;by_cases hv:K*y=0
          · have HV:Hid (true=decide (K*y=0)):=(decide_eq_true hv).symm;have HXE:Hid (x=x-K*y):=by show _=_;rw [hv];grind
            clear hv;have sB:=bb.size;go_upto_region 7 with (fail);refine flow 6 [Pd.eq (.agg #[.bool (ngB (K).num),.slice A1 (digs 4294967296 (K).num.natAbs).length c1,.slice D1 (digs 4294967296 (K).den).length e1]),Pd.eq (.slice (some ⟨g2_,o2_,none⟩) q.length c2),Pd.eq (.int .i64 (k:Int)),Pd.eq (.pointer (some ⟨g2_,o2_+k*3,none⟩)),Pd.eq (.agg #[.bool (ngB (y).num),.slice Ay (digs 4294967296 (y).num.natAbs).length cy,.slice Dy (digs 4294967296 (y).den).length ey]),Pd.eq (.bool true)] (by kernel_rfl) (by kernel_rfl) ?ob6 ?done6
            case ob6 =>
              refine zA (zC1 rfl (zB5 rfl) (zB7 rfl rfl) (fun w2 hb=>zF6 underlying44 rfl (by kernel_rfl) (B1.drew.bQ hb)) (fun _ _=>rfl)) ?_;refine zA (zC0 rfl (zB5 rfl) (zB7 rfl rfl) (fun _ _ h=>h)) ?_;refine zA (zC0 rfl (zB5 rfl) (zB7 rfl rfl) (fun _ _ h=>h)) ?_;refine zA (zH8 rfl (zB5 rfl) (zB6 (j:=1) (by kernel_rfl) rfl rfl) (zB6 (j:=2) (by kernel_rfl) rfl rfl) (fun _ _ _ hx hy=>⟨_,by rw [hx,hy];exact zH9 (k:=k) underlying46 (by kernel_rfl) hlty _,rfl⟩)) ?_;refine zA (zC1 rfl (zB5 rfl) (zB6 (j:=3) (by kernel_rfl) rfl rfl) (fun w2 hb=>zP2 underlying44 rfl (by kernel_rfl) ((hb.cell (bQ0 w5 _ zy0)).trans zy0) ((hb.cell (bQ0 w5 _ zy1)).trans zy1) ((hb.cell (bQ0 w5 _ zy2)).trans zy2)) (fun _ _=>rfl)) ?_;refine zA (zD8 rfl func119 (by kernel_rfl) (zB5 rfl) (zB6 (j:=0) (by kernel_rfl) rfl rfl) (zB6 (j:=4) (by kernel_rfl) rfl rfl) (fun w2 u0 u1 hb h0 h1=>by obtain rfl:=h0;obtain rfl:=h1;exact (qO1 _ _ (K) (y) true _ (k1.drew.bQ hb) (zy.drew.bQ hb) HV.out).mono fun e w3 h=>zE1.pd h)) ?_
              trivial
            case done6 =>
              refine fun w7 hb7 v0 h0 v1 h1 v2 h2 v3 h3 v4 h4 v5 h5 b hbf => ?_;obtain rfl:=h0;obtain rfl:=h1;obtain rfl:=h2;obtain rfl:=h3;obtain rfl:=h4;obtain rfl:=h5;simp only [Act.put,zA0,zA2,zA1] at hbf;subst hbf;replace B1:=B1.bQ hb7;replace k1s:=k1s.bQ hb7;replace k1d:=k1d.bQ hb7;replace k1z:=k1z.bQ hb7;replace k1:=k1.bQ hb7;replace Be0:=Be0.bQ hb7;replace ke0s:=ke0s.bQ hb7;replace ke0d:=ke0d.bQ hb7;replace ke0z:=ke0z.bQ hb7;replace ke0:=ke0.bQ hb7;replace RN:=RN.bQ hb7;replace bb:=bb.trans (hb7.mono bb.size);have hsz7:=bb.size;refine zJ0 (by kernel_rfl) ?_;clear zy zy0 zy1 zy2 zys zyd;have sB:=bb.size;go_upto_region 8 with (fail);refine zC6 5 [Pd.eq (.slice (some ⟨g,0,none⟩) p.length p.length),Pd.eq (.int .i64 (k:Int)),Pd.eq (.agg #[.bool (ngB (x).num),.slice Ae0 (digs 4294967296 (x).num.natAbs).length ce0,.slice De0 (digs 4294967296 (x).den).length ee0]),pq ((x-K*y)) w7.heap.size,Pd.eq (.pointer (some ⟨g,0+k*3,none⟩))] (by kernel_rfl) ?ob7 ?done7
              case ob7 =>
                refine zA (zC0 rfl (zB5 rfl) (zB7 rfl rfl) (fun _ _ h=>h)) ?_;refine zA (zC0 rfl (zB5 rfl) (zB7 rfl rfl) (fun _ _ h=>h)) ?_;refine zA (zC1 rfl (zB5 rfl) (zB7 rfl rfl) (fun w2 hb=>zF6 underlying44 rfl (by kernel_rfl) (Be0.bQ hb)) (fun _ _=>rfl)) ?_;refine zA (zE8 rfl func133 (by kernel_rfl) (zB5 rfl) (zB6 (j:=2) (by kernel_rfl) rfl rfl) (fun w2 u0 hb h0=>by obtain rfl:=h0;exact (jJ8 _ x _ (ke0.bQ hb) (lx.mono (by omega))).mono fun e w3 h=>RetQ.pd (h.to HXE.out) hb.size)) ?_;refine zA (zH8 rfl (zB5 rfl) (zB6 (j:=0) (by kernel_rfl) rfl rfl) (zB6 (j:=1) (by kernel_rfl) rfl rfl) (fun _ _ _ hx hy=>⟨_,by rw [hx,hy];exact zH9 (k:=k) underlying46 (by kernel_rfl) hlt _,rfl⟩)) ?_
                trivial
              case done7 =>
                refine fun w8 hb8 v0 h0 v1 h1 v2 h2 v3 h3 v4 h4 b hbf => ?_;obtain rfl:=h0;obtain rfl:=h1;obtain rfl:=h2;obtain rfl:=h4;obtain ⟨q3,f3⟩:=h3;simp only [Act.put,zA0,zA2,zA1] at hbf;subst hbf;replace B1:=B1.bQ hb8;replace k1s:=k1s.bQ hb8;replace k1d:=k1d.bQ hb8;replace k1z:=k1z.bQ hb8;replace k1:=k1.bQ hb8;replace Be0:=Be0.bQ hb8;replace ke0s:=ke0s.bQ hb8;replace ke0d:=ke0d.bQ hb8;replace ke0z:=ke0z.bQ hb8;replace ke0:=ke0.bQ hb8;replace RN:=RN.bQ hb8;replace bb:=bb.trans (hb8.mono bb.size);have hsz8:=bb.size;have s_3:=sB;obtain ⟨u3,t3,rfl,q3,d3⟩:=q3;obtain ⟨A9,c9,rfl,_⟩:=id q3;obtain ⟨D9,e9,rfl,_⟩:=id d3;refine qI0 (j:=5) rfl rfl rfl rfl (g:=g) (i:=k) (q:=(x-K*y)) rfl rfl (by kernel_rfl) RN hlt q3 d3 fun w9 hg9 hP9 => ?_;replace k1s:=RN.keep hg9 k1s;replace k1d:=RN.keep hg9 k1d;replace k1z:IsZ w9 (.agg #[.bool (ngB (K).num),.slice A1 (digs 4294967296 (K).num.natAbs).length c1]) ((K).num):=⟨_,rfl,k1s⟩;replace k1:IsQ w9 (.agg #[.bool (ngB (K).num),.slice A1 (digs 4294967296 (K).num.natAbs).length c1,.slice D1 (digs 4294967296 (K).den).length e1]) (K):=⟨_,_,rfl,k1s,k1d⟩;replace B1:=B1.grown hg9 (by omega);replace ke0s:=RN.keep hg9 ke0s;replace ke0d:=RN.keep hg9 ke0d;replace ke0z:IsZ w9 (.agg #[.bool (ngB (x).num),.slice Ae0 (digs 4294967296 (x).num.natAbs).length ce0]) ((x).num):=⟨_,rfl,ke0s⟩;replace ke0:IsQ w9 (.agg #[.bool (ngB (x).num),.slice Ae0 (digs 4294967296 (x).num.natAbs).length ce0,.slice De0 (digs 4294967296 (x).den).length ee0]) (x):=⟨_,_,rfl,ke0s,ke0d⟩;replace Be0:=Be0.grown hg9 (by omega);replace bb:=bb.trans ((Below.refl _ _).grown hg9 bb.size (fun g hg=>by injection hg with hg;omega));have hsz9:=bb.size;replace RN:=hP9.1 HLK.out;clear hP9;refine zC7 ?_;rw [<- HTK.out] at RN;have hsk:p.length-(k+1)<p.length-k:=by omega
                go_wp2;go_roundw;case rel=>exact ⟨k+1,by omega,RN,B1,bb,by go_num⟩
                case measure=>simp [intOf];omega
          · have HV:Hid (false=decide (K*y=0)):=(decide_eq_false hv).symm;clear hv;have sB:=bb.size;go_upto_region 7 with (fail);refine flow 6 [Pd.eq (.agg #[.bool (ngB (K).num),.slice A1 (digs 4294967296 (K).num.natAbs).length c1,.slice D1 (digs 4294967296 (K).den).length e1]),Pd.eq (.slice (some ⟨g2_,o2_,none⟩) q.length c2),Pd.eq (.int .i64 (k:Int)),Pd.eq (.pointer (some ⟨g2_,o2_+k*3,none⟩)),Pd.eq (.agg #[.bool (ngB (y).num),.slice Ay (digs 4294967296 (y).num.natAbs).length cy,.slice Dy (digs 4294967296 (y).den).length ey]),Pd.eq (.bool false)] (by kernel_rfl) (by kernel_rfl) ?ob8 ?done8
            case ob8 =>
              refine zA (zC1 rfl (zB5 rfl) (zB7 rfl rfl) (fun w2 hb=>zF6 underlying44 rfl (by kernel_rfl) (B1.drew.bQ hb)) (fun _ _=>rfl)) ?_;refine zA (zC0 rfl (zB5 rfl) (zB7 rfl rfl) (fun _ _ h=>h)) ?_;refine zA (zC0 rfl (zB5 rfl) (zB7 rfl rfl) (fun _ _ h=>h)) ?_;refine zA (zH8 rfl (zB5 rfl) (zB6 (j:=1) (by kernel_rfl) rfl rfl) (zB6 (j:=2) (by kernel_rfl) rfl rfl) (fun _ _ _ hx hy=>⟨_,by rw [hx,hy];exact zH9 (k:=k) underlying46 (by kernel_rfl) hlty _,rfl⟩)) ?_;refine zA (zC1 rfl (zB5 rfl) (zB6 (j:=3) (by kernel_rfl) rfl rfl) (fun w2 hb=>zP2 underlying44 rfl (by kernel_rfl) ((hb.cell (bQ0 w5 _ zy0)).trans zy0) ((hb.cell (bQ0 w5 _ zy1)).trans zy1) ((hb.cell (bQ0 w5 _ zy2)).trans zy2)) (fun _ _=>rfl)) ?_;refine zA (zD8 rfl func119 (by kernel_rfl) (zB5 rfl) (zB6 (j:=0) (by kernel_rfl) rfl rfl) (zB6 (j:=4) (by kernel_rfl) rfl rfl) (fun w2 u0 u1 hb h0 h1=>by obtain rfl:=h0;obtain rfl:=h1;exact (qO1 _ _ (K) (y) false _ (k1.drew.bQ hb) (zy.drew.bQ hb) HV.out).mono fun e w3 h=>zE1.pd h)) ?_
              trivial
            case done8 =>
              refine fun w7 hb7 v0 h0 v1 h1 v2 h2 v3 h3 v4 h4 v5 h5 b hbf => ?_;obtain rfl:=h0;obtain rfl:=h1;obtain rfl:=h2;obtain rfl:=h3;obtain rfl:=h4;obtain rfl:=h5;simp only [Act.put,zA0,zA2,zA1] at hbf;subst hbf;replace B1:=B1.bQ hb7;replace k1s:=k1s.bQ hb7;replace k1d:=k1d.bQ hb7;replace k1z:=k1z.bQ hb7;replace k1:=k1.bQ hb7;replace Be0:=Be0.bQ hb7;replace ke0s:=ke0s.bQ hb7;replace ke0d:=ke0d.bQ hb7;replace ke0z:=ke0z.bQ hb7;replace ke0:=ke0.bQ hb7;replace RN:=RN.bQ hb7;replace bb:=bb.trans (hb7.mono bb.size);have hsz7:=bb.size;refine zJ0 (by kernel_rfl) ?_;clear zy zy0 zy1 zy2 zys zyd;obtain ⟨ub,tb,hltb,zb0,zb1,zb2,zbs,zbd⟩:=(sl2.bQ bb).at2 HY.out;obtain ⟨Ab,cb,rfl,_⟩:=id zbs;obtain ⟨Db,eb,rfl,_⟩:=id zbd;have zb:IsQ w7 (.agg #[.bool (ngB (y).num),.slice Ab (digs 4294967296 (y).num.natAbs).length cb,.slice Db (digs 4294967296 (y).den).length eb]) (y):=⟨_,_,rfl,zbs,zbd⟩;have sB:=bb.size;go_upto_region 9 with (fail);refine flow 11 [Pd.eq (.slice (some ⟨g,0,none⟩) p.length p.length),Pd.eq (.int .i64 (k:Int)),Pd.eq (.agg #[.bool (ngB (x).num),.slice Ae0 (digs 4294967296 (x).num.natAbs).length ce0,.slice De0 (digs 4294967296 (x).den).length ee0]),Pd.eq (.agg #[.bool (ngB (K).num),.slice A1 (digs 4294967296 (K).num.natAbs).length c1,.slice D1 (digs 4294967296 (K).den).length e1]),Pd.eq (.slice (some ⟨g2_,o2_,none⟩) q.length c2),Pd.eq (.int .i64 (k:Int)),Pd.eq (.pointer (some ⟨g2_,o2_+k*3,none⟩)),Pd.eq (.agg #[.bool (ngB (y).num),.slice Ab (digs 4294967296 (y).num.natAbs).length cb,.slice Db (digs 4294967296 (y).den).length eb]),pqn (K*y),pq ((x-K*y)) w7.heap.size,Pd.eq (.pointer (some ⟨g,0+k*3,none⟩))] (by kernel_rfl) (by kernel_rfl) ?ob9 ?done9
              case ob9 =>
                refine zA (zC0 rfl (zB5 rfl) (zB7 rfl rfl) (fun _ _ h=>h)) ?_;refine zA (zC0 rfl (zB5 rfl) (zB7 rfl rfl) (fun _ _ h=>h)) ?_;refine zA (zC1 rfl (zB5 rfl) (zB7 rfl rfl) (fun w2 hb=>zF6 underlying44 rfl (by kernel_rfl) (Be0.drew.bQ hb)) (fun _ _=>rfl)) ?_;refine zA (zC1 rfl (zB5 rfl) (zB7 rfl rfl) (fun w2 hb=>zF6 underlying44 rfl (by kernel_rfl) (B1.drew.bQ hb)) (fun _ _=>rfl)) ?_;refine zA (zC0 rfl (zB5 rfl) (zB7 rfl rfl) (fun _ _ h=>h)) ?_;refine zA (zC0 rfl (zB5 rfl) (zB7 rfl rfl) (fun _ _ h=>h)) ?_;refine zA (zH8 rfl (zB5 rfl) (zB6 (j:=4) (by kernel_rfl) rfl rfl) (zB6 (j:=5) (by kernel_rfl) rfl rfl) (fun _ _ _ hx hy=>⟨_,by rw [hx,hy];exact zH9 (k:=k) underlying46 (by kernel_rfl) hltb _,rfl⟩)) ?_;refine zA (zC1 rfl (zB5 rfl) (zB6 (j:=6) (by kernel_rfl) rfl rfl) (fun w2 hb=>zP2 underlying44 rfl (by kernel_rfl) ((hb.cell (bQ0 w7 _ zb0)).trans zb0) ((hb.cell (bQ0 w7 _ zb1)).trans zb1) ((hb.cell (bQ0 w7 _ zb2)).trans zb2)) (fun _ _=>rfl)) ?_;refine zA (zD8 rfl func86 (by kernel_rfl) (zB5 rfl) (zB6 (j:=3) (by kernel_rfl) rfl rfl) (zB6 (j:=7) (by kernel_rfl) rfl rfl) (fun w2 u0 u1 hb h0 h1=>by obtain rfl:=h0;obtain rfl:=h1;exact (qN8 _ K _ y _ (k1.drew.bQ hb) (zb.drew.bQ hb) (lK.mono (by omega)) (ly.mono (by omega))).mono fun e w3 h=>qG4.pd h.n)) ?_;refine zA (zD8 rfl func134 (by kernel_rfl) (zB5 rfl) (zB6 (j:=2) (by kernel_rfl) rfl rfl) (zB6 (j:=8) (by kernel_rfl) rfl rfl) (fun w2 u0 u1 hb h0 h1=>by obtain rfl:=h0;exact (jI _ x _ (K*y) _ (ke0.drew.bQ hb) h1 (lx.mono (by omega)) (lky.mono (by omega))).mono fun e w3 h=>RetQ.pd h hb.size)) ?_;refine zA (zH8 rfl (zB5 rfl) (zB6 (j:=0) (by kernel_rfl) rfl rfl) (zB6 (j:=1) (by kernel_rfl) rfl rfl) (fun _ _ _ hx hy=>⟨_,by rw [hx,hy];exact zH9 (k:=k) underlying46 (by kernel_rfl) hlt _,rfl⟩)) ?_
                trivial
              case done9 =>
                refine fun w8 hb8 v0 h0 v1 h1 v2 h2 v3 h3 v4 h4 v5 h5 v6 h6 v7 h7 v8 h8 v9 h9 v10 h10 b hbf => ?_;obtain rfl:=h0;obtain rfl:=h1;obtain rfl:=h2;obtain rfl:=h3;obtain rfl:=h4;obtain rfl:=h5;obtain rfl:=h6;obtain rfl:=h7;obtain rfl:=h10;have q8:=h8;obtain ⟨q9,f9⟩:=h9;simp only [Act.put,zA0,zA2,zA1] at hbf;subst hbf;replace B1:=B1.bQ hb8;replace k1s:=k1s.bQ hb8;replace k1d:=k1d.bQ hb8;replace k1z:=k1z.bQ hb8;replace k1:=k1.bQ hb8;replace Be0:=Be0.bQ hb8;replace ke0s:=ke0s.bQ hb8;replace ke0d:=ke0d.bQ hb8;replace ke0z:=ke0z.bQ hb8;replace ke0:=ke0.bQ hb8;replace RN:=RN.bQ hb8;replace bb:=bb.trans (hb8.mono bb.size);have hsz8:=bb.size;have s_9:=sB;obtain ⟨u9,t9,rfl,q9,d9⟩:=q9;obtain ⟨A9,c9,rfl,_⟩:=id q9;obtain ⟨D9,e9,rfl,_⟩:=id d9;refine jI5 (j:=11) (by kernel_rfl) rfl rfl rfl rfl (g:=g) (i:=k) (q:=(x-K*y)) rfl rfl (by kernel_rfl) RN hlt q9 d9 fun w9 hg9 hP9 => ?_;replace k1s:=RN.keep hg9 k1s;replace k1d:=RN.keep hg9 k1d;replace k1z:IsZ w9 (.agg #[.bool (ngB (K).num),.slice A1 (digs 4294967296 (K).num.natAbs).length c1]) ((K).num):=⟨_,rfl,k1s⟩;replace k1:IsQ w9 (.agg #[.bool (ngB (K).num),.slice A1 (digs 4294967296 (K).num.natAbs).length c1,.slice D1 (digs 4294967296 (K).den).length e1]) (K):=⟨_,_,rfl,k1s,k1d⟩;replace B1:=B1.grown hg9 (by omega);replace ke0s:=RN.keep hg9 ke0s;replace ke0d:=RN.keep hg9 ke0d;replace ke0z:IsZ w9 (.agg #[.bool (ngB (x).num),.slice Ae0 (digs 4294967296 (x).num.natAbs).length ce0]) ((x).num):=⟨_,rfl,ke0s⟩;replace ke0:IsQ w9 (.agg #[.bool (ngB (x).num),.slice Ae0 (digs 4294967296 (x).num.natAbs).length ce0,.slice De0 (digs 4294967296 (x).den).length ee0]) (x):=⟨_,_,rfl,ke0s,ke0d⟩;replace Be0:=Be0.grown hg9 (by omega);replace bb:=bb.trans ((Below.refl _ _).grown hg9 bb.size (fun g hg=>by injection hg with hg;omega));have hsz9:=bb.size;replace RN:=hP9.1 HLK.out;clear hP9;refine zJ0 (by kernel_rfl) ?_;rw [<- HTK.out] at RN;have hsk:p.length-(k+1)<p.length-k:=by omega
                go_wp2;go_roundw;case rel=>exact ⟨k+1,by omega,RN,B1,bb,by go_num⟩
                case measure=>simp [intOf];omega
      · rw [zA7 (by rw [HRL.out];omega)] at RN
        have HRN:Hid (zD2 wr g (zJ5 p K q).length (zJ5 p K q)):=by
          show zD2 _ _ _ _
          rw [HRL.out];exact RN
        clear RN;go_wp2;go_ret2;exact ⟨g,by rw [HRL.out];rfl,HRN.out,hgw,bb⟩
theorem eqf_any (a0 a1:Value) (p q:List Rat) (b:Bool) (w:World) (h0:SlF .u64 4294967296 w a0 p) (h1:SlF .u64 4294967296 w a1 q) (hb:b=decide (p=q)) :
  Calls prog 63 #[a0,a1,.func (.func 64) #[] #[]] w (zE1 (.bool b) w):=by
 have bb:Below w.heap.size w w:=Below.refl _ _;have sl0:=h0;obtain ⟨A0,c0,rfl,hc0,hm0⟩:=h0.shape;unfold maxLen at hm0;have sl1:=h1;obtain ⟨A1,c1,rfl,hc1,hm1⟩:=h1.shape;unfold maxLen at hm1;have HB:=hQ9 hb;clear hb
 go_enter func63,ntmps63
 go_upto_region 1 with (fail)
 have hsz0:=bb.size;by_cases he:p.length=q.length
 ·have HNE:Hid ((((p.length:Nat):Int) != ((q.length:Nat):Int))=false):=by show _=_;rw [bne_eq_false_iff_eq];omega
  have HE:=hQ9 he;clear he;have sB:=bb.size;refine zC6 5 [Pd.eq (.slice A0 p.length c0),Pd.eq (.int .i64 ((p.length:Nat):Int)),Pd.eq (.slice A1 q.length c1),Pd.eq (.int .i64 ((q.length:Nat):Int)),Pd.eq (.bool false)] (by kernel_rfl) ?ob11 ?done11
  case ob11 =>
   refine zA (zC0 rfl (zB5 rfl) (zB7 rfl rfl) (fun _ _ h=>h)) ?_;refine zA (zK7 rfl (zB5 rfl) (zB6 (j:=0) (by kernel_rfl) rfl rfl) (fun _ _ hx=>⟨_,by rw [hx];exact zK8 underlying46 _ _ _ _,rfl⟩)) ?_;refine zA (zC0 rfl (zB5 rfl) (zB7 rfl rfl) (fun _ _ h=>h)) ?_;refine zA (zK7 rfl (zB5 rfl) (zB6 (j:=2) (by kernel_rfl) rfl rfl) (fun _ _ hx=>⟨_,by rw [hx];exact zK8 underlying46 _ _ _ _,rfl⟩)) ?_;refine zA (zG3 rfl (zB5 rfl) (zB6 (j:=1) (by kernel_rfl) rfl rfl) (zB6 (j:=3) (by kernel_rfl) rfl rfl) (fun _ _ _ hx hy=>⟨.bool false,by rw [hx,hy,zZ0,HNE.out],rfl⟩)) ?_
   trivial
  case done11 =>
   refine fun w2 hb2 v0 h0 v1 h1 v2 h2 v3 h3 v4 h4 b hbf => ?_;obtain rfl:=h0;obtain rfl:=h1;obtain rfl:=h2;obtain rfl:=h3;obtain rfl:=h4;simp only [Act.put,zA0,zA2,zA1] at hbf;subst hbf;replace bb:=bb.trans (hb2.mono bb.size);have hsz2:=bb.size;refine zC7 ?_;go_wp2
   go_loopw [17] (fun v17 wr => ∃ k:Nat,k<=p.length/\Hid (p.take k=q.take k)/\Below w.heap.size w wr/\v17=.int .i64 (k:Int)) (fun v17 _=>p.length-(intOf v17).toNat)
   case atStart=>exact ⟨0,by omega,rfl,bb,rfl⟩
   case round =>
    obtain ⟨k,hk,HA,hbw,rfl⟩:=hrel;clear bb;have bb:=hbw;clear hbw;have hszr:=bb.size;by_cases hlt:k<p.length
    ·have hlt2:k<q.length:=by have:=HE.out;omega
     have hneq:q≠[]:=List.length_pos_iff.1 (by omega);obtain ⟨y,hy⟩:∃ y,q[k]?=some y:=⟨_,zA3 hlt2⟩;have HY:=hQ9 hy;clear hy;obtain ⟨x,hq0_⟩:∃ x,p[k]?=some x:=⟨_,zA3 hlt⟩;obtain ⟨g0_,o0_,ue0,te0,hA0_,_,e00,e01,e02,es0,ed0⟩:=(sl0.bQ bb).at_ hq0_;subst hA0_;have HQ0:=hQ9 hq0_;clear hq0_;obtain ⟨Ae0,ce0,rfl,_⟩:=id es0;obtain ⟨De0,ee0,rfl,_⟩:=id ed0;have ke0:IsQ wr (.agg #[.bool (ngB x.num),.slice Ae0 (digs 4294967296 x.num.natAbs).length ce0,.slice De0 (digs 4294967296 x.den).length ee0]) x:=⟨_,_,rfl,es0,ed0⟩;have sB:=bb.size;go_upto_region 5 with (fail);refine zC6 5 [Pd.eq (.int .i64 (k:Int)),Pd.eq (.pointer (some ⟨g0_,o0_+k*3,none⟩)),Pd.eq (.agg #[.bool (ngB x.num),.slice Ae0 (digs 4294967296 x.num.natAbs).length ce0,.slice De0 (digs 4294967296 x.den).length ee0]),pn 44 #[.bool false,.slice none 0 0,.slice none 0 0] wr.heap.size,Pd.eq (.int .i64 (k:Int))] (by kernel_rfl) ?ob12 ?done12
     case ob12 =>
      refine zA (zC0 rfl (zB5 rfl) (zB7 rfl rfl) (fun _ _ h=>h)) ?_;refine zA (zH8 rfl (zB5 rfl) (zB7 rfl rfl) (zB7 rfl rfl) (fun _ _ _ hx hy=>⟨_,by rw [hx,hy];exact zH9 underlying46 (by kernel_rfl) hlt _,rfl⟩)) ?_;refine zA (zC1 rfl (zB5 rfl) (zB6 (j:=1) (by kernel_rfl) rfl rfl) (fun w2 hb=>zP2 underlying44 rfl (by kernel_rfl) ((hb.cell (bQ0 wr _ e00)).trans e00) ((hb.cell (bQ0 wr _ e01)).trans e01) ((hb.cell (bQ0 wr _ e02)).trans e02)) (fun _ _=>rfl)) ?_;refine zA (zM9 (z:=.agg #[.bool false,.slice none 0 0,.slice none 0 0]) rfl rfl (fun _=>by kernel_rfl) (fun _ _ hB h=>⟨_,rfl,hB,h⟩)) ?_;refine zA (zE0 rfl (zB5 rfl) (zB6 (j:=0) (by kernel_rfl) rfl rfl) (fun _ _ h=>h)) ?_
      trivial
     case done12 =>
      refine fun w4 hb4 v0 h0 v1 h1 v2 h2 v3 h3 d3 v4 h4 b hbf => ?_;obtain rfl:=h0;obtain rfl:=h1;obtain rfl:=h2;obtain rfl:=h4;obtain ⟨g12_3,rfl,hg3,B3⟩:=h3;simp only [Act.put,zA0,zA2,zA1] at hbf;subst hbf;replace es0:=es0.bQ hb4;replace ed0:=ed0.bQ hb4;replace bb:=bb.trans (hb4.mono bb.size);have hsz4:=bb.size;have BA8:=B3;have q2:=es0;have d2:=ed0;refine zG5 (i:=5) rfl rfl rfl rfl rfl rfl (cells:=[.bool (ngB (x).num),.slice Ae0 (digs 4294967296 (x).num.natAbs).length ce0,.slice De0 (digs 4294967296 (x).den).length ee0]) rfl BA8 rfl (by kernel_rfl) (zH2 rfl rfl rfl) fun w5 hg5 BN5 => ?_;replace q2:=off q2 BA8 zD3 hg5;replace d2:=off d2 BA8 zD3 hg5;replace bb:=bb.trans ((Below.refl _ _).grown hg5 bb.size (fun g hg=>by injection hg with hg;omega));have hsz5:=bb.size;have Be0:Blk w5 (g12_3) _ _:=BN5;have ke0s:=q2;have ke0d:=d2;have ke0z:IsZ w5 (.agg #[.bool (ngB (x).num),.slice Ae0 (digs 4294967296 (x).num.natAbs).length ce0]) ((x).num):=⟨_,rfl,ke0s⟩;have ke0:IsQ w5 (.agg #[.bool (ngB (x).num),.slice Ae0 (digs 4294967296 (x).num.natAbs).length ce0,.slice De0 (digs 4294967296 (x).den).length ee0]) (x):=⟨_,_,rfl,ke0s,ke0d⟩;refine zC7 ?_;obtain ⟨g1_,o1_,cp1_,hA1_,_,_,_⟩:=sl1.place hneq;injection hA1_ with e1_ _ e3_;subst e1_;subst e3_;obtain ⟨uy,ty,hlty,zy0,zy1,zy2,zys,zyd⟩:=(sl1.bQ bb).at2 HY.out;obtain ⟨Ay,cy,rfl,_⟩:=id zys;obtain ⟨Dy,ey,rfl,_⟩:=id zyd;have zy:IsQ w5 (.agg #[.bool (ngB (y).num),.slice Ay (digs 4294967296 (y).num.natAbs).length cy,.slice Dy (digs 4294967296 (y).den).length ey]) (y):=⟨_,_,rfl,zys,zyd⟩;have sB:=bb.size;go_upto_region 6 with (fail);have lt5_8:=Blk.lt Be0;refine zC6 5 [Pd.eq (.slice (some ⟨g1_,o1_,none⟩) q.length c1),Pd.eq (.int .i64 (k:Int)),Pd.eq (.pointer (some ⟨g1_,o1_+k*3,none⟩)),Pd.eq (.agg #[.bool (ngB (y).num),.slice Ay (digs 4294967296 (y).num.natAbs).length cy,.slice Dy (digs 4294967296 (y).den).length ey]),pn 44 #[.bool false,.slice none 0 0,.slice none 0 0] w5.heap.size] (by kernel_rfl) ?ob13 ?done13
      case ob13 =>
       refine zA (zC0 rfl (zB5 rfl) (zB7 rfl rfl) (fun _ _ h=>h)) ?_;refine zA (zC0 rfl (zB5 rfl) (zB7 rfl rfl) (fun _ _ h=>h)) ?_;refine zA (zH8 rfl (zB5 rfl) (zB6 (j:=0) (by kernel_rfl) rfl rfl) (zB6 (j:=1) (by kernel_rfl) rfl rfl) (fun _ _ _ hx hy=>⟨_,by rw [hx,hy];exact zH9 (k:=k) underlying46 (by kernel_rfl) hlty _,rfl⟩)) ?_;refine zA (zC1 rfl (zB5 rfl) (zB6 (j:=2) (by kernel_rfl) rfl rfl) (fun w2 hb=>zP2 underlying44 rfl (by kernel_rfl) ((hb.cell (bQ0 w5 _ zy0)).trans zy0) ((hb.cell (bQ0 w5 _ zy1)).trans zy1) ((hb.cell (bQ0 w5 _ zy2)).trans zy2)) (fun _ _=>rfl)) ?_;refine zA (zM9 (z:=.agg #[.bool false,.slice none 0 0,.slice none 0 0]) rfl rfl (fun _=>by kernel_rfl) (fun _ _ hB h=>⟨_,rfl,hB,h⟩)) ?_
       trivial
      case done13 =>
       refine fun w6 hb6 v0 h0 v1 h1 v2 h2 v3 h3 v4 h4 d4 b hbf => ?_;obtain rfl:=h0;obtain rfl:=h1;obtain rfl:=h2;obtain rfl:=h3;obtain ⟨g13_4,rfl,hg4,B4⟩:=h4;simp only [Act.put,zA0,zA2,zA1] at hbf;subst hbf;replace Be0:=Be0.bQ hb6;replace ke0s:=ke0s.bQ hb6;replace ke0d:=ke0d.bQ hb6;replace ke0z:=ke0z.bQ hb6;replace ke0:=ke0.bQ hb6;replace zys:=zys.bQ hb6;replace zyd:=zyd.bQ hb6;replace bb:=bb.trans (hb6.mono bb.size);have hsz6:=bb.size;have BA9:=B4;have q3:=zys;have d3:=zyd;refine zG5 (i:=5) rfl rfl rfl rfl rfl rfl (cells:=[.bool (ngB (y).num),.slice Ay (digs 4294967296 (y).num.natAbs).length cy,.slice Dy (digs 4294967296 (y).den).length ey]) rfl BA9 rfl (by kernel_rfl) (zH2 rfl rfl rfl) fun w7 hg7 BN7 => ?_;replace q3:=off q3 BA9 zD3 hg7;replace d3:=off d3 BA9 zD3 hg7;replace ke0s:=off ke0s BA9 zD3 hg7;replace ke0d:=off ke0d BA9 zD3 hg7;replace ke0z:IsZ w7 (.agg #[.bool (ngB (x).num),.slice Ae0 (digs 4294967296 (x).num.natAbs).length ce0]) ((x).num):=⟨_,rfl,ke0s⟩;replace ke0:IsQ w7 (.agg #[.bool (ngB (x).num),.slice Ae0 (digs 4294967296 (x).num.natAbs).length ce0,.slice De0 (digs 4294967296 (x).den).length ee0]) (x):=⟨_,_,rfl,ke0s,ke0d⟩;replace Be0:=Be0.grown hg7 (by omega);replace bb:=bb.trans ((Below.refl _ _).grown hg7 bb.size (fun g hg=>by injection hg with hg;omega));have hsz7:=bb.size;have By:Blk w7 (g13_4) _ _:=BN7;have kys:=q3;have kyd:=d3;have kyz:IsZ w7 (.agg #[.bool (ngB (y).num),.slice Ay (digs 4294967296 (y).num.natAbs).length cy]) ((y).num):=⟨_,rfl,kys⟩;have ky:IsQ w7 (.agg #[.bool (ngB (y).num),.slice Ay (digs 4294967296 (y).num.natAbs).length cy,.slice Dy (digs 4294967296 (y).den).length ey]) (y):=⟨_,_,rfl,kys,kyd⟩;refine zC7 ?_;obtain ⟨u,hu⟩:∃ u,u=decide (x=y):=⟨_,rfl⟩;have HU:=hQ9 hu;by_cases hxy:x=y
       ·have HA2:Hid (p.take (k+1)=q.take (k+1)):=by show _=_;rw [zS9 HQ0.out,zS9 HY.out,HA.out,hxy]
        rw [decide_eq_true hxy] at hu;subst hu;clear hxy;have sB:=bb.size;go_upto_region 7 with (fail);refine zC6 5 [Pd.eq (.func (.func 64) #[] #[]),Pd.eq (.agg #[.bool (ngB (x).num),.slice Ae0 (digs 4294967296 (x).num.natAbs).length ce0,.slice De0 (digs 4294967296 (x).den).length ee0]),Pd.eq (.agg #[.bool (ngB (y).num),.slice Ay (digs 4294967296 (y).num.natAbs).length cy,.slice Dy (digs 4294967296 (y).den).length ey]),Pd.eq (.bool true),Pd.eq (.bool false)] (by kernel_rfl) ?ob14 ?done14
        case ob14 =>
         refine zA (zC0 rfl (zB5 rfl) (zB7 rfl rfl) (fun _ _ h=>h)) ?_;refine zA (zC1 rfl (zB5 rfl) (zB7 rfl rfl) (fun w2 hb=>zF6 underlying44 rfl (by kernel_rfl) (Be0.bQ hb)) (fun _ _=>rfl)) ?_;refine zA (zC1 rfl (zB5 rfl) (zB7 rfl rfl) (fun w2 hb=>zF6 underlying44 rfl (by kernel_rfl) (By.bQ hb)) (fun _ _=>rfl)) ?_;refine zA (qO rfl (zB6 (j:=0) (by kernel_rfl) rfl rfl) func64 (by kernel_rfl) (zB5 rfl) (zB6 (j:=1) (by kernel_rfl) rfl rfl) (zB6 (j:=2) (by kernel_rfl) rfl rfl) (fun w2 u0 u1 hb h0 h1=>by obtain rfl:=h0;obtain rfl:=h1;exact (yJ5 _ _ x y true _ (ke0.bQ hb) (ky.bQ hb) HU.out).mono fun e w3 h=>zE1.pd h)) ?_;refine zA (zU5 rfl (zB5 rfl) (zB6 (j:=3) (by kernel_rfl) rfl rfl) (fun _=>zW _ _) (fun _=>rfl)) ?_
         trivial
        case done14 =>
         refine fun w9 hb9 v0 h0 v1 h1 v2 h2 v3 h3 v4 h4 b hbf => ?_;obtain rfl:=h0;obtain rfl:=h1;obtain rfl:=h2;obtain rfl:=h3;obtain rfl:=h4;simp only [Act.put,zA0,zA2,zA1] at hbf;subst hbf;replace Be0:=Be0.bQ hb9;replace ke0s:=ke0s.bQ hb9;replace ke0d:=ke0d.bQ hb9;replace ke0z:=ke0z.bQ hb9;replace ke0:=ke0.bQ hb9;replace By:=By.bQ hb9;replace kys:=kys.bQ hb9;replace kyd:=kyd.bQ hb9;replace kyz:=kyz.bQ hb9;replace ky:=ky.bQ hb9;replace bb:=bb.trans (hb9.mono bb.size);have hsz9:=bb.size;refine zC7 ?_;have hsk:p.length-(k+1)<p.length-k:=by omega
         go_wp2;go_roundw;case rel=>exact ⟨k+1,by omega,HA2,bb,by go_num⟩
         case measure=>simp [intOf];omega
       ·have HW:Hid (b=false):=by
         show _=_
         rw [HB.out];refine decide_eq_false fun e => ?_;have h0:=HQ0.out;rw [e,HY.out] at h0;exact hxy (Option.some.inj h0).symm
        rw [decide_eq_false hxy] at hu;subst hu;clear hxy;have sB:=bb.size;go_upto_region 7 with (fail);refine zC6 5 [Pd.eq (.func (.func 64) #[] #[]),Pd.eq (.agg #[.bool (ngB (x).num),.slice Ae0 (digs 4294967296 (x).num.natAbs).length ce0,.slice De0 (digs 4294967296 (x).den).length ee0]),Pd.eq (.agg #[.bool (ngB (y).num),.slice Ay (digs 4294967296 (y).num.natAbs).length cy,.slice Dy (digs 4294967296 (y).den).length ey]),Pd.eq (.bool false),Pd.eq (.bool true)] (by kernel_rfl) ?ob15 ?done15
        case ob15 =>
         refine zA (zC0 rfl (zB5 rfl) (zB7 rfl rfl) (fun _ _ h=>h)) ?_;refine zA (zC1 rfl (zB5 rfl) (zB7 rfl rfl) (fun w2 hb=>zF6 underlying44 rfl (by kernel_rfl) (Be0.bQ hb)) (fun _ _=>rfl)) ?_;refine zA (zC1 rfl (zB5 rfl) (zB7 rfl rfl) (fun w2 hb=>zF6 underlying44 rfl (by kernel_rfl) (By.bQ hb)) (fun _ _=>rfl)) ?_;refine zA (qO rfl (zB6 (j:=0) (by kernel_rfl) rfl rfl) func64 (by kernel_rfl) (zB5 rfl) (zB6 (j:=1) (by kernel_rfl) rfl rfl) (zB6 (j:=2) (by kernel_rfl) rfl rfl) (fun w2 u0 u1 hb h0 h1=>by obtain rfl:=h0;obtain rfl:=h1;exact (yJ5 _ _ x y false _ (ke0.bQ hb) (ky.bQ hb) HU.out).mono fun e w3 h=>zE1.pd h)) ?_;refine zA (zU5 rfl (zB5 rfl) (zB6 (j:=3) (by kernel_rfl) rfl rfl) (fun _=>zW _ _) (fun _=>rfl)) ?_
         trivial
        case done15 =>
         refine fun w9 hb9 v0 h0 v1 h1 v2 h2 v3 h3 v4 h4 b hbf => ?_;obtain rfl:=h0;obtain rfl:=h1;obtain rfl:=h2;obtain rfl:=h3;obtain rfl:=h4;simp only [Act.put,zA0,zA2,zA1] at hbf;subst hbf;replace Be0:=Be0.bQ hb9;replace ke0s:=ke0s.bQ hb9;replace ke0d:=ke0d.bQ hb9;replace ke0z:=ke0z.bQ hb9;replace ke0:=ke0.bQ hb9;replace By:=By.bQ hb9;replace kys:=kys.bQ hb9;replace kyd:=kyd.bQ hb9;replace kyz:=kyz.bQ hb9;replace ky:=ky.bQ hb9;replace bb:=bb.trans (hb9.mono bb.size);have hsz9:=bb.size;refine zC7 ?_;go_wp2;go_ret;exact ⟨by rw [HW.out];rfl,bb⟩
    ·have HW:Hid (b=true):=by
      show _=_
      rw [HB.out]
      have:=HA.out
      rw [zA7 (by omega),zA7 (by have:=HE.out;omega)] at this;exact decide_eq_true this
     go_wp2;go_ret;exact ⟨by rw [HW.out];rfl,bb⟩
 ·have HNE:Hid ((((p.length:Nat):Int) != ((q.length:Nat):Int))=true):=by show _=_;rw [bne_iff_ne];omega
  have HW:Hid (b=false):=by show _=_;rw [HB.out];exact decide_eq_false fun e=>he (by rw [e])
  clear he;have sB:=bb.size;refine zC6 5 [Pd.eq (.slice A0 p.length c0),Pd.eq (.int .i64 ((p.length:Nat):Int)),Pd.eq (.slice A1 q.length c1),Pd.eq (.int .i64 ((q.length:Nat):Int)),Pd.eq (.bool true)] (by kernel_rfl) ?ob10 ?done10
  case ob10 =>
   refine zA (zC0 rfl (zB5 rfl) (zB7 rfl rfl) (fun _ _ h=>h)) ?_;refine zA (zK7 rfl (zB5 rfl) (zB6 (j:=0) (by kernel_rfl) rfl rfl) (fun _ _ hx=>⟨_,by rw [hx];exact zK8 underlying46 _ _ _ _,rfl⟩)) ?_;refine zA (zC0 rfl (zB5 rfl) (zB7 rfl rfl) (fun _ _ h=>h)) ?_;refine zA (zK7 rfl (zB5 rfl) (zB6 (j:=2) (by kernel_rfl) rfl rfl) (fun _ _ hx=>⟨_,by rw [hx];exact zK8 underlying46 _ _ _ _,rfl⟩)) ?_;refine zA (zG3 rfl (zB5 rfl) (zB6 (j:=1) (by kernel_rfl) rfl rfl) (zB6 (j:=3) (by kernel_rfl) rfl rfl) (fun _ _ _ hx hy=>⟨.bool true,by rw [hx,hy,zZ0,HNE.out],rfl⟩)) ?_
   trivial
  case done10 =>
   refine fun w2 hb2 v0 h0 v1 h1 v2 h2 v3 h3 v4 h4 b hbf => ?_;obtain rfl:=h0;obtain rfl:=h1;obtain rfl:=h2;obtain rfl:=h3;obtain rfl:=h4;simp only [Act.put,zA0,zA2,zA1] at hbf;subst hbf;replace bb:=bb.trans (hb2.mono bb.size);have hsz2:=bb.size;refine zC7 ?_;go_wp2;go_ret;exact ⟨by rw [HW.out];rfl,bb⟩
theorem yK2 (a0 a1:Value) (p q:List Rat) (b:Bool) (w:World) (h0:SlF .u64 4294967296 w a0 p) (h1:SlF .u64 4294967296 w a1 q) (hb:b=decide (p=q)) :
  Calls prog 31 #[a0,a1] w (zE1 (.bool b) w):=by
 have bb:Below w.heap.size w w:=Below.refl _ _;have sl0:=h0;obtain ⟨A0,c0,rfl,hc0,hm0⟩:=h0.shape;unfold maxLen at hm0;have sl1:=h1;obtain ⟨A1,c1,rfl,hc1,hm1⟩:=h1.shape;unfold maxLen at hm1;have HB:=hQ9 hb;clear hb
 go_enter func31,ntmps31
 go_upto_region 1 with (fail)
 have hsz0:=bb.size;have k0:=sl0.bQ bb;have k1:=sl1.bQ bb;have sB:=bb.size;refine zC6 4 [Pd.eq (.slice A0 p.length c0),Pd.eq (.slice A1 q.length c1),Pd.eq (.bool b),Pd.eq (.bool b)] (by kernel_rfl) ?ob16 ?done16
 case ob16 =>
  refine zA (zC0 rfl (zB5 rfl) (zB7 rfl rfl) (fun _ _ h=>h)) ?_;refine zA (zC0 rfl (zB5 rfl) (zB7 rfl rfl) (fun _ _ h=>h)) ?_;refine zA (yE4 rfl func63 (by kernel_rfl) (zB5 rfl) (zB6 (j:=0) (by kernel_rfl) rfl rfl) (zB6 (j:=1) (by kernel_rfl) rfl rfl) (yK0 _) (fun w2 u0 u1 u2 hb h0 h1 h2=>by obtain rfl:=h0;obtain rfl:=h1;obtain rfl:=h2;exact (eqf_any _ _ p q b _ (k0.bQ hb) (k1.bQ hb) HB.out).mono fun e w3 h=>zE1.pd h)) ?_;refine zA (zE0 rfl (zB5 rfl) (zB6 (j:=2) (by kernel_rfl) rfl rfl) (fun _ _ h=>h)) ?_
  trivial
 case done16 =>
  refine fun w1 hb1 v0 h0 v1 h1 v2 h2 v3 h3 b hbf => ?_;obtain rfl:=h0;obtain rfl:=h1;obtain rfl:=h2;obtain rfl:=h3;simp only [Act.put,zA0,zA2,zA1] at hbf;subst hbf;replace bb:=bb.trans (hb1.mono bb.size);have hsz1:=bb.size;refine zC7 ?_;go_wp2;go_ret;exact ⟨rfl,bb⟩
theorem qO2 {t:List (List Rat)} {r:List Rat} (h:t[0]?=some r):zC t=r.length:=by
  cases t with
  | nil=>simp at h
  | cons s t =>
    obtain rfl:s=r:=by simpa using h
    rfl
theorem zR (a0:Value) (t:List (List Rat)) (w:World) (h0:SlT .u64 4294967296 w a0 t) :
  Calls prog 6 #[a0] w (zE1 (.tuple #[.int .i64 ((t.length:Nat):Int),.int .i64 ((zC t:Nat):Int)]) w):=by
 have bb:Below w.heap.size w w:=Below.refl _ _;have st0:=h0;obtain ⟨A0,c0,rfl,hc0,hm0⟩:=h0.shape;unfold maxLen at hm0
 go_enter func6,ntmps6
 go_upto_region 1 with (fail)
 have hsz0:=bb.size;by_cases hn:t=[]
 ·subst hn;have HE:Hid ((((([]:List (List Rat)).length:Nat):Int) == 0)=true):=rfl;have sB:=bb.size;refine zC6 3 [Pd.eq (.slice A0 ([]:List (List Rat)).length c0),Pd.eq (.int .i64 ((([]:List (List Rat)).length:Nat):Int)),Pd.eq (.bool true)] (by kernel_rfl) ?ob1 ?done1
  case ob1 =>
   refine zA (zC0 rfl (zB5 rfl) (zB7 rfl rfl) (fun _ _ h=>h)) ?_;refine zA (zK7 rfl (zB5 rfl) (zB6 (j:=0) (by kernel_rfl) rfl rfl) (fun _ _ hx=>⟨_,by rw [hx];exact zK8 underlying22 _ _ _ _,rfl⟩)) ?_;refine zA (zG3 rfl (zB5 rfl) (zB6 (j:=1) (by kernel_rfl) rfl rfl) (zG2 _) (fun _ _ _ hx hy=>⟨.bool true,by rw [hx,hy,zQ4,HE.out],rfl⟩)) ?_
   trivial
  case done1 =>
   refine fun w12 hb12 v0 h0 v1 h1 v2 h2 b hbf => ?_;obtain rfl:=h0;obtain rfl:=h1;obtain rfl:=h2;simp only [Act.put,zA0,zA2,zA1] at hbf;subst hbf;replace bb:=bb.trans (hb12.mono bb.size);have hsz12:=bb.size;refine zC7 ?_;go_wp2;go_ret2;exact ⟨rfl,bb⟩
 ·have hl0:0<t.length:=List.length_pos_iff.2 hn;obtain ⟨r,hr⟩:∃ r,t[0]?=some r:=⟨_,zA3 hl0⟩;have HE:Hid ((((t.length:Nat):Int) == 0)=false):=by show _=_;rw [beq_eq_false_iff_ne];omega
  have HW:Hid (r.length=zC t):=(qO2 hr).symm;obtain ⟨ad0,rfl⟩:=st0.place hn;obtain ⟨Arr,crr,hir,ewr,srr⟩:=st0.at2 hr;clear hr;have sB:=bb.size;refine zC6 3 [Pd.eq (.slice (some ad0) t.length c0),Pd.eq (.int .i64 ((t.length:Nat):Int)),Pd.eq (.bool false)] (by kernel_rfl) ?ob2 ?done2
  case ob2 =>
   refine zA (zC0 rfl (zB5 rfl) (zB7 rfl rfl) (fun _ _ h=>h)) ?_;refine zA (zK7 rfl (zB5 rfl) (zB6 (j:=0) (by kernel_rfl) rfl rfl) (fun _ _ hx=>⟨_,by rw [hx];exact zK8 underlying22 _ _ _ _,rfl⟩)) ?_;refine zA (zG3 rfl (zB5 rfl) (zB6 (j:=1) (by kernel_rfl) rfl rfl) (zG2 _) (fun _ _ _ hx hy=>⟨.bool false,by rw [hx,hy,zQ4,HE.out],rfl⟩)) ?_
   trivial
  case done2 =>
   refine fun w12 hb12 v0 h0 v1 h1 v2 h2 b hbf => ?_;obtain rfl:=h0;obtain rfl:=h1;obtain rfl:=h2;simp only [Act.put,zA0,zA2,zA1] at hbf;subst hbf;replace bb:=bb.trans (hb12.mono bb.size);have hsz12:=bb.size;refine zC7 ?_;have ecr:=(bb.cell (bQ0 w _ ewr)).trans ewr;have sB:=bb.size;go_upto_region 3 with (fail);refine flow 8 [Pd.eq (.slice (some ad0) t.length c0),Pd.eq (.int .i64 ((t.length:Nat):Int)),Pd.eq (.slice (some ad0) t.length c0),Pd.eq (.pointer (some (ad0.add 0))),Pd.eq (.slice Arr r.length crr),Pd.eq (.int .i64 ((r.length:Nat):Int)),Pd.eq (.int .i64 ((t.length:Nat):Int)),Pd.eq (.int .i64 ((r.length:Nat):Int))] (by kernel_rfl) (by kernel_rfl) ?ob3 ?done3
   case ob3 =>
    refine zA (zC0 rfl (zB5 rfl) (zB7 rfl rfl) (fun _ _ h=>h)) ?_;refine zA (zK7 rfl (zB5 rfl) (zB6 (j:=0) (by kernel_rfl) rfl rfl) (fun _ _ hx=>⟨_,by rw [hx];exact zK8 underlying22 _ _ _ _,rfl⟩)) ?_;refine zA (zC0 rfl (zB5 rfl) (zB7 rfl rfl) (fun _ _ h=>h)) ?_;refine zA (zH8 rfl (zB5 rfl) (zB6 (j:=2) (by kernel_rfl) rfl rfl) (zG2 _) (fun _ _ _ hx hy=>⟨_,by rw [hx,hy];exact qH2 (k:=0) underlying22 (by kernel_rfl) ad0 hir _,rfl⟩)) ?_;refine zA (zC1 rfl (zB5 rfl) (zB6 (j:=3) (by kernel_rfl) rfl rfl) (fun w2 hb=>zD underlying46 rfl ((hb.cell (bQ0 w12 _ ecr)).trans ecr)) (fun _ _=>rfl)) ?_;refine zA (zK7 rfl (zB5 rfl) (zB6 (j:=4) (by kernel_rfl) rfl rfl) (fun _ _ hx=>⟨_,by rw [hx];exact zK8 underlying46 _ _ _ _,rfl⟩)) ?_;refine zA (zE0 rfl (zB5 rfl) (zB6 (j:=1) (by kernel_rfl) rfl rfl) (fun _ _ h=>h)) ?_;refine zA (zE0 rfl (zB5 rfl) (zB6 (j:=5) (by kernel_rfl) rfl rfl) (fun _ _ h=>h)) ?_
    trivial
   case done3 =>
    refine fun w13 hb13 v0 h0 v1 h1 v2 h2 v3 h3 v4 h4 v5 h5 v6 h6 v7 h7 b hbf => ?_;obtain rfl:=h0;obtain rfl:=h1;obtain rfl:=h2;obtain rfl:=h3;obtain rfl:=h4;obtain rfl:=h5;obtain rfl:=h6;obtain rfl:=h7;simp only [Act.put,zA0,zA2,zA1] at hbf;subst hbf;replace bb:=bb.trans (hb13.mono bb.size);have hsz13:=bb.size;refine zJ0 (by kernel_rfl) ?_;go_wp2;go_ret2;exact ⟨by rw [HW.out];rfl,bb⟩
theorem yK3 (a0 a1:Value) (p q:List (List Rat)) (b:Bool) (w:World) (h0:SlT .u64 4294967296 w a0 p) (h1:SlT .u64 4294967296 w a1 q) (hb:b=decide (zC p=q.length)) :
  Calls prog 26 #[a0,a1] w (zE1 (.bool b) w):=by
 have bb:Below w.heap.size w w:=Below.refl _ _;have st0:=h0;obtain ⟨A0,c0,rfl,hc0,hm0⟩:=h0.shape;unfold maxLen at hm0;have st1:=h1;obtain ⟨A1,c1,rfl,hc1,hm1⟩:=h1.shape;unfold maxLen at hm1
 have HB:Hid ((((zC p:Nat):Int) == ((q.length:Nat):Int))=b):=by
  show _=_
  rw [hb];by_cases h:zC p=q.length
  ·rw [decide_eq_true h,h];exact beq_self_eq_true _
  ·rw [decide_eq_false h,beq_eq_false_iff_ne];omega
 clear hb
 go_enter func26,ntmps26
 go_upto_region 1 with (fail)
 have hsz0:=bb.size;have sB:=bb.size;refine zC6 7 [Pd.eq (.slice A0 p.length c0),Pd.eq (.tuple #[.int .i64 ((p.length:Nat):Int),.int .i64 ((zC p:Nat):Int)]),Pd.eq (.tuple #[.int .i64 ((p.length:Nat):Int),.int .i64 ((zC p:Nat):Int)]),Pd.eq (.int .i64 ((p.length:Nat):Int)),Pd.eq (.int .i64 ((zC p:Nat):Int)),Pd.eq (.int .i64 ((p.length:Nat):Int)),Pd.eq (.int .i64 ((zC p:Nat):Int))] (by kernel_rfl) ?ob7 ?done7
 case ob7 =>
  refine zA (zC0 rfl (zB5 rfl) (zB7 rfl rfl) (fun _ _ h=>h)) ?_;refine zA (zE8 rfl func6 (by kernel_rfl) (zB5 rfl) (zB6 (j:=0) (by kernel_rfl) rfl rfl) (fun w2 u0 hb h0=>by obtain rfl:=h0;exact (zR _ p _ ((st0.bQ bb).bQ hb)).mono fun e w3 h=>zE1.pd h)) ?_;refine zA (zC0 rfl (zB5 rfl) (zB6 (j:=1) (by kernel_rfl) rfl rfl) (fun _ _ h=>h)) ?_;refine zA (zF9 rfl (zB5 rfl) (zB6 (j:=2) (by kernel_rfl) rfl rfl) (fun w2 u hu=>by obtain rfl:=hu;exact ⟨_,rfl,rfl⟩)) ?_;refine zA (zF9 rfl (zB5 rfl) (zB6 (j:=2) (by kernel_rfl) rfl rfl) (fun w2 u hu=>by obtain rfl:=hu;exact ⟨_,rfl,rfl⟩)) ?_;refine zA (zE0 rfl (zB5 rfl) (zB6 (j:=3) (by kernel_rfl) rfl rfl) (fun _ _ h=>h)) ?_;refine zA (zE0 rfl (zB5 rfl) (zB6 (j:=4) (by kernel_rfl) rfl rfl) (fun _ _ h=>h)) ?_
  trivial
 case done7 =>
  refine fun w11 hb11 v0 h0 v1 h1 v2 h2 v3 h3 v4 h4 v5 h5 v6 h6 b hbf => ?_;obtain rfl:=h0;obtain rfl:=h1;obtain rfl:=h2;obtain rfl:=h3;obtain rfl:=h4;obtain rfl:=h5;obtain rfl:=h6;simp only [Act.put,zA0,zA2,zA1] at hbf;subst hbf;replace bb:=bb.trans (hb11.mono bb.size);have hsz11:=bb.size;refine zC7 ?_;have sB:=bb.size;go_upto_region 2 with (fail);refine zC6 5 [Pd.eq (.int .i64 ((zC p:Nat):Int)),Pd.eq (.slice A1 q.length c1),Pd.eq (.int .i64 ((q.length:Nat):Int)),Pd.eq (.bool b),Pd.eq (.bool b)] (by kernel_rfl) ?ob8 ?done8
  case ob8 =>
   refine zA (zC0 rfl (zB5 rfl) (zB7 rfl rfl) (fun _ _ h=>h)) ?_;refine zA (zC0 rfl (zB5 rfl) (zB7 rfl rfl) (fun _ _ h=>h)) ?_;refine zA (zK7 rfl (zB5 rfl) (zB6 (j:=1) (by kernel_rfl) rfl rfl) (fun _ _ hx=>⟨_,by rw [hx];exact zK8 underlying22 _ _ _ _,rfl⟩)) ?_;refine zA (zG3 rfl (zB5 rfl) (zB6 (j:=0) (by kernel_rfl) rfl rfl) (zB6 (j:=2) (by kernel_rfl) rfl rfl) (fun _ _ _ hx hy=>⟨.bool b,by rw [hx,hy,zQ4,HB.out],rfl⟩)) ?_;refine zA (zE0 rfl (zB5 rfl) (zB6 (j:=3) (by kernel_rfl) rfl rfl) (fun _ _ h=>h)) ?_
   trivial
  case done8 =>
   refine fun w12 hb12 v0 h0 v1 h1 v2 h2 v3 h3 v4 h4 b hbf => ?_;obtain rfl:=h0;obtain rfl:=h1;obtain rfl:=h2;obtain rfl:=h3;obtain rfl:=h4;simp only [Act.put,zA0,zA2,zA1] at hbf;subst hbf;replace bb:=bb.trans (hb12.mono bb.size);have hsz12:=bb.size;refine zC7 ?_;go_wp2;go_ret;exact ⟨rfl,bb⟩
theorem eqt_any (a0 a1:Value) (p q:List (List Rat)) (b:Bool) (w:World) (h0:SlT .u64 4294967296 w a0 p) (h1:SlT .u64 4294967296 w a1 q) (hb:b=decide (p=q)) :
  Calls prog 30 #[a0,a1,.func (.func 31) #[] #[]] w (zE1 (.bool b) w):=by
 have bb:Below w.heap.size w w:=Below.refl _ _;have st0:=h0;obtain ⟨A0,c0,rfl,hc0,hm0⟩:=h0.shape;unfold maxLen at hm0;have st1:=h1;obtain ⟨A1,c1,rfl,hc1,hm1⟩:=h1.shape;unfold maxLen at hm1;have HB:=hQ9 hb;clear hb
 go_enter func30,ntmps30
 go_upto_region 1 with (fail)
 have hsz0:=bb.size;by_cases he:p.length=q.length
 ·have HNE:Hid ((((p.length:Nat):Int) != ((q.length:Nat):Int))=false):=by show _=_;rw [bne_eq_false_iff_eq];omega
  have HE:=hQ9 he;clear he;have sB:=bb.size;refine zC6 5 [Pd.eq (.slice A0 p.length c0),Pd.eq (.int .i64 ((p.length:Nat):Int)),Pd.eq (.slice A1 q.length c1),Pd.eq (.int .i64 ((q.length:Nat):Int)),Pd.eq (.bool false)] (by kernel_rfl) ?ob15 ?done15
  case ob15 =>
   refine zA (zC0 rfl (zB5 rfl) (zB7 rfl rfl) (fun _ _ h=>h)) ?_;refine zA (zK7 rfl (zB5 rfl) (zB6 (j:=0) (by kernel_rfl) rfl rfl) (fun _ _ hx=>⟨_,by rw [hx];exact zK8 underlying22 _ _ _ _,rfl⟩)) ?_;refine zA (zC0 rfl (zB5 rfl) (zB7 rfl rfl) (fun _ _ h=>h)) ?_;refine zA (zK7 rfl (zB5 rfl) (zB6 (j:=2) (by kernel_rfl) rfl rfl) (fun _ _ hx=>⟨_,by rw [hx];exact zK8 underlying22 _ _ _ _,rfl⟩)) ?_;refine zA (zG3 rfl (zB5 rfl) (zB6 (j:=1) (by kernel_rfl) rfl rfl) (zB6 (j:=3) (by kernel_rfl) rfl rfl) (fun _ _ _ hx hy=>⟨.bool false,by rw [hx,hy,zZ0,HNE.out],rfl⟩)) ?_
   trivial
  case done15 =>
   refine fun w12 hb12 v0 h0 v1 h1 v2 h2 v3 h3 v4 h4 b hbf => ?_;obtain rfl:=h0;obtain rfl:=h1;obtain rfl:=h2;obtain rfl:=h3;obtain rfl:=h4;simp only [Act.put,zA0,zA2,zA1] at hbf;subst hbf;replace bb:=bb.trans (hb12.mono bb.size);have hsz12:=bb.size;refine zC7 ?_;go_wp2
   go_loopw [17] (fun v17 wr => ∃ k:Nat,k<=p.length/\Hid (p.take k=q.take k)/\Below w.heap.size w wr/\v17=.int .i64 (k:Int)) (fun v17 _=>p.length-(intOf v17).toNat)
   case atStart=>exact ⟨0,by omega,rfl,bb,rfl⟩
   case round =>
    obtain ⟨k,hk,HA,hbw,rfl⟩:=hrel;clear bb;have bb:=hbw;clear hbw;have hszr:=bb.size;by_cases hlt:k<p.length
    ·have hlt2:k<q.length:=by have:=HE.out;omega
     have hnp:p≠[]:=List.length_pos_iff.1 (by omega);have hnq:q≠[]:=List.length_pos_iff.1 (by omega);obtain ⟨x,hx⟩:∃ x,p[k]?=some x:=⟨_,zA3 hlt⟩;obtain ⟨y,hy⟩:∃ y,q[k]?=some y:=⟨_,zA3 hlt2⟩;have HX:=hQ9 hx;have HY:=hQ9 hy;obtain ⟨ad0,rfl⟩:=st0.place hnp;obtain ⟨ad1,rfl⟩:=st1.place hnq;obtain ⟨Arx,crx,hix,ewx,srx⟩:=st0.at2 hx;obtain ⟨Ary,cry,hiy,ewy,sry⟩:=st1.at2 hy;clear hx hy;have ecx:=(bb.cell (bQ0 w _ ewx)).trans ewx;have ecy:=(bb.cell (bQ0 w _ ewy)).trans ewy;have sB:=bb.size;go_upto_region 5 with (fail);refine zC6 5 [Pd.eq (.int .i64 (k:Int)),Pd.eq (.pointer (some (ad0.add k))),Pd.eq (.slice Arx x.length crx),Pd.eq (.int .i64 (k:Int)),Pd.eq (.slice Arx x.length crx)] (by kernel_rfl) ?ob16 ?done16
     case ob16 =>
      refine zA (zC0 rfl (zB5 rfl) (zB7 rfl rfl) (fun _ _ h=>h)) ?_;refine zA (zH8 rfl (zB5 rfl) (zB7 rfl rfl) (zB7 rfl rfl) (fun _ _ _ hx hy=>⟨_,by rw [hx,hy];exact qH2 (k:=k) underlying22 (by kernel_rfl) ad0 hlt _,rfl⟩)) ?_;refine zA (zC1 rfl (zB5 rfl) (zB6 (j:=1) (by kernel_rfl) rfl rfl) (fun w2 hb=>zD underlying46 rfl ((hb.cell (bQ0 wr _ ecx)).trans ecx)) (fun _ _=>rfl)) ?_;refine zA (zE0 rfl (zB5 rfl) (zB6 (j:=0) (by kernel_rfl) rfl rfl) (fun _ _ h=>h)) ?_;refine zA (zE0 rfl (zB5 rfl) (zB6 (j:=2) (by kernel_rfl) rfl rfl) (fun _ _ h=>h)) ?_
      trivial
     case done16 =>
      refine fun w14 hb14 v0 h0 v1 h1 v2 h2 v3 h3 v4 h4 b hbf => ?_;obtain rfl:=h0;obtain rfl:=h1;obtain rfl:=h2;obtain rfl:=h3;obtain rfl:=h4;simp only [Act.put,zA0,zA2,zA1] at hbf;subst hbf;replace bb:=bb.trans (hb14.mono bb.size);have hsz14:=bb.size;refine zC7 ?_;clear ecx ecy;have ecy:=(bb.cell (bQ0 w _ ewy)).trans ewy;have sB:=bb.size;go_upto_region 6 with (fail);refine zC6 5 [Pd.eq (.slice (some ad1) q.length c1),Pd.eq (.int .i64 (k:Int)),Pd.eq (.pointer (some (ad1.add k))),Pd.eq (.slice Ary y.length cry),Pd.eq (.slice Ary y.length cry)] (by kernel_rfl) ?ob17 ?done17
      case ob17 =>
       refine zA (zC0 rfl (zB5 rfl) (zB7 rfl rfl) (fun _ _ h=>h)) ?_;refine zA (zC0 rfl (zB5 rfl) (zB7 rfl rfl) (fun _ _ h=>h)) ?_;refine zA (zH8 rfl (zB5 rfl) (zB6 (j:=0) (by kernel_rfl) rfl rfl) (zB6 (j:=1) (by kernel_rfl) rfl rfl) (fun _ _ _ hx hy=>⟨_,by rw [hx,hy];exact qH2 (k:=k) underlying22 (by kernel_rfl) ad1 hlt2 _,rfl⟩)) ?_;refine zA (zC1 rfl (zB5 rfl) (zB6 (j:=2) (by kernel_rfl) rfl rfl) (fun w2 hb=>zD underlying46 rfl ((hb.cell (bQ0 w14 _ ecy)).trans ecy)) (fun _ _=>rfl)) ?_;refine zA (zE0 rfl (zB5 rfl) (zB6 (j:=3) (by kernel_rfl) rfl rfl) (fun _ _ h=>h)) ?_
       trivial
      case done17 =>
       refine fun w15 hb15 v0 h0 v1 h1 v2 h2 v3 h3 v4 h4 b hbf => ?_;obtain rfl:=h0;obtain rfl:=h1;obtain rfl:=h2;obtain rfl:=h3;obtain rfl:=h4;simp only [Act.put,zA0,zA2,zA1] at hbf;subst hbf;replace bb:=bb.trans (hb15.mono bb.size);have hsz15:=bb.size;refine zC7 ?_;obtain ⟨u,hu⟩:∃ u,u=decide (x=y):=⟨_,rfl⟩;have HU:=hQ9 hu;by_cases hxy:x=y
       ·have HA2:Hid (p.take (k+1)=q.take (k+1)):=by show _=_;rw [bQ9,bQ9,HX.out,HY.out,HA.out,hxy]
        rw [decide_eq_true hxy] at hu;subst hu;clear hxy;have sB:=bb.size;go_upto_region 7 with (fail);refine zC6 5 [Pd.eq (.func (.func 31) #[] #[]),Pd.eq (.slice Arx x.length crx),Pd.eq (.slice Ary y.length cry),Pd.eq (.bool true),Pd.eq (.bool false)] (by kernel_rfl) ?ob18 ?done18
        case ob18 =>
         refine zA (zC0 rfl (zB5 rfl) (zB7 rfl rfl) (fun _ _ h=>h)) ?_;refine zA (zC0 rfl (zB5 rfl) (zB7 rfl rfl) (fun _ _ h=>h)) ?_;refine zA (zC0 rfl (zB5 rfl) (zB7 rfl rfl) (fun _ _ h=>h)) ?_;refine zA (qO rfl (zB6 (j:=0) (by kernel_rfl) rfl rfl) func31 (by kernel_rfl) (zB5 rfl) (zB6 (j:=1) (by kernel_rfl) rfl rfl) (zB6 (j:=2) (by kernel_rfl) rfl rfl) (fun w2 u0 u1 hb h0 h1=>by obtain rfl:=h0;obtain rfl:=h1;exact (yK2 _ _ x y true _ ((srx.bQ bb).bQ hb) ((sry.bQ bb).bQ hb) HU.out).mono fun e w3 h=>zE1.pd h)) ?_;refine zA (zU5 rfl (zB5 rfl) (zB6 (j:=3) (by kernel_rfl) rfl rfl) (fun _=>zW _ _) (fun _=>rfl)) ?_
         trivial
        case done18 =>
         refine fun w17 hb17 v0 h0 v1 h1 v2 h2 v3 h3 v4 h4 b hbf => ?_;obtain rfl:=h0;obtain rfl:=h1;obtain rfl:=h2;obtain rfl:=h3;obtain rfl:=h4;simp only [Act.put,zA0,zA2,zA1] at hbf;subst hbf;replace bb:=bb.trans (hb17.mono bb.size);have hsz17:=bb.size;refine zC7 ?_;have hsk:p.length-(k+1)<p.length-k:=by omega
         go_wp2;go_roundw;case rel=>exact ⟨k+1,by omega,HA2,bb,by go_num⟩
         case measure=>simp [intOf];omega
       ·have HW:Hid (b=false):=by
         show _=_
         rw [HB.out];refine decide_eq_false fun e => ?_;have h0:=HX.out;rw [e,HY.out] at h0;exact hxy (Option.some.inj h0).symm
        rw [decide_eq_false hxy] at hu;subst hu;clear hxy;have sB:=bb.size;go_upto_region 7 with (fail);refine zC6 5 [Pd.eq (.func (.func 31) #[] #[]),Pd.eq (.slice Arx x.length crx),Pd.eq (.slice Ary y.length cry),Pd.eq (.bool false),Pd.eq (.bool true)] (by kernel_rfl) ?ob19 ?done19
        case ob19 =>
         refine zA (zC0 rfl (zB5 rfl) (zB7 rfl rfl) (fun _ _ h=>h)) ?_;refine zA (zC0 rfl (zB5 rfl) (zB7 rfl rfl) (fun _ _ h=>h)) ?_;refine zA (zC0 rfl (zB5 rfl) (zB7 rfl rfl) (fun _ _ h=>h)) ?_;refine zA (qO rfl (zB6 (j:=0) (by kernel_rfl) rfl rfl) func31 (by kernel_rfl) (zB5 rfl) (zB6 (j:=1) (by kernel_rfl) rfl rfl) (zB6 (j:=2) (by kernel_rfl) rfl rfl) (fun w2 u0 u1 hb h0 h1=>by obtain rfl:=h0;obtain rfl:=h1;exact (yK2 _ _ x y false _ ((srx.bQ bb).bQ hb) ((sry.bQ bb).bQ hb) HU.out).mono fun e w3 h=>zE1.pd h)) ?_;refine zA (zU5 rfl (zB5 rfl) (zB6 (j:=3) (by kernel_rfl) rfl rfl) (fun _=>zW _ _) (fun _=>rfl)) ?_
         trivial
        case done19 =>
         refine fun w17 hb17 v0 h0 v1 h1 v2 h2 v3 h3 v4 h4 b hbf => ?_;obtain rfl:=h0;obtain rfl:=h1;obtain rfl:=h2;obtain rfl:=h3;obtain rfl:=h4;simp only [Act.put,zA0,zA2,zA1] at hbf;subst hbf;replace bb:=bb.trans (hb17.mono bb.size);have hsz17:=bb.size;refine zC7 ?_;go_wp2;go_ret;exact ⟨by rw [HW.out];rfl,bb⟩
    ·have HW:Hid (b=true):=by
      show _=_
      rw [HB.out]
      have:=HA.out
      rw [zA7 (by omega),zA7 (by have:=HE.out;omega)] at this;exact decide_eq_true this
     go_wp2;go_ret;exact ⟨by rw [HW.out];rfl,bb⟩
 ·have HNE:Hid ((((p.length:Nat):Int) != ((q.length:Nat):Int))=true):=by show _=_;rw [bne_iff_ne];omega
  have HW:Hid (b=false):=by show _=_;rw [HB.out];exact decide_eq_false fun e=>he (by rw [e])
  clear he;have sB:=bb.size;refine zC6 5 [Pd.eq (.slice A0 p.length c0),Pd.eq (.int .i64 ((p.length:Nat):Int)),Pd.eq (.slice A1 q.length c1),Pd.eq (.int .i64 ((q.length:Nat):Int)),Pd.eq (.bool true)] (by kernel_rfl) ?ob14 ?done14
  case ob14 =>
   refine zA (zC0 rfl (zB5 rfl) (zB7 rfl rfl) (fun _ _ h=>h)) ?_;refine zA (zK7 rfl (zB5 rfl) (zB6 (j:=0) (by kernel_rfl) rfl rfl) (fun _ _ hx=>⟨_,by rw [hx];exact zK8 underlying22 _ _ _ _,rfl⟩)) ?_;refine zA (zC0 rfl (zB5 rfl) (zB7 rfl rfl) (fun _ _ h=>h)) ?_;refine zA (zK7 rfl (zB5 rfl) (zB6 (j:=2) (by kernel_rfl) rfl rfl) (fun _ _ hx=>⟨_,by rw [hx];exact zK8 underlying22 _ _ _ _,rfl⟩)) ?_;refine zA (zG3 rfl (zB5 rfl) (zB6 (j:=1) (by kernel_rfl) rfl rfl) (zB6 (j:=3) (by kernel_rfl) rfl rfl) (fun _ _ _ hx hy=>⟨.bool true,by rw [hx,hy,zZ0,HNE.out],rfl⟩)) ?_
   trivial
  case done14 =>
   refine fun w12 hb12 v0 h0 v1 h1 v2 h2 v3 h3 v4 h4 b hbf => ?_;obtain rfl:=h0;obtain rfl:=h1;obtain rfl:=h2;obtain rfl:=h3;obtain rfl:=h4;simp only [Act.put,zA0,zA2,zA1] at hbf;subst hbf;replace bb:=bb.trans (hb12.mono bb.size);have hsz12:=bb.size;refine zC7 ?_;go_wp2;go_ret;exact ⟨by rw [HW.out];rfl,bb⟩
theorem yK4 (a0 a1:Value) (p q:List (List Rat)) (b:Bool) (w:World) (h0:SlT .u64 4294967296 w a0 p) (h1:SlT .u64 4294967296 w a1 q) (hb:b=decide (p=q)) :
  Calls prog 10 #[a0,a1] w (zE1 (.bool b) w):=by
 have bb:Below w.heap.size w w:=Below.refl _ _;have st0:=h0;obtain ⟨A0,c0,rfl,hc0,hm0⟩:=h0.shape;unfold maxLen at hm0;have st1:=h1;obtain ⟨A1,c1,rfl,hc1,hm1⟩:=h1.shape;unfold maxLen at hm1;have HB:=hQ9 hb;clear hb
 go_enter func10,ntmps10
 go_upto_region 1 with (fail)
 have hsz0:=bb.size;have sB:=bb.size;refine zC6 4 [Pd.eq (.slice A0 p.length c0),Pd.eq (.slice A1 q.length c1),Pd.eq (.bool b),Pd.eq (.bool b)] (by kernel_rfl) ?ob20 ?done20
 case ob20 =>
  refine zA (zC0 rfl (zB5 rfl) (zB7 rfl rfl) (fun _ _ h=>h)) ?_;refine zA (zC0 rfl (zB5 rfl) (zB7 rfl rfl) (fun _ _ h=>h)) ?_;refine zA (yE4 rfl func30 (by kernel_rfl) (zB5 rfl) (zB6 (j:=0) (by kernel_rfl) rfl rfl) (zB6 (j:=1) (by kernel_rfl) rfl rfl) (yK0 _) (fun w2 u0 u1 u2 hb h0 h1 h2=>by obtain rfl:=h0;obtain rfl:=h1;obtain rfl:=h2;exact (eqt_any _ _ p q b _ ((st0.bQ bb).bQ hb) ((st1.bQ bb).bQ hb) HB.out).mono fun e w3 h=>zE1.pd h)) ?_;refine zA (zE0 rfl (zB5 rfl) (zB6 (j:=2) (by kernel_rfl) rfl rfl) (fun _ _ h=>h)) ?_
  trivial
 case done20 =>
  refine fun w11 hb11 v0 h0 v1 h1 v2 h2 v3 h3 b hbf => ?_;obtain rfl:=h0;obtain rfl:=h1;obtain rfl:=h2;obtain rfl:=h3;simp only [Act.put,zA0,zA2,zA1] at hbf;subst hbf;replace bb:=bb.trans (hb11.mono bb.size);have hsz11:=bb.size;refine zC7 ?_;go_wp2;go_ret;exact ⟨rfl,bb⟩
theorem jK (a0:Value) (g n:Nat) (r:List Rat) (b:Bool) (w:World) (h0:SlF .u64 4294967296 w a0 r) (hB:Blk w g 3 #[.int .i64 (n:Int)]) (hb:b=decide (r.length≠n)) :
  Calls prog 59 #[a0,.pointer (some ⟨g,0,none⟩)] w (zE1 (.bool b) w):=by
 obtain ⟨A,c,rfl,_⟩:=h0.shape;have c0:=hB.cell 0
 have HB:Hid ((((r.length:Nat):Int) != (n:Int))=b):=by
  show _=_
  rw [hb];by_cases h:r.length=n
  ·rw [decide_eq_false (fun k=>k h),h];exact bne_self_eq_false _
  ·rw [decide_eq_true h,bne_iff_ne];omega
 clear hb
 go_enter func59,ntmps59
 go_wp2;go_ret;exact ⟨by rw [<- HB.out];rfl,Below.refl _ _⟩
def RetIdx (b:Bool) (w:World) (e:Ending) (w':World):Prop:=∃ n:Int,e=.returned (.int .i64 n)/\decide (0<=n)=b/\Below w.heap.size w w'
theorem jK0 (a0:Value) (g n:Nat) (t:List (List Rat)) (b:Bool) (w:World) (h0:SlT .u64 4294967296 w a0 t) (hB:Blk w g 3 #[.int .i64 (n:Int)]) (hb:b=decide (∃ r∈t,r.length≠n)) :
  Calls prog 94 #[a0,.func (.func 59) #[] #[.pointer (some ⟨g,0,none⟩)]] w (RetIdx b w):=by
 have st0:=h0;obtain ⟨A,c,rfl,hc,hm⟩:=h0.shape;unfold maxLen at hm;have HB:=hQ9 hb;clear hb
 go_enter func94,ntmps94
 go_wp2
 go_loopw [8] (fun v8 wr => ∃ k:Nat,k<=t.length/\Hid (∀ r∈t.take k,r.length=n)/\Below w.heap.size w wr/\v8=.int .i64 (k:Int)) (fun v8 _=>t.length-(intOf v8).toNat)
 case atStart=>exact ⟨0,by omega,(by show ∀ r∈_,_;intro r hr;simp at hr),Below.refl _ _,rfl⟩
 case round =>
  obtain ⟨k,hk,HA,bb,rfl⟩:=hrel;by_cases hlt:k<t.length
  ·have hnt:t≠[]:=List.length_pos_iff.1 (by omega);obtain ⟨x,hx⟩:∃ x,t[k]?=some x:=⟨_,zA3 hlt⟩;have HX:=hQ9 hx;obtain ⟨ad,rfl⟩:=st0.place hnt;obtain ⟨Ar,cr,hi,ec,sr⟩:=(st0.bQ bb).at2 hx;have hBr:=hB.bQ bb;clear hx;obtain ⟨u,hu⟩:∃ u,u=decide (x.length≠n):=⟨_,rfl⟩
   go_wp2_with fail
   refine (jK _ g n x u _ sr hBr hu).mono ?_;rintro e w2 ⟨rfl,b2⟩;have bb2:=bb.trans (b2.mono bb.size);by_cases hxn:x.length=n
   ·obtain rfl:u=false:=by rw [hu];exact decide_eq_false fun k=>k hxn
    have HA2:Hid (∀ r∈t.take (k+1),r.length=n):=by
     show ∀ r∈_,_
     intro r hr;rw [bQ9,HX.out] at hr;rcases List.mem_append.1 hr with hr | hr
     ·exact HA.out r hr
     ·obtain rfl:r=x:=by simpa using hr
      exact hxn
    have hsk:t.length-(k+1)<t.length-k:=by omega
    clear hu ec sr hBr;go_wp2;go_roundw;case rel=>exact ⟨k+1,by omega,HA2,bb2,by go_num⟩
    case measure=>simp [intOf];omega
   ·obtain rfl:u=true:=by rw [hu];exact decide_eq_true hxn
    have HW:Hid (b=true):=by
     show _=_
     rw [HB.out];exact decide_eq_true ⟨x,zA5 HX.out,hxn⟩
    clear hu ec sr hBr;go_wp2;go_ret;exact ⟨(k:Int),rfl,by rw [HW.out];exact decide_eq_true (by omega),bb2⟩
  ·have HW:Hid (b=false):=by
    show _=_
    rw [HB.out];refine decide_eq_false fun h => ?_;obtain ⟨r,hr,hn⟩:=h;have h1:=HA.out;rw [zA7 (by omega)] at h1;exact hn (h1 r hr)
   go_wp2;go_ret;exact ⟨-1,rfl,by rw [HW.out];rfl,bb⟩
theorem jK1 (a0:Value) (g n:Nat) (t:List (List Rat)) (b:Bool) (w:World) (h0:SlT .u64 4294967296 w a0 t) (hB:Blk w g 3 #[.int .i64 (n:Int)]) (hb:b=decide (∃ r∈t,r.length≠n)) :
  Calls prog 58 #[a0,.func (.func 59) #[] #[.pointer (some ⟨g,0,none⟩)]] w (zE1 (.bool b) w):=by
 have st0:=h0;obtain ⟨A,c,rfl,hc,hm⟩:=h0.shape;unfold maxLen at hm
 go_enter func58,ntmps58;go_wp2_with fail
 refine (jK0 _ g n t b _ st0 hB hb).mono ?_;rintro e w2 ⟨m,rfl,hm2,b2⟩;have HM:=hQ9 hm2;clear hm2 hb;go_wp2;go_ret;exact ⟨by rw [<- HM.out];rfl,b2⟩
theorem zW9 (a0:Value) (t:List (List Rat)) (b:Bool) (w:World) (h0:SlT .u64 4294967296 w a0 t) (hb:b=decide (zF5 t)) :
  Calls prog 25 #[a0] w (zE1 (.bool b) w):=by
 have st0:=h0;obtain ⟨A,c,rfl,hc,hm⟩:=h0.shape;unfold maxLen at hm
 have hwl:zC t<=9223372036854775807:=by
  by_cases hn:t=[]
  ·rw [hn];show 0<=_;omega
  ·obtain ⟨r,hr⟩:∃ r,t[0]?=some r:=⟨_,zA3 (List.length_pos_iff.2 hn)⟩;obtain ⟨ad,Ar,cr,_,_,_,sr⟩:=st0.at_ hr;obtain ⟨_,_,e,h1,h2⟩:=sr.shape;unfold maxLen at h2;rw [qO2 hr];omega
 have HB:=hQ9 hb;clear hb
 go_enter func25,ntmps25;go_wp2_with fail
 refine (zR _ t _ st0).mono ?_;rintro e w2 ⟨rfl,b2⟩;have st2:=st0.bQ b2;go_upto_region 2 with (fail);have bn:=Blk.new w2 3 #[.int .i64 ((zC t:Nat):Int)];have ba:=zC9 (w:=w2) (zB3 _) (.cells #[.int .i64 ((zC t:Nat):Int)] 3);obtain ⟨g,hg⟩:∃ g,g=w2.heap.size:=⟨_,rfl⟩;obtain ⟨w3,hw3⟩:∃ w3,w3=w2.alloc (.cells #[.int .i64 ((zC t:Nat):Int)] 3):=⟨_,rfl⟩;rw [<- hw3] at bn ba |-;rw [<- hg] at bn |-;have bb:Below w.heap.size w w3:=b2.trans (ba.mono b2.size);have st3:=st0.bQ bb;clear hw3 hg ba b2 st2;have c0:=bn.cell 0;have z0:=bn.frozen 0;by_cases h1:200<t.length
 ·have h1':(200:Int)<((t.length:Nat):Int):=by omega
  have HW:Hid (b=false):=by show _=_;rw [HB.out];exact decide_eq_false fun h=>by have:=h.1;omega
  go_wp2;go_ret;exact ⟨by rw [HW.out];rfl,bb⟩
 ·have h1':¬ (200:Int)<((t.length:Nat):Int):=by omega
  by_cases h2:200<zC t
  ·have h2':(200:Int)<((zC t:Nat):Int):=by omega
   have HW:Hid (b=false):=by show _=_;rw [HB.out];exact decide_eq_false fun h=>by have:=h.2.1;omega
   go_wp2;go_ret;exact ⟨by rw [HW.out];rfl,bb⟩
  ·have h2':¬ (200:Int)<((zC t:Nat):Int):=by omega
   obtain ⟨u,hu⟩:∃ u,u=decide (∃ r∈t,r.length≠zC t):=⟨_,rfl⟩
   have HW:Hid ((!u)=b):=by
    show _=_
    rw [HB.out,hu];by_cases he:zR9 t
    ·rw [decide_eq_true (show zF5 t from ⟨by omega,by omega,he⟩),decide_eq_false fun h=>by obtain ⟨r,hr,hn⟩:=h;exact hn (he r hr)];rfl
    ·have e1:decide (zF5 t)=false:=decide_eq_false fun h=>he h.2.2;have e2:decide (∃ r∈t,r.length≠zC t)=true:=decide_eq_true (bQ1 fun h=>he fun r hr=>bQ1 fun hn=>h ⟨r,hr,hn⟩);rw [e1,e2];rfl
   have HU:=hQ9 hu;clear hu;go_wp2_with fail
   refine (jK1 _ g (zC t) t u _ st3 bn HU.out).mono ?_;rintro e w4 ⟨rfl,b4⟩;have bb4:=bb.trans (b4.mono bb.size);clear c0 z0;go_wp2;go_ret;exact ⟨by rw [<- HW.out];rfl,bb4⟩
theorem qO3 (a0:Value) (t:List (List Rat)) (n:Int) (w:World) (h0:SlT .u64 4294967296 w a0 t) (hn:n=if zF5 t then 0 else 8) :
  Calls prog 50 #[a0] w (zE1 (.int .i64 n) w):=by
 have st0:=h0;obtain ⟨A,c,rfl,hc,hm⟩:=h0.shape;have HN:=hQ9 hn;clear hn
 go_enter func50,ntmps50
 by_cases h:zF5 t
 ·have HW:Hid (n=0):=by show _=_;rw [HN.out,if_pos h]
  go_wp2_with fail
  refine (zW9 _ t true _ st0 (decide_eq_true h).symm).mono ?_;rintro e w2 ⟨rfl,b2⟩;go_wp2;go_ret;exact ⟨by rw [HW.out];rfl,b2⟩
 ·have HW:Hid (n=8):=by show _=_;rw [HN.out,if_neg h]
  go_wp2_with fail
  refine (zW9 _ t false _ st0 (decide_eq_false h).symm).mono ?_;rintro e w2 ⟨rfl,b2⟩;go_wp2;go_ret;exact ⟨by rw [HW.out];rfl,b2⟩
theorem jK2 {k:IntKind} {B:Nat} (w:World) (T:TypeId) {q:Rat} {u t:Value} (h1:IsS w k u (digs B q.num.natAbs)) (h2:IsS w k t (digs B q.den)):SlF k B (w.alloc (.cells #[.bool (ngB q.num),u,t] T)) (.slice (some ⟨w.heap.size,0,none⟩) 1 1) [q]:=by
 have hbb:=zC9 (w:=w) (zB3 _) (.cells #[.bool (ngB q.num),u,t] T);have hB:=Blk.new w T #[.bool (ngB q.num),u,t];refine ⟨[(q,u,t)],rfl,⟨some ⟨w.heap.size,0,none⟩,1,rfl,zB3 _,by unfold maxLen;omega,fun i p hp => ?_⟩,fun p hp => ?_⟩
 ·rcases i with _ | i
  ·obtain rfl:((q,u,t):Elt)=p:=by simpa using hp
   exact ⟨_,_,rfl,hB.cell 0,hB.cell 1,hB.cell 2⟩
  ·simp at hp
 ·obtain rfl:=List.mem_singleton.1 hp;exact ⟨h1.bQ hbb,h2.bQ hbb⟩
section
variable {P:Program} {Q:Exit->Act->World->Prop} {ops:Array Oper} {L:List Oper} {Φ : List Pd} {w0:World} {a0:Act} {i:Nat} {o:Oper}
end
theorem qI5:∃ i,prog.info? 46=some i/\i.zero=some (.slice none 0 0)/\i.size=1/\i.bytes=24:=info_parts (P:=prog) (e:=46) (z:=.slice none 0 0) (size:=1) (bytes:=24) (by kernel_rfl)
theorem jK3:∃ i,prog.info? 49=some i/\i.zero=some (.slice none 0 0)/\i.size=1/\i.bytes=24:=info_parts (P:=prog) (e:=49) (z:=.slice none 0 0) (size:=1) (bytes:=24) (by kernel_rfl)
def qO4 (n:Nat) (w:World) (e:Ending) (w':World):Prop:=∃ g,e=.returned (.slice (some ⟨g,0,none⟩) n n)/\zG0 w' g 46 (zB n (.slice none 0 0))/\w.heap.size<=g/\Below w.heap.size w w'
theorem qO4.pd {n:Nat} {w:World} {e:Ending} {w':World} {B:Nat} (h:qO4 n w e w') (hB:B<=w.heap.size):zI2 (qD1 n 46 B) w e w':=by
 obtain ⟨g,h1,h2,h3,h4⟩:=h;exact ⟨_,h1,⟨g,rfl,h2,zB4 hB h3⟩,h4⟩
theorem yK5 (a0:Value) (x:Rat) (w:World) (h0:IsQ w a0 x) (hl:zC3 x 100000) :
  Calls prog 95 #[a0] w (RetQ x w):=by
 obtain ⟨u0,t0,rfl,s0,r0⟩:=h0;obtain ⟨A0,c0,rfl,_⟩:=id s0;obtain ⟨D0,e0,rfl,_⟩:=id r0
 go_enter func95,ntmps95
 go_upto_region 1 with (fail)
 obtain ⟨wx,hwx,bb,B0,BR0,hsz⟩:=zK3 w 44 44 #[.bool (ngB (x).num),.slice A0 (digs 4294967296 (x).num.natAbs).length c0,.slice D0 (digs 4294967296 (x).den).length e0] #[.bool false,.slice none 0 0,.slice none 0 0];rw [hwx];clear hwx;have k0s:=s0.bQ bb;have k0d:=r0.bQ bb;have k0z:IsZ wx (.agg #[.bool (ngB (x).num),.slice A0 (digs 4294967296 (x).num.natAbs).length c0]) (x).num:=⟨_,rfl,k0s⟩;have k0:IsQ wx (.agg #[.bool (ngB (x).num),.slice A0 (digs 4294967296 (x).num.natAbs).length c0,.slice D0 (digs 4294967296 (x).den).length e0]) (x):=⟨_,_,rfl,k0s,k0d⟩;have hsz0:=bb.size;have sB:=bb.size;refine flow 12 [Pd.eq (.pointer (some ⟨w.heap.size,0,none⟩)),Pd.eq (.pointer (some ⟨w.heap.size,0,none⟩)),Pd.eq (.bool (ngB (x).num)),Pd.eq (.pointer (some ⟨w.heap.size,0,none⟩)),Pd.eq (.pointer (some ⟨w.heap.size,1,none⟩)),Pd.eq (.slice A0 (digs 4294967296 (x).num.natAbs).length c0),ps .u64 (digs 4294967296 (x).num.natAbs) wx.heap.size,pz ((x).num) wx.heap.size,Pd.eq (.pointer (some ⟨w.heap.size,2,none⟩)),Pd.eq (.slice D0 (digs 4294967296 (x).den).length e0),ps .u64 (digs 4294967296 (x).den) wx.heap.size,pq (x) wx.heap.size] (by kernel_rfl) (by kernel_rfl) ?ob1 ?done1
 case ob1 =>
  refine zA (zC4 rfl (zB5 rfl) (zB7 rfl rfl) (fun _=>by kernel_rfl) (fun _=>rfl)) ?_;refine zA (zC4 rfl (zB5 rfl) (zB6 (j:=0) (by kernel_rfl) rfl rfl) (fun _=>by kernel_rfl) (fun _=>rfl)) ?_;refine zA (zC1 rfl (zB5 rfl) (zB6 (j:=1) (by kernel_rfl) rfl rfl) (fun w2 hb=>zD underlying4 rfl ((B0.drew.bQ hb).cell 0)) (fun _ _=>rfl)) ?_;refine zA (zC4 rfl (zB5 rfl) (zB7 rfl rfl) (fun _=>by kernel_rfl) (fun _=>rfl)) ?_;refine zA (zC4 rfl (zB5 rfl) (zB6 (j:=3) (by kernel_rfl) rfl rfl) (fun _=>by kernel_rfl) (fun _=>rfl)) ?_;refine zA (zC1 rfl (zB5 rfl) (zB6 (j:=4) (by kernel_rfl) rfl rfl) (fun w2 hb=>zD underlying40 rfl ((B0.drew.bQ hb).cell 1)) (fun _ _=>rfl)) ?_;refine zA (zE8 rfl func112 (by kernel_rfl) (zB5 rfl) (zB6 (j:=5) (by kernel_rfl) rfl rfl) (fun w2 u0 hb h0=>by obtain rfl:=h0;exact (zV7 _ _ _ (k0s.drew.bQ hb) (zB4 hl.1 (by decide))).mono fun e w3 h=>zD7.pd h hb.size)) ?_;refine zA (zM5 rfl (zB5 rfl) (zB6 (j:=2) (by kernel_rfl) rfl rfl) (zB6 (j:=6) (by kernel_rfl) rfl rfl) (fun w2 u v hb hu hv=>by obtain rfl:=hu;obtain ⟨A7,c7,rfl,_⟩:=id hv.1;exact ⟨.agg #[.bool (ngB (x).num),.slice A7 (digs 4294967296 (x).num.natAbs).length c7],by kernel_rfl,⟨_,rfl,hv.1⟩,zM3 hv.2⟩)) ?_;refine zA (zC4 rfl (zB5 rfl) (zB7 rfl rfl) (fun _=>by kernel_rfl) (fun _=>rfl)) ?_;refine zA (zC1 rfl (zB5 rfl) (zB6 (j:=8) (by kernel_rfl) rfl rfl) (fun w2 hb=>zD underlying40 rfl ((B0.drew.bQ hb).cell 2)) (fun _ _=>rfl)) ?_;refine zA (zE8 rfl func112 (by kernel_rfl) (zB5 rfl) (zB6 (j:=9) (by kernel_rfl) rfl rfl) (fun w2 u0 hb h0=>by obtain rfl:=h0;exact (zV7 _ _ _ (k0d.drew.bQ hb) (zB4 hl.2 (by decide))).mono fun e w3 h=>zD7.pd h hb.size)) ?_;refine zA (zM5 rfl (zB5 rfl) (zB6 (j:=7) (by kernel_rfl) rfl rfl) (zB6 (j:=10) (by kernel_rfl) rfl rfl) (fun w2 u v hb hu hv=>by obtain ⟨u7,rfl,hu7⟩:=hu.1;obtain ⟨A7,c7,rfl,_⟩:=id hu7;obtain ⟨A8,c8,rfl,_⟩:=id hv.1;exact ⟨.agg #[.bool (ngB (x).num),.slice A7 (digs 4294967296 (x).num.natAbs).length c7,.slice A8 (digs 4294967296 (x).den).length c8],by kernel_rfl,⟨⟨_,_,rfl,hu7,hv.1⟩,zM4 (hu.2 _ _ rfl) hv.2⟩⟩)) ?_
  trivial
 case done1 =>
  refine fun w11 hb11 v0 h0 v1 h1 v2 h2 v3 h3 v4 h4 v5 h5 v6 h6 v7 h7 v8 h8 v9 h9 v10 h10 v11 h11 b hbf => ?_;obtain rfl:=h0;obtain rfl:=h1;obtain rfl:=h2;obtain rfl:=h3;obtain rfl:=h4;obtain rfl:=h5;obtain rfl:=h8;obtain rfl:=h9;obtain ⟨q6,f6⟩:=h6;obtain ⟨q7,f7⟩:=h7;obtain ⟨q10,f10⟩:=h10;obtain ⟨q11,f11⟩:=h11;simp only [Act.put,zA0,zA2,zA1] at hbf;subst hbf;replace B0:=B0.bQ hb11;replace k0s:=k0s.bQ hb11;replace k0d:=k0d.bQ hb11;replace k0z:=k0z.bQ hb11;replace k0:=k0.bQ hb11;replace BR0:=BR0.bQ hb11;replace bb:=bb.trans (hb11.mono bb.size);have hsz11:=bb.size;have s_6:=sB;have s_7:=sB;have s_10:=sB;have s_11:=sB;obtain ⟨u11,t11,rfl,q11,d11⟩:=q11;obtain ⟨A9,c9,rfl,_⟩:=id q11;obtain ⟨D9,e9,rfl,_⟩:=id d11;refine zL8 (i:=12) (by kernel_rfl) rfl rfl rfl rfl rfl rfl (cells:=[.bool (ngB (x).num),.slice A9 (digs 4294967296 (x).num.natAbs).length c9,.slice D9 (digs 4294967296 (x).den).length e9]) rfl BR0 rfl (by kernel_rfl) (zH2 rfl rfl rfl) fun w9 hg9 B9 => ?_;have k9:=off q11 BR0 zD3 hg9;have d9:=off d11 BR0 zD3 hg9;have f9:=f11.mono (show w.heap.size<=_ from s_11);have bb9:=bb.trans ((Below.refl _ _).grown hg9 bb.size (fun g hg=>by injection hg with hg;omega));obtain ⟨C0,C1,C2,_,_,_⟩:=three B9;refine zJ0 (by kernel_rfl) ?_;go_wp2;exact bodyPost_ret (v:=.agg #[.bool (ngB (x).num),.slice A9 (digs 4294967296 (x).num.natAbs).length c9,.slice D9 (digs 4294967296 (x).den).length e9]) (by simp [results,results95,go_sem,C0,C1,C2]) rfl ⟨_,rfl,⟨_,_,rfl,k9,d9⟩,f9,bb9⟩
theorem qO5 (n:Int) (d:Nat) (w:World) (hn:n=(d:Int)) (hd:d<=1000000) :
  Calls prog 28 #[.int .i64 n] w (qO4 d w):=by
 have bb:Below w.heap.size w w:=Below.refl _ _;subst hn
 go_enter func28,ntmps28
 go_upto_region 1 with (fail)
 have hsz0:=bb.size;have sB:=bb.size;refine zC6 3 [Pd.eq (.int .i64 (d:Int)),qD1 d 46 w.heap.size,qD1 d 46 w.heap.size] (by kernel_rfl) ?ob2 ?done2
 case ob2 =>
  refine zA (zC0 rfl (zB5 rfl) (zB7 rfl rfl) (fun _ _ h=>h)) ?_;refine zA (jJ0 d rfl rfl (zB6 (j:=0) (by kernel_rfl) rfl rfl) (zB6 (j:=0) (by kernel_rfl) rfl rfl) underlying22 qI5 (by omega) (fun _ _ h=>h)) ?_;refine zA (zE0 rfl (zB5 rfl) (zB6 (j:=1) (by kernel_rfl) rfl rfl) (fun _ _ h=>h)) ?_
  trivial
 case done2 =>
  refine fun w11 hb11 v0 h0 v1 h1 v2 h2 b hbf => ?_;obtain rfl:=h0;have q1:=h1;have q2:=h2;simp only [Act.put,zA0,zA2,zA1] at hbf;subst hbf;replace bb:=bb.trans (hb11.mono bb.size);have hsz11:=bb.size;refine zC7 ?_;obtain ⟨g,rfl,TB,hg⟩:=q2;go_wp2;go_ret;exact ⟨g,rfl,TB,hg,bb⟩
theorem jK4 (a0 a1:Value) (t:List (List Rat)) (v:List Rat) (m n:Nat) (w:World) (h0:SlT .u64 4294967296 w a0 t) (h1:SlF .u64 4294967296 w a1 v) (he:∀ r∈t,r.length=v.length) (hl:t.length<=1000/\v.length<=1000/\zD6 t m/\(∀ y∈v,zC3 y n)/\(m+n+1)*v.length+1<=4800) :
  Calls prog 62 #[a0,a1] w (RetSl (zP6 t v) w):=by
 have bb:Below w.heap.size w w:=Below.refl _ _;have sl1:=h1;obtain ⟨A1,c1,rfl,hc1,hm1⟩:=h1.shape;unfold maxLen at hm1;have st0:=h0;obtain ⟨A0,c0,rfl,hc0,hm0⟩:=h0.shape;unfold maxLen at hm0;have HL:=hQ9 hl;have HE:=hQ9 he;have ht2:t.length<=1000:=hl.1;have HRL:Hid ((zP6 t v).length=t.length):=jF5 t v;clear hl he
 go_enter func62,ntmps62
 go_upto_region 1 with (fail)
 have hsz0:=bb.size;have sB:=bb.size;refine zC6 4 [Pd.eq (.slice A0 t.length c0),Pd.eq (.int .i64 ((t.length:Nat):Int)),pro t.length [] w.heap.size,pro t.length [] w.heap.size] (by kernel_rfl) ?ob3 ?done3
 case ob3 =>
  refine zA (zC0 rfl (zB5 rfl) (zB7 rfl rfl) (fun _ _ h=>h)) ?_;refine zA (zK7 rfl (zB5 rfl) (zB6 (j:=0) (by kernel_rfl) rfl rfl) (fun _ _ hx=>⟨_,by rw [hx];exact zK8 underlying22 _ _ _ _,rfl⟩)) ?_;refine zA (jI7 t.length rfl rfl (zB6 (j:=1) (by kernel_rfl) rfl rfl) (zB6 (j:=1) (by kernel_rfl) rfl rfl) underlying46 zP3 (by omega) (fun _ _ h=>h)) ?_;refine zA (zE0 rfl (zB5 rfl) (zB6 (j:=2) (by kernel_rfl) rfl rfl) (fun _ _ h=>h)) ?_
  trivial
 case done3 =>
  refine fun w11 hb11 v0 h0 v1 h1 v2 h2 v3 h3 b hbf => ?_;obtain rfl:=h0;obtain rfl:=h1;have q2:=h2;have q3:=h3;simp only [Act.put,zA0,zA2,zA1] at hbf;subst hbf;replace bb:=bb.trans (hb11.mono bb.size);have hsz11:=bb.size;refine zC7 ?_;obtain ⟨g,rfl,RN,hg⟩:=q3;have hgw:w.heap.size<=g:=by omega
  go_wp2
  go_loopw [13] (fun v13 wr => ∃ k:Nat,k<=t.length/\zD2 wr g t.length ((zP6 t v).take k)/\Below w.heap.size w wr/\v13=.int .i64 (k:Int)) (fun v13 _=>t.length-(intOf v13).toNat)
  case atStart=>exact ⟨0,by omega,RN,bb,rfl⟩
  case round =>
   obtain ⟨k,hk,hR,hbw,rfl⟩:=hrel;clear RN bb;have RN:=hR;have bb:=hbw;clear hR hbw;have hszr:=bb.size;have hgl:=RN.lt;by_cases hlt:k<t.length
   ·have hnt:t≠[]:=List.length_pos_iff.1 (by omega);obtain ⟨x,hx⟩:∃ x,t[k]?=some x:=⟨_,zA3 hlt⟩;have hxm:=zA5 hx;have HXE:Hid (x.length=v.length):=HE.out x hxm;have HXB:Hid (x.length<=1000/\(∀ y∈x,zC3 y m)/\(∀ y∈v,zC3 y n)/\(m+n+1)*x.length+1<=4800):=⟨by rw [HXE.out];exact HL.out.2.1,HL.out.2.2.1 x hxm,HL.out.2.2.2.1,by rw [HXE.out];exact HL.out.2.2.2.2⟩;have HTK:Hid ((zP6 t v).take (k+1)=(zP6 t v).take k ++ [zI8 x v]):=zS9 (jF6 hx);have HLK:Hid (k=((zP6 t v).take k).length):=by show _=_;rw [bQ7,HRL.out];omega
    obtain ⟨ad0,rfl⟩:=st0.place hnt;obtain ⟨Arx,crx,hix,ewx,srx⟩:=st0.at2 hx;clear hx hxm;have ecx:=(bb.cell (bQ0 w _ ewx)).trans ewx;have sB:=bb.size;go_upto_region 4 with (fail);refine zC6 5 [Pd.eq (.int .i64 (k:Int)),Pd.eq (.pointer (some (ad0.add k))),Pd.eq (.slice Arx x.length crx),Pd.eq (.int .i64 (k:Int)),Pd.eq (.slice Arx x.length crx)] (by kernel_rfl) ?ob4 ?done4
    case ob4 =>
     refine zA (zC0 rfl (zB5 rfl) (zB7 rfl rfl) (fun _ _ h=>h)) ?_;refine zA (zH8 rfl (zB5 rfl) (zB7 rfl rfl) (zB7 rfl rfl) (fun _ _ _ hx hy=>⟨_,by rw [hx,hy];exact qH2 (k:=k) underlying22 (by kernel_rfl) ad0 hlt _,rfl⟩)) ?_;refine zA (zC1 rfl (zB5 rfl) (zB6 (j:=1) (by kernel_rfl) rfl rfl) (fun w2 hb=>zD underlying46 rfl ((hb.cell (bQ0 wr _ ecx)).trans ecx)) (fun _ _=>rfl)) ?_;refine zA (zE0 rfl (zB5 rfl) (zB6 (j:=0) (by kernel_rfl) rfl rfl) (fun _ _ h=>h)) ?_;refine zA (zE0 rfl (zB5 rfl) (zB6 (j:=2) (by kernel_rfl) rfl rfl) (fun _ _ h=>h)) ?_
     trivial
    case done4 =>
     refine fun w13 hb13 v0 h0 v1 h1 v2 h2 v3 h3 v4 h4 b hbf => ?_;obtain rfl:=h0;obtain rfl:=h1;obtain rfl:=h2;obtain rfl:=h3;obtain rfl:=h4;simp only [Act.put,zA0,zA2,zA1] at hbf;subst hbf;replace RN:=RN.bQ hb13;replace bb:=bb.trans (hb13.mono bb.size);have hsz13:=bb.size;refine zC7 ?_;clear ecx;have sB:=bb.size;go_upto_region 5 with (fail);refine zC6 9 [Pd.eq (.slice (some ⟨g,0,none⟩) t.length t.length),Pd.eq (.int .i64 (k:Int)),Pd.eq (.slice Arx x.length crx),Pd.eq (.slice A1 v.length c1),pqe ((zI8 x v)) 0,pqe ((zI8 x v)) 0,pqn ((zI8 x v)),Pd.eq (.int .i64 0),Pd.eq (.pointer (some ⟨g,0+k*3,none⟩))] (by kernel_rfl) ?ob5 ?done5
     case ob5 =>
      refine zA (zC0 rfl (zB5 rfl) (zB7 rfl rfl) (fun _ _ h=>h)) ?_;refine zA (zC0 rfl (zB5 rfl) (zB7 rfl rfl) (fun _ _ h=>h)) ?_;refine zA (zC0 rfl (zB5 rfl) (zB7 rfl rfl) (fun _ _ h=>h)) ?_;refine zA (zC0 rfl (zB5 rfl) (zB7 rfl rfl) (fun _ _ h=>h)) ?_;refine zA (zD8 rfl func96 (by kernel_rfl) (zB5 rfl) (zB6 (j:=2) (by kernel_rfl) rfl rfl) (zB6 (j:=3) (by kernel_rfl) rfl rfl) (fun w2 u0 u1 hb h0 h1=>by obtain rfl:=h0;obtain rfl:=h1;exact (jJ7 _ _ x v m n _ ((srx.bQ bb).bQ hb) ((sl1.bQ bb).bQ hb) HXE.out HXB.out).mono fun e w3 h=>zU7.pd h)) ?_;refine zA (zC0 rfl (zB5 rfl) (zB6 (j:=4) (by kernel_rfl) rfl rfl) (fun _ _ h=>h)) ?_;refine zA (zF9 rfl (zB5 rfl) (zB6 (j:=5) (by kernel_rfl) rfl rfl) (fun w2 u hu=>by obtain ⟨v,rfl,q1⟩:=hu;exact ⟨v,rfl,q1⟩)) ?_;refine zA (zF9 rfl (zB5 rfl) (zB6 (j:=5) (by kernel_rfl) rfl rfl) (fun w2 u hu=>by obtain ⟨v,rfl,q1⟩:=hu;exact ⟨_,rfl,rfl⟩)) ?_;refine zA (zH8 rfl (zB5 rfl) (zB6 (j:=0) (by kernel_rfl) rfl rfl) (zB6 (j:=1) (by kernel_rfl) rfl rfl) (fun _ _ _ hx hy=>⟨_,by rw [hx,hy];exact zH9 (k:=k) underlying46 (by kernel_rfl) hlt _,rfl⟩)) ?_
      trivial
     case done5 =>
      refine fun w14 hb14 v0 h0 v1 h1 v2 h2 v3 h3 v4 h4 v5 h5 v6 h6 v7 h7 v8 h8 b hbf => ?_;obtain rfl:=h0;obtain rfl:=h1;obtain rfl:=h2;obtain rfl:=h3;obtain rfl:=h7;obtain rfl:=h8;clear h4;clear h5;have q6:=h6;simp only [Act.put,zA0,zA2,zA1] at hbf;subst hbf;replace RN:=RN.bQ hb14;replace bb:=bb.trans (hb14.mono bb.size);have hsz14:=bb.size;obtain ⟨u6,t6,rfl,q6,d6⟩:=q6;obtain ⟨A9,c9,rfl,_⟩:=id q6;obtain ⟨D9,e9,rfl,_⟩:=id d6;refine qI0 (j:=9) rfl rfl rfl rfl (g:=g) (i:=k) (q:=(zI8 x v)) rfl rfl (by kernel_rfl) RN hlt q6 d6 fun w15 hg15 hP15 => ?_;replace bb:=bb.trans ((Below.refl _ _).grown hg15 bb.size (fun g hg=>by injection hg with hg;omega));have hsz15:=bb.size;replace RN:=hP15.1 HLK.out;clear hP15;refine zC7 ?_;rw [<- HTK.out] at RN;have hsk:t.length-(k+1)<t.length-k:=by omega
      go_wp2;go_roundw;case rel=>exact ⟨k+1,by omega,RN,bb,by go_num⟩
      case measure=>simp [intOf];omega
   ·rw [zA7 (by rw [HRL.out];omega)] at RN;have hS:=RN.sl HRL.out (by omega);clear RN;go_wp2;go_ret;exact ⟨_,rfl,hS,bb⟩
end rat
namespace flow
open Go.RowKit num mem whl rat
section
variable {P:Program} {Q:Exit->Act->World->Prop} {ops:Array Oper} {o:Oper} {i:Nat}
theorem jK5 {rest:List Nat} {a:Act} {w:World} (s x:Operand) {t:TypeId} (ho:ops[i]?=some o) (hg:o.guard=none) (hop:o.op=.call { callee:=.builtin .append,args:=#[s,x],argTypes:=#[t,t] })
  {base:Nat} {T:TypeId} (hT:P.underlying t=some (.slice T)) (hI:∃ i,P.info? T=some i/\i.zero=some (.agg #[.bool false,.slice none 0 0,.slice none 0 0])/\i.size=3/\i.bytes=56) {v:Value} {p:Elt} {ps:List Elt} (hs:a.eval s=v) (hown:zD0 T w base v ps) {ad:Addr} {c:Nat} (hx:a.eval x=.slice (some ad) 1 c)
  (h0:w.cell? (ad.add 0)=some (.bool (ngB p.1.num))) (h1:w.cell? (ad.add 1)=some p.2.1) (h2:w.cell? (ad.add 2)=some p.2.2) (k1:p.2.1.oneCell'=true) (k2:p.2.2.oneCell'=true) (hlen:ps.length<=1000000000) (hbase:base<=w.heap.size)
  (h:∀ v' w' b,zD0 T w' base v' (ps ++ [p])->Below base w w'->Hid (zH4 w w' v v')->a.put o.dst v'=b->wpOps P ops Q rest b w'):wpOps P ops Q (i :: rest) a w :=
 qL4 ho hg (yH7 s x hop hT hI hs hown hx h0 h1 h2 k1 k2 hlen hbase fun v' w' r b k=>h v' w' _ r b k rfl)
end
end flow
namespace rat
open Go.RowKit num mem nat txt str flow whl
theorem zH4.trans {w w1 w2:World} {v v1 v2:Value} (h:zH4 w w1 v v1) (k:zH4 w1 w2 v1 v2):zH4 w w2 v v2:=by
 obtain ⟨a1,a2,a3⟩:=h;obtain ⟨b1,b2,b3⟩:=k;refine ⟨fun q u l hu hf => ?_,⟨b2.os.trans a2.os,b2.tape.trans a2.tape,b2.output.trans a2.output,zB4 a2.size b2.size,fun i hi hne => ?_⟩,fun g hg hne=>b3 g (bY2 hg a2.size) (a3 g hg hne)⟩
 ·have x:=a1 q u l hu hf;exact b1 q u l x.1 x.2
 ·rw [b2.block i (bY2 hi a2.size) (fun e=>a3 i hi (fun e2=>hne e2.symm) e.symm),a2.block i hi hne]
theorem zH4.of_below {w w1:World} (v:Value) (h:Below w.heap.size w w1):zH4 w w1 v v :=
 ⟨fun q u l hu hf=>⟨hu.bQ h,hf⟩,⟨h.os,h.tape,h.output,h.size,fun i hi _=>h.block i hi⟩,fun g _ hne=>hne⟩
theorem zL4.far {B:Nat} {ps:List Elt} (h:zL4 B ps) {v:Value} (hv:∀ g,v.ownBlock=some g->g<B):∀ p∈ps,Far v p.2.1/\Far v p.2.2:=fun p hp=>⟨(h p hp).1.far hv,(h p hp).2.far hv⟩
theorem TabO.mid {k:IntKind} {B:Nat} {T:TypeId} {w w1:World} {base g n c i:Nat} {TS:TypeId} {us:List Value} {pss:List (List Elt)} {u u':Value} {ps:List Elt} (hT:T≠TS) (h:TabO k B T w base TS (.slice (some ⟨g,0,none⟩) n c) us pss) (hu:us[i]?=some u) (hps:pss[i]?=some ps) (hgr:zH4 w w1 u u'):zD1 w1 base TS (.slice (some ⟨g,0,none⟩) n c) us :=
 World.ownsRow.kept (row:=u.ownBlock) h.row hgr.2.1 (.inr fun e=>(h.own i u ps hu hps).notRow h.row hT g e.symm rfl)
def RetApp (T:TypeId) (base:Nat) (a0:Value) (ps:List Elt) (r:List Rat) (w:World) (e:Ending) (w':World):Prop:=∃ u new,e=.returned u/\zD0 T w' base u (ps ++ new)/\new.map (·.1)=r/\zH4 w w' a0 u/\zH .u64 4294967296 w' u new/\zL4 w.heap.size new/\Below base w w'
theorem jK6 (a0 a1:Value) (ps:List Elt) (r:List Rat) (w W:World) (h0:zD0 44 W w.heap.size a0 ps) (h1:SlF .u64 4294967296 w a1 r) (hb:Below w.heap.size w W) (hl:ps.length<=1000/\r.length<=1000 /\ ∀ x∈r,zC3 x 100000) :
  Calls prog 60 #[a0,a1] W (RetApp 44 w.heap.size a0 ps r W):=by
 have bb:Below w.heap.size w w:=Below.refl _ _;have sl1:=h1;obtain ⟨A1,c1,rfl,hc1,hm1⟩:=h1.shape;unfold maxLen at hm1;have r0:=h0;obtain ⟨A0,c0,rfl,hc0,hm0,_⟩:=h0.isVF;have hbase:w.heap.size<=W.heap.size:=hb.size;have hbl:=h0.base_le;have HL:=hQ9 hl;have hps:ps.length<=1000:=hl.1;have hr2:r.length<=1000:=hl.2.1;clear bb hl h0;have bb:Below w.heap.size w W:=hb;have bW:Below W.heap.size W W:=Below.refl _ _
 go_enter func60,ntmps60
 go_upto_region 1 with (fail)
 have hsz0:=bb.size;have sB:=bb.size;refine zC6 3 [Pd.eq (.slice A1 r.length c1),Pd.eq (.int .i64 ((r.length:Nat):Int)),Pd.eq (.int .i64 0)] (by kernel_rfl) ?ob1 ?done1
 case ob1 =>
  refine zA (zC0 rfl (zB5 rfl) (zB7 rfl rfl) (fun _ _ h=>h)) ?_;refine zA (zK7 rfl (zB5 rfl) (zB6 (j:=0) (by kernel_rfl) rfl rfl) (fun _ _ hx=>⟨_,by rw [hx];exact zK8 underlying46 _ _ _ _,rfl⟩)) ?_;refine zA (zC0 rfl (zB5 rfl) (zG2 _) (fun _ _ h=>h)) ?_
  trivial
 case done1 =>
  refine fun w11 hb11 v0 h0 v1 h1 v2 h2 b hbf => ?_;obtain rfl:=h0;obtain rfl:=h1;obtain rfl:=h2;simp only [Act.put,zA0,zA2,zA1] at hbf;subst hbf;replace bb:=bb.trans (hb11.mono bb.size);have hsz11:=bb.size;replace bW:=bW.trans (hb11.mono bW.size);refine zC7 ?_;go_wp2
  go_loopw [0,9] (fun v0 v9 wr => ∃ (k:Nat) (new:List Elt),k<=r.length/\zD0 44 wr w.heap.size v0 (ps ++ new)/\Hid (new.map (·.1)=r.take k)/\Hid (zH4 W wr (.slice A0 ps.length c0) v0)/\zH .u64 4294967296 wr v0 new/\zL4 W.heap.size new/\Below w.heap.size w wr/\v9=.int .i64 (k:Int)) (fun _ v9 _=>r.length-(intOf v9).toNat)
  case atStart=>exact ⟨0,[],by omega,by rw [List.append_nil];exact r0.bQ bW,rfl,zH4.of_below _ bW,zH.nil _ _ _ _,zL4.nil _,bb,rfl⟩
  case round =>
   obtain ⟨k,new,hk,hR,HM,HG,hF,hN,hbw,rfl⟩:=hrel;clear bb bW;have bb:=hbw;clear hbw;have hszr:=bb.size;have hsW:W.heap.size<=wr.heap.size:=HG.out.2.1.size;by_cases hlt:k<r.length
   ·have bl:Below wr.heap.size wr wr:=Below.refl _ _;obtain ⟨AR,cR,hAR,_⟩:=hR.isVF;subst hAR;obtain ⟨x,hq1_⟩:∃ x,r[k]?=some x:=⟨_,zA3 hlt⟩;obtain ⟨g1_,o1_,ue1,te1,hA1_,_,e10,e11,e12,es1,ed1⟩:=(sl1.bQ bb).at_ hq1_;subst hA1_;have HQ1:=hQ9 hq1_;clear hq1_;obtain ⟨Ae1,ce1,rfl,_⟩:=id es1;obtain ⟨De1,ee1,rfl,_⟩:=id ed1;have ke1:IsQ wr (.agg #[.bool (ngB x.num),.slice Ae1 (digs 4294967296 x.num.natAbs).length ce1,.slice De1 (digs 4294967296 x.den).length ee1]) x:=⟨_,_,rfl,es1,ed1⟩;have lx:zC3 x 100000:=HL.out.2.2 x (zA5 HQ1.out)
    have HNL:Hid (new.length=k):=by
     have h:=congrArg List.length HM.out;rw [zA9,bQ7] at h;show _=_
     omega
    have sB:=bb.size;go_upto_region 3 with (fail);refine zC6 3 [Pd.eq (.pointer (some ⟨g1_,o1_+k*3,none⟩)),Pd.eq (.agg #[.bool (ngB x.num),.slice Ae1 (digs 4294967296 x.num.natAbs).length ce1,.slice De1 (digs 4294967296 x.den).length ee1]),pn 44 #[.bool false,.slice none 0 0,.slice none 0 0] wr.heap.size] (by kernel_rfl) ?ob2 ?done2
    case ob2 =>
     refine zA (zH8 rfl (zB5 rfl) (zB7 rfl rfl) (zB7 rfl rfl) (fun _ _ _ hx hy=>⟨_,by rw [hx,hy];exact zH9 underlying46 (by kernel_rfl) hlt _,rfl⟩)) ?_;refine zA (zC1 rfl (zB5 rfl) (zB6 (j:=0) (by kernel_rfl) rfl rfl) (fun w2 hb=>zP2 underlying44 rfl (by kernel_rfl) ((hb.cell (bQ0 wr _ e10)).trans e10) ((hb.cell (bQ0 wr _ e11)).trans e11) ((hb.cell (bQ0 wr _ e12)).trans e12)) (fun _ _=>rfl)) ?_;refine zA (zM9 (z:=.agg #[.bool false,.slice none 0 0,.slice none 0 0]) rfl rfl (fun _=>by kernel_rfl) (fun _ _ hB h=>⟨_,rfl,hB,h⟩)) ?_
     trivial
    case done2 =>
     refine fun w13 hb13 v0 h0 v1 h1 v2 h2 d2 b hbf => ?_;obtain rfl:=h0;obtain rfl:=h1;obtain ⟨g2_2,rfl,hg2,B2⟩:=h2;simp only [Act.put,zA0,zA2,zA1] at hbf;subst hbf;replace es1:=es1.bQ hb13;replace ed1:=ed1.bQ hb13;replace bb:=bb.trans (hb13.mono bb.size);have hsz13:=bb.size;replace bl:=bl.trans (hb13.mono bl.size);have BA6:=B2;have q1:=es1;have d1:=ed1;refine zG5 (i:=3) rfl rfl rfl rfl rfl rfl (cells:=[.bool (ngB (x).num),.slice Ae1 (digs 4294967296 (x).num.natAbs).length ce1,.slice De1 (digs 4294967296 (x).den).length ee1]) rfl BA6 rfl (by kernel_rfl) (zH2 rfl rfl rfl) fun w14 hg14 BN14 => ?_;replace q1:=off q1 BA6 zD3 hg14;replace d1:=off d1 BA6 zD3 hg14;replace bb:=bb.trans ((Below.refl _ _).grown hg14 bb.size (fun g hg=>by injection hg with hg;omega));have hsz14:=bb.size;have Be1:Blk w14 (g2_2) _ _:=BN14;have ke1s:=q1;have ke1d:=d1;have ke1z:IsZ w14 (.agg #[.bool (ngB (x).num),.slice Ae1 (digs 4294967296 (x).num.natAbs).length ce1]) ((x).num):=⟨_,rfl,ke1s⟩;have ke1:IsQ w14 (.agg #[.bool (ngB (x).num),.slice Ae1 (digs 4294967296 (x).num.natAbs).length ce1,.slice De1 (digs 4294967296 (x).den).length ee1]) (x):=⟨_,_,rfl,ke1s,ke1d⟩;refine zC7 ?_;replace bl:=bl.trans ((Below.refl _ _).grown hg14 bl.size (fun g hg=>by injection hg with hg;omega));have nR:=(hR.bQ bl).under;have hsl:=bl.size;have sB:=bb.size;go_upto_region 4 with (fail);refine zC6 4 [Pd.eq (.slice AR (ps ++ new).length cR),Pd.eq (.agg #[.bool (ngB (x).num),.slice Ae1 (digs 4294967296 (x).num.natAbs).length ce1,.slice De1 (digs 4294967296 (x).den).length ee1]),pq (x) w14.heap.size,pone (pq (x) w14.heap.size)] (by kernel_rfl) ?ob3 ?done3
     case ob3 =>
      refine zA (zC0 rfl (zB5 rfl) (zB7 rfl rfl) (fun _ _ h=>h)) ?_;refine zA (zC1 rfl (zB5 rfl) (zB7 rfl rfl) (fun w2 hb=>zF6 underlying44 rfl (by kernel_rfl) (Be1.bQ hb)) (fun _ _=>rfl)) ?_;refine zA (zE8 rfl func95 (by kernel_rfl) (zB5 rfl) (zB6 (j:=1) (by kernel_rfl) rfl rfl) (fun w2 u0 hb h0=>by obtain rfl:=h0;exact (yK5 _ x _ (ke1.bQ hb) lx).mono fun e w3 h=>RetQ.pd h hb.size)) ?_;refine zA (jH6 (φ:=pq (x) w14.heap.size) rfl rfl (zB6 (j:=2) (by kernel_rfl) rfl rfl) underlying46 zP3 (fun w v h=>⟨h,by obtain ⟨⟨u,t,rfl,hu,ht⟩,_⟩:=h;obtain ⟨_,_,rfl,_⟩:=id hu;obtain ⟨_,_,rfl,_⟩:=id ht;exact ⟨_,_,_,rfl,rfl,rfl,rfl⟩⟩) (fun _ _ h=>h)) ?_
      trivial
     case done3 =>
      refine fun w15 hb15 v0 h0 v1 h1 v2 h2 v3 h3 b hbf => ?_;obtain rfl:=h0;obtain rfl:=h1;obtain ⟨q2,f2⟩:=h2;obtain ⟨g3_,x3,y3,z3,rfl,c30,c31,c32,K3⟩:=h3;simp only [Act.put,zA0,zA2,zA1] at hbf;subst hbf;replace Be1:=Be1.bQ hb15;replace ke1s:=ke1s.bQ hb15;replace ke1d:=ke1d.bQ hb15;replace ke1z:=ke1z.bQ hb15;replace ke1:=ke1.bQ hb15;replace bb:=bb.trans (hb15.mono bb.size);have hsz15:=bb.size;replace bl:=bl.trans (hb15.mono bl.size);have s_2:=sB;have hR4:=hR.bQ bl;have hF4:=hF.bQ bl;have hsz4:=bb.size;have HL8:Hid ((ps ++ new).length<=1000000000):=by show _<=_;rw [zA8,HNL.out];omega
      obtain ⟨⟨uE,tE,eE,sE,dE⟩,fE⟩:=K3;obtain ⟨rfl,rfl,rfl⟩:x3=.bool (ngB (x).num)/\y3=uE/\z3=tE:=by injection eE with eE;simpa using eE
      clear eE;obtain ⟨AE,cE,rfl,_⟩:=id sE;obtain ⟨DE,rE,rfl,_⟩:=id dE;refine jK5 (i:=4) (.tmp 13) (.tmp 16) rfl rfl rfl underlying46 zP3 (p:=(x,.slice AE (digs 4294967296 (x).num.natAbs).length cE,.slice DE (digs 4294967296 (x).den).length rE)) (ps:=(ps ++ new)) rfl hR4 rfl c30 c31 c32 rfl rfl HL8.out hsz4 fun v8 w8 b8 row8 bb8 HK8 hb8 => ?_;simp only [Act.put,zA0,zA2,zA1] at hb8;subst hb8;have EC:IsE .u64 4294967296 w15 ((x,.slice AE (digs 4294967296 (x).num.natAbs).length cE,.slice DE (digs 4294967296 (x).den).length rE):Elt):=⟨sE,dE⟩;have F8:=hF4.snoc HK8.out.1 EC ((fE _ _ _ rfl).1.far nR) ((fE _ _ _ rfl).2.far nR);have NN8:=hN.snoc ((fE _ _ _ rfl).1.mono (show W.heap.size<=_ by omega)) ((fE _ _ _ rfl).2.mono (show W.heap.size<=_ by omega)) (p:=(x,.slice AE (digs 4294967296 (x).num.natAbs).length cE,.slice DE (digs 4294967296 (x).den).length rE));refine zQ5 (i:=5) (v8) rfl rfl rfl rfl rfl fun b hbf => ?_;simp only [Act.put,zA0,zA2,zA1] at hbf;subst hbf;refine zC7 ?_
      have HM8:Hid ((new ++ [((x,.slice AE (digs 4294967296 (x).num.natAbs).length cE,.slice DE (digs 4294967296 (x).den).length rE):Elt)]).map (·.1)=r.take (k+1)):=by
       show _=_
       rw [bX5,HM.out,zS9 HQ1.out]
       rfl
      have HG8:Hid (zH4 W w8 (.slice A0 ps.length c0) v8):=(HG.out.trans (zH4.of_below _ bl)).trans HK8.out;have b8:=bb.trans bb8;rw [List.append_assoc] at row8;clear HK8 EC fE hR hF hR4 hF4 hN;have hsk:r.length-(k+1)<r.length-k:=by omega
      go_wp2;go_roundw;case rel=>exact ⟨k+1,_,by omega,row8,HM8,HG8,F8,NN8,b8,by go_num⟩
      case measure=>simp [intOf];omega
   ·have HME:Hid (new.map (·.1)=r):=by show _=_;rw [HM.out,zA7 (by omega)]
    have hbW:Below w.heap.size W wr:=(Below.refl _ W).grown HG.out.2.1 hbase hbl;clear HM;go_wp2;go_ret;exact ⟨_,new,rfl,hR,HME.out,HG.out,hF,hN,hbW⟩
abbrev zP9 (w:World) (base:Nat) (V:Value) (us:List Value) (pss:List (List Elt)):Prop:=TabO .u64 4294967296 44 w base 46 V us pss
def RetJoin (base g n c:Nat) (J:List (List Rat)) (w:World) (e:Ending) (w':World):Prop:=∃ us pss,e=.returned (.slice (some ⟨g,0,none⟩) n c)/\zP9 w' base (.slice (some ⟨g,0,none⟩) n c) us pss/\zD5 pss=J/\us.length=n/\Below base w w'
theorem yK6 (g n c:Nat) (a1:Value) (us:List Value) (pss:List (List Elt)) (t:List (List Rat)) (w W:World) (h0:zP9 W w.heap.size (.slice (some ⟨g,0,none⟩) n c) us pss) (h1:SlT .u64 4294967296 w a1 t) (hb:Below w.heap.size w W) (hu:us.length=n) (ht:t.length=n) (hgw:w.heap.size<=g)
  (hl:(∀ r∈zD5 pss,r.length<=1000)/\(∀ r∈t,r.length<=1000)/\zD6 t 100000) :
  Calls prog 27 #[.slice (some ⟨g,0,none⟩) n c,a1] W (RetJoin w.heap.size g n c (zF0 (zD5 pss) t) W):=by
 have st1:=h1;obtain ⟨A1,c1,rfl,hc1,hm1⟩:=h1.shape;unfold maxLen at hm1;have HL:=hQ9 hl;have HTN:=hQ9 ht;have HUN:=hQ9 hu;have HPT:Hid ((zD5 pss).length=t.length):=by show _=_;rw [qA0,<- h0.len,hu,ht]
 clear hl ht hu
 go_enter func27,ntmps27
 go_wp2
 go_loopw [9] (fun v9 wr => ∃ (k:Nat) (us':List Value) (pss':List (List Elt)),k<=t.length/\zP9 wr w.heap.size (.slice (some ⟨g,0,none⟩) n c) us' pss'/\Hid (zD5 pss'=jst (zD5 pss) t k)/\us'.length=n/\Below w.heap.size W wr/\v9=.int .i64 (k:Int)) (fun v9 _=>t.length-(intOf v9).toNat)
 case atStart=>exact ⟨0,us,pss,by omega,h0,by show _=_;rw [jF3],HUN.out,Below.refl _ _,rfl⟩
 case round =>
  obtain ⟨k,us',pss',hk,hT,HJ,hul,hbW,rfl⟩:=hrel;have HUL:=hQ9 hul;clear hul;have bb:Below w.heap.size w wr:=hb.trans hbW;by_cases hlt:k<t.length
  ·have hnt:t≠[]:=List.length_pos_iff.1 (by omega);obtain ⟨x,hx⟩:∃ x,t[k]?=some x:=⟨_,zA3 hlt⟩;have HX:=hQ9 hx;have hxm:=zA5 hx;obtain ⟨ad,rfl⟩:=st1.place hnt;obtain ⟨Ax,cx,hi,ewx,srx⟩:=st1.at2 hx;have ecx:=(bb.cell (bQ0 w _ ewx)).trans ewx;have hkn:k<n:=by have:=HTN.out;omega
   obtain ⟨u,hu'⟩:∃ u,us'[k]?=some u:=⟨_,zA3 (by have:=HUL.out;omega)⟩;obtain ⟨ps,hps⟩:∃ ps,pss'[k]?=some ps:=⟨_,zA3 (by rw [<- hT.len];have:=HUL.out;omega)⟩;have HU:=hQ9 hu';have HPS:=hQ9 hps;obtain ⟨p,hp⟩:∃ p,(zD5 pss)[k]?=some p:=⟨_,zA3 (by rw [HPT.out];exact hlt)⟩
   have HP:Hid (ps.map (·.1)=p):=by
    have h2:=qI2 hps;rw [HJ.out,jst_at HPT.out hp] at h2;exact (Option.some.inj h2).symm
   have HJ2:Hid ((jst (zD5 pss) t k).set k (p ++ x)=jst (zD5 pss) t (k+1)):=jst_set HPT.out hp hx
   have hpl:ps.length<=1000:=by
    have h2:=congrArg List.length HP.out;rw [zA9] at h2;rw [h2];exact HL.out.1 p (zA5 hp)
   have hown:=hT.own k u ps hu' hps;have lxl:x.length<=1000:=HL.out.2.1 x hxm;have lx:∀ y∈x,zC3 y 100000:=HL.out.2.2 x hxm;have hcell:=hT.cell hu';obtain ⟨Au,cu,eu,hcu⟩:=hown.isVF;subst eu;have HT:=hQ9 hT;clear hx hxm hu' hps hp hT;go_wp2_with fail
   refine (jK6 _ _ ps x w wr hown srx bb ⟨hpl,lxl,lx⟩).mono ?_;rintro e w2 ⟨u2,new,rfl,hrow,hmap,hgr,hfar,hnew,b2⟩;have hV:=HT.out.mid (by decide) HU.out HPS.out hgr;have hc2:=hV.cellAt HU.out;have hf2:=hV.frozenAt k
   have hT2:=HT.out.put (by decide) HU.out HPS.out hrow hgr hfar (fun v hv q hq=>by
    have h2:=HT.out.farNew ((hnew q hq).1);have h3:=HT.out.farNew ((hnew q hq).2);exact ⟨h2.1 v hv,h3.1 v hv⟩) (fun q hq=>⟨(HT.out.farNew ((hnew q hq).1)).2,(HT.out.farNew ((hnew q hq).2)).2⟩)
   obtain ⟨A2,c2,e2,hc2'⟩:=hrow.isVF;rw [zA8] at e2;subst e2
   have HJ3:Hid (zD5 (pss'.set k (ps ++ new))=jst (zD5 pss) t (k+1)):=by
    show _=_
    rw [qW5,HJ.out,bX5,HP.out,hmap,HJ2.out]
   have hul2:(us'.set k (.slice A2 (ps.length+new.length) c2)).length=n:=by rw [zB2];exact HUL.out
   have hb3:=(hbW.trans b2).setCell (p:=⟨g,k,none⟩) hgw (.slice A2 (ps.length+new.length) c2);have hsk:t.length-(k+1)<t.length-k:=by omega
   clear hrow hgr hfar hnew hV hown ecx hcell;go_wp2;go_roundw;case rel=>exact ⟨k+1,_,_,by omega,hT2,HJ3,hul2,hb3,by go_num⟩
   case measure=>simp [intOf];omega
  ·have HJE:Hid (zD5 pss'=zF0 (zD5 pss) t):=by show _=_;rw [HJ.out,jF4 HPT.out (by omega)]
   go_wp2;go_ret;exact ⟨us',pss',rfl,hT,HJE.out,HUL.out,hbW⟩
theorem yK7 (a0:Value) (t:List (List Rat)) (w:World) (h0:SlT .u64 4294967296 w a0 t) (hl:t.length<=1000/\zC t<=1000/\zR9 t/\zD6 t 100000) :
  Calls prog 61 #[a0] w (yJ2 .u64 4294967296 (zG8 t) w):=by
 have bb:Below w.heap.size w w:=Below.refl _ _;have st0:=h0;obtain ⟨A0,c0,rfl,hc0,hm0⟩:=h0.shape;unfold maxLen at hm0;have HL:=hQ9 hl;have ht2:t.length<=1000:=hl.1;have hw2:zC t<=1000:=hl.2.1;clear hl
 go_enter func61,ntmps61
 go_upto_region 1 with (fail)
 have hsz0:=bb.size;have sB:=bb.size;refine zC6 7 [Pd.eq (.slice A0 t.length c0),Pd.eq (.tuple #[.int .i64 ((t.length:Nat):Int),.int .i64 ((zC t:Nat):Int)]),Pd.eq (.tuple #[.int .i64 ((t.length:Nat):Int),.int .i64 ((zC t:Nat):Int)]),Pd.eq (.int .i64 ((t.length:Nat):Int)),Pd.eq (.int .i64 ((zC t:Nat):Int)),Pd.eq (.int .i64 ((t.length:Nat):Int)),Pd.eq (.int .i64 ((zC t:Nat):Int))] (by kernel_rfl) ?ob1 ?done1
 case ob1 =>
  refine zA (zC0 rfl (zB5 rfl) (zB7 rfl rfl) (fun _ _ h=>h)) ?_;refine zA (zE8 rfl func6 (by kernel_rfl) (zB5 rfl) (zB6 (j:=0) (by kernel_rfl) rfl rfl) (fun w2 u0 hb h0=>by obtain rfl:=h0;exact (zR _ t _ ((st0.bQ bb).bQ hb)).mono fun e w3 h=>zE1.pd h)) ?_;refine zA (zC0 rfl (zB5 rfl) (zB6 (j:=1) (by kernel_rfl) rfl rfl) (fun _ _ h=>h)) ?_;refine zA (zF9 rfl (zB5 rfl) (zB6 (j:=2) (by kernel_rfl) rfl rfl) (fun w2 u hu=>by obtain rfl:=hu;exact ⟨_,rfl,rfl⟩)) ?_;refine zA (zF9 rfl (zB5 rfl) (zB6 (j:=2) (by kernel_rfl) rfl rfl) (fun w2 u hu=>by obtain rfl:=hu;exact ⟨_,rfl,rfl⟩)) ?_;refine zA (zE0 rfl (zB5 rfl) (zB6 (j:=3) (by kernel_rfl) rfl rfl) (fun _ _ h=>h)) ?_;refine zA (zE0 rfl (zB5 rfl) (zB6 (j:=4) (by kernel_rfl) rfl rfl) (fun _ _ h=>h)) ?_
  trivial
 case done1 =>
  refine fun w11 hb11 v0 h0 v1 h1 v2 h2 v3 h3 v4 h4 v5 h5 v6 h6 b hbf => ?_;obtain rfl:=h0;obtain rfl:=h1;obtain rfl:=h2;obtain rfl:=h3;obtain rfl:=h4;obtain rfl:=h5;obtain rfl:=h6;simp only [Act.put,zA0,zA2,zA1] at hbf;subst hbf;replace bb:=bb.trans (hb11.mono bb.size);have hsz11:=bb.size;refine zC7 ?_;have sB:=bb.size;go_upto_region 2 with (fail);refine zC6 3 [Pd.eq (.int .i64 ((zC t:Nat):Int)),qD1 (zC t) 46 w11.heap.size,qD1 (zC t) 46 w11.heap.size] (by kernel_rfl) ?ob2 ?done2
  case ob2 =>
   refine zA (zC0 rfl (zB5 rfl) (zB7 rfl rfl) (fun _ _ h=>h)) ?_;refine zA (zE8 rfl func28 (by kernel_rfl) (zB5 rfl) (zB6 (j:=0) (by kernel_rfl) rfl rfl) (fun w2 u0 hb h0=>by obtain rfl:=h0;exact (qO5 _ ((zC t)) _ rfl (by omega)).mono fun e w3 h=>qO4.pd h hb.size)) ?_;refine zA (zE0 rfl (zB5 rfl) (zB6 (j:=1) (by kernel_rfl) rfl rfl) (fun _ _ h=>h)) ?_
   trivial
  case done2 =>
   refine fun w12 hb12 v0 h0 v1 h1 v2 h2 b hbf => ?_;obtain rfl:=h0;have q1:=h1;have q2:=h2;simp only [Act.put,zA0,zA2,zA1] at hbf;subst hbf;replace bb:=bb.trans (hb12.mono bb.size);have hsz12:=bb.size;refine zC7 ?_;obtain ⟨g,rfl,TB,hg⟩:=q2;have hgw:w.heap.size<=g:=by omega
   have hT0:zP9 w12 w.heap.size (.slice (some ⟨g,0,none⟩) (zC t) (zC t)) (zB (zC t) (.slice none 0 0)) (zB (zC t) []):=TB.owned hgw (by omega);clear TB;go_wp2
   go_loopw [19] (fun v19 wr => ∃ (k:Nat) (us:List Value) (pss:List (List Elt)),k<=t.length/\zP9 wr w.heap.size (.slice (some ⟨g,0,none⟩) (zC t) (zC t)) us pss/\Hid (zD5 pss=tst t k 0)/\Hid (us.length=zC t)/\Below w.heap.size w wr/\v19=.int .i64 (k:Int)) (fun v19 _=>t.length-(intOf v19).toNat)
   case atStart=>exact ⟨0,_,_,by omega,hT0,by show _=_;rw [qO0,jF],by show _=_;simp,bb,rfl⟩
   case round =>
    obtain ⟨k,us,pss,hk,hT,HV,HUL,hbw,rfl⟩:=hrel;clear hT0 bb;have bb:=hbw;clear hbw;have hszr:=bb.size;by_cases hlt:k<t.length
    ·have hnt:t≠[]:=List.length_pos_iff.1 (by omega);obtain ⟨x,hx⟩:∃ x,t[k]?=some x:=⟨_,zA3 hlt⟩;have HX:=hQ9 hx;have hxm:=zA5 hx;have HXL:Hid (x.length=zC t):=HL.out.2.2.1 x hxm;have lx:∀ y∈x,zC3 y 100000:=HL.out.2.2.2 x hxm;obtain ⟨ad0,rfl⟩:=st0.place hnt;obtain ⟨Arx,crx,hix,ewx,srx⟩:=st0.at2 hx;clear hx hxm;have ecx:=(bb.cell (bQ0 w _ ewx)).trans ewx;have bl:Below wr.heap.size wr wr:=Below.refl _ _;have sB:=bb.size;go_upto_region 5 with (fail);refine zC6 3 [Pd.eq (.pointer (some (ad0.add k))),Pd.eq (.slice Arx x.length crx),Pd.eq (.slice Arx x.length crx)] (by kernel_rfl) ?ob3 ?done3
     case ob3 =>
      refine zA (zH8 rfl (zB5 rfl) (zB7 rfl rfl) (zB7 rfl rfl) (fun _ _ _ hx hy=>⟨_,by rw [hx,hy];exact qH2 (k:=k) underlying22 (by kernel_rfl) ad0 hlt _,rfl⟩)) ?_;refine zA (zC1 rfl (zB5 rfl) (zB6 (j:=0) (by kernel_rfl) rfl rfl) (fun w2 hb=>zD underlying46 rfl ((hb.cell (bQ0 wr _ ecx)).trans ecx)) (fun _ _=>rfl)) ?_;refine zA (zE0 rfl (zB5 rfl) (zB6 (j:=1) (by kernel_rfl) rfl rfl) (fun _ _ h=>h)) ?_
      trivial
     case done3 =>
      refine fun w14 hb14 v0 h0 v1 h1 v2 h2 b hbf => ?_;obtain rfl:=h0;obtain rfl:=h1;obtain rfl:=h2;simp only [Act.put,zA0,zA2,zA1] at hbf;subst hbf;replace bb:=bb.trans (hb14.mono bb.size);have hsz14:=bb.size;replace bl:=bl.trans (hb14.mono bl.size);refine zC7 ?_;clear ecx;have sB:=bb.size;go_upto_region 6 with (fail);refine zC6 3 [Pd.eq (.slice Arx x.length crx),Pd.eq (.int .i64 ((x.length:Nat):Int)),Pd.eq (.int .i64 0)] (by kernel_rfl) ?ob4 ?done4
      case ob4 =>
       refine zA (zC0 rfl (zB5 rfl) (zB7 rfl rfl) (fun _ _ h=>h)) ?_;refine zA (zK7 rfl (zB5 rfl) (zB6 (j:=0) (by kernel_rfl) rfl rfl) (fun _ _ hx=>⟨_,by rw [hx];exact zK8 underlying46 _ _ _ _,rfl⟩)) ?_;refine zA (zC0 rfl (zB5 rfl) (zG2 _) (fun _ _ h=>h)) ?_
       trivial
      case done4 =>
       refine fun w15 hb15 v0 h0 v1 h1 v2 h2 b hbf => ?_;obtain rfl:=h0;obtain rfl:=h1;obtain rfl:=h2;simp only [Act.put,zA0,zA2,zA1] at hbf;subst hbf;replace bb:=bb.trans (hb15.mono bb.size);have hsz15:=bb.size;replace bl:=bl.trans (hb15.mono bl.size);refine zC7 ?_;have hT1:=hT.bQ bl;go_wp2
       go_loopw [25] (fun v25 wr => ∃ (i:Nat) (us':List Value) (pss':List (List Elt)),i<=x.length/\zP9 wr w.heap.size (.slice (some ⟨g,0,none⟩) (zC t) (zC t)) us' pss'/\Hid (zD5 pss'=tst t k i)/\Hid (us'.length=zC t)/\Below w.heap.size w wr/\v25=.int .i64 (i:Int)) (fun v25 _=>x.length-(intOf v25).toNat)
       case atStart=>exact ⟨0,_,_,by omega,hT1,HV,HUL,bb,rfl⟩
       case round =>
        obtain ⟨i,us',pss',hi,hTi,HVi,HULi,hbw,rfl⟩:=hrel;clear hT1 hT bb bl HV HUL;have bb:=hbw;clear hbw;have hszi:=bb.size;by_cases hlti:i<x.length
        ·have bl:Below wr.heap.size wr wr:=Below.refl _ _;have hxne:x≠[]:=List.length_pos_iff.1 (by omega);have sl9:=srx;obtain ⟨y,hq9_⟩:∃ y,x[i]?=some y:=⟨_,zA3 hlti⟩;obtain ⟨g9_,o9_,ue9,te9,hA9_,_,e90,e91,e92,es9,ed9⟩:=(sl9.bQ bb).at_ hq9_;subst hA9_;have HQ9:=hQ9 hq9_;clear hq9_;obtain ⟨Ae9,ce9,rfl,_⟩:=id es9;obtain ⟨De9,ee9,rfl,_⟩:=id ed9;have ke9:IsQ wr (.agg #[.bool (ngB y.num),.slice Ae9 (digs 4294967296 y.num.natAbs).length ce9,.slice De9 (digs 4294967296 y.den).length ee9]) y:=⟨_,_,rfl,es9,ed9⟩;have sB:=bb.size;go_upto_region 8 with (fail);refine zC6 5 [Pd.eq (.int .i64 (i:Int)),Pd.eq (.pointer (some ⟨g9_,o9_+i*3,none⟩)),Pd.eq (.agg #[.bool (ngB y.num),.slice Ae9 (digs 4294967296 y.num.natAbs).length ce9,.slice De9 (digs 4294967296 y.den).length ee9]),pn 44 #[.bool false,.slice none 0 0,.slice none 0 0] wr.heap.size,Pd.eq (.int .i64 (i:Int))] (by kernel_rfl) ?ob5 ?done5
         case ob5 =>
          refine zA (zC0 rfl (zB5 rfl) (zB7 rfl rfl) (fun _ _ h=>h)) ?_;refine zA (zH8 rfl (zB5 rfl) (zB7 rfl rfl) (zB7 rfl rfl) (fun _ _ _ hx hy=>⟨_,by rw [hx,hy];exact zH9 underlying46 (by kernel_rfl) hlti _,rfl⟩)) ?_;refine zA (zC1 rfl (zB5 rfl) (zB6 (j:=1) (by kernel_rfl) rfl rfl) (fun w2 hb=>zP2 underlying44 rfl (by kernel_rfl) ((hb.cell (bQ0 wr _ e90)).trans e90) ((hb.cell (bQ0 wr _ e91)).trans e91) ((hb.cell (bQ0 wr _ e92)).trans e92)) (fun _ _=>rfl)) ?_;refine zA (zM9 (z:=.agg #[.bool false,.slice none 0 0,.slice none 0 0]) rfl rfl (fun _=>by kernel_rfl) (fun _ _ hB h=>⟨_,rfl,hB,h⟩)) ?_;refine zA (zE0 rfl (zB5 rfl) (zB6 (j:=0) (by kernel_rfl) rfl rfl) (fun _ _ h=>h)) ?_
          trivial
         case done5 =>
          refine fun w17 hb17 v0 h0 v1 h1 v2 h2 v3 h3 d3 v4 h4 b hbf => ?_;obtain rfl:=h0;obtain rfl:=h1;obtain rfl:=h2;obtain rfl:=h4;obtain ⟨g5_3,rfl,hg3,B3⟩:=h3;simp only [Act.put,zA0,zA2,zA1] at hbf;subst hbf;replace es9:=es9.bQ hb17;replace ed9:=ed9.bQ hb17;replace bb:=bb.trans (hb17.mono bb.size);have hsz17:=bb.size;replace bl:=bl.trans (hb17.mono bl.size);have BA9:=B3;have q2:=es9;have d2:=ed9;refine zG5 (i:=5) rfl rfl rfl rfl rfl rfl (cells:=[.bool (ngB (y).num),.slice Ae9 (digs 4294967296 (y).num.natAbs).length ce9,.slice De9 (digs 4294967296 (y).den).length ee9]) rfl BA9 rfl (by kernel_rfl) (zH2 rfl rfl rfl) fun w18 hg18 BN18 => ?_;replace q2:=off q2 BA9 zD3 hg18;replace d2:=off d2 BA9 zD3 hg18;replace bb:=bb.trans ((Below.refl _ _).grown hg18 bb.size (fun g hg=>by injection hg with hg;omega));have hsz18:=bb.size;have Be9:Blk w18 (g5_3) _ _:=BN18;have ke9s:=q2;have ke9d:=d2;have ke9z:IsZ w18 (.agg #[.bool (ngB (y).num),.slice Ae9 (digs 4294967296 (y).num.natAbs).length ce9]) ((y).num):=⟨_,rfl,ke9s⟩;have ke9:IsQ w18 (.agg #[.bool (ngB (y).num),.slice Ae9 (digs 4294967296 (y).num.natAbs).length ce9,.slice De9 (digs 4294967296 (y).den).length ee9]) (y):=⟨_,_,rfl,ke9s,ke9d⟩;refine zC7 ?_;replace bl:=bl.trans ((Below.refl _ _).grown hg18 bl.size (fun g hg=>by injection hg with hg;omega));have ly:zC3 y 100000:=lx y (zA5 HQ9.out);have hiw:i<zC t:=by have:=HXL.out;omega
          obtain ⟨u,hu⟩:∃ u,us'[i]?=some u:=⟨_,zA3 (by have:=HULi.out;omega)⟩;obtain ⟨ps,hps⟩:∃ ps,pss'[i]?=some ps:=⟨_,zA3 (by rw [<- hTi.len];have:=HULi.out;omega)⟩;have HU:=hQ9 hu;have HPS:=hQ9 hps
          have HP:Hid (ps.map (·.1)=zJ8 (t.take k) i):=by
           have h2:=qI2 hps;rw [HVi.out,jF0 hiw] at h2;exact (Option.some.inj h2).symm
          have HST:Hid ((tst t k i).set i (zJ8 (t.take k) i ++ [y])=tst t k (i+1)):=tst_set hiw HX.out HQ9.out
          have HL8:Hid (ps.length<=1000000000):=by
           have h2:=congrArg List.length HP.out;rw [zA9,qC6,bQ7] at h2;show _<=_
           omega
          have bd:=bl.drew;have TD:=hTi.bQ bd;obtain ⟨Au,cu,eu,_⟩:=(TD.own i u ps hu hps).isVF;subst eu;have cD:=TD.cell hu;have fD:=TD.frozen i;have TDH:=hQ9 TD;have K_:=hQ9 ke9;have Be9d:Blk w18.drew _ _ _:=Be9.drew;obtain ⟨x90,x91,x92,_,_,_⟩:=three Be9d;have hszD:w.heap.size<=w18.drew.heap.size:=by have:=bb.size;exact this
          have ks_:=(ke9s).bQ (Below.refl _ w18).drew;have kd_:=(ke9d).bQ (Below.refl _ w18).drew;clear hu hps TD hTi;go_upto_region 9 with (fail)
          go_region_law (first
           | (refine qH1 rfl (.tmp 35) (.tmp 38) rfl underlying46 zP3 (v:=.slice Au ps.length cu) (p:=(y,.slice A6 (digs 4294967296 (y).num.natAbs).length c6,.slice D6 (digs 4294967296 (y).den).length e6)) (ps:=ps) (by rfl) (by exact rC) (ad:=⟨w6.heap.size,0,none⟩) (c:=1) (by rfl) (by exact cC0) (by exact cC1) (by exact cC2) rfl rfl HL8.out (by exact hszC) ?_;intro v7 w7 row7 bb7 HK7;have hV7:=TC.mid (by decide) HU.out HPS.out HK7.out;have c7:=hV7.cellAt HU.out;have f7:=hV7.frozenAt i;obtain ⟨A7,c7_,e7,_⟩:=row7.isVF;rw [zA8] at e7;subst e7)
           | (go_simp;go_at_call 95;refine (yK5 _ y _ ⟨_,_,rfl,(by exact ks_),(by exact kd_)⟩ ly).mono ?_;rintro e w6 ⟨v6,rfl,k6,f6,b6⟩;have T6:=TDH.out.bQ b6;have cell6:=T6.cell HU.out;obtain ⟨u6,t6,rfl,q6,d6⟩:=k6;obtain ⟨A6,c6,rfl,_⟩:=id q6;obtain ⟨D6,e6,rfl,_⟩:=id d6;obtain ⟨cC0,cC1,cC2⟩:=qC4 w6 44 (.bool (ngB (y).num)) (.slice A6 (digs 4294967296 (y).num.natAbs).length c6) (.slice D6 (digs 4294967296 (y).den).length e6);have ba6:=zC9 (w:=w6) (zB3 _) (.cells #[.bool (ngB (y).num),.slice A6 (digs 4294967296 (y).num.natAbs).length c6,.slice D6 (digs 4294967296 (y).den).length e6] 44);have TC:=T6.bQ ba6;have rC:=TC.own i _ ps HU.out HPS.out;have hszC:w.heap.size<=(w6.alloc (.cells #[.bool (ngB (y).num),.slice A6 (digs 4294967296 (y).num.natAbs).length c6,.slice D6 (digs 4294967296 (y).den).length e6] 44)).heap.size:=zB4 (zB4 hszD b6.size) ba6.size;have cellC:=TC.cell HU.out))
          all_goals
           have fr1:=TDH.out.farNew (f6 _ _ _ rfl).1;have fr2:=TDH.out.farNew (f6 _ _ _ rfl).2;have hum:=zA5 HU.out;have EC:IsE .u64 4294967296 (w6.alloc (.cells #[.bool (ngB (y).num),.slice A6 (digs 4294967296 (y).num.natAbs).length c6,.slice D6 (digs 4294967296 (y).den).length e6] 44)) ((y,.slice A6 (digs 4294967296 (y).num.natAbs).length c6,.slice D6 (digs 4294967296 (y).den).length e6):Elt):=⟨q6.bQ ba6,d6.bQ ba6⟩;have F7:=(zH.nil .u64 4294967296 (w6.alloc (.cells #[.bool (ngB (y).num),.slice A6 (digs 4294967296 (y).num.natAbs).length c6,.slice D6 (digs 4294967296 (y).den).length e6] 44)) (.slice Au ps.length cu)).snoc HK7.out.1 EC (fr1.1 _ hum) (fr2.1 _ hum);have T8:=TC.put (by decide) HU.out HPS.out row7 HK7.out F7 (fun v hv q hq=>by rw [List.mem_singleton.1 hq];exact ⟨fr1.1 v hv,fr2.1 v hv⟩) (fun q hq=>by rw [List.mem_singleton.1 hq];exact ⟨fr1.2,fr2.2⟩)
           have HV8:Hid (zD5 (pss'.set i (ps ++ [((y,.slice A6 (digs 4294967296 (y).num.natAbs).length c6,.slice D6 (digs 4294967296 (y).den).length e6):Elt)]))=tst t k (i+1)):=by
            show _=_
            rw [qW5,HVi.out,bX5,HP.out];exact HST.out
           have b8:=((((bb.drew).trans (b6.mono hszD)).trans (ba6.mono (zB4 hszD b6.size))).trans bb7).setCell (p:=⟨g,i,none⟩) hgw (.slice A7 (ps.length+[((y,.slice A6 (digs 4294967296 (y).num.natAbs).length c6,.slice D6 (digs 4294967296 (y).den).length e6):Elt)].length) c7_);have HUL8:Hid ((us'.set i (.slice A7 (ps.length+[((y,.slice A6 (digs 4294967296 (y).num.natAbs).length c6,.slice D6 (digs 4294967296 (y).den).length e6):Elt)].length) c7_)).length=zC t):=by show _=_;rw [zB2];exact HULi.out
           have hsk:x.length-(i+1)<x.length-i:=by omega
           clear TC T6 row7 HK7 hV7 rC cC0 cC1 cC2 cellC cell6 F7 EC ks_ kd_ b6 ba6 bb7 q6 d6;go_wp2;go_roundw;case rel=>exact ⟨i+1,_,_,by omega,T8,HV8,HUL8,b8,by go_num⟩
           case measure=>simp [intOf];omega
        ·obtain rfl:i=x.length:=by omega
         have HV9:Hid (zD5 pss'=tst t (k+1) 0):=by show _=_;rw [HVi.out,HXL.out,jF2]
         clear HVi;go_wp2;refine ⟨⟨k+1,us',pss',by omega,hTi,HV9,HULi,bb,by go_num⟩,?_⟩;simp [intOf];omega
    ·obtain rfl:k=t.length:=by omega
     have hS:=hT.slT;rw [HV.out,tst_end] at hS;clear hT HV;go_wp2;go_ret;exact ⟨_,rfl,hS,bb⟩
theorem heap_setCell {w:World} {g i:Nat} {u:Value} {cs:Array Value} {e:TypeId} (h:w.heap[g]?=some (.cells cs e (0,0))):(w.setCell ⟨g,i,none⟩ u).heap[g]?=some (.cells (cs.setIfInBounds i u) e (0,0)):=by
 simp [World.setCell,Array.getElem?_modify,h]
theorem zE2.stored {k:IntKind} {B:Nat} {w:World} {g:Nat} {TS:TypeId} {us:List Value} {t:List (List Rat)} (h:zE2 k B w g TS us t) (i:Nat) {u:Value} {r:List Rat} (hu:SlF k B w u r):zE2 k B (w.setCell ⟨g,i,none⟩ u) g TS (us.set i u) (t.set i r):=h.put (zF4 w g i u) (heap_setCell h.1.1) hu
theorem zE2.cellAt {k:IntKind} {B:Nat} {w:World} {g:Nat} {TS:TypeId} {us:List Value} {t:List (List Rat)} (h:zE2 k B w g TS us t) {i:Nat} (hi:i<t.length):∃ u,w.cell? ⟨g,i,none⟩=some u:=by
 have hu:us[i]?=some (us[i]'(by rw [h.2.1];exact hi)):=zA3 _
 have:=h.1.cell hu
 rw [zS] at this;exact ⟨_,this⟩
theorem zE2.frozenAt {k:IntKind} {B:Nat} {w:World} {g:Nat} {TS:TypeId} {us:List Value} {t:List (List Rat)} (h:zE2 k B w g TS us t) (i:Nat):w.frozen? ⟨g,i,none⟩=false:=h.1.1.frozen i
theorem jK7 {α : Type} {T:List (List α)} {k n:Nat} (h:T.length=n) (hk:k<=n):(zS0 T k n).length=n:=by
 unfold zS0;rw [zA8,bQ7,List.length_replicate,h];omega
theorem qD2 (n:Int) (hn:n≠0) {w w':World} (hb:Below w.heap.size w w'):zV1 [] n w (.returned (.tuple #[.slice none 0 0,.int .i64 n])) w':=⟨_,rfl,by rw [if_neg hn];exact slT_nil _ _ _,hb⟩
theorem jK8 (a0 a1:Value) (p q:List (List Rat)) (m n:Nat) (w:World) (h0:SlT .u64 4294967296 w a0 p) (h1:SlT .u64 4294967296 w a1 q) (he:∀ r∈p,r.length=q.length)
  (hl:p.length<=1000/\q.length<=1000/\zC q<=1000/\zR9 q/\zD6 p m/\zD6 q n/\1<=n/\n<=4800/\(n+m+1)*q.length+1<=4800) :
  Calls prog 29 #[a0,a1] w (yJ2 .u64 4294967296 (zI p q) w):=by
 have st0:=h0;obtain ⟨A0,c0,rfl,hc0,hm0⟩:=h0.shape;unfold maxLen at hm0;have st1:=h1;obtain ⟨A1,c1,rfl,hc1,hm1⟩:=h1.shape;unfold maxLen at hm1;have HL:=hQ9 hl;have HE:=hQ9 he;have hpl:p.length<=1000:=hl.1;have HTQ:Hid (q.length<=1000/\zC q<=1000/\zR9 q/\zD6 q 100000):=⟨hl.2.1,hl.2.2.1,hl.2.2.2.1,hl.2.2.2.2.2.1.mono (zB4 hl.2.2.2.2.2.2.2.1 (by decide))⟩;have HTT:Hid ((zI p q).length=p.length):=qM6 p q;have HD:Hid ((zG8 q).length<=1000/\zD6 (zG8 q) n):=⟨by rw [qU8];exact hl.2.2.1,jG hl.2.2.2.2.2.1 hl.2.2.2.2.2.2.1⟩;clear hl he
 go_enter func29,ntmps29;go_wp2_with fail
 refine (yK7 _ q _ st1 HTQ.out).mono ?_;rintro e w2 ⟨C,rfl,SC,b2⟩;obtain ⟨AC,cC,rfl,hcC,hmC⟩:=SC.shape;go_wp2_with fail
 refine (qO5 _ p.length _ rfl (by omega)).mono ?_;rintro e w3 ⟨g,rfl,TB,hg,b3⟩;have TS0:zE2 .u64 4294967296 w3 g 46 (zB p.length (.slice none 0 0)) (zS0 (zI p q) 0 p.length):=by rw [jI8];exact TB.bare
 clear TB;go_wp2
 go_loopw [16] (fun v16 wr => ∃ (k:Nat) (us:List Value),k<=p.length/\zE2 .u64 4294967296 wr g 46 us (zS0 (zI p q) k p.length)/\Below w2.heap.size w2 wr/\v16=.int .i64 (k:Int)) (fun v16 _=>p.length-(intOf v16).toNat)
 case atStart=>exact ⟨0,_,by omega,TS0,b3,rfl⟩
 case round =>
  obtain ⟨k,us,hk,TS,hb2,rfl⟩:=hrel;clear TS0 b3;have bb:Below w.heap.size w wr:=b2.trans (hb2.mono b2.size);by_cases hlt:k<p.length
  ·have hnp:p≠[]:=List.length_pos_iff.1 (by omega);obtain ⟨x,hx⟩:∃ x,p[k]?=some x:=⟨_,zA3 hlt⟩;have hxm:=zA5 hx;obtain ⟨ad,rfl⟩:=st0.place hnp;obtain ⟨Ax,cx,hi,ewx,srx⟩:=st0.at2 hx;have ecx:=(bb.cell (bQ0 w _ ewx)).trans ewx;have HXL:Hid (x.length=q.length):=HE.out x hxm;have HAT:Hid ((zI p q)[k]?=some (zP6 (zG8 q) x)):=by show _=_;rw [jF7];exact mulq_at hx
   have SCr:=SC.bQ hb2;have HDX:Hid ((∀ r∈zG8 q,r.length=x.length)/\(zG8 q).length<=1000/\x.length<=1000/\zD6 (zG8 q) n/\(∀ y∈x,zC3 y m)/\(n+m+1)*x.length+1<=4800):=⟨fun r hr=>by rw [qM7 r hr,HXL.out],HD.out.1,by rw [HXL.out];exact HL.out.2.1,HD.out.2,HL.out.2.2.2.2.1 x hxm,by rw [HXL.out];exact HL.out.2.2.2.2.2.2.2.2⟩;have hsx:=srx.bQ bb;clear hx hxm ewx srx;go_wp2_with fail
   refine (jK4 _ _ (zG8 q) x n m _ SCr hsx HDX.out.1 HDX.out.2).mono ?_;rintro e w4 ⟨R,rfl,sR,b4⟩;obtain ⟨AR,cR,rfl,_,_⟩:=sR.shape;have TS4:=TS.bQ b4;obtain ⟨u0,c4⟩:=TS4.cellAt (i:=k) (by rw [jK7 HTT.out hk];exact hlt);have f4:=TS4.frozenAt k;have TS5:=TS4.stored k sR;rw [jJ HTT.out HAT.out] at TS5;have hb5:=(hb2.trans (b4.mono hb2.size)).setCell (p:=⟨g,k,none⟩) hg (.slice AR (zP6 (zG8 q) x).length cR);have hsk:p.length-(k+1)<p.length-k:=by omega
   clear TS TS4 sR ecx SCr hsx;go_wp2;go_roundw;case rel=>exact ⟨k+1,_,by omega,TS5,hb5,by go_num⟩
   case measure=>simp [intOf];omega
  ·obtain rfl:k=p.length:=by omega
   rw [jI9 HTT.out] at TS;have hS:=TS.slT HTT.out (by omega);clear TS;go_wp2;go_ret;exact ⟨_,rfl,hS,bb⟩
theorem jK9 (a0:Value) (t:List (List Rat)) (w:World) (h0:SlT .u64 4294967296 w a0 t) (hl:zD6 t 100000) :
  Calls prog 56 #[a0] w (fun e w'=>(zF5 t/\zV1 (zG8 t) 0 w e w')\/(¬ zF5 t/\zV1 [] 8 w e w')):=by
 have st0:=h0;obtain ⟨A0,c0,rfl,hc0,hm0⟩:=h0.shape;have HL:=hQ9 hl;clear hl
 go_enter func56,ntmps56
 by_cases h:zF5 t
 ·have HM:=hQ9 h
  go_wp2_with fail
  refine (zW9 _ t true _ st0 (decide_eq_true HM.out).symm).mono ?_;rintro e w2 ⟨rfl,b2⟩;have st2:=st0.bQ b2;clear h;go_wp2_with fail
  refine (yK7 _ t _ st2 ⟨zB4 HM.out.1 (by decide),zB4 HM.out.2.1 (by decide),HM.out.2.2,HL.out⟩).mono ?_;rintro e w3 ⟨V,rfl,sV,b3⟩;go_wp2;go_ret2;exact .inl ⟨HM.out,_,rfl,by rw [if_pos rfl];exact sV,b2.trans (b3.mono b2.size)⟩
 ·have HM:=hQ9 h
  go_wp2_with fail
  refine (zW9 _ t false _ st0 (decide_eq_false HM.out).symm).mono ?_;rintro e w2 ⟨rfl,b2⟩;clear h;go_wp2;go_ret2;exact .inr ⟨HM.out,qD2 8 (by decide) b2⟩
theorem zL5.tail {w:World} {ad:Addr} {n c:Nat} {ts:List (List (List Rat))} (h:zL5 w (.slice (some ad) n c) ts) (hne:ts≠[]):zL5 w (.slice (if c=1 then some ad else some (ad.add 1)) (n-1) (c-1)) ts.tail:=by
 obtain ⟨us,h1,⟨A,c',e,hc,hcell⟩,h3,h4⟩:=h;injection e with e1 e2 e3;subst e1;subst e2;subst e3;have hpos:0<ts.length:=List.length_pos_iff.2 hne;refine ⟨us.tail,by rw [List.length_tail,List.length_tail,h1],?_,by rw [List.length_tail];omega,fun i u t hu ht => ?_⟩
 ·by_cases h2:c=1
  ·have:us.tail=[]:=List.length_eq_zero_iff.1 (by rw [List.length_tail];omega);rw [this];exact ⟨_,_,by rw [show us.length-1=0 by omega];rfl,by simp,fun i u hu=>by simp at hu⟩
  ·rw [if_neg h2];refine ⟨some (ad.add 1),c-1,by rw [List.length_tail],by rw [List.length_tail];omega,fun i u hu => ?_⟩;rw [List.getElem?_tail] at hu;obtain ⟨ad',ha,hc2⟩:=hcell (i+1) u hu;injection ha with ha;subst ha;refine ⟨_,rfl,?_⟩
   have e:(ad.add 1).add i=ad.add (i+1):=by
    unfold Addr.add;by_cases hi:i=0
    ·simp [hi]
    ·simp [hi];omega
   rw [e];exact hc2
 ·rw [List.getElem?_tail] at hu ht;exact h4 (i+1) u t hu ht
def okAt (ts:List (List (List Rat))) (i:Nat) (t:List (List Rat)):Prop:=zF5 t /\ ∀ (s:List (List Rat)),0<i->ts[i-1]?=some s->zC s=t.length
theorem yK8 {α β : Type} (f : α -> β -> α) (a : α) {l:List β} {j:Nat} {x : β} (h:l[j]?=some x):(l.take (j+1)).foldl f a=f ((l.take j).foldl f a) x:=by
 rw [bQ9,h];simp [List.foldl_append]
def zV2 (n:Nat) (ts:List (List (List Rat))):Prop:=∀ t∈ts,zF5 t/\t.length=n
theorem yK9 {n j:Nat} {ts:List (List (List Rat))} {t:List (List Rat)} (h:ts[j]?=some t):zO7 n (ts.take (j+1))=zF0 (zO7 n (ts.take j)) t:=yK8 zF0 _ h
theorem yL {α : Type} {P t:List (List α)} {r:List α} (h:r∈zF0 P t):∃ p∈P,∃ q∈t,r=p ++ q:=by
  obtain ⟨i,hi⟩:=List.mem_iff_getElem?.1 h;unfold zF0 at hi;rw [List.getElem?_zipWith] at hi
  cases hp:P[i]? with
  | none=>rw [hp] at hi;cases hi
  | some p =>
    cases hq:t[i]? with
    | none=>rw [hp,hq] at hi;cases hi
    | some q =>
      rw [hp,hq] at hi;obtain rfl:p ++ q=r:=by simpa using hi
      exact ⟨p,zA5 hp,q,zA5 hq,rfl⟩
theorem jL {l:List Nat} {j x:Nat} (h:l[j]?=some x):(l.take (j+1)).sum=(l.take j).sum+x:=by
 rw [bQ9,h];simp
theorem sum_take_le:∀ (l:List Nat) (j:Nat),(l.take j).sum<=l.sum
 | [],j=>by simp
 | x :: l,0=>by simp
 | x :: l,j+1=>by have:=sum_take_le l j;simp;omega
def RetTO (n:Nat) (t:List (List Rat)) (w:World) (e:Ending) (w':World):Prop:=∃ g us pss,e=.returned (.tuple #[.slice (some ⟨g,0,none⟩) n n,.int .i64 0])/\zP9 w' w.heap.size (.slice (some ⟨g,0,none⟩) n n) us pss/\zD5 pss=t/\us.length=n/\w.heap.size<=g/\Below w.heap.size w w'
theorem yL0 (a0:Value) (ts:List (List (List Rat))) (t0:List (List Rat)) (w:World) (h0:zL5 w a0 ts) (ht0:ts[0]?=some t0) (hl:ts.length<=3/\(ts.map zC).sum<=200/\(∀ t∈ts,zD6 t 100000)/\t0.length<=200) :
    Calls prog 32 #[a0] w (fun e w'=>(zV2 t0.length ts/\RetTO t0.length (zO7 t0.length ts) w e w')\/(¬ zV2 t0.length ts/\zV1 [] 8 w e w')):=by
  have st0:=h0;obtain ⟨A0,c0,rfl,hc0⟩:=h0.shape;have HL:=hQ9 hl;have hl3:ts.length<=3:=hl.1;have hpos:0<ts.length:=(zA4.1 ht0).1;have hn:ts≠[]:=List.length_pos_iff.1 hpos;have hneb:(((ts.length:Nat):Int) == 0)=false:=by rw [beq_eq_false_iff_ne];omega
  have hne0:¬ ((ts.length:Nat):Int)=0:=by omega
  have ht02:t0.length<=200:=hl.2.2.2;obtain ⟨ad,rfl⟩:=st0.place hn;obtain ⟨At0,ct0,hit0,ew0,stt0⟩:=st0.at2 ht0;have ead:ad.add 0=ad:=by simp [Addr.add]
  rw [ead] at ew0;have HT0:=hQ9 ht0;clear hl ht0
  go_enter func32,ntmps32
  go_wp2
  go_loopw [4,14] (fun v4 v14 wr => ∃ k S:Nat,k<=ts.length/\Hid (∀ (i:Nat) (t:List (List Rat)),i<k->ts[i]?=some t->zF5 t/\t.length=t0.length)/\Hid (S=((ts.map zC).take k).sum)/\Below w.heap.size w wr/\v4=.int .i64 (S:Int)/\v14=.int .i64 (k:Int)) (fun _ v14 _=>ts.length-(intOf v14).toNat)
  case atStart=>exact ⟨0,0,by omega,(by show ∀ i,_;intro i t hi;omega),rfl,Below.refl _ _,rfl,rfl⟩
  case round =>
    obtain ⟨k,S,hk,HA,HS,bb,rfl,rfl⟩:=hrel;have ec0:=(bb.cell (bQ0 w _ ew0)).trans ew0;by_cases hlt:k<ts.length
    · obtain ⟨t, ht⟩:∃ t, ts[k]?=some t := ⟨_, zA3 hlt⟩;have HT:=hQ9 ht;obtain ⟨At,ct,hit,ect,stt⟩:=(st0.bQ bb).at2 ht;have hS2:((ts.map zC).take (k+1)).sum=S+zC t:=by rw [jL (x:=zC t) (by rw [zB1,ht];rfl),HS.out]
      have hSle:S+zC t<=200:=by
        have h1:=sum_take_le (ts.map zC) (k+1);have h2:=HL.out.2.1;omega
      have HS2:=hQ9 hS2.symm;clear ht hS2;go_wp2_with fail
      refine (zR _ t _ stt).mono ?_;rintro e w2 ⟨rfl,b2⟩;have bb2:=bb.trans (b2.mono bb.size);have stt2:=stt.bQ b2;have hov:(S:Int)+((zC t:Nat):Int)<=200:=by omega
      have hov2:¬ (200:Int)<(S:Int)+((zC t:Nat):Int):=by omega
      clear ect stt b2;by_cases hm:zF5 t
      · have HM:=hQ9 hm;clear hm
        go_wp2_with fail
        refine (zW9 _ t true _ stt2 (decide_eq_true HM.out).symm).mono ?_;rintro e w3 ⟨rfl,b3⟩;have bb3:=bb2.trans (b3.mono bb2.size);have ec3:=(bb3.cell (bQ0 w _ ew0)).trans ew0;clear stt2 b3;by_cases hle:t.length=t0.length
        · have hne:(((t.length:Nat):Int) != ((t0.length:Nat):Int))=false:=by rw [bne_eq_false_iff_eq,hle]
          have hne':((t.length:Nat):Int)=((t0.length:Nat):Int):=by rw [hle]
          have HLE:=hQ9 hle
          have HA2:Hid (∀ (i:Nat) (t:List (List Rat)),i<k+1->ts[i]?=some t->zF5 t/\t.length=t0.length):=by
            show ∀ i,_
            intro i t' hi h';by_cases e:i=k
            · subst e;rw [HT.out] at h';injection h' with h';subst h';exact ⟨HM.out,HLE.out⟩
            · exact HA.out i t' (by omega) h'
          have hsk:ts.length-(k+1)<ts.length-k:=by omega
          clear hle HA ec0;go_wp2;go_roundw;case rel=>exact ⟨k+1,S+zC t,by omega,HA2,HS2,bb3,by go_num,by go_num⟩
          case measure=>simp [intOf];omega
        · have hne:(((t.length:Nat):Int) != ((t0.length:Nat):Int))=true:=by rw [bne_iff_ne];omega
          have hne':¬ ((t.length:Nat):Int)=((t0.length:Nat):Int):=by omega
          have HN:Hid (¬ zV2 t0.length ts):=fun h=>hle (h t (zA5 HT.out)).2;clear hle HA ec0;go_wp2;go_ret2;exact .inr ⟨HN.out,qD2 8 (by decide) bb3⟩
      · have HM:=hQ9 hm;clear hm
        go_wp2_with fail
        refine (zW9 _ t false _ stt2 (decide_eq_false HM.out).symm).mono ?_;rintro e w3 ⟨rfl,b3⟩;have bb3:=bb2.trans (b3.mono bb2.size);have HN:Hid (¬ zV2 t0.length ts):=fun h=>HM.out (h t (zA5 HT.out)).1;clear HA ec0;go_wp2;go_ret2;exact .inr ⟨HN.out,qD2 8 (by decide) bb3⟩
    · obtain rfl:k=ts.length:=by omega
      have HB:Hid (zV2 t0.length ts):=fun t ht=>by
        obtain ⟨i,hi⟩:=List.mem_iff_getElem?.1 ht;exact HA.out i t (zA4.1 hi).1 hi
      clear HA HS;go_wp2_with fail
      refine (qO5 _ t0.length _ rfl (by omega)).mono ?_;rintro e w4 ⟨g,rfl,TB,hg,b4⟩;have bb4:=bb.trans (b4.mono bb.size);have hgw:w.heap.size<=g:=zB4 bb.size hg;have hT0:zP9 w4 w.heap.size _ _ _:=TB.owned hgw (by omega);have HV0:Hid (zD5 (zB t0.length ([]:List Elt))=zO7 t0.length (ts.take 0)):=by show _=_;rw [qO0];rfl
      have HU0:Hid ((zB t0.length (Value.slice none 0 0)).length=t0.length):=by show _=_;simp
      have HR0:Hid (∀ r∈zO7 t0.length (ts.take 0),r.length<=200*0):=by
        show ∀ r∈_,_
        intro r hr;rw [(List.mem_replicate.1 (show r∈zB t0.length [] from hr)).2];exact zB3 _
      clear TB ec0 bb b4;go_wp2
      go_loopw [9,52] (fun v9 v52 wr => ∃ (k:Nat) (us:List Value) (pss:List (List Elt)),k<=ts.length/\zP9 wr w.heap.size (.slice (some ⟨g,0,none⟩) t0.length t0.length) us pss/\Hid (zD5 pss=zO7 t0.length (ts.take k))/\Hid (us.length=t0.length)/\Hid (∀ r∈zO7 t0.length (ts.take k),r.length<=200*k)/\Below w.heap.size w wr/\v9=.slice (some ⟨g,0,none⟩) t0.length t0.length/\v52=.int .i64 (k:Int)) (fun _ v52 _=>ts.length-(intOf v52).toNat)
      case atStart=>exact ⟨0,_,_,by omega,hT0,HV0,HU0,HR0,bb4,rfl,rfl⟩
      case round =>
        clear hT0 HV0 HU0 HR0 bb4;obtain ⟨k,us,pss,hk,hT,HV,HU,HR,bb,rfl,rfl⟩:=hrel;by_cases hlt:k<ts.length
        · obtain ⟨t,ht⟩:∃ t,ts[k]?=some t:=⟨_,zA3 hlt⟩;have HT:=hQ9 ht;obtain ⟨At,ct,hit,ewt,stt⟩:=st0.at2 ht;have ect:=(bb.cell (bQ0 w _ ewt)).trans ewt;have htm:=zA5 ht;have HTB:Hid (zF5 t/\t.length=t0.length):=HB.out t htm;have HW:Hid (∀ r∈t,r.length<=200):=fun r hr=>by rw [HTB.out.1.2.2 r hr];exact HTB.out.1.2.1
          have HLT:Hid (zD6 t 100000):=HL.out.2.2.1 t htm;have HV2:Hid (zF0 (zD5 pss) t=zO7 t0.length (ts.take (k+1))):=by show _=_;rw [yK9 ht,HV.out]
          have HR2:Hid (∀ r∈zO7 t0.length (ts.take (k+1)),r.length<=200*(k+1)):=by
            show ∀ r∈_,_
            intro r hr;rw [yK9 ht] at hr;obtain ⟨p,hp,q,hq,rfl⟩:=yL hr;have h1:=HR.out p hp;have h2:=HW.out q hq;rw [zA8];omega
          clear ht htm ewt;go_wp2_with fail
          refine (yK6 g t0.length t0.length _ us pss t w _ hT stt bb HU.out HTB.out.2 hgw ⟨fun r hr=>by rw [HV.out] at hr;have:=HR.out r hr;omega,fun r hr=>zB4 (HW.out r hr) (by decide),HLT.out⟩).mono ?_;rintro e w7 ⟨us7,pss7,rfl,T7,V7,L7,b7⟩;have bb7:=bb.trans b7;have HV7:Hid (zD5 pss7=zO7 t0.length (ts.take (k+1))):=by show _=_;rw [V7,HV2.out]
          have HU7:=hQ9 L7;have hsk:ts.length-(k+1)<ts.length-k:=by omega
          clear hT HV HU HR stt ect V7 L7 b7;go_wp2;go_roundw;case rel=>exact ⟨k+1,us7,pss7,by omega,T7,HV7,HU7,HR2,bb7,rfl,by go_num⟩
          case measure=>simp [intOf];omega
        · obtain rfl:k=ts.length:=by omega
          have HV2:Hid (zD5 pss=zO7 t0.length ts):=by
            show _=_
            rw [HV.out,zA7 (zB3 _)]
          clear HV HR;go_wp2;go_ret2;exact .inl ⟨HB.out,g,us,pss,rfl,hT,HV2.out,HU.out,hgw,bb⟩
theorem jL0 (a0:Value) (ts:List (List (List Rat))) (t0:List (List Rat)) (w:World) (h0:zL5 w a0 ts) (ht0:ts[0]?=some t0) (hl:ts.length<=3/\(ts.map zC).sum<=200/\(∀ t∈ts,zD6 t 100000)/\t0.length<=200) :
  Calls prog 32 #[a0] w (fun e w'=>(zV2 t0.length ts/\zV1 (zO7 t0.length ts) 0 w e w')\/(¬ zV2 t0.length ts/\zV1 [] 8 w e w')):=
 (yL0 a0 ts t0 w h0 ht0 hl).mono fun e w' h => by
  rcases h with ⟨h1,g,us,pss,rfl,hT,hV,hU,hg,hb⟩|h
  ·have hS:=hT.slT;rw [hV] at hS;exact .inl ⟨h1,_,rfl,by rw [if_pos rfl];exact hS,hb⟩
  ·exact .inr h
theorem zT4 {w:World} {g i:Nat} {t:TypeId} {cs:Array Value} (h:Blk w g t cs) (u:Value):Blk (w.setCell ⟨g,i,none⟩ u) g t (cs.setIfInBounds i u):=by
 unfold Blk at h |-;simp [World.setCell,Array.getElem?_modify,h]
theorem qD3 {w:World} {g:Nat} {t:TypeId} {a b c:Value} (h:Blk w g t #[a,b,c]) (x y z:Value):Blk (((w.setCell ⟨g,0,none⟩ x).setCell ⟨g,1,none⟩ y).setCell ⟨g,2,none⟩ z) g t #[x,y,z]:=zT4 (zT4 (zT4 h x) y) z
theorem zJ9 {w w2 w3:World} {row:Option Nat} (hg:w.grownBy w2 row) (hb:Below w2.heap.size w2 w3):w.grownBy w3 row :=
 ⟨hb.os.trans hg.os,hb.tape.trans hg.tape,hb.output.trans hg.output,zB4 hg.size hb.size,fun k hk hne=>(hb.block k (bY2 hk hg.size)).trans (hg.block k hk hne)⟩
theorem qW7 {w w2:World} (hb:Below w.heap.size w w2) (row:Option Nat):w.grownBy w2 row:=⟨hb.os,hb.tape,hb.output,hb.size,fun k hk _=>hb.block k hk⟩
theorem yL1 {x:Rat} : (zJ4 x.num 0 == 0)=decide (x=0):=by
 by_cases h:x=0
 ·rw [h,decide_eq_true rfl];rfl
 ·rw [decide_eq_false h,beq_eq_false_iff_ne];intro e;have hz:x.num≠0:=fun k=>h (Rat.num_eq_zero.1 k)
  rcases Int.lt_or_gt_of_ne hz with k | k
  ·rw [qF8 k] at e;cases e
  ·rw [qF9 k] at e;cases e
section
variable {w:World} {ops:Array Oper} {o:Oper} {a:Act} {K:Act->World->Prop} {Q:Exit->Act->World->Prop} {E:Prop} {b R C i j:Nat} {T:List (List Rat)}
end
theorem yL2:∀ (l:List Value) (k:Nat) (x y z:Value),k+3<=l.length->((l.set k x).set (k+1) y).set (k+2) z=l.take k ++ [x,y,z] ++ l.drop (k+3)
  | [],k,x,y,z,h=>by simp at h
  | a :: l, k + 1, x, y, z, h => by
    have ih:=yL2 l k x y z (by simpa using h);rw [zA1,zA1,zA1,ih];simp
  | a :: l, 0, x, y, z, h => by
    match l,h with
    | b :: c :: l,_=>simp
    | [b],h=>simp at h
    | [],h=>simp at h
theorem jL1 {w:World} {g n i:Nat} {qs:List Rat} {q:Rat} {u t:Value} (h:zD2 w g n qs) (hi:i<n) (hu:IsS w .u64 u (digs 4294967296 q.num.natAbs)) (ht:IsS w .u64 t (digs 4294967296 q.den)) :
  w.grownBy (((w.setCell ⟨g,0+i*3,none⟩ (.bool (ngB q.num))).setCell ⟨g,0+i*3+1,none⟩ u).setCell ⟨g,0+i*3+2,none⟩ t) (some g)/\(i=qs.length->zD2 (((w.setCell ⟨g,0+i*3,none⟩ (.bool (ngB q.num))).setCell ⟨g,0+i*3+1,none⟩ u).setCell ⟨g,0+i*3+2,none⟩ t) g n (qs ++ [q]))/\(i<qs.length->zD2 (((w.setCell ⟨g,0+i*3,none⟩ (.bool (ngB q.num))).setCell ⟨g,0+i*3+1,none⟩ u).setCell ⟨g,0+i*3+2,none⟩ t) g n (qs.set i q)):=by
 have hg:w.grownBy (((w.setCell ⟨g,0+i*3,none⟩ (.bool (ngB q.num))).setCell ⟨g,0+i*3+1,none⟩ u).setCell ⟨g,0+i*3+2,none⟩ t) (some g) :=
  ((zF4 w g (0+i*3) _).andThen (zF4 _ g (0+i*3+1) _) (fun j e => .inr e)).andThen (zF4 _ g (0+i*3+2) _) (fun j e => .inr e)
 have hsz:∀ cs,Blk w g 44 cs->cs.size=n*3:=fun cs hcs=>by
  obtain ⟨ps,h1,_,h3,_⟩:=h;unfold Blk at h3 hcs;rw [h3] at hcs;injection hcs with hcs;injection hcs with hcs;rw [<- hcs,List.size_toArray,qN9,h1]
 refine ⟨hg,h.put hi hu ht hg fun cs hcs => ?_⟩;have h1:=zT4 (zT4 (zT4 hcs (i:=0+i*3) (.bool (ngB q.num))) (i:=0+i*3+1) u) (i:=0+i*3+2) t;have h2:=hsz cs hcs;obtain ⟨l⟩:=cs
 have e:(((⟨l⟩:Array Value).setIfInBounds (0+i*3) (.bool (ngB q.num))).setIfInBounds (0+i*3+1) u).setIfInBounds (0+i*3+2) t=(l.take (0+i*3) ++ [.bool (ngB q.num),u,t] ++ l.drop (0+i*3+3)).toArray:=by
  rw [<- yL2 l (0+i*3) (.bool (ngB q.num)) u t (by simp at h2;omega)];simp
 rw [e] at h1;exact h1
theorem zD2.places {w:World} {g n i:Nat} {qs:List Rat} (h:zD2 w g n qs) (hi:i<n):∃ x y z,w.cell? ⟨g,0+i*3,none⟩=some x/\w.cell? ⟨g,0+i*3+1,none⟩=some y/\w.cell? ⟨g,0+i*3+2,none⟩=some z/\w.frozen? ⟨g,0+i*3,none⟩=false/\w.frozen? ⟨g,0+i*3+1,none⟩=false/\w.frozen? ⟨g,0+i*3+2,none⟩=false:=by
 obtain ⟨ps,h1,h2,h3,h4,h5⟩:=h;obtain ⟨f0,f1,f2⟩:=qM0 ps i _ (zA3 (by omega));rw [bY5];exact ⟨_,_,_,by rw [h3.cell,bW8];exact f0,by rw [h3.cell,bW8];exact f1,by rw [h3.cell,bW8];exact f2,h3.frozen _,h3.frozen _,h3.frozen _⟩
theorem yL3 {w:World} {g n i:Nat} {qs:List Rat} {q:Rat} {u t:Value} (h:zD2 w g n qs) (hi:i<n) (hu:IsS w .u64 u (digs 4294967296 q.num.natAbs)) (ht:IsS w .u64 t (digs 4294967296 q.den)) :
  w.grownBy (((w.setCell ⟨g,i*3,none⟩ (.bool (ngB q.num))).setCell ⟨g,i*3+1,none⟩ u).setCell ⟨g,i*3+2,none⟩ t) (some g)/\(i=qs.length->zD2 (((w.setCell ⟨g,i*3,none⟩ (.bool (ngB q.num))).setCell ⟨g,i*3+1,none⟩ u).setCell ⟨g,i*3+2,none⟩ t) g n (qs ++ [q]))/\(i<qs.length->zD2 (((w.setCell ⟨g,i*3,none⟩ (.bool (ngB q.num))).setCell ⟨g,i*3+1,none⟩ u).setCell ⟨g,i*3+2,none⟩ t) g n (qs.set i q)):=by
 have h1:=jL1 h hi hu ht;rw [bY5] at h1;exact h1
theorem zD2.place {w:World} {g n i:Nat} {qs:List Rat} (h:zD2 w g n qs) (hi:i<n):∃ x y z,w.cell? ⟨g,i*3,none⟩=some x/\w.cell? ⟨g,i*3+1,none⟩=some y/\w.cell? ⟨g,i*3+2,none⟩=some z/\w.frozen? ⟨g,i*3,none⟩=false/\w.frozen? ⟨g,i*3+1,none⟩=false/\w.frozen? ⟨g,i*3+2,none⟩=false:=by
 have h1:=h.places hi;rw [bY5] at h1;exact h1
theorem yL4 {P:Program} {t e:TypeId} (hu:P.underlying t=some (.slice e)) (hs:(P.info? e).map (·.size)=some 3) {g n c k:Nat} (hk:k<n) (w:World):(Instr.indexAt t (.slice (some ⟨g,0,none⟩) n c) (.int .i64 (k:Int))).run P w=.ok (.pointer (some ⟨g,k*3,none⟩)) w:=by
 have h:=zH9 (P:=P) hu hs (g:=g) (o:=0) (c:=c) hk w;rw [bY5] at h;exact h
theorem zD2.away {w w':World} {g g2 n n2:Nat} {qs qs2:List Rat} (h:zD2 w g n qs) (h2:zD2 w g2 n2 qs2) (hg:w.grownBy w' (some g2)) (hne:g≠g2):zD2 w' g n qs:=by
 obtain ⟨ps,h1,_,h3,h4,_⟩:=h2;exact h.offb h3 (yJ8 h4) hg hne
theorem yL5:∀ (p q:List Rat) (x y:Rat),p.length=q.length->zI8 (p ++ [x]) (q ++ [y])=zI8 p q+x*y
  | [],[],x,y,_=>by simp [zI8,zP4,zN8]
  | a :: p, b :: q, x, y, h => by
    have ih:=yL5 p q x y (by simpa using h);rw [List.cons_append,List.cons_append,qM5,qM5,ih,Rat.add_assoc]
  | [],b :: q,x,y,h=>by simp at h
  | a :: p,[],x,y,h=>by simp at h
theorem jL2 {r v:List Rat} {k:Nat} {x y:Rat} (hx:r[k]?=some x) (hy:v[k]?=some y):zI8 (r.take (k+1)) (v.take (k+1))=zI8 (r.take k) (v.take k)+x*y:=by
 rw [bQ9,bQ9,hx,hy];have h1:=(zA4.1 hx).1;have h2:=(zA4.1 hy).1;exact yL5 _ _ _ _ (by rw [bQ7,bQ7];omega)
end rat
namespace rat
open Go.RowKit Go.ChangeShapes Go.WideShapes Go.ChangeAt Go.Joins Go.Deep num mem nat txt str flow whl
def zT5 (w:World) (v:Value):Prop:=∃ A n c,v=.slice A n c/\n<=c/\c<=maxLen /\ ∀ i,i<n -> ∃ ad u,A=some ad/\w.cell? (ad.add i)=some u/\zZ6 w u
theorem zT5.bQ {w w':World} {v:Value} (h:zT5 w v) (hb:Below w.heap.size w w'):zT5 w' v:=by
 obtain ⟨A,n,c,e,h1,h2,h3⟩:=h;refine ⟨A,n,c,e,h1,h2,fun i hi => ?_⟩;obtain ⟨ad,u,a1,e0,k⟩:=h3 i hi;exact ⟨ad,u,a1,(hb.cell (bQ0 w _ e0)).trans e0,zZ6.bQ k hb⟩
theorem trod_qs {H:Type} {enc:TypeId × Value->H} {P:Program} {W:World} {fuel:Nat} {ts t e:TypeId} {f0 f1 g0 g1:Field} {v:Value} {x:DataW H × List MemPlace} (ht:P.underlying ts=some (.slice t)) (hs:P.underlying t=some (.struct #[f0,f1])) (hC:P.cellsOf t=3) (ho:(f0.offset == 0 && f1.offset == 2 && P.cellsOf f0.type == 2 && P.cellsOf f1.type == 1)=true)
    (hs2:P.underlying f0.type=some (.struct #[g0,g1])) (hone:oneCellFields P #[g0,g1]=true) (hb:P.underlying g0.type=some .bool) (hsl:P.underlying g1.type=some (.slice e)) (hsl2:P.underlying f1.type=some (.slice e)) (he:P.underlying e=some (.int .u64)) (ce:P.cellsOf e=1)
    (hf:DataW.trod enc P W 0 (fun _=>true) true fuel ts [v]=some x):zZ6 W v:=by
  rcases Go.Deep.open_slice ht hf with ⟨hcs,hx⟩|⟨a,len',cap',m,n,D,Pl,hcs,_,hl,hm,hmm,hx,hrows⟩
  · injection hcs with hcs;subst hcs;exact ⟨none,0,0,rfl,by omega,by simp,fun i hi=>by omega⟩
  · injection hcs with hcs;subst hcs;refine ⟨some a,len',cap',rfl,hl,hm,fun i hi => ?_⟩;obtain ⟨cs',h1,h2⟩:=hrows i (by simp at hmm;omega);rw [hC] at h1;obtain ⟨_,hlen,hcell⟩:=World.cells?_some h1
    match cs',hlen with
    | [c0, c1, c2], _ =>
      obtain ⟨b,l,m',e0,k1,k2,k3,k4⟩:=trod_q hs ho hs2 hone hb hsl hsl2 he ce h2;subst e0;have g0:=hcell 0 (by omega);have g1:=hcell 1 (by omega);have g2:=hcell 2 (by omega);rw [add_add] at g0 g1 g2;exact ⟨a,b,c1,c2,l,m',rfl,by simpa using g0,by simpa using g1,by simpa using g2,k1,k2,k3,k4⟩
theorem arg_t {H:Type} {enc:TypeId × Value->H} {P:Program} {W:World} {base:Nat} {tt ts t e:TypeId} {f0 f1 g0 g1:Field} {v:Value} {d:DataW H} {p:List MemPlace} (htt:P.underlying tt=some (.slice ts)) (hC1:P.cellsOf ts=1) (ht:P.underlying ts=some (.slice t)) (hs:P.underlying t=some (.struct #[f0,f1])) (hC:P.cellsOf t=3) (ho:(f0.offset == 0 && f1.offset == 2 && P.cellsOf f0.type == 2 && P.cellsOf f1.type == 1)=true)
    (hs2:P.underlying f0.type=some (.struct #[g0,g1])) (hone:oneCellFields P #[g0,g1]=true) (hb:P.underlying g0.type=some .bool) (hsl:P.underlying g1.type=some (.slice e)) (hsl2:P.underlying f1.type=some (.slice e)) (he:P.underlying e=some (.int .u64)) (ce:P.cellsOf e=1)
    (hv:Value.okWide P W .any base tt v) (h:DataW.Trod enc P W 0 (fun _=>true) true tt v d p):zT5 W v:=by
  obtain ⟨a0,len,cap,rfl⟩:=okWide_slice htt hv;obtain ⟨fuel,hf⟩:=h;rcases Go.Deep.open_slice htt hf with ⟨hcs,hx⟩|⟨a,len',cap',m,n,D,Pl,hcs,_,hl,hm,hmm,hx,hrows⟩
  · simp [Value.cells] at hcs;obtain ⟨rfl,rfl,rfl⟩:=hcs;exact ⟨none,0,0,rfl,by omega,by simp,fun i hi=>by omega⟩
  · simp [Value.cells] at hcs;obtain ⟨rfl,rfl,rfl⟩:=hcs;refine ⟨some a,len,cap,rfl,hl,hm,fun i hi => ?_⟩;obtain ⟨cs',h1,h2⟩:=hrows i (by simp at hmm;omega);rw [hC1] at h1;obtain ⟨_,hlen,hcell⟩:=World.cells?_some h1
    match cs',hlen with
    | [c0], _ =>
      have g0:=hcell 0 (by omega);rw [add_add] at g0;exact ⟨a,c0,rfl,by simpa using g0,trod_qs ht hs hC ho hs2 hone hb hsl hsl2 he ce h2⟩
end rat
namespace rat
open Go.RowKit num mem nat txt str flow whl
section
variable {P:Program}
theorem yL6 {w:World} {ops:Array Oper} {rest:List Oper} {o:Oper} {a:Act} {Q:Exit->Act->World->Prop} (hgd:o.guard=none) (s x:Operand) {t:TypeId}
  (ho:o.op=.call { callee:=.builtin .append,args:=#[s,x],argTypes:=#[t,t] })
  {base:Nat} {T:TypeId} (hT:P.underlying t=some (.slice T)) (hI:∃ i,P.info? T=some i/\i.zero=some (.slice none 0 0)/\i.size=1/\i.bytes=24) {v u:Value} {vs:List Value} (hs:a.eval s=v) (hown:zD1 w base T v vs) (hx:a.eval x=.slice (some ⟨w.heap.size,0,none⟩) 1 1) (hu:u.oneCell'=true)
  (hlen:vs.length<=1000000000) (hbase:base<=w.heap.size)
  (h:∀ v' w',zD1 w' base T v' (vs ++ [u])->Below base w w'->Hid (zH4 w w' v v')->wpList P ops Q rest (a.put o.dst v') w'):wpList P ops Q (o :: rest) a (w.alloc (.cells #[u] T)):=by
 obtain ⟨i,hi,hz,hsz,hby⟩:=hI;refine wpList_append_lies (w.alloc (.cells #[u] T)) hgd s x t ho base T i (.slice none 0 0) 1 24 hT hi hz hsz hby rfl (by omega) v vs.length vs hs (World.ownsRow.alloc hown _) ⟨w.heap.size,0,none⟩ 1 1 [u] hx rfl ?_ ?_ (by omega) (by unfold maxLen;omega) (by omega) (by simp;omega) _ rfl ?_
 ·exact World.news_of_block (heap_alloc_new w _)
 ·intro u' hu';obtain rfl:=List.mem_singleton.1 hu';exact hu
 ·intro g cap w' g1 g2 g3 g4;have h5:w.grownBy w' v.ownBlock:=qK0 (World.grownBy_alloc w _ _) g2;refine h _ w' (by unfold zD1;rw [zA8];exact g1) ((Below.refl base w).grown h5 hbase hown.base_le) ?_;refine ⟨?_,h5,fun k hk hne e1 => ?_⟩
  ·intro k q l hq hf;refine ⟨hq.farKept hf h5,?_⟩;rintro ad n c rfl hn;rcases g3 with h3 | h3
   ·have:=hf ad n c rfl hn
    rw [h3] at this;exact this
   ·subst h3;intro e1;have e2:ad.block=(w.alloc (.cells #[u] T)).heap.size:=by simpa [Value.ownBlock] using e1
    obtain ⟨A,c',e3,k1,k2,k3⟩:=hq;injection e3 with e3 e4 e5;subst e3;subst e4;obtain ⟨ad',he,hc⟩:=k3 0 _ (zA3 hn);injection he with he;subst he;have h6:=bQ0 w _ hc;rw [Go.ChangeShapes.block_add] at h6;simp at e2;omega
  ·have e2:g=k:=by simpa [Value.ownBlock] using e1
   subst e2;rcases g3 with h3 | h3
   ·exact hne h3
   ·simp at h3;omega
end
def RetFewW (n:Nat) (w:World) (e:Ending) (w':World):Prop:=∃ V U ps rs,e=.returned (.tuple #[V,U])/\zP5 w w' V U ps rs/\zL4 w.heap.size ps/\zL4 w.heap.size rs/\rs.map (·.1)=ps.map (·.1)/\ps.length=n/\(∀ p∈ps,zC3 p.1 1)
theorem jL3 (A0:Option Addr) (n0 c0 M:Nat) (w:World) (h0:zZ6 w (.slice A0 n0 c0)) (hM:M<=8) :
  Calls prog 38 #[.slice A0 n0 c0,.int .i64 (M:Int)] w (RetFewW (min n0 M) w):=by
 obtain ⟨A0_,n0_,c0_,e_,hn0,hc0,hel⟩:=h0;injection e_ with e1_ e2_ e3_;subst e1_;subst e2_;subst e3_;have HEL:=hQ9 hel;clear hel;unfold maxLen at hc0;have bb:Below w.heap.size w w:=Below.refl _ _
 go_enter func38,ntmps38
 go_wp2
 go_loopw [6,7,8] (fun v4 v5 v6 wr => ∃ (k:Nat) (ps rs:List Elt),k<=M/\k<=n0/\Hid (ps.length=k)/\Hid (rs.map (·.1)=ps.map (·.1))/\Hid (∀ p∈ps,zC3 p.1 1)/\zP5 w wr v4 v5 ps rs/\zL4 w.heap.size ps/\zL4 w.heap.size rs/\v6=.int .i64 (k:Int)) (fun _ _ v6 _=>M-(intOf v6).toNat)
 case atStart =>
  have r0:=yH1 44 w w.heap.size (zB3 _);have r1:=yH1 54 (w.alloc (.cells #[] 44)) w.heap.size (by simp);have r0':=r0.bQ (zC9 (zB3 _) (.cells #[] 54));refine ⟨0,[],[],by omega,by omega,rfl,rfl,(by show ∀ p∈_,_;intro p hp;cases hp),⟨r0',?_,⟨zH.nil _ _ _ _,zH.nil _ _ _ _⟩,⟨zH.nil _ _ _ _,zH.nil _ _ _ _⟩,?_,(zC9 (zB3 _) _).alloc (by simp) _⟩,zL4.nil _,zL4.nil _,rfl⟩
  ·simpa using r1
  ·intro g h1 h2;simp [Value.ownBlock] at h1 h2;omega
 case round =>
  obtain ⟨k,ps,rs,hk8,hkn,HPL,HRP,HLQ,hTR,hNP,hNR,rfl⟩:=hrel;obtain ⟨u4,hu4⟩:∃ u4,u4=u6:=⟨_,rfl⟩;obtain ⟨u5,hu5⟩:∃ u5,u5=u7:=⟨_,rfl⟩;subst hu4;subst hu5;have bb':=hTR.2.2.2.2.2;clear bb;have bb:=bb';clear bb';by_cases hlt:k<n0/\k<M
  ·obtain ⟨hlt1,hlt2⟩:=hlt;obtain ⟨ad,b,ue,te,l,m,hA0,e0,e1,e2,hu,lu,ht,lt⟩:=HEL.out k hlt1;subst hA0;obtain ⟨Ae,ce,rfl,_⟩:=id hu;obtain ⟨De,ee,rfl,_⟩:=id ht;replace e0:=(bb.cell (bQ0 w _ e0)).trans e0;replace e1:=(bb.cell (bQ0 w _ e1)).trans e1;replace e2:=(bb.cell (bQ0 w _ e2)).trans e2;replace hu:=hu.bQ bb;replace ht:=ht.bQ bb;obtain ⟨q,hq⟩:∃ q,q=qG9 b l m 1:=⟨_,rfl⟩;have lq:zC3 q 1:=by rw [hq];exact jC7 _ _ _ (by omega)
   have HQ:=hQ9 hq.symm;clear hq;have bl:Below wr.heap.size wr wr:=Below.refl _ _;have hszr:=bb.size;go_upto_region 5 with (fail);refine zC6 6 [Pd.eq (.slice (some ad) n0 c0),Pd.eq (.int .i64 (k:Int)),Pd.eq (.pointer (some (ad.add (k*3)))),Pd.eq (.agg #[.bool b,.slice Ae l.length ce,.slice De m.length ee]),pq (q) wr.heap.size,pn 44 #[.bool false,.slice none 0 0,.slice none 0 0] wr.heap.size] (by kernel_rfl) ?ob1 ?done1
   case ob1 =>
    refine zA (zC0 rfl (zB5 rfl) (zB7 rfl rfl) (fun _ _ h=>h)) ?_;refine zA (zC0 rfl (zB5 rfl) (zB7 rfl rfl) (fun _ _ h=>h)) ?_;refine zA (zH8 rfl (zB5 rfl) (zB6 (j:=0) (by kernel_rfl) rfl rfl) (zB6 (j:=1) (by kernel_rfl) rfl rfl) (fun _ _ _ hx hy=>⟨_,by rw [hx,hy];exact jD6 underlying46 (by kernel_rfl) ad hlt1 _,rfl⟩)) ?_;refine zA (zC1 rfl (zB5 rfl) (zB6 (j:=2) (by kernel_rfl) rfl rfl) (fun w2 hb=>jD7 underlying44 rfl (by kernel_rfl) ((hb.cell (bQ0 wr _ e0)).trans e0) ((hb.cell (bQ0 wr _ e1)).trans e1) ((hb.cell (bQ0 wr _ e2)).trans e2)) (fun _ _=>rfl)) ?_;refine zA (zD8 rfl func70 (by kernel_rfl) (zB5 rfl) (zB6 (j:=3) (by kernel_rfl) rfl rfl) (zG2 _) (fun w2 u0 u1 hb h0 h1=>by obtain rfl:=h0;obtain rfl:=h1;exact (HQ.out ▸ jC8 b _ _ l m 1 1 _ rfl (hu.bQ hb) lu (ht.bQ hb) lt (by omega) (by omega)).mono fun e w3 h=>RetQ.pd h hb.size)) ?_;refine zA (zM9 (z:=.agg #[.bool false,.slice none 0 0,.slice none 0 0]) rfl rfl (fun _=>by kernel_rfl) (fun _ _ hB h=>⟨_,rfl,hB,h⟩)) ?_
    trivial
   case done1 =>
    refine fun w2 hb2 v0 h0 v1 h1 v2 h2 v3 h3 v4 h4 v5 h5 d5 b hbf => ?_;obtain rfl:=h0;obtain rfl:=h1;obtain rfl:=h2;obtain rfl:=h3;obtain ⟨q4,f4⟩:=h4;obtain ⟨g1_5,rfl,hg5,B5⟩:=h5;simp only [Act.put,zA0,zA2,zA1] at hbf;subst hbf;replace bb:=bb.trans (hb2.mono bb.size);have hsz2:=bb.size;replace bl:=bl.trans (hb2.mono bl.size);have BA9:=B5;obtain ⟨u4,t4,rfl,q4,d4⟩:=q4;obtain ⟨A7,c7,rfl,_⟩:=id q4;obtain ⟨D7,e7,rfl,_⟩:=id d4;refine zG5 (i:=6) rfl rfl rfl rfl rfl rfl (cells:=[.bool (ngB (q).num),.slice A7 (digs 4294967296 (q).num.natAbs).length c7,.slice D7 (digs 4294967296 (q).den).length e7]) rfl BA9 rfl (by kernel_rfl) (zH2 rfl rfl rfl) fun w3 hg3 BN3 => ?_;replace q4:=off q4 BA9 zD3 hg3;replace d4:=off d4 BA9 zD3 hg3;replace bb:=bb.trans ((Below.refl _ _).grown hg3 bb.size (fun g hg=>by injection hg with hg;omega));have hsz3:=bb.size;have B7:Blk w3 (g1_5) _ _:=BN3;have k7s:=q4;have k7d:=d4;have k7z:IsZ w3 (.agg #[.bool (ngB (q).num),.slice A7 (digs 4294967296 (q).num.natAbs).length c7]) ((q).num):=⟨_,rfl,k7s⟩;have k7:IsQ w3 (.agg #[.bool (ngB (q).num),.slice A7 (digs 4294967296 (q).num.natAbs).length c7,.slice D7 (digs 4294967296 (q).den).length e7]) (q):=⟨_,_,rfl,k7s,k7d⟩;have hq_:=bl.size;replace bl:=bl.trans ((Below.refl _ _).grown hg3 bl.size (fun g hg=>by injection hg with hg;omega));clear hq_;refine zC7 ?_;have g1:=(f4 _ _ _ rfl).1;have g2:=(f4 _ _ _ rfl).2;have under4:=hTR.1.under;have under5:=hTR.2.1.under;have far4:Far u4 (.slice A7 (digs 4294967296 (q).num.natAbs).length c7)/\Far u4 (.slice D7 (digs 4294967296 (q).den).length e7):=⟨g1.far under4,g2.far under4⟩;have far5:Far u5 (.slice A7 (digs 4294967296 (q).num.natAbs).length c7)/\Far u5 (.slice D7 (digs 4294967296 (q).den).length e7):=⟨g1.far under5,g2.far under5⟩;have hT2:=hTR.bQ bl;have HT2:=hQ9 hT2;have hr4:zD0 44 w3 w.heap.size u4 ps:=hT2.1;have hszT:w.heap.size<=w3.heap.size:=hT2.2.2.2.2.2.size;have hne4:u4.ownBlock≠some g1_5:=fun e=>by have:=under4 _ e;omega
    obtain ⟨x70,x71,x72,_,_,_⟩:=three B7;obtain ⟨P1,hP1⟩:∃ P1:Elt,P1=(q,.slice A7 (digs 4294967296 (q).num.natAbs).length c7,.slice D7 (digs 4294967296 (q).den).length e7):=⟨_,rfl⟩;have HP1:=hQ9 hP1;have k7d_:IsE .u64 4294967296 w3 (q,.slice A7 (digs 4294967296 (q).num.natAbs).length c7,.slice D7 (digs 4294967296 (q).den).length e7):=⟨k7s,k7d⟩;have lq3:zC3 q 30000:=⟨zB4 lq.1 (by decide),zB4 lq.2 (by decide)⟩
    have HL8:Hid (ps.length<=1000000000/\rs.length<=1000000000):=by
     have h1:=HPL.out;have h2:=congrArg List.length HRP.out;rw [zA9,zA9] at h2;exact ⟨by omega,by omega⟩
    clear hT2 hTR e0 e1 e2 hu ht lu lt hP1;obtain ⟨cA0,cA1,cA2⟩:=qC4 w3 44 (.bool (ngB (q).num)) (.slice A7 (digs 4294967296 (q).num.natAbs).length c7) (.slice D7 (digs 4294967296 (q).den).length e7);have bA:=zC9 (w:=w3) (zB3 _) (.cells #[.bool (ngB (q).num),.slice A7 (digs 4294967296 (q).num.natAbs).length c7,.slice D7 (digs 4294967296 (q).den).length e7] 44);obtain ⟨wA,hwA⟩:∃ wA,wA=w3.alloc (.cells #[.bool (ngB (q).num),.slice A7 (digs 4294967296 (q).num.natAbs).length c7,.slice D7 (digs 4294967296 (q).den).length e7] 44):=⟨_,rfl⟩;have HWA:=hQ9 hwA;rw [<- hwA] at cA0 cA1 cA2 bA;replace bA:=bA.drew;have rA:=hr4.bQ bA;have eA:=k7d_.bQ bA;have tA:=HT2.out.bQ bA;have BA_:=B7.bQ bA;have hszA:w.heap.size<=wA.drew.heap.size:=tA.2.2.2.2.2.size;have TA:=hQ9 tA;clear tA;subst hwA;obtain ⟨xA0,xA1,xA2,_,_,_⟩:=three BA_;go_upto_region 6 with (fail)
    go_region_law (first
     | (refine qH1 rfl (.tmp 28) (.tmp 30) rfl underlying46 zP3 (v:=u4) (p:=(q,.slice A7 (digs 4294967296 (q).num.natAbs).length c7,.slice D7 (digs 4294967296 (q).den).length e7)) (ps:=ps) (by rfl) (by exact rA) (ad:=⟨w3.heap.size,0,none⟩) (c:=1) (by rfl) (by exact cA0) (by exact cA1) (by exact cA2) rfl rfl HL8.out.1 (by exact hszA) ?_;intro v5 w5 row5 bb5 HK5;have T5:=hQ9 (TA.out.one row5 HK5.out bb5 eA far4 far5);have s5:=(HK5.out.1 _ _ _ eA.1 far4.1).1;have d5:=(HK5.out.1 _ _ _ eA.2 far4.2).1;have B5_:=BA_.other HK5.out.2.1 hne4;obtain ⟨x50,x51,x52,_,_,_⟩:=three B5_)
     | (go_simp;go_at_call 71;refine (jH9 _ q _ ⟨_,_,rfl,(by exact s5),(by exact d5)⟩ lq3).mono ?_;rintro e w6 ⟨v6,rfl,k6,f6,b6⟩;have T6:=hQ9 (T5.out.bQ b6);have row6:=T6.out.2.1;obtain ⟨u6,t6,rfl,q6,d6⟩:=k6;obtain ⟨A6,c6,rfl,_⟩:=id q6;obtain ⟨D6,e6,rfl,_⟩:=id d6;have hsz6:w.heap.size<=w6.heap.size:=T6.out.2.2.2.2.2.size;obtain ⟨cC0,cC1,cC2⟩:=qC4 w6 54 (.bool (ngB (q).num)) (.slice A6 (digs 10000 (q).num.natAbs).length c6) (.slice D6 (digs 10000 (q).den).length e6);have rC:=row6.bQ (zC9 (zB3 _) (.cells #[.bool (ngB (q).num),.slice A6 (digs 10000 (q).num.natAbs).length c6,.slice D6 (digs 10000 (q).den).length e6] 54));have hszC:=zB4 hsz6 (zC9 (w:=w6) (zB3 _) (.cells #[.bool (ngB (q).num),.slice A6 (digs 10000 (q).num.natAbs).length c6,.slice D6 (digs 10000 (q).den).length e6] 54)).size)
     | (refine qH1 rfl (.tmp 32) (.tmp 35) rfl underlying49 yH2 (v:=u5) (p:=(q,.slice A6 (digs 10000 (q).num.natAbs).length c6,.slice D6 (digs 10000 (q).den).length e6)) (ps:=rs) (by rfl) (by exact rC) (ad:=⟨w6.heap.size,0,none⟩) (c:=1) (by rfl) (by exact cC0) (by exact cC1) (by exact cC2) rfl rfl HL8.out.2 (by exact hszC) ?_;intro v7 w7 row7 bb7 HK7))
    all_goals
     have ba6:=zC9 (w:=w6) (zB3 _) (.cells #[.bool (ngB (q).num),.slice A6 (digs 10000 (q).num.natAbs).length c6,.slice D6 (digs 10000 (q).den).length e6] 54);have TC:=T6.out.bQ ba6;have EC:IsE .i64 10000 (w6.alloc (.cells #[.bool (ngB (q).num),.slice A6 (digs 10000 (q).num.natAbs).length c6,.slice D6 (digs 10000 (q).den).length e6] 54)) (q,.slice A6 (digs 10000 (q).num.natAbs).length c6,.slice D6 (digs 10000 (q).den).length e6):=⟨q6.bQ ba6,d6.bQ ba6⟩;have j1:=(f6 _ _ _ rfl).1;have j2:=(f6 _ _ _ rfl).2;have n4:=T5.out.1.under;have n5:=T5.out.2.1.under;have T7:=TC.two row7 HK7.out bb7 EC ⟨j1.far n4,j2.far n4⟩ ⟨j1.far n5,j2.far n5⟩;have NP7:=hNP.snoc (p:=(q,.slice A7 (digs 4294967296 (q).num.natAbs).length c7,.slice D7 (digs 4294967296 (q).den).length e7)) (g1.mono hszr) (g2.mono hszr);have hs5:w.heap.size<=w5.heap.size:=T5.out.2.2.2.2.2.size;have NR7:=hNR.snoc (p:=(q,.slice A6 (digs 10000 (q).num.natAbs).length c6,.slice D6 (digs 10000 (q).den).length e6)) (j1.mono hs5) (j2.mono hs5);have HPL7:Hid ((ps ++ [((q,.slice A7 (digs 4294967296 (q).num.natAbs).length c7,.slice D7 (digs 4294967296 (q).den).length e7):Elt)]).length=k+1):=by show _=_;rw [zA8,HPL.out];rfl
     have HRP7:Hid ((rs ++ [((q,.slice A6 (digs 10000 (q).num.natAbs).length c6,.slice D6 (digs 10000 (q).den).length e6):Elt)]).map (·.1)=(ps ++ [((q,.slice A7 (digs 4294967296 (q).num.natAbs).length c7,.slice D7 (digs 4294967296 (q).den).length e7):Elt)]).map (·.1)):=by show _=_;rw [bX5,bX5,HRP.out];rfl
     have HLQ7:Hid (∀ p∈ps ++ [((q,.slice A7 (digs 4294967296 (q).num.natAbs).length c7,.slice D7 (digs 4294967296 (q).den).length e7):Elt)],zC3 p.1 1):=fun p hp=>by
      rcases List.mem_append.1 hp with hp | hp
      ·exact HLQ.out p hp
      ·rw [List.mem_singleton.1 hp];exact lq
     have hme:M-(k+1)<M-k:=by omega
     go_wp2;go_roundw;case rel=>exact ⟨k+1,_,_,by omega,by omega,HPL7,HRP7,HLQ7,T7,NP7,NR7,rfl⟩
     case measure=>exact hme
  ·have HEND:Hid (zP5 w wr u4 u5 ps rs/\zL4 w.heap.size ps/\zL4 w.heap.size rs/\rs.map (·.1)=ps.map (·.1)/\ps.length=min n0 M/\(∀ p∈ps,zC3 p.1 1)):=⟨hTR,hNP,hNR,HRP.out,by rw [HPL.out];omega,HLQ.out⟩;clear hTR HRP HLQ HPL hNP hNR;have hx:¬ k<n0\/(k<n0 /\ ¬ k<M):=by omega
   rcases hx with hx | ⟨hx1,hx2⟩
   all_goals
    go_wp2;go_ret2;exact ⟨_,_,ps,rs,rfl,HEND.out.1,HEND.out.2.1,HEND.out.2.2.1,HEND.out.2.2.2.1,HEND.out.2.2.2.2.1,HEND.out.2.2.2.2.2⟩
theorem zD0.weak {T:TypeId} {w:World} {base base':Nat} {v:Value} {ps:List Elt} (h:zD0 T w base v ps) (hb:base'<=base):zD0 T w base' v ps:=by
 refine ⟨h.1,?_⟩;rcases h.2 with h2 | ⟨g,cap,cur,e,h1,h2⟩
 ·exact .inl h2
 ·exact .inr ⟨g,cap,cur,e,zB4 hb h1,h2⟩
theorem yL7:∀ (ps:List Elt) (m:Nat),zF1 (ps.take m)=(zF1 ps).take (m*3)
  | [],m=>by simp [zF1]
  | p :: ps,0=>by simp [zF1]
  | p :: ps, m + 1 => by
    rw [List.take_succ_cons,qA,qA,yL7 ps m,show (m+1)*3=m*3+3 from by omega,List.take_append,qW2,zA7 (l:=zK9 p) (by rw [qW2];omega),Nat.add_sub_cancel]
theorem zD0.take {T:TypeId} {w:World} {base n c m:Nat} {A:Option Addr} {ps:List Elt} (h:zD0 T w base (.slice A n c) ps) (hm:m<=ps.length):zD0 T w base (.slice A m c) (ps.take m):=by
 have hl:(ps.take m).length=m:=by rw [bQ7];omega
 unfold zD0;rw [hl];refine ⟨by rw [qN9,hl],?_⟩;rcases h.2 with ⟨e,h0⟩|⟨g,cap,cur,e,h1,h2,h3,h4,h5,h6⟩
 ·injection e with e1 e2 e3;subst e1;subst e3;have:m=0:=by omega
  subst this;exact .inl ⟨rfl,rfl⟩
 ·injection e with e1 e2 e3;subst e1;subst e3;refine .inr ⟨g,c,cur,rfl,h1,h2,by omega,h4,h5,?_⟩;rw [yL7,<- h6,List.take_take,Nat.min_eq_left (by omega)]
structure TabK (T:TypeId) (w:World) (base:Nat) (TS:TypeId) (V:Value) (us:List Value) (pss:List (List Elt)):Prop where
 row:zD1 w base TS V us
 len:us.length=pss.length
 own:∀ (i:Nat) (u:Value) (ps:List Elt),us[i]?=some u->pss[i]?=some ps->zD0 T w base u ps
 apart:∀ (i j:Nat) (u v:Value),i≠j->us[i]?=some u->us[j]?=some v -> ∀ h,u.ownBlock=some h->v.ownBlock≠some h
theorem TabO.k {k:IntKind} {B:Nat} {T:TypeId} {w:World} {base:Nat} {TS:TypeId} {V:Value} {us:List Value} {pss:List (List Elt)} (h:TabO k B T w base TS V us pss):TabK T w base TS V us pss:=⟨h.row,h.len,h.own,h.apart⟩
theorem TabK.mem {T:TypeId} {w:World} {base:Nat} {TS:TypeId} {V:Value} {us:List Value} {pss:List (List Elt)} (h:TabK T w base TS V us pss) {u:Value} (hu:u∈us):∃ ps,zD0 T w base u ps:=by
 obtain ⟨i,hi⟩:=List.mem_iff_getElem?.1 hu;have hp:pss[i]?=some (pss[i]'(by rw [<- h.len];exact (zA4.1 hi).1)):=zA3 _;exact ⟨_,h.own i u _ hi hp⟩
theorem zD1.kept {w w':World} {base:Nat} {TS:TypeId} {V:Value} {us:List Value} {row:Option Nat} (h:zD1 w base TS V us) (hg:w.grownBy w' row) (hV:∀ g,V.ownBlock=some g->row≠some g):zD1 w' base TS V us :=
 World.ownsRow.kept (row:=row) h hg (by
  cases hv:V.ownBlock with
  | none=>exact .inl rfl
  | some g=>exact .inr fun e=>hV g hv e.symm)
theorem TabK.kept {T:TypeId} {w w':World} {base:Nat} {TS:TypeId} {V:Value} {us:List Value} {pss:List (List Elt)} {row:Option Nat} (h:TabK T w base TS V us pss) (hg:w.grownBy w' row) (hV:∀ g,V.ownBlock=some g->row≠some g) (hu:∀ u∈us,∀ g,u.ownBlock=some g->row≠some g):TabK T w' base TS V us pss :=
 ⟨zD1.kept h.row hg hV,h.len,fun i u ps hi hp=>(h.own i u ps hi hp).other hg (fun g e=>hu u (zA5 hi) g e),h.apart⟩
theorem TabO.kept {k:IntKind} {B:Nat} {T:TypeId} {w w':World} {base:Nat} {TS:TypeId} {V:Value} {us:List Value} {pss:List (List Elt)} {row:Option Nat} (h:TabO k B T w base TS V us pss) (hg:w.grownBy w' row) (hV:∀ g,V.ownBlock=some g->row≠some g) (hu:∀ u∈us,∀ g,u.ownBlock=some g->row≠some g)
  (hf:∀ ps∈pss,∀ p∈ps,(∀ ad n c,p.2.1=.slice (some ad) n c->0<n->some ad.block≠row)/\(∀ ad n c,p.2.2=.slice (some ad) n c->0<n->some ad.block≠row)):TabO k B T w' base TS V us pss:=by
 have hk:=h.k.kept hg hV hu;refine ⟨hk.row,hk.len,hk.own,fun u hu' ps hp p hpp => ?_,fun ps hp p hpp => ?_,hk.apart⟩
 ·obtain ⟨e1,f1⟩:=h.far u hu' ps hp p hpp;exact ⟨⟨e1.1.farKept (hf ps hp p hpp).1 hg,e1.2.farKept (hf ps hp p hpp).2 hg⟩,f1⟩
 ·obtain ⟨e1,f1⟩:=h.farV ps hp p hpp;exact ⟨⟨e1.1.farKept (hf ps hp p hpp).1 hg,e1.2.farKept (hf ps hp p hpp).2 hg⟩,f1⟩
theorem TabO.snoc {k:IntKind} {B:Nat} {T:TypeId} {w w':World} {base:Nat} {TS:TypeId} {V V' u:Value} {us:List Value} {pss:List (List Elt)} {ps:List Elt} (hT:T≠TS) (h:TabO k B T w base TS V us pss) (hrow:zD1 w' base TS V' (us ++ [u])) (hg:zH4 w w' V V') (hu:zD0 T w base u ps)
  (hap:∀ v∈us,∀ g,v.ownBlock=some g->u.ownBlock≠some g) (hf1:zH k B w u ps) (hf2:∀ v∈us,∀ p∈ps,Far v p.2.1/\Far v p.2.2) (hf3:∀ p∈ps,Far V p.2.1/\Far V p.2.2) (hf4:∀ qs∈pss,∀ p∈qs,Far u p.2.1/\Far u p.2.2):TabO k B T w' base TS V' (us ++ [u]) (pss ++ [ps]):=by
 obtain ⟨k1,k2,k3⟩:=hg;have hlen:=h.len;have own':∀ {v:Value} {qs:List Elt},zD0 T w base v qs->zD0 T w' base v qs:=fun r=>r.other k2 fun g e e2=>r.notRow h.row hT g e e2
 have at_:∀ {i:Nat} {v:Value},(us ++ [u])[i]?=some v->(us[i]?=some v/\i<us.length)\/(i=us.length/\v=u):=by
  intro i v hi;by_cases hl:i<us.length
  ·rw [zB0 hl] at hi;exact .inl ⟨hi,hl⟩
  ·rw [bW0 (by omega)] at hi;rcases hj:i-us.length with _ | j
   ·rw [hj] at hi;refine .inr ⟨by omega,?_⟩;simpa using hi.symm
   ·rw [hj] at hi;simp at hi
 have all:∀ qs∈pss ++ [ps],∀ p∈qs,(IsE k B w' p/\Far V' p.2.1/\Far V' p.2.2)/\(∀ v∈us,Far v p.2.1/\Far v p.2.2)/\Far u p.2.1/\Far u p.2.2:=by
  intro qs hqs p hp
  have main:IsE k B w p->Far V p.2.1->Far V p.2.2->IsE k B w' p/\Far V' p.2.1/\Far V' p.2.2:=fun a b c=>by
   have x1:=k1 _ _ _ a.1 b;have x2:=k1 _ _ _ a.2 c;exact ⟨⟨x1.1,x2.1⟩,x1.2,x2.2⟩
  rcases List.mem_append.1 hqs with hqs | hqs
  ·obtain ⟨e1,f1,f2⟩:=h.farV qs hqs p hp;exact ⟨main e1 f1 f2,fun v hv=>(h.far v hv qs hqs p hp).2,hf4 qs hqs p hp⟩
  ·rw [List.mem_singleton.1 hqs] at hp;obtain ⟨e1,f1,f2⟩:=hf1 p hp;exact ⟨main e1 (hf3 p hp).1 (hf3 p hp).2,fun v hv=>hf2 v hv p hp,f1,f2⟩
 refine ⟨hrow,by rw [zA8,zA8,hlen];rfl,fun i v qs hv hq => ?_,fun v hv qs hqs p hp => ?_,fun qs hqs p hp=>(all qs hqs p hp).1,fun i j a b hij ha hb g hga hgb => ?_⟩
 ·rcases at_ hv with ⟨hv,hl⟩|⟨rfl,rfl⟩
  ·rw [zB0 (by omega)] at hq;exact own' (h.own i v qs hv hq)
  ·rw [bW0 (by omega),hlen,Nat.sub_self] at hq;obtain rfl:ps=qs:=by simpa using hq
   exact own' hu
 ·refine ⟨(all qs hqs p hp).1.1,?_⟩;rcases List.mem_append.1 hv with hv | hv
  ·exact (all qs hqs p hp).2.1 v hv
  ·rw [List.mem_singleton.1 hv];exact (all qs hqs p hp).2.2
 ·rcases at_ ha with ⟨ha1,hl⟩|⟨hi,rfl⟩
  ·rcases at_ hb with ⟨hb1,hl2⟩|⟨hj,rfl⟩
   ·exact h.apart i j a b hij ha1 hb1 g hga hgb
   ·exact hap a (zA5 ha1) g hga hgb
  ·rcases at_ hb with ⟨hb1,hl2⟩|⟨hj,rfl⟩
   ·exact hap b (zA5 hb1) g hgb hga
   ·exact hij (by omega)
theorem zT5.shape {w:World} {v:Value} (h:zT5 w v):∃ A n c,v=.slice A n c/\n<=c/\c<=maxLen:=by
 obtain ⟨A,n,c,e,h1,h2,_⟩:=h;exact ⟨A,n,c,e,h1,h2⟩
theorem zD1.notV {w:World} {base base':Nat} {TS TS':TypeId} {V U:Value} {us vs:List Value} (h:zD1 w base TS V us) (h':zD1 w base' TS' U vs) (hne:TS≠TS'):∀ g,V.ownBlock=some g->U.ownBlock≠some g:=by
 intro g e e2;rcases h.2 with ⟨rfl,_⟩|⟨g',cap,cur,rfl,_,hg,_⟩
 ·cases e
 ·rcases h'.2 with ⟨rfl,_⟩|⟨g2,cap2,cur2,rfl,_,hg2,_⟩
  ·cases e2
  ·have e1:g'=g:=by simpa [Value.ownBlock] using e
   have e3:g2=g:=by simpa [Value.ownBlock] using e2
   subst e1;subst e3;rw [hg] at hg2;injection hg2 with hg2;injection hg2 with _ hg2;exact hne hg2
theorem zD0.notF {w:World} {base base':Nat} {T T':TypeId} {v u:Value} {ps qs:List Elt} (h:zD0 T w base v ps) (h':zD0 T' w base' u qs) (hne:T≠T'):∀ g,v.ownBlock=some g->u.ownBlock≠some g:=by
 intro g e e2;rcases h.2 with ⟨rfl,_⟩|⟨g',cap,cur,rfl,_,hg,_⟩
 ·cases e
 ·rcases h'.2 with ⟨rfl,_⟩|⟨g2,cap2,cur2,rfl,_,hg2,_⟩
  ·cases e2
  ·have e1:g'=g:=by simpa [Value.ownBlock] using e
   have e3:g2=g:=by simpa [Value.ownBlock] using e2
   subst e1;subst e3;rw [hg] at hg2;injection hg2 with hg2;injection hg2 with _ hg2;exact hne hg2
theorem zD1.slice {w:World} {base:Nat} {TS:TypeId} {V:Value} {us:List Value} (h:zD1 w base TS V us):∃ A c,V=.slice A us.length c:=by
 rcases h.2 with ⟨e,h0⟩|⟨g,cap,cur,e,_⟩
 ·exact ⟨none,0,by rw [e,h0]⟩
 ·exact ⟨_,_,e⟩
structure TwoTabO (w wr:World) (V U:Value) (us vs:List Value) (pss qss:List (List Elt)):Prop where
 p:TabO .u64 4294967296 44 wr w.heap.size 46 V us pss
 q:TabO .i64 10000 54 wr w.heap.size 49 U vs qss
 c1:∀ ps∈pss,∀ p∈ps,(∀ v∈vs,Far v p.2.1/\Far v p.2.2)/\Far U p.2.1/\Far U p.2.2
 c2:∀ qs∈qss,∀ p∈qs,(∀ v∈us,Far v p.2.1/\Far v p.2.2)/\Far V p.2.1/\Far V p.2.2
 bQ:Below w.heap.size w wr
theorem TwoTabO.step {w wr w2 w3 w4:World} {V U a b V3 U4:Value} {us vs:List Value} {pss qss:List (List Elt)} {ps rs:List Elt} (h:TwoTabO w wr V U us vs pss qss) (hT:zP5 wr w2 a b ps rs) (n1:zL4 wr.heap.size ps) (n2:zL4 wr.heap.size rs) (r3:zD1 w3 w.heap.size 46 V3 (us ++ [a])) (g3:zH4 w2 w3 V V3) (b3:Below w.heap.size w2 w3) (r4:zD1 w4 w.heap.size 49 U4 (vs ++ [b])) (g4:zH4 w3 w4 U U4) (b4:Below w.heap.size w3 w4) :
  TwoTabO w w4 V3 U4 (us ++ [a]) (vs ++ [b]) (pss ++ [ps]) (qss ++ [rs]):=by
 obtain ⟨t1,t2,⟨t3,t4⟩,⟨t5,t6⟩,t7,b2⟩:=hT;have hw:w.heap.size<=wr.heap.size:=h.bQ.size
 have pu:∀ v∈us,∀ g,v.ownBlock=some g->g<wr.heap.size:=fun v hv g e=>by
  obtain ⟨qs,hq⟩:=h.p.k.mem hv;exact hq.under g e
 have qu:∀ v∈vs,∀ g,v.ownBlock=some g->g<wr.heap.size:=fun v hv g e=>by
  obtain ⟨qs,hq⟩:=h.q.k.mem hv;exact hq.under g e
 have pV:=h.p.row.under;have qU:=h.q.row.under;have a0:=t1.base_le;have b0:=t2.base_le;have p2:=h.p.bQ b2;have q2:=h.q.bQ b2;have oldp:∀ qs∈pss,∀ p∈qs,IsE .u64 4294967296 wr p:=fun qs hq p hp=>(h.p.farV qs hq p hp).1;have oldq:∀ qs∈qss,∀ p∈qs,IsE .i64 10000 wr p:=fun qs hq p hp=>(h.q.farV qs hq p hp).1;have P3:=p2.snoc (by decide) r3 g3 (t1.weak hw) (fun v hv g e e2=>by have:=pu v hv g e;have:=a0 g e2;omega) t3 (fun v hv=>n1.far (pu v hv)) (n1.far pV) (fun qs hq p hp=>⟨(oldp qs hq p hp).1.farOld a0,(oldp qs hq p hp).2.farOld a0⟩)
 have Q3:=q2.kept g3.2.1 (fun g e e2=>zD1.notV p2.row q2.row (by decide) g e2 e) (fun v hv g e e2=>by
  obtain ⟨qs,hq⟩:=q2.k.mem hv;exact hq.notRow p2.row (by decide) g e e2) (fun qs hq p hp=>⟨(h.c2 qs hq p hp).2.1,(h.c2 qs hq p hp).2.2⟩)
 have hb3:zD0 54 w3 wr.heap.size b rs:=t2.other g3.2.1 fun g e e2=>t2.notRow p2.row (by decide) g e e2;have n2V:=n2.far pV
 have e3:∀ p∈rs,IsE .i64 10000 w3 p/\Far V3 p.2.1/\Far V3 p.2.2:=fun p hp=>by
  have x1:=g3.1 _ _ _ (t6 p hp).1.1 (n2V p hp).1;have x2:=g3.1 _ _ _ (t6 p hp).1.2 (n2V p hp).2;exact ⟨⟨x1.1,x2.1⟩,x1.2,x2.2⟩
 have Q4:=Q3.snoc (by decide) r4 g4 (hb3.weak hw) (fun v hv g e e2=>by have:=qu v hv g e;have:=b0 g e2;omega) (fun p hp=>⟨(e3 p hp).1,(t6 p hp).2⟩) (fun v hv=>n2.far (qu v hv)) (n2.far qU) (fun qs hq p hp=>⟨(oldq qs hq p hp).1.farOld b0,(oldq qs hq p hp).2.farOld b0⟩);have n1U:=n1.far qU
 have c1U:∀ qs∈pss ++ [ps],∀ p∈qs,Far U p.2.1/\Far U p.2.2:=fun qs hq p hp=>by
  rcases List.mem_append.1 hq with hq | hq
  ·exact (h.c1 qs hq p hp).2
  ·rw [List.mem_singleton.1 hq] at hp;exact n1U p hp
 have P4:=P3.kept g4.2.1 (fun g e e2=>zD1.notV P3.row Q3.row (by decide) g e e2) (fun v hv g e e2=>by
  obtain ⟨qs,hq⟩:=P3.k.mem hv;exact hq.notRow Q3.row (by decide) g e e2) c1U
 refine ⟨P4,Q4,fun qs hq p hp => ?_,fun qs hq p hp => ?_,h.bQ.trans ((b2.mono hw).trans (b3.trans b4))⟩
 ·have eU:Far U4 p.2.1/\Far U4 p.2.2:=by
   have e1:=(P3.farV qs hq p hp).1;exact ⟨(g4.1 _ _ _ e1.1 (c1U qs hq p hp).1).2,(g4.1 _ _ _ e1.2 (c1U qs hq p hp).2).2⟩
  refine ⟨fun v hv => ?_,eU⟩;rcases List.mem_append.1 hq with hq | hq
  ·rcases List.mem_append.1 hv with hv | hv
   ·exact (h.c1 qs hq p hp).1 v hv
   ·rw [List.mem_singleton.1 hv];exact ⟨(oldp qs hq p hp).1.farOld b0,(oldp qs hq p hp).2.farOld b0⟩
  ·rw [List.mem_singleton.1 hq] at hp;rcases List.mem_append.1 hv with hv | hv
   ·exact n1.far (qu v hv) p hp
   ·rw [List.mem_singleton.1 hv];exact (t4 p hp).2
 ·rcases List.mem_append.1 hq with hq | hq
  ·have eV:Far V3 p.2.1/\Far V3 p.2.2:=by
    have e1:=(q2.farV qs hq p hp).1;have f:=(h.c2 qs hq p hp).2;exact ⟨(g3.1 _ _ _ e1.1 f.1).2,(g3.1 _ _ _ e1.2 f.2).2⟩
   refine ⟨fun v hv => ?_,eV⟩;rcases List.mem_append.1 hv with hv | hv
   ·exact (h.c2 qs hq p hp).1 v hv
   ·rw [List.mem_singleton.1 hv];exact ⟨(oldq qs hq p hp).1.farOld a0,(oldq qs hq p hp).2.farOld a0⟩
  ·rw [List.mem_singleton.1 hq] at hp;refine ⟨fun v hv => ?_,(e3 p hp).2⟩;rcases List.mem_append.1 hv with hv | hv
   ·exact n2.far (pu v hv) p hp
   ·rw [List.mem_singleton.1 hv];exact (t5 p hp).2
def yL8 (M:Nat) (w:World) (e:Ending) (w':World):Prop:=∃ V U us vs pss qss,e=.returned (.tuple #[V,U])/\TwoTabO w w' V U us vs pss qss/\zD5 qss=zD5 pss/\us.length<=M/\(∀ r∈zD5 pss,r.length<=M /\ ∀ x∈r,zC3 x 1)
theorem jL4 (a0:Value) (M:Nat) (w:World) (h0:zT5 w a0) (hM:M<=8) :
  Calls prog 14 #[a0,.int .i64 (M:Int)] w (yL8 M w):=by
 have at0:=h0;obtain ⟨A0,n0,c0,rfl,hc0,hm0⟩:=h0.shape;unfold maxLen at hm0
 go_enter func14,ntmps14
 go_wp2
 go_loopw [6,7,8] (fun v6 v7 v8 wr => ∃ (k:Nat) (us vs:List Value) (pss qss:List (List Elt)),k<=n0/\k<=M/\Hid (us.length=k)/\TwoTabO w wr v6 v7 us vs pss qss/\Hid (zD5 qss=zD5 pss)/\Hid (∀ r∈zD5 pss,r.length<=M /\ ∀ x∈r,zC3 x 1)/\v8=.int .i64 (k:Int)) (fun _ _ v8 _=>M-(intOf v8).toNat)
 case atStart =>
  have r0:=yC6 w w.heap.size 46 (zB3 _);have ba:=zC9 (w:=w) (zB3 _) (.cells #[] 46);have r1:=yC6 (w.alloc (.cells #[] 46)) w.heap.size 49 ba.size;have bb:=zC9 (w:=w.alloc (.cells #[] 46)) (zB3 _) (.cells #[] 49);refine ⟨0,[],[],[],[],by omega,by omega,rfl,⟨⟨r0.bQ bb,rfl,fun i u ps hu=>by simp at hu,fun u hu=>by simp at hu,fun u hu=>by simp at hu,fun i j u v _ hu=>by simp at hu⟩,⟨?_,rfl,fun i u ps hu=>by simp at hu,fun u hu=>by simp at hu,fun u hu=>by simp at hu,fun i j u v _ hu=>by simp at hu⟩,fun ps hp=>by simp at hp,fun ps hp=>by simp at hp,ba.trans (bb.mono ba.size)⟩,rfl,(by show ∀ r∈_,_;intro r hr;simp [zD5] at hr),rfl⟩;simpa using r1
 case round =>
  obtain ⟨k,us,vs,pss,qss,hk,hkM,HUL,hT,HQP,HVL,rfl⟩:=hrel;obtain ⟨A6,c6,e6⟩:=zD1.slice hT.p.row;obtain ⟨A7,c7,e7⟩:=zD1.slice hT.q.row;subst e6;subst e7;by_cases hlt:k<n0/\k<M
  ·obtain ⟨hlt1,hlt2⟩:=hlt;obtain ⟨A_,n_,c_,e_,_,_,hel⟩:=at0.bQ hT.bQ;injection e_ with e1 e2 e3;subst e1;subst e2;subst e3;obtain ⟨ad,ue,rfl,ec,hq⟩:=hel k hlt1;have HT:=hQ9 hT;clear hel hT;obtain ⟨Aq,nq,cq,rfl,_⟩:=id hq
   go_wp2_with fail
   refine (jL3 Aq nq cq M _ hq hM).mono ?_;rintro e w2 ⟨a,b,ps,rs,rfl,hTR,n1,n2,hrs,hpl,hlq⟩;have b2:=hTR.2.2.2.2.2;have hw2:w.heap.size<=w2.heap.size:=zB4 HT.out.bQ.size b2.size;have P2:=HT.out.p.row.bQ b2;have Q2:=HT.out.q.row.bQ b2;have HTR:=hQ9 hTR
   have HULb:Hid (us.length<=1000000000/\vs.length<=1000000000):=by
    have h1:=HUL.out;have h2:=congrArg List.length HQP.out;rw [qA0,qA0,<- HT.out.q.len,<- HT.out.p.len] at h2;exact ⟨by omega,by omega⟩
   obtain ⟨Aa,ca,ea,_⟩:=hTR.1.isVF;obtain ⟨Ab,cb,eb,_⟩:=hTR.2.1.isVF;subst ea;subst eb;have HPL:=hQ9 hpl;clear hTR ec hpl
   go_wp2_with (first
    | (at_builtin;refine yL6 rfl (.tmp 33) (.tmp 35) rfl underlying22 qI5 rfl P2 rfl rfl HULb.out.1 hw2 ?_;intro V3 w3 row3 b3 K3;have Q3:zD1 w3 w.heap.size 49 (.slice A7 vs.length c7) vs:=zD1.kept Q2 K3.out.2.1 (fun g e e2=>zD1.notV P2 Q2 (by decide) g e2 e);have hw3:w.heap.size<=w3.heap.size:=zB4 hw2 b3.size)
    | (at_builtin;refine yL6 rfl (.tmp 37) (.tmp 39) rfl underlying24 jK3 rfl Q3 rfl rfl HULb.out.2 hw3 ?_;intro U4 w4 row4 b4 K4))
   have T4:=HT.out.step HTR.out n1 n2 row3 K3.out b3 row4 K4.out b4;have HUL4:Hid ((us ++ [Value.slice Aa ps.length ca]).length=k+1):=by show _=_;rw [zA8,HUL.out];rfl
   have HQP4:Hid (zD5 (qss ++ [rs])=zD5 (pss ++ [ps])):=by
    show _=_
    have h1:=HQP.out;unfold zD5 at h1 |-;rw [bX5,bX5,h1,List.map_cons,List.map_cons,hrs];try rfl
   have HVL4:Hid (∀ r∈zD5 (pss ++ [ps]),r.length<=M /\ ∀ x∈r,zC3 x 1):=by
    show ∀ r∈_,_
    intro r hr;unfold zD5 at hr;rw [bX5] at hr;rcases List.mem_append.1 hr with hr | hr
    ·exact HVL.out r hr
    ·obtain rfl:r=ps.map (·.1):=by simpa using hr
     refine ⟨by rw [zA9,HPL.out];omega,fun x hx => ?_⟩;obtain ⟨p,hp,rfl⟩:=List.mem_map.1 hx;exact hlq p hp
   have hsk:M-(k+1)<M-k:=by omega
   clear P2 Q2 Q3 K3 K4 row3 row4 n1 n2 hlq hrs HTR;go_wp2;go_roundw;case rel=>exact ⟨k+1,_,_,_,_,by omega,by omega,HUL4,T4,HQP4,HVL4,by go_num⟩
   case measure=>simp [intOf];omega
  ·have hx:¬ k<n0\/(k<n0 /\ ¬ k<M):=by omega
   have HEND:Hid (yL8 M w (.returned (.tuple #[.slice A6 us.length c6,.slice A7 vs.length c7])) wr):=⟨_,_,us,vs,pss,qss,rfl,hT,HQP.out,by rw [HUL.out];exact hkM,HVL.out⟩;clear hT HQP HVL;rcases hx with hx | ⟨hx1,hx2⟩
   all_goals
    go_wp2;go_ret2;exact HEND.out
theorem yL9:∀ (ps:List Elt) (j:Nat) (u:Value),(zF1 ps)[j]?=some u -> ∃ i p,ps[i]?=some p/\((j=i*3/\u=.bool (ngB p.1.num))\/(j=i*3+1/\u=p.2.1)\/(j=i*3+2/\u=p.2.2))
  | [],j,u,h=>by simp [zF1] at h
  | p :: ps,0,u,h=>⟨0,p,rfl,.inl ⟨rfl,by simpa [zF1,zK9] using h.symm⟩⟩
  | p :: ps,1,u,h=>⟨0,p,rfl,.inr (.inl ⟨rfl,by simpa [zF1,zK9] using h.symm⟩)⟩
  | p :: ps,2,u,h=>⟨0,p,rfl,.inr (.inr ⟨rfl,by simpa [zF1,zK9] using h.symm⟩)⟩
  | p :: ps, j + 3, u, h => by
    have e:(zF1 (p :: ps))[j+3]?=(zF1 ps)[j]?:=by simp [zF1,zK9]
    rw [e] at h;obtain ⟨i,q,hq,h2⟩:=yL9 ps j u h;refine ⟨i+1,q,by simpa using hq,?_⟩;rcases h2 with ⟨a,b⟩|⟨a,b⟩|⟨a,b⟩
    · exact .inl ⟨by omega,b⟩
    · exact .inr (.inl ⟨by omega,b⟩)
    · exact .inr (.inr ⟨by omega,b⟩)
section
variable {P:Program}
theorem jL5 {w:World} {t ty T:TypeId} (hT:P.underlying t=some (.slice T)) (hI:∃ i,P.info? T=some i/\i.zero=some (.agg #[.bool false,.slice none 0 0,.slice none 0 0])/\i.size=3/\i.bytes=56) {A:Option Addr} {n c:Nat} (hn:n<=c) :
  (Builtin.append_ #[t,t] ty #[.slice A n c,.slice none 0 0]).run P w=.ok (.slice A n c) w:=by
 obtain ⟨i,hi,hz,hs,hb⟩:=hI
 cases A with
 | none=>simp [Builtin.append_,go_sem,run_underlying hT,sizeOf,typeInfo,hi,Builtin.lenOf,Builtin.firstCells,hn]
 | some a=>simp [Builtin.append_,go_sem,run_underlying hT,sizeOf,typeInfo,hi,Builtin.lenOf,Builtin.firstCells,hn,storeCells]
theorem yM {w:World} {base:Nat} {t ty T:TypeId} (hT:P.underlying t=some (.slice T)) (hI:∃ i,P.info? T=some i/\i.zero=some (.agg #[.bool false,.slice none 0 0,.slice none 0 0])/\i.size=3/\i.bytes=56) {v u:Value} {ps qs:List Elt} (hown:zD0 T w base v ps) (hu:zP1 w u qs) (hone:∀ p∈qs,p.2.1.oneCell'=true/\p.2.2.oneCell'=true) (hlen:ps.length<=1000000000) (hlen2:qs.length<=1000000000) (hbase:base<=w.heap.size) :
    ∃ v' w',(Builtin.append_ #[t,t] ty #[v,u]).run P w=.ok v' w'/\zD0 T w' base v' (ps ++ qs)/\zH4 w w' v v':=by
  obtain ⟨A,c,rfl,hc,hm,hcells⟩:=hu;obtain ⟨Av,cv,rfl,hcv,hmv,_⟩:=hown.isVF;by_cases hq:qs=[]
  · subst hq
    cases A with
    | none =>
      refine ⟨_,w,?_,by rw [List.append_nil];exact hown,zH4.of_below _ (Below.refl _ w)⟩;by_cases hc0:c=0
      · subst hc0;exact jL5 hT hI hcv
      · obtain ⟨i,hi,hz,hs,hb⟩:=hI
        cases Av with
        | none=>simp [Builtin.append_,go_sem,run_underlying hT,sizeOf,typeInfo,hi,Builtin.lenOf,Builtin.firstCells,hcv]
        | some a=>simp [Builtin.append_,go_sem,run_underlying hT,sizeOf,typeInfo,hi,Builtin.lenOf,Builtin.firstCells,hcv,storeCells]
    | some ad =>
      obtain ⟨i,hi,hz,hs,hb⟩:=hI;obtain ⟨v',w',g1,g2,g3,_,g5⟩:=run_append_own_at (P:=P) (w:=w) base t ty T i (.agg #[.bool false,.slice none 0 0,.slice none 0 0]) 3 56 hT hi hz hs hb rfl (by decide) _ ps.length (zF1 ps) hown ad 0 c [] rfl (fun j a ha=>by simp at ha) (fun a ha=>by simp at ha) (by unfold maxLen;omega) (by omega) hbase;refine ⟨v',w',g1,by unfold zD0;rw [List.append_nil];simpa using g2,qS2 g3 g5,g3,fun g hg hne e1 => ?_⟩;rcases g5 with h | h
      · exact hne (h ▸ e1)
      · rw [h] at e1;injection e1 with e1;omega
  · obtain ⟨p0,hp0⟩:∃ p0,qs[0]?=some p0:=⟨_,zA3 (List.length_pos_iff.2 hq)⟩;obtain ⟨g0,o0,rfl,_⟩:=hcells 0 p0 hp0;obtain ⟨i,hi,hz,hs,hb⟩:=hI
    have hadd:∀ j,(⟨g0,o0,none⟩:Addr).add j=⟨g0,o0+j,none⟩:=by
      intro j;unfold Addr.add;by_cases h:j=0
      · simp [h]
      · simp [h]
    obtain ⟨v',w',g1,g2,g3,_,g5⟩:=run_append_own_at (P:=P) (w:=w) base t ty T i (.agg #[.bool false,.slice none 0 0,.slice none 0 0]) 3 56 hT hi hz hs hb rfl (by decide) _ ps.length (zF1 ps) hown ⟨g0,o0,none⟩ qs.length c (zF1 qs) (qN9 qs) (fun j a ha=>by
      obtain ⟨k,p,hp,h⟩:=yL9 qs j a ha;obtain ⟨g',o',e,c0,c1,c2⟩:=hcells k p hp;injection e with e;injection e with e1 e2;subst e1;subst e2;rw [hadd];rcases h with ⟨rfl,rfl⟩|⟨rfl,rfl⟩|⟨rfl,rfl⟩
      · exact c0
      · rw [<- Nat.add_assoc];exact c1
      · rw [<- Nat.add_assoc];exact c2) (fun a ha=>by
      obtain ⟨p,hp,hc⟩:=yJ7 ha;simp only [zK9,List.mem_cons,List.not_mem_nil,or_false] at hc;rcases hc with rfl|rfl|rfl
      · rfl
      · exact (hone p hp).1
      · exact (hone p hp).2) (by unfold maxLen;omega) (by omega) hbase
    refine ⟨v',w',g1,by unfold zD0;rw [zA8,zF1,List.flatMap_append];exact g2,qS2 g3 g5,g3,fun g hg hne e1 => ?_⟩;rcases g5 with h | h
    · exact hne (h ▸ e1)
    · rw [h] at e1;injection e1 with e1;omega
theorem jL6 {w:World} {ops:Array Oper} {o:Oper} {a:Act} {K:Act->World->Prop} {Q:Exit->Act->World->Prop} {E:Prop} (hgd:o.guard=none) (s x:Operand) {t:TypeId}
  (ho:o.op=.call { callee:=.builtin .append,args:=#[s,x],argTypes:=#[t,t] })
  {base:Nat} {T:TypeId} (hT:P.underlying t=some (.slice T)) (hI:∃ i,P.info? T=some i/\i.zero=some (.agg #[.bool false,.slice none 0 0,.slice none 0 0])/\i.size=3/\i.bytes=56) {v u:Value} {ps qs:List Elt} (hs:a.eval s=v) (hown:zD0 T w base v ps) (hx:a.eval x=u) (hu:zP1 w u qs) (hone:∀ p∈qs,p.2.1.oneCell'=true/\p.2.2.oneCell'=true) (hlen:ps.length<=1000000000) (hlen2:qs.length<=1000000000) (hbase:base<=w.heap.size)
  (h:∀ v' w',zD0 T w' base v' (ps ++ qs)->Below base w w'->Hid (zH4 w w' v v')->K (a.put o.dst v') w') :
  if Region.wanted o (yielded ops a.tmps)=true then Oper.wp P o a w K Q else E:=by
 have hw:Region.wanted o (yielded ops a.tmps)=true:=by simp [Region.wanted,hgd]
 rw [if_pos hw];obtain ⟨v',w',hrun,g2,g3⟩:=yM (P:=P) (ty:=o.type) hT hI hown hu hone hlen hlen2 hbase;unfold Oper.wp execOp;simp only [ho,resolve,invoke,builtin,Sem.run_bind,Sem.run_pure,Result.andThen_ok,bX7,List.map_cons,List.map_nil,hs,hx,hrun];exact h v' w' g2 ((Below.refl base w).grown g3.2.1 hbase hown.base_le) g3
end
structure TabJ (T:TypeId) (w:World) (base:Nat) (TS:TypeId) (V:Value) (us0 us:List Value) (pss:List (List Elt)):Prop where
 row:zD1 w base TS V us0
 len:us.length=pss.length
 own:∀ (i:Nat) (u:Value) (ps:List Elt),us[i]?=some u->pss[i]?=some ps->zD0 T w base u ps
 apart:∀ (i j:Nat) (u v:Value),i≠j->us[i]?=some u->us[j]?=some v -> ∀ h,u.ownBlock=some h->v.ownBlock≠some h
section
variable {T TS:TypeId} {w w1:World} {base:Nat} {V:Value} {us0 us:List Value} {pss:List (List Elt)}
theorem TabK.j (h:TabK T w base TS V us pss):TabJ T w base TS V us us pss:=⟨h.row,h.len,h.own,h.apart⟩
theorem TabJ.mem (h:TabJ T w base TS V us0 us pss) {u:Value} (hu:u∈us):∃ ps,zD0 T w base u ps:=by
 obtain ⟨i,hi⟩:=List.mem_iff_getElem?.1 hu;have hp:pss[i]?=some (pss[i]'(by rw [<- h.len];exact (zA4.1 hi).1)):=zA3 _;exact ⟨_,h.own i u _ hi hp⟩
theorem TabJ.at (h:TabJ T w base TS V us0 us pss) {i:Nat} {u:Value} (hu:us[i]?=some u):∃ ps,pss[i]?=some ps/\zD0 T w base u ps:=by
 have hp:pss[i]?=some (pss[i]'(by rw [<- h.len];exact (zA4.1 hu).1)):=zA3 _;exact ⟨_,hp,h.own i u _ hu hp⟩
theorem TabJ.kept {row:Option Nat} (h:TabJ T w base TS V us0 us pss) (hg:w.grownBy w1 row) (hV:∀ g,V.ownBlock=some g->row≠some g) (hu:∀ u∈us,∀ g,u.ownBlock=some g->row≠some g):TabJ T w1 base TS V us0 us pss :=
 ⟨zD1.kept h.row hg hV,h.len,fun i u ps hi hp=>(h.own i u ps hi hp).other hg (fun g e=>hu u (zA5 hi) g e),h.apart⟩
theorem TabJ.bQ (h:TabJ T w base TS V us0 us pss) (hb:Below w.heap.size w w1):TabJ T w1 base TS V us0 us pss :=
 ⟨h.row.bQ hb,h.len,fun i u ps hi hp=>(h.own i u ps hi hp).bQ hb,h.apart⟩
theorem TabJ.grow {i:Nat} {u u':Value} {ps':List Elt} (hT:T≠TS) (h:TabJ T w base TS V us0 us pss) (hu:us[i]?=some u) (hr:zD0 T w1 base u' ps') (hg:w.grownBy w1 u.ownBlock) (hn:∀ g,g<w.heap.size->u.ownBlock≠some g->u'.ownBlock≠some g):TabJ T w1 base TS V us0 (us.set i u') (pss.set i ps'):=by
 obtain ⟨ps,hps,hui⟩:=h.at hu;refine ⟨zD1.kept h.row hg fun g e e2=>hui.notRow h.row hT g e2 e,by rw [zB2,zB2];exact h.len,fun j x y hx hy => ?_,fun a b x y hab hx hy q hq hq2 => ?_⟩
 ·rcases zO8 hx with ⟨rfl,rfl⟩|⟨hj,hx⟩
  ·rcases zO8 hy with ⟨_,rfl⟩|⟨hj,_⟩
   ·exact hr
   ·exact absurd rfl hj
  ·rcases zO8 hy with ⟨e,_⟩|⟨_,hy⟩
   ·exact absurd e hj
   ·exact (h.own j x y hx hy).other hg fun q hq e=>h.apart i j u x hj hu hx q e hq
 ·rcases zO8 hx with ⟨rfl,rfl⟩|⟨ha,hx1⟩
  ·rcases zO8 hy with ⟨e,_⟩|⟨_,hy⟩
   ·exact hab e
   ·obtain ⟨pb,_,hpb⟩:=h.at hy;exact hn q (hpb.under q hq2) (fun e=>h.apart i b u y hab hu hy q e hq2) hq
  ·rcases zO8 hy with ⟨rfl,rfl⟩|⟨hb,hy1⟩
   ·obtain ⟨pa,_,hpa⟩:=h.at hx1;exact hn q (hpa.under q hq) (fun e=>h.apart i a u x ha hu hx1 q e hq) hq2
   ·exact h.apart a b x y hab hx1 hy1 q hq hq2
end
theorem TabJ.store {T TS:TypeId} {w:World} {base g n c i:Nat} {us0 us:List Value} {pss:List (List Elt)} (hT:T≠TS) (h:TabJ T w base TS (.slice (some ⟨g,0,none⟩) n c) us0 us pss) (u:Value):TabJ T (w.setCell ⟨g,i,none⟩ u) base TS (.slice (some ⟨g,0,none⟩) n c) (us0.set i u) us pss :=
 ⟨h.row.stored i u,h.len,fun j x y hx hy=>(h.own j x y hx hy).other (zF4 w g i u) fun q hq e=>(h.own j x y hx hy).notRow h.row hT q hq e,h.apart⟩
def Els (L:List Value) (w:World) (es:List Elt):Prop:=∀ e∈es,IsE .u64 4294967296 w e /\ ∀ v∈L,Far v e.2.1/\Far v e.2.2
theorem Els.bQ {L:List Value} {w w':World} {es:List Elt} (h:Els L w es) (hb:Below w.heap.size w w'):Els L w' es:=fun e he=>⟨⟨(h e he).1.1.bQ hb,(h e he).1.2.bQ hb⟩,(h e he).2⟩
theorem Els.sub {L:List Value} {w:World} {es es':List Elt} (h:Els L w es) (hs:∀ e∈es',e∈es):Els L w es':=fun e he=>h e (hs e he)
theorem Els.less {L L':List Value} {w:World} {es:List Elt} (h:Els L w es) (hl:∀ v∈L',∃ u∈L,v.ownBlock=u.ownBlock):Els L' w es:=fun e he=>⟨(h e he).1,fun v hv=>by
 obtain ⟨u,hu,eu⟩:=hl v hv;obtain ⟨f1,f2⟩:=(h e he).2 u hu;unfold Far at f1 f2 |-;rw [eu];exact ⟨f1,f2⟩⟩
theorem Els.grow {L:List Value} {w w1:World} {es:List Elt} {u u':Value} (h:Els L w es) (hu:u∈L) (hg:zH4 w w1 u u'):Els (u' :: L) w1 es:=fun e he=>by
 obtain ⟨e1,e2⟩:=h e he;obtain ⟨f1,f2⟩:=e2 u hu;have x1:=hg.1 _ _ _ e1.1 f1;have x2:=hg.1 _ _ _ e1.2 f2;refine ⟨⟨x1.1,x2.1⟩,fun v hv => ?_⟩;rcases List.mem_cons.1 hv with rfl|hv
 ·exact ⟨x1.2,x2.2⟩
 ·exact e2 v hv
theorem Els.kept {L:List Value} {w w1:World} {es:List Elt} {u:Value} (h:Els L w es) (hu:u∈L) (hg:w.grownBy w1 u.ownBlock):Els L w1 es:=fun e he=>by
 obtain ⟨e1,e2⟩:=h e he;obtain ⟨f1,f2⟩:=e2 u hu;exact ⟨⟨e1.1.farKept f1 hg,e1.2.farKept f2 hg⟩,e2⟩
theorem qO6 {pss:List (List Elt)} {i:Nat} {ps:List Elt} {e:Elt} (h:e∈(pss.set i ps).flatten):e∈pss.flatten\/e∈ps:=by
 obtain ⟨qs,hq,he⟩:=List.mem_flatten.1 h;rcases bW3 hq with hq | rfl
 ·exact .inl (List.mem_flatten.2 ⟨qs,hq,he⟩)
 ·exact .inr he
theorem qI6 {pss:List (List Elt)} {i:Nat} {ps:List Elt} {e:Elt} (hp:pss[i]?=some ps) (he:e∈ps):e∈pss.flatten:=List.mem_flatten.2 ⟨ps,zA5 hp,he⟩
structure TwoE (w wr:World) (V U:Value) (us0 us vs0 vs:List Value) (pss qss:List (List Elt)):Prop where
 p:TabJ 44 wr w.heap.size 46 V us0 us pss
 q:TabJ 54 wr w.heap.size 49 U vs0 vs qss
 x:Els (V :: U :: (us ++ vs)) wr pss.flatten
 bQ:Below w.heap.size w wr
section
variable {w wr w1:World} {V U:Value} {us0 us vs0 vs:List Value} {pss qss:List (List Elt)}
theorem TwoTabO.e (h:TwoTabO w wr V U us vs pss qss):TwoE w wr V U us us vs vs pss qss:=⟨h.p.k.j,h.q.k.j,fun e he=>by
 obtain ⟨ps,hp,he⟩:=List.mem_flatten.1 he;have f:=h.p.farV ps hp e he;have c:=h.c1 ps hp e he;refine ⟨f.1,fun v hv => ?_⟩;rcases List.mem_cons.1 hv with rfl|hv
 ·exact f.2
 ·rcases List.mem_cons.1 hv with rfl|hv
  ·exact c.2
  ·rcases List.mem_append.1 hv with hv | hv
   ·exact (h.p.far v hv ps hp e he).2
   ·exact c.1 v hv,h.bQ⟩
theorem TwoE.to (h:TwoE w wr V U us0 us vs0 vs pss qss) (hb:Below wr.heap.size wr w1):TwoE w w1 V U us0 us vs0 vs pss qss:=⟨h.p.bQ hb,h.q.bQ hb,h.x.bQ hb,h.bQ.trans (hb.mono h.bQ.size)⟩
theorem TwoE.growP {i:Nat} {u u':Value} {ps:List Elt} {e:Elt} (h:TwoE w wr V U us0 us vs0 vs pss qss) (hu:us[i]?=some u) (hps:pss[i]?=some ps) (hr:zD0 44 w1 w.heap.size u' (ps ++ [e])) (hg:zH4 wr w1 u u') (hn:Els (V :: U :: (us ++ vs)) wr [e]) (hb:Below w.heap.size wr w1):TwoE w w1 V U us0 (us.set i u') vs0 vs (pss.set i (ps ++ [e])) qss:=by
 have hum:=zA5 hu;obtain ⟨_,_,hui⟩:=h.p.at hu;have huL:u∈V :: U :: (us ++ vs):=List.mem_cons_of_mem _ (List.mem_cons_of_mem _ (List.mem_append_left _ hum));refine ⟨h.p.grow (by decide) hu hr hg.2.1 hg.2.2,h.q.kept hg.2.1 (fun g a b=>hui.notRow h.q.row (by decide) g b a) (fun v hv g a b => ?_),?_,h.bQ.trans hb⟩
 ·obtain ⟨rs,hrs⟩:=h.q.mem hv;exact hrs.notF hui (by decide) g a b
 ·have x1:=(h.x.grow huL hg).less (L':=V :: U :: (us.set i u' ++ vs)) fun v hv => ?_
  ·have x2:=(hn.grow huL hg).less (L':=V :: U :: (us.set i u' ++ vs)) fun v hv => ?_
   ·intro e' he';rcases qO6 he' with he' | he'
    ·exact x1 e' he'
    ·rcases List.mem_append.1 he' with he' | he'
     ·exact x1 e' (qI6 hps he')
     ·exact x2 e' he'
   ·refine ⟨v,?_,rfl⟩;rcases List.mem_cons.1 hv with rfl|hv
    ·simp
    ·rcases List.mem_cons.1 hv with rfl|hv
     ·simp
     ·rcases List.mem_append.1 hv with hv | hv
      ·rcases bW3 hv with hv | rfl
       ·simp [hv]
       ·simp
      ·simp [hv]
  ·refine ⟨v,?_,rfl⟩;rcases List.mem_cons.1 hv with rfl|hv
   ·simp
   ·rcases List.mem_cons.1 hv with rfl|hv
    ·simp
    ·rcases List.mem_append.1 hv with hv | hv
     ·rcases bW3 hv with hv | rfl
      ·simp [hv]
      ·simp
     ·simp [hv]
theorem TwoE.growQ {i:Nat} {u u':Value} {rs':List Elt} (h:TwoE w wr V U us0 us vs0 vs pss qss) (hu:vs[i]?=some u) (hr:zD0 54 w1 w.heap.size u' rs') (hg:zH4 wr w1 u u') (hb:Below w.heap.size wr w1):TwoE w w1 V U us0 us vs0 (vs.set i u') pss (qss.set i rs'):=by
 have hum:=zA5 hu;obtain ⟨_,_,hui⟩:=h.q.at hu;have huL:u∈V :: U :: (us ++ vs):=List.mem_cons_of_mem _ (List.mem_cons_of_mem _ (List.mem_append_right _ hum));refine ⟨h.p.kept hg.2.1 (fun g a b=>hui.notRow h.p.row (by decide) g b a) (fun v hv g a b => ?_),h.q.grow (by decide) hu hr hg.2.1 hg.2.2,(h.x.grow huL hg).less fun v hv => ?_,h.bQ.trans hb⟩
 ·obtain ⟨rs,hrs⟩:=h.p.mem hv;exact hrs.notF hui (by decide) g a b
 ·refine ⟨v,?_,rfl⟩;rcases List.mem_cons.1 hv with rfl|hv
  ·simp
  ·rcases List.mem_cons.1 hv with rfl|hv
   ·simp
   ·rcases List.mem_append.1 hv with hv | hv
    ·simp [hv]
    ·rcases bW3 hv with hv | rfl
     ·simp [hv]
     ·simp
theorem TwoE.cutP {i:Nat} {u u':Value} {ps ps':List Elt} (h:TwoE w wr V U us0 us vs0 vs pss qss) (hu:us[i]?=some u) (hps:pss[i]?=some ps) (hr:zD0 44 wr w.heap.size u' ps') (ho:u'.ownBlock=u.ownBlock) (hs:∀ e∈ps',e∈ps):TwoE w wr V U us0 (us.set i u') vs0 vs (pss.set i ps') qss:=by
 have hum:=zA5 hu;refine ⟨h.p.grow (by decide) hu hr ⟨rfl,rfl,rfl,zB3 _,fun _ _ _=>rfl⟩ (fun g _ a=>by rw [ho];exact a),h.q,(h.x.sub (es':=(pss.set i ps').flatten) fun e he => ?_).less fun v hv => ?_,h.bQ⟩
 ·rcases qO6 he with he | he
  ·exact he
  ·exact qI6 hps (hs e he)
 ·rcases List.mem_cons.1 hv with rfl|hv
  ·exact ⟨v,by simp,rfl⟩
  ·rcases List.mem_cons.1 hv with rfl|hv
   ·exact ⟨v,by simp,rfl⟩
   ·rcases List.mem_append.1 hv with hv | hv
    ·rcases bW3 hv with hv | rfl
     ·exact ⟨v,by simp [hv],rfl⟩
     ·exact ⟨u,by simp [hum],ho⟩
    ·exact ⟨v,by simp [hv],rfl⟩
theorem TwoE.cutQ {i:Nat} {u u':Value} {rs':List Elt} (h:TwoE w wr V U us0 us vs0 vs pss qss) (hu:vs[i]?=some u) (hr:zD0 54 wr w.heap.size u' rs') (ho:u'.ownBlock=u.ownBlock):TwoE w wr V U us0 us vs0 (vs.set i u') pss (qss.set i rs'):=by
 have hum:=zA5 hu;refine ⟨h.p,h.q.grow (by decide) hu hr ⟨rfl,rfl,rfl,zB3 _,fun _ _ _=>rfl⟩ (fun g _ a=>by rw [ho];exact a),h.x.less fun v hv => ?_,h.bQ⟩;rcases List.mem_cons.1 hv with rfl|hv
 ·exact ⟨v,by simp,rfl⟩
 ·rcases List.mem_cons.1 hv with rfl|hv
  ·exact ⟨v,by simp,rfl⟩
  ·rcases List.mem_append.1 hv with hv | hv
   ·exact ⟨v,by simp [hv],rfl⟩
   ·rcases bW3 hv with hv | rfl
    ·exact ⟨v,by simp [hv],rfl⟩
    ·exact ⟨u,by simp [hum],ho⟩
theorem TwoE.storeP {g n c i:Nat} (h:TwoE w wr (.slice (some ⟨g,0,none⟩) n c) U us0 us vs0 vs pss qss) (u:Value):TwoE w (wr.setCell ⟨g,i,none⟩ u) (.slice (some ⟨g,0,none⟩) n c) U (us0.set i u) us vs0 vs pss qss:=by
 have hg:=zF4 wr g i u;refine ⟨h.p.store (by decide) u,h.q.kept hg (fun q a b => ?_) (fun v hv q a b => ?_),h.x.kept (u:=.slice (some ⟨g,0,none⟩) n c) (by simp) hg,h.bQ.setCell (p:=⟨g,i,none⟩) (h.p.row.base_le g rfl) u⟩
 ·exact zD1.notV h.q.row h.p.row (by decide) q a b
 ·obtain ⟨rs,hrs⟩:=h.q.mem hv;exact hrs.notRow h.p.row (by decide) q a b
theorem TwoE.storeQ {g n c i:Nat} (h:TwoE w wr V (.slice (some ⟨g,0,none⟩) n c) us0 us vs0 vs pss qss) (u:Value):TwoE w (wr.setCell ⟨g,i,none⟩ u) V (.slice (some ⟨g,0,none⟩) n c) us0 us (vs0.set i u) vs pss qss:=by
 have hg:=zF4 wr g i u;refine ⟨h.p.kept hg (fun q a b => ?_) (fun v hv q a b => ?_),h.q.store (by decide) u,h.x.kept (u:=.slice (some ⟨g,0,none⟩) n c) (by simp) hg,h.bQ.setCell (p:=⟨g,i,none⟩) (h.q.row.base_le g rfl) u⟩
 ·exact zD1.notV h.p.row h.q.row (by decide) q a b
 ·obtain ⟨rs,hrs⟩:=h.p.mem hv;exact hrs.notRow h.q.row (by decide) q a b
theorem TwoE.slT (h:TwoE w wr V U us us vs vs pss qss):SlT .u64 4294967296 wr V (zD5 pss):=by
  refine ⟨us,by rw [zD5,zA9];exact h.p.len,?_,fun i u r hu hr => ?_⟩
  · rcases h.p.row.2 with ⟨rfl,h0⟩|⟨g,cap,cur,rfl,_,hg,hn,hm,_,_⟩
    · obtain rfl:us=[]:=List.length_eq_zero_iff.1 h0;exact ⟨none,0,rfl,by simp,by unfold maxLen;omega,fun i u hu=>by simp at hu⟩
    · exact ⟨_,cap,rfl,hn,hm,fun i u hu=>⟨_,rfl,World.ownsRow.cells h.p.row (g:=g) rfl i u hu⟩⟩
  rw [zD5,zB1] at hr
  cases hp:pss[i]? with
  | none=>rw [hp] at hr;cases hr
  | some ps =>
    rw [hp] at hr;obtain rfl:ps.map (·.1)=r:=by simpa using hr
    exact (h.p.own i u ps hu hp).sl fun e he=>by
      obtain ⟨e1,e2⟩:=h.x e (qI6 hp he);exact ⟨e1,e2 u (by simp [zA5 hu])⟩
theorem TwoE.new (h:TwoE w wr V U us0 us vs0 vs pss qss) {e:Elt} (hb:Below wr.heap.size wr w1) (he:IsE .u64 4294967296 w1 e) (f1:zE5 wr.heap.size e.2.1) (f2:zE5 wr.heap.size e.2.2):Els (V :: U :: (us ++ vs)) w1 [e]:=fun e' he'=>by
 rw [List.mem_singleton.1 he'];refine ⟨he,fun v hv => ?_⟩
 have hu:∀ g,v.ownBlock=some g->g<wr.heap.size:=by
  rcases List.mem_cons.1 hv with rfl|hv
  ·exact h.p.row.under
  ·rcases List.mem_cons.1 hv with rfl|hv
   ·exact h.q.row.under
   ·rcases List.mem_append.1 hv with hv | hv
    ·obtain ⟨_,hp⟩:=h.p.mem hv;exact hp.under
    ·obtain ⟨_,hp⟩:=h.q.mem hv;exact hp.under
 exact ⟨f1.far hu,f2.far hu⟩
end
theorem jL7 (k:Nat) (hk:k<=1000):zC3 ((k:Int):Rat) 1:=lenQ_of (zG7 (k:=1) (by omega) (by simp;omega)) (zG7 (k:=1) (by omega) (by simp))
theorem qW8 (g o i:Nat):(⟨g,o,none⟩:Addr).add i=⟨g,o+i,none⟩:=by
 unfold Addr.add;by_cases h:i=0
 ·simp [h]
 ·simp [h]
theorem zE2.at_ {k:IntKind} {B:Nat} {w:World} {g:Nat} {TS:TypeId} {us:List Value} {T:List (List Rat)} (h:zE2 k B w g TS us T) {i:Nat} {r:List Rat} (hr:T[i]?=some r):∃ Ar cr,us[i]?=some (.slice Ar r.length cr)/\w.cell? ⟨g,i,none⟩=some (.slice Ar r.length cr)/\SlF k B w (.slice Ar r.length cr) r:=by
 have hi:i<us.length:=by rw [h.2.1];exact (zA4.1 hr).1
 have hu:us[i]?=some us[i]:=zA3 hi;have hs:=h.2.2 i _ r hu hr;obtain ⟨Ar,cr,e,_,_⟩:=hs.shape;have hc:=h.1.cell hu;rw [zS] at hc;rw [e] at hu hs hc;exact ⟨Ar,cr,hu,hc,hs⟩
theorem zE2.sub {k:IntKind} {B:Nat} {w:World} {g:Nat} {TS:TypeId} {us:List Value} {T:List (List Rat)} (h:zE2 k B w g TS us T) {o m c:Nat} (hm:o+m<=T.length) (hc:m<=c) (hx:c<=maxLen):SlT k B w (.slice (some ⟨g,o,none⟩) m c) ((T.drop o).take m):=by
 have hl:us.length=T.length:=h.2.1;have e1:((us.drop o).take m).length=m:=by rw [bQ7,bX2];omega
 refine ⟨(us.drop o).take m,by rw [e1,bQ7,bX2];omega,⟨some ⟨g,o,none⟩,c,by rw [e1],by rw [e1];exact hc,hx,fun i u hu=>⟨_,rfl,?_⟩⟩,fun i u r hu hr => ?_⟩
 ·rw [qW8];have hi:i<m:=by have:=(zA4.1 hu).1;omega
  rw [List.getElem?_take_of_lt hi,bW9] at hu;have hcc:=h.1.cell hu;rwa [zS] at hcc
 ·have hi:i<m:=by have:=(zA4.1 hu).1;omega
  rw [List.getElem?_take_of_lt hi,bW9] at hu hr;exact h.2.2 _ u r hu hr
theorem TabO.tabS {T0:TypeId} {w:World} {base g n:Nat} {TS:TypeId} {us:List Value} {pss:List (List Elt)} {k:IntKind} {B:Nat} (h:TabO k B T0 w base TS (.slice (some ⟨g,0,none⟩) n n) us pss) (hn:us.length=n):zE2 k B w g TS us (zD5 pss):=by
  refine ⟨⟨?_,fun u hu => ?_⟩,by rw [qA0];exact h.len,fun i u r hu hr => ?_⟩
  · rcases h.row.2 with ⟨e,_⟩|⟨g',cap,cur,e,_,hg,_,_,h1,h2⟩
    · cases e
    · injection e with e1 e2 e3;injection e1 with e1;injection e1 with e1 _ _;subst e1
      have e:cur=us.toArray:=by
        apply Array.toList_inj.1;rw [<- h2,zA7 (by simp;omega)]
      unfold Blk;rw [hg,e]
  · obtain ⟨i,hi⟩:=List.mem_iff_getElem?.1 hu;obtain ⟨ps,hp⟩:∃ ps,pss[i]?=some ps:=⟨_,zA3 (by rw [<- h.len];exact (zA4.1 hi).1)⟩;have hf:=(h.own i u ps hi hp).isVF;obtain ⟨A,c,e,_⟩:=hf;exact ⟨A,_,c,e⟩
  · rw [zD5,zB1] at hr
    cases hp:pss[i]? with
    | none=>rw [hp] at hr;cases hr
    | some ps =>
      rw [hp] at hr;obtain rfl:ps.map (·.1)=r:=by simpa using hr
      exact (h.own i u ps hu hp).sl (h.far u (zA5 hu) ps (zA5 hp))
theorem zD1.weak {w:World} {base base':Nat} {TS:TypeId} {V:Value} {us:List Value} (h:zD1 w base TS V us) (hb:base'<=base):zD1 w base' TS V us:=by
 refine ⟨h.1,?_⟩;rcases h.2 with hn | ⟨g,cap,cur,hv,hg,rest⟩
 ·exact .inl hn
 ·exact .inr ⟨g,cap,cur,hv,zB4 hb hg,rest⟩
theorem TabO.weak {k:IntKind} {B:Nat} {T TS:TypeId} {w:World} {base base':Nat} {V:Value} {us:List Value} {pss:List (List Elt)} (h:TabO k B T w base TS V us pss) (hb:base'<=base):TabO k B T w base' TS V us pss :=
 ⟨zD1.weak h.row hb,h.len,fun i u ps hu hp=>zD0.weak (h.own i u ps hu hp) hb,h.far,h.farV,h.apart⟩
theorem jL8 {w:World} {v u0:Value} {t0:List (List Rat)} (h:IsV w v [u0]) (h0:SlT .u64 4294967296 w u0 t0):zL5 w v [t0] :=
  ⟨[u0], rfl, h, by simp, fun i u t hu ht => by
    rcases i with _ | i
    · obtain rfl:u0=u:=by simpa using hu
      obtain rfl:t0=t:=by simpa using ht
      exact h0
    · simp at hu⟩
def jL9 (L:List (List Rat)) (a:Nat) (w:World) (e:Ending) (w':World):Prop:=∃ k:Nat,e=.returned (.int .i64 (k:Int))/\k<=L.length/\(∀ i,i<k->zB8 L i a=0)/\(k<L.length->zB8 L k a≠0)/\Below w.heap.size w w'
theorem yM0 (a0:Value) (L:List (List Rat)) (a:Nat) (w:World) (h0:SlT .u64 4294967296 w a0 L) (hl:∀ r∈L,a<r.length):Calls prog 84 #[a0,.int .i64 (a:Int)] w (jL9 L a w):=by
 have st0:=h0;obtain ⟨A0,c0,rfl,hc0,hm0⟩:=h0.shape;unfold maxLen at hm0;have HL:=hQ9 hl;clear hl
 go_enter func84,ntmps84
 go_wp2
 go_loopw [8] (fun v8 wr => ∃ k:Nat,k<=L.length/\Hid (∀ i,i<k->zB8 L i a=0)/\Below w.heap.size w wr/\v8=.int .i64 (k:Int)) (fun v8 _=>L.length-(intOf v8).toNat)
 case atStart=>exact ⟨0,by omega,(by show ∀ i,_;intro i hi;omega),Below.refl _ _,rfl⟩
 case round =>
  obtain ⟨k,hk,HZ,bb,rfl⟩:=hrel;by_cases hlt:k<L.length
  ·obtain ⟨r,hr⟩:∃ r,L[k]?=some r:=⟨_,zA3 hlt⟩;have hal:=HL.out r (zA5 hr);obtain ⟨q,hq⟩:∃ q,r[a]?=some q:=⟨_,zA3 hal⟩;have he:Hid (zB8 L k a=q):=qN0 hr hq;obtain ⟨ad,rfl⟩:=st0.place (List.length_pos_iff.1 (by omega));obtain ⟨Ar,cr,hik,ecr,sr⟩:=(st0.bQ bb).at2 hr;obtain ⟨gr,or,u,t,rfl,hia,k0,k1,k2,su,st⟩:=sr.at_ hq;obtain ⟨Au,cu,rfl,_⟩:=id su;obtain ⟨At,ct,rfl,_⟩:=id st;have hix:=fun w=>zH9 (P:=prog) underlying46 (by kernel_rfl) (g:=gr) (o:=or) (c:=cr) hia w;have kq:IsQ wr (.agg #[.bool (ngB q.num),.slice Au (digs 4294967296 q.num.natAbs).length cu,.slice At (digs 4294967296 q.den).length ct]) q:=⟨_,_,rfl,su,st⟩;obtain ⟨t,ht⟩:∃ t,t=zJ4 q.num 0:=⟨_,rfl⟩;have hz:(t == 0)=decide (q=0):=by rw [ht,yL1]
   have HT:=hQ9 ht;clear hr hq ht sr;go_wp2_with fail
   refine (zR8 _ q t _ kq HT.out).mono ?_;rintro e w4 ⟨rfl,b4⟩;have bb4:=bb.trans (b4.mono bb.size);by_cases hq0:q=0
   ·obtain rfl:t=0:=by
     rw [hq0] at hz;simpa using hz
    have HZ2:Hid (∀ i,i<k+1->zB8 L i a=0):=by
     show ∀ i,_
     intro i hi;by_cases e:i=k
     ·subst e;rw [he.out];exact hq0
     ·exact HZ.out i (by omega)
    clear hz hq0 kq k0 k1 k2;go_wp2;go_roundw;case rel=>exact ⟨k+1,by omega,HZ2,bb4,by go_num⟩
    case measure=>simp [intOf];omega
   ·have hz1:¬ t=0:=by
     intro e;rw [e,decide_eq_false hq0] at hz;exact absurd hz (by decide)
    have HN:Hid (zB8 L k a≠0):=by show _≠_;rw [he.out];exact hq0
    clear hz hq0 kq k0 k1 k2;go_wp2;go_ret;exact ⟨k,rfl,by omega,HZ.out,fun _=>HN.out,bb4⟩
  ·obtain rfl:k=L.length:=by omega
   go_wp2;go_ret;exact ⟨_,rfl,zB3 _,HZ.out,fun h=>by omega,bb⟩
theorem jM (T:List (List Rat)):zV2 T.length [T] ↔ zF5 T:=by
 unfold zV2
 constructor
 ·intro h;exact (h T List.mem_cons_self).1
 ·intro h t ht;obtain rfl:=List.mem_singleton.1 ht;exact ⟨h,rfl⟩
theorem jM0 (T:List (List Rat)):zO7 T.length [T]=T:=qV0 T
theorem jM1 (a0:Value) (T:List (List Rat)) (w:World) (h0:SlT .u64 4294967296 w a0 T) (hl:zC T<=200/\T.length<=200/\zD6 T 100000):Calls prog 51 #[a0] w (fun e w'=>(zF5 T/\RetTO T.length T w e w')\/(¬ zF5 T/\zV1 [] 8 w e w')):=by
 have st0:=h0;obtain ⟨A0,c0,rfl,hc0,hm0⟩:=h0.shape;have HL:=hQ9 hl;clear hl;have ba:=zC9 (w:=w) (zB3 _) (.cells #[.slice A0 T.length c0] 22);have HV:=jL8 (zS7 w 22 [.slice A0 T.length c0]) (st0.bQ ba);have HLV:=hQ9 HV;clear HV
 go_enter func51,ntmps51;go_wp2_with fail
 refine (yL0 _ [T] T _ HLV.out rfl ⟨by simp,by simp;exact HL.out.1,fun t ht=>by rw [List.mem_singleton.1 ht];exact HL.out.2.2,HL.out.2.1⟩).mono ?_;rintro e w2 h2;rw [jM,jM0] at h2;rcases h2 with ⟨hm,g,us,pss,rfl,hT,hV,hU,hg,b2⟩|⟨hm,V,rfl,hS,b2⟩
 ·have bb:=ba.trans (b2.mono ba.size);have hw:w.heap.size<=(w.alloc (.cells #[.slice A0 T.length c0] 22)).heap.size:=ba.size;have HE:=hQ9 (zA hm (zA hV (zA hU (zB4 hw hg))));have HT:=hQ9 hT;clear hm hT hV hU hg hw;go_wp2;go_ret2;exact .inl ⟨HE.out.1,g,us,pss,rfl,TabO.weak HT.out ba.size,HE.out.2.1,HE.out.2.2.1,HE.out.2.2.2,bb⟩
 ·rw [if_neg (by decide)] at hS;obtain ⟨AV,cV,rfl,-,-⟩:=hS.shape;have bb:=ba.trans (b2.mono ba.size);have HN:=hQ9 hm;clear hm;go_wp2;go_ret2;exact .inr ⟨HN.out,_,rfl,by rw [if_neg (by decide)];exact hS,bb⟩
def zM1 (us:List Value) (G:Nat->Prop):Prop:=∀ u∈us,∀ g,u.ownBlock=some g -> ¬ G g
def zT6 (w:World) (us us':List Value):Prop:=∀ G:Nat->Prop,(∀ x,G x->x<w.heap.size)->zM1 us G->zM1 us' G
theorem zT6.refl (w:World) (us:List Value):zT6 w us us:=fun _ _ h=>h
theorem zT6.set {w w1:World} {us us':List Value} (h:zT6 w us us') (hw:w.heap.size<=w1.heap.size) {g n c:Nat} (hg:w1.heap.size<=g) (i:Nat):zT6 w us (us'.set i (.slice (some ⟨g,0,none⟩) n c)):=fun G hG ho u hu x hx=>by
 rcases bW3 hu with hu | rfl
 ·exact h G hG ho u hu x hx
 ·intro hGx;have h1:=hG x hGx;have h2:g=x:=by simpa [Value.ownBlock] using hx
  omega
def qO7 (g:Nat) (us:List Value) (T':List (List Rat)) (w:World) (e:Ending) (w':World):Prop:=e=.returned (.tuple #[]) /\ ∃ us',zE2 .u64 4294967296 w' g 46 us' T'/\w.grownBy w' (some g)/\zT6 w us us'
theorem qO8 (w:World) (row:Option Nat):w.grownBy w row:=qW7 (Below.refl _ w) row
theorem jM2 {w w1:World} {g i:Nat} {u:Value} (h:w.grownBy w1 (some g)):w.grownBy (w1.setCell ⟨g,i,none⟩ u) (some g):=h.trans (zF4 w1 g i u)
theorem yM1 (g o m c a n C S:Nat) (us:List Value) (a1:Value) (p:List Rat) (T:List (List Rat)) (P:Nat->Bool) (w:World) (h:zE2 .u64 4294967296 w g 46 us T) (hp:SlF .u64 4294967296 w a1 p) (hc:Hid (shp T n C/\p.length=C/\a<C/\o+m<=n/\m<=c/\n<=1000000/\C<=1000/\(∀ i,i<o->P i=false)/\(∀ i,o<=i->i<o+m->P i=true)/\(∀ r∈T,zM0 r S)/\zM0 p S/\(0<m->S+S<=4900))) :
  Calls prog 89 #[.slice (some ⟨g,o,none⟩) m c,a1,.int .i64 (a:Int)] w (qO7 g us (zH6 T P p a (o+m)) w):=by
 obtain ⟨A1,c1,rfl,_,_⟩:=hp.shape;have ha:=hc.out.2.2.1;have hom:=hc.out.2.2.2.1;have hmc:=hc.out.2.2.2.2.1;have hn:=hc.out.2.2.2.2.2.1
 go_enter func89,ntmps89
 go_wp2
 go_loopw [10] (fun v10 wr => ∃ (k:Nat) (us':List Value),k<=m/\zE2 .u64 4294967296 wr g 46 us' (zH6 T P p a (o+k))/\Hid (w.grownBy wr (some g))/\Hid (zT6 w us us')/\v10=.int .i64 (k:Int)) (fun v10 _=>m-(intOf v10).toNat)
 case atStart=>exact ⟨0,us,by omega,by rw [Nat.add_zero,qI o hc.out.2.2.2.2.2.2.2.1];exact h,qO8 _ _,zT6.refl _ _,rfl⟩
 case round =>
  obtain ⟨k,us',hk,TS,HG,HST,rfl⟩:=hrel;by_cases hlt:k<m
  ·have hs:=hc.out.1;obtain ⟨r,hr,hrl⟩:=zI0 hs (show o+k<n by omega);have hr2:(zH6 T P p a (o+k))[o+k]?=some r:=by rw [qN5 T P p a (o+k) (o+k) (zB3 _)];exact hr
   obtain ⟨q,hq⟩:∃ q,r[a]?=some q:=⟨_,zA3 (by omega)⟩;have he:Hid (zB8 T (o+k) a=q):=qN0 hr hq;have hP:=hc.out.2.2.2.2.2.2.2.2.1 (o+k) (by omega) (by omega);obtain ⟨Ar,cr,hur,ecr,sr⟩:=TS.at_ hr2;obtain ⟨gr,or,u,t,rfl,hia,k0,k1,k2,su,st⟩:=sr.at_ hq;obtain ⟨Au,cu,rfl,_⟩:=id su;obtain ⟨At,ct,rfl,_⟩:=id st;have hix:=fun w=>zH9 (P:=prog) underlying46 (by kernel_rfl) (g:=gr) (o:=or) (c:=cr) hia w;have ba:=zC9 (w:=wr) (zB3 _) (.cells #[.bool (ngB q.num),.slice Au (digs 4294967296 q.num.natAbs).length cu,.slice At (digs 4294967296 q.den).length ct] 44);have BT:=Blk.new wr 44 #[.bool (ngB q.num),.slice Au (digs 4294967296 q.num.natAbs).length cu,.slice At (digs 4294967296 q.den).length ct];have kq:IsQ (wr.alloc (.cells #[.bool (ngB q.num),.slice Au (digs 4294967296 q.num.natAbs).length cu,.slice At (digs 4294967296 q.den).length ct] 44)) (.agg #[.bool (ngB q.num),.slice Au (digs 4294967296 q.num.natAbs).length cu,.slice At (digs 4294967296 q.den).length ct]) q:=⟨_,_,rfl,su.bQ ba,st.bQ ba⟩;obtain ⟨t,ht⟩:∃ t,t=zJ4 q.num 0:=⟨_,rfl⟩;have hz:(t == 0)=decide (q=0):=by rw [ht,yL1]
   have HT:=hQ9 ht;have sp:=(h.1.keepF HG.out hp).bQ ba;have TSa:=TS.bQ ba;have sra:=sr.bQ ba;have HR:=hQ9 (zA hr (zA hrl (zA hq (zA hP hr2))));clear hr hrl hq ht su st sr hr2 hP hs TS hur;go_wp2_with fail
   refine (zR8 _ q t _ kq HT.out).mono ?_;rintro e w4 ⟨rfl,b4⟩;have bb4:=ba.trans (b4.mono ba.size);have TS4:=TSa.bQ b4;have BT4:=BT.bQ b4;have kq4:=kq.bQ b4;have sp4:=sp.bQ b4;have sr4:=sra.bQ b4;have HG4:Hid (w.grownBy w4 (some g)):=zJ9 HG.out bb4;clear TSa BT kq sp sra b4 ba bb4 HG k0 k1 k2 ecr hix;by_cases hq0:q=0
   ·obtain rfl:t=0:=by
     rw [hq0] at hz;simpa using hz
    have TS5:zE2 .u64 4294967296 w4 g 46 us' (zH6 T P p a (o+(k+1))):=by
     rw [<- Nat.add_assoc,jH2 HR.out.2.2.2.1 HR.out.1 (by rw [he.out];exact hq0) (by rw [HR.out.2.1];exact hc.out.2.1.symm)];exact TS4
    clear hz hq0 kq4 TS4 BT4 sp4 sr4;go_wp2;go_roundw;case rel=>exact ⟨k+1,us',by omega,TS5,HG4,HST,by go_num⟩
    case measure=>simp [intOf];omega
   ·have hz1:¬ t=0:=by
     intro e;rw [e,decide_eq_false hq0] at hz;exact absurd hz (by decide)
    clear hz;have bd:=(Below.refl w4.heap.size w4).drew;have TSd:=TS4.bQ bd;have BTd:Blk w4.drew _ _ _:=BT4.drew;obtain ⟨V0,V1,V2,_,_,_⟩:=three BTd;have kqd:=kq4.bQ bd;have spd:=sp4.bQ bd;have srd:=sr4.bQ bd;obtain ⟨Ar2,cr2,hur2,ecr2,srd2⟩:=TSd.at_ HR.out.2.2.2.2
    have HLS:Hid (r.length=p.length/\r.length<=1000/\(∀ x∈r,zC3 x S)/\zC3 q S/\(∀ x∈p,zC3 x S)/\S<=4900/\S+S<=4900):=by
     have h1:=hc.out.2.2.2.2.2.2.2.2.2.1 r (zA5 HR.out.1);have h2:=hc.out.2.2.2.2.2.2.2.2.2.2.1;have h3:=hc.out.2.2.2.2.2.2.2.2.2.2.2 (by omega);exact ⟨by rw [HR.out.2.1];exact hc.out.2.1.symm,by rw [HR.out.2.1];exact hc.out.2.2.2.2.2.2.1,h1.len,h1.len q (zA5 HR.out.2.2.1),h2.len,by omega,h3⟩
    have HNL:Hid ((zJ5 r q p).length<=1000000000):=by
     show _<=_
     rw [qU5 HLS.out.1];have:=HLS.out.2.1;omega
    have HNX:Hid ((zH6 T P p a (o+k)).set (o+k) (zJ5 r q p)=zH6 T P p a (o+(k+1))):=by
     show _=_
     rw [<- Nat.add_assoc,qV8 HR.out.2.2.2.1 HR.out.1,he.out]
    have hokl:o+k<(zH6 T P p a (o+k)).length:=(zA4.1 HR.out.2.2.2.2).1;have HG5:Hid (w.grownBy w4.drew (some g)):=zJ9 HG4.out bd;clear TS4 BT4 kq4 sp4 sr4 HG4 hq0;go_upto_region 5 with (fail)
    go_region_law (go_simp;go_at_call 116;refine (jJ9 _ _ _ r q p S S S _ (by exact srd2) (by exact kqd) (by exact spd) HLS.out.1 HLS.out.2).mono ?_;rintro e w6 ⟨gn,rfl,RNn,hgn,b6⟩;have sR:=RNn.sl rfl HNL.out;have TS6:=TSd.bQ b6;obtain ⟨u0,c6⟩:=TS6.cellAt (i:=o+k) hokl;have f6:=TS6.frozenAt (o+k))
    all_goals
     have TS7:=TS6.stored (o+k) sR;rw [HNX.out] at TS7;have HG7:Hid (w.grownBy (w6.setCell ⟨g,o+k,none⟩ (.slice (some ⟨gn,0,none⟩) (zJ5 r q p).length (zJ5 r q p).length)) (some g)):=jM2 (zJ9 HG5.out b6);have HST7:Hid (zT6 w us (us'.set (o+k) (.slice (some ⟨gn,0,none⟩) (zJ5 r q p).length (zJ5 r q p).length))):=zT6.set HST.out HG5.out.size hgn (o+k);clear TS6 TSd;go_wp2;go_roundw;case rel=>exact ⟨k+1,_,by omega,TS7,HG7,HST7,by go_num⟩
     case measure=>simp [intOf];omega
  ·obtain rfl:k=m:=by omega
   go_wp2
   go_end0
   exact ⟨rfl,us',TS,HG.out,HST.out⟩
def zE6 (S:Value->Prop) (w:World) (base:Nat) (e:TypeId) (v:Value) (vs:List Value):Prop:=zD1 w base e v vs /\ ∀ g,v.ownBlock=some g -> ∃ cs,w.heap[g]?=some (.cells cs e (0,0)) /\ ∀ c∈cs,S c
theorem zE6.grown {S:Value->Prop} {w w':World} {base:Nat} {e:TypeId} {v:Value} {vs:List Value} {row:Option Nat} (h:zE6 S w base e v vs) (hg:w.grownBy w' row) (hne:∀ g,v.ownBlock=some g->row≠some g):zE6 S w' base e v vs:=by
 refine ⟨zD1.kept h.1 hg hne,fun g e1 => ?_⟩;obtain ⟨cs,h1,h2⟩:=h.2 g e1;exact ⟨cs,(hg.block g (h.1.under g e1) (fun e2=>hne g e1 e2.symm)).trans h1,h2⟩
theorem zE6.bQ {S:Value->Prop} {w w':World} {base:Nat} {e:TypeId} {v:Value} {vs:List Value} (h:zE6 S w base e v vs) (hb:Below w.heap.size w w'):zE6 S w' base e v vs:=by
 refine ⟨h.1.bQ hb,fun g e1 => ?_⟩;obtain ⟨cs,h1,h2⟩:=h.2 g e1;exact ⟨cs,(hb.block g (h.1.under g e1)).trans h1,h2⟩
theorem qW9 (S:Value->Prop) (w:World) (base:Nat) (e:TypeId):zE6 S w base e (.slice none 0 0) []:=⟨⟨rfl,.inl ⟨rfl,rfl⟩⟩,fun g h=>by cases h⟩
theorem SlF.keepX {k:IntKind} {B:Nat} {w w':World} {v:Value} {r:List Rat} {g:Nat} {e:TypeId} {cs:Array Value} (h:SlF k B w v r) (hB:w.heap[g]?=some (.cells cs e (0,0))) (hb:∀ c∈cs,∀ b,c ≠ .bool b) (hi:∀ c∈cs,∀ n,c ≠ .int k n) (hg:w.grownBy w' (some g)):SlF k B w' v r:=by
 obtain ⟨ps,h1,⟨A,c,e1,h2,h3,h4⟩,h5⟩:=h;refine ⟨ps,h1,⟨A,c,e1,h2,h3,fun i p hp => ?_⟩,fun p hp=>⟨flow.off (h5 p hp).1 hB hi hg,flow.off (h5 p hp).2 hB hi hg⟩⟩;obtain ⟨g',o,e2,c0,c1,c2⟩:=h4 i p hp
 have hne:some g'≠some g:=by
  intro e3;injection e3 with e3;subst e3;rw [cell_of_row w g' _ cs e (0,0) hB] at c0;exact hb _ (Array.mem_of_getElem? c0) _ rfl
 exact ⟨g',o,e2,hg.cell c0 hne,hg.cell c1 hne,hg.cell c2 hne⟩
def isI (v:Value):Prop:=∃ n,v=.int .i64 n
section
variable {P:Program}
theorem jM3 {w:World} {base:Nat} {t ty e:TypeId} (hT:P.underlying t=some (.slice e)) (hI:∃ i,P.info? e=some i/\i.zero=some (.int .i64 0)/\i.size=1/\i.bytes=8) {v:Value} {vs news:List Value} (hown:zE6 isI w base e v vs) {ad:Addr} {m c:Nat} (hm:m=news.length) (hm0:0<m)
  (hr:∀ (i:Nat) (u:Value),news[i]?=some u->w.cell? (ad.add i)=some u) (h1:∀ u∈news,isI u) (hlen:vs.length+m<=1000000000) (hbase:base<=w.heap.size) :
  ∃ v' w',(Builtin.append_ #[t,t] ty #[v,.slice (some ad) m c]).run P w=.ok v' w'/\zE6 isI w' base e v' (vs ++ news)/\w.grownBy w' v.ownBlock/\(v'.ownBlock=v.ownBlock\/v'.ownBlock=some w.heap.size):=by
 obtain ⟨i,hi,hz,hs,hby⟩:=hI;subst hm;have one:∀ u∈news,u.oneCell'=true:=fun u hu=>by obtain ⟨n,rfl⟩:=h1 u hu;rfl
 have hl:news.length=news.length*i.size:=by rw [hs,Nat.mul_one]
 have zs:∀ n,∀ c∈Builtin.zeroCells (Value.int .i64 0).cells n,isI c:=by
  intro n c hc
  have:c=.int .i64 0:=by
   have h0:∀ n,∀ c∈(Builtin.zeroCells (Value.int .i64 0).cells n),c=.int .i64 0:=by
    intro n c hc;unfold Builtin.zeroCells at hc;simp [Value.cells,Nat.mod_one] at hc;obtain ⟨_,h3⟩:=hc
    first | exact h3.symm | exact h3.2.symm
   exact h0 n c hc
  exact ⟨0,this⟩
 obtain ⟨v',w',g1,g2,g3,_,g5⟩:=run_append_own_at (P:=P) w base t ty e i (.int .i64 0) 1 8 hT hi hz hs hby rfl (by decide) v vs.length vs hown.1 ad news.length c news (by simp) (fun j u hu=>hr j u hu) one (by unfold maxLen;omega) (by omega) hbase;refine ⟨v',w',g1,⟨by unfold zD1;rw [zA8];exact g2,fun g hg => ?_⟩,g3,g5⟩;rcases hown.1.2 with ⟨rfl,h0⟩|⟨g',cap,cur,rfl,hbg,hgg,hnc,hcm,hcs,htake⟩
 ·have hx:vs=[]:=List.eq_nil_of_length_eq_zero h0;subst hx;have hr2:=run_append_nil (P:=P) w t ty e i (.int .i64 0) hT hi hz ad news.length c news hl hr hm0 (by omega) (by rw [hby];simp at hlen;omega);rw [hr2] at g1;injection g1 with g1 g1';subst g1;subst g1';obtain rfl:w.heap.size=g:=by simpa [Value.ownBlock] using hg
  refine ⟨_,heap_alloc_new w.drew _,fun c hc => ?_⟩;rcases Array.mem_append.1 hc with hc | hc
  ·exact h1 c (by simpa using hc)
  ·exact zs _ c hc
 ·obtain ⟨cs,hcs1,hcs2⟩:=hown.2 g' rfl;rw [hgg] at hcs1;injection hcs1 with hcs1;injection hcs1 with hcs1 _ _;subst hcs1;by_cases hroom:vs.length+news.length<=cap
  ·have hfit:vs.length*i.size+news.length<=cur.size:=by rw [hcs,hs];omega
   have hr2:=run_append_room (P:=P) w t ty e i hT hi g' vs.length cap cur hgg ad news.length c news hl hr one hroom hfit;rw [hr2] at g1;injection g1 with g1 g1';subst g1;subst g1';obtain rfl:g'=g:=by simpa [Value.ownBlock] using hg
   refine ⟨_,setRow_heap w g' cur _ e _ hgg,fun c hc => ?_⟩;have hc2:c∈cur.toList.take (vs.length*i.size) ++ news ++ cur.toList.drop (vs.length*i.size+news.length):=by simpa using hc
   rcases List.mem_append.1 hc2 with hc2 | hc2
   ·rcases List.mem_append.1 hc2 with hc2 | hc2
    ·exact hcs2 c (by simpa using List.mem_of_mem_take hc2)
    ·exact h1 c hc2
   ·exact hcs2 c (by simpa using List.mem_of_mem_drop hc2)
  ·have holds:∀ j u,vs[j]?=some u->w.cell? ((⟨g',0,none⟩:Addr).add j)=some u:=World.ownsRow.cells hown.1 (g:=g') rfl;have hr2:=run_append_grow (P:=P) w t ty e i (.int .i64 0) hT hi hz ⟨g',0,none⟩ vs.length cap vs (by rw [hs];omega) holds ad news.length c news hl hr (by omega) (by omega) (growslice_fits (by omega) (by rw [hby];omega));rw [hr2] at g1;injection g1 with g1 g1';subst g1;subst g1';obtain rfl:w.heap.size=g:=by simpa [Value.ownBlock] using hg
   refine ⟨_,heap_alloc_new w.drew _,fun c hc => ?_⟩;rcases Array.mem_append.1 hc with hc | hc
   ·rcases Array.mem_append.1 hc with hc | hc
    ·have hcv:c∈vs:=by simpa using hc
     rw [<- htake] at hcv;exact hcs2 c (by simpa using List.mem_of_mem_take hcv)
    ·exact h1 c (by simpa using hc)
   ·exact zs _ c hc
theorem jM4 {w:World} {o:Oper} {a:Act} {K:Act->World->Prop} {Q:Exit->Act->World->Prop} (s x:Operand) {t:TypeId}
  (ho:o.op=.call { callee:=.builtin .append,args:=#[s,x],argTypes:=#[t,t] })
  {base:Nat} {e:TypeId} (hT:P.underlying t=some (.slice e)) (hI:∃ i,P.info? e=some i/\i.zero=some (.int .i64 0)/\i.size=1/\i.bytes=8) {v:Value} {vs news:List Value} (hs:a.eval s=v) (hown:zE6 isI w base e v vs) {ad:Addr} {m c:Nat} (hx:a.eval x=.slice (some ad) m c) (hm:m=news.length) (hm0:0<m)
  (hr:∀ (i:Nat) (u:Value),news[i]?=some u->w.cell? (ad.add i)=some u) (h1:∀ u∈news,isI u) (hlen:vs.length+m<=1000000000) (hbase:base<=w.heap.size)
  (h:∀ v' w',zE6 isI w' base e v' (vs ++ news)->Hid (w.grownBy w' v.ownBlock)->Hid (v'.ownBlock=v.ownBlock\/v'.ownBlock=some w.heap.size)->K (a.put o.dst v') w'):o.wp P a w K Q:=by
 obtain ⟨v',w',hrun,h2,h3,h4⟩:=jM3 (P:=P) (ty:=o.type) hT hI hown (c:=c) hm hm0 hr h1 hlen hbase;unfold Oper.wp execOp;simp only [ho,resolve,invoke,builtin,Sem.run_bind,Sem.run_pure,Result.andThen_ok,bX7,List.map_cons,List.map_nil,hs,hx,hrun];exact h v' w' h2 h3 h4
theorem qX {w:World} {ops:Array Oper} {rest:List Oper} {o:Oper} {a:Act} {Q:Exit->Act->World->Prop} (hgd:o.guard=none) (s x:Operand) {t:TypeId}
  (ho:o.op=.call { callee:=.builtin .append,args:=#[s,x],argTypes:=#[t,t] })
  {base:Nat} {e:TypeId} (hT:P.underlying t=some (.slice e)) (hI:∃ i,P.info? e=some i/\i.zero=some (.int .i64 0)/\i.size=1/\i.bytes=8) {v:Value} {vs news:List Value} (hs:a.eval s=v) (hown:zE6 isI w base e v vs) {ad:Addr} {m c:Nat} (hx:a.eval x=.slice (some ad) m c) (hm:m=news.length) (hm0:0<m)
  (hr:∀ (i:Nat) (u:Value),news[i]?=some u->w.cell? (ad.add i)=some u) (h1:∀ u∈news,isI u) (hlen:vs.length+m<=1000000000) (hbase:base<=w.heap.size)
  (h:∀ v' w',zE6 isI w' base e v' (vs ++ news)->Hid (w.grownBy w' v.ownBlock)->Hid (v'.ownBlock=v.ownBlock\/v'.ownBlock=some w.heap.size)->wpList P ops Q rest (a.put o.dst v') w'):wpList P ops Q (o :: rest) a w :=
 wpList_plain hgd fun _ hK=>jM4 s x ho hT hI hs hown hx hm hm0 hr h1 hlen hbase fun v' w' h2 h3 h4=>hK _ _ (h v' w' h2 h3 h4)
end
theorem zE6.keepF {w w':World} {base:Nat} {e:TypeId} {V:Value} {vs:List Value} {v:Value} {r:List Rat} (h:zE6 isI w base e V vs) (hg:w.grownBy w' V.ownBlock) (hs:SlF .u64 4294967296 w v r):SlF .u64 4294967296 w' v r:=by
  cases ho:V.ownBlock with
  | none=>rw [ho] at hg;exact hs.bQ ⟨hg.os,hg.tape,hg.output,hg.size,fun k hk=>hg.block k hk (by simp)⟩
  | some g =>
    rw [ho] at hg;obtain ⟨cs,h1,h2⟩:=h.2 g ho;exact hs.keepX h1 (fun c hc b=>by obtain ⟨n,rfl⟩:=h2 c hc;simp) (fun c hc n=>by obtain ⟨n',rfl⟩:=h2 c hc;simp) hg
theorem zE2.keepX {w w':World} {base g:Nat} {e TS:TypeId} {V:Value} {vs us:List Value} {T:List (List Rat)} (h:zE2 .u64 4294967296 w g TS us T) (hX:zE6 isI w base e V vs) (hne:V.ownBlock≠some g) (hg:w.grownBy w' V.ownBlock):zE2 .u64 4294967296 w' g TS us T :=
 ⟨h.1.grown hg hne,h.2.1,fun i u r hu hr=>hX.keepF hg (h.2.2 i u r hu hr)⟩
theorem zE6.notTab {w:World} {base g:Nat} {e TS:TypeId} {V:Value} {vs us:List Value} (h:zE6 isI w base e V vs) (hT:zG0 w g TS us) (hne:e≠TS):V.ownBlock≠some g:=fun e1=>by
 obtain ⟨cs,h1,_⟩:=h.2 g e1;have h2:=hT.1;unfold Blk at h2;rw [h1] at h2;injection h2 with h2;injection h2 with _ h2;exact hne h2
end rat
end Go.Proofs.YtbfflcpmagjlnaaGreat
