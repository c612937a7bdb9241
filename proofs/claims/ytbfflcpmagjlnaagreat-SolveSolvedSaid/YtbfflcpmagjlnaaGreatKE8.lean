/- Package solve: Why, of at most five rows and places. Condition: as each says. -/
import Derived.Test.YtbfflcpmagjlnaaGreatKE7
import Derived.Deep.RegionHeld3
import Derived.BigQuiet
import Derived.BigRegion
import Derived.Shelf.Abstract
open Go.Proofs.Tryz
open Go.Lib renaming hid -> hQ9
set_option linter.unusedVariables false
set_option linter.unusedSimpArgs false
set_option maxRecDepth 100000
set_option maxHeartbeats 6400000
open And renaming intro -> zA
open List renaming setIfInBounds_toArray -> zA0, set_cons_succ -> zA1, set_cons_zero -> zA2, getElem?_eq_getElem -> zA3, getElem?_eq_some_iff -> zA4, mem_of_getElem? -> zA5, getD_eq_getElem?_getD -> zA6, length_append -> zA8, length_map -> zA9, replicate -> zB, getElem?_append_left -> zB0, getElem?_map -> zB1, length_set -> zB2
open Nat renaming le_refl -> zB3, le_trans -> zB4
open Classical renaming byContradiction -> bQ1
open List renaming length_take -> bQ7, getElem?_append_right -> bW0, getElem?_set_ne -> bW1, mem_or_eq_of_mem_set -> bW3, getElem?_toArray -> bW8
open Nat renaming eq_zero_or_pos -> bY3
namespace Go.Proofs.YtbfflcpmagjlnaaGreat
namespace rat
open Go.RowKit Go.Shelf num mem nat txt str flow whl
structure Few5 (A:List (List Rat)):Prop where
 len:A.length<=5
 row:∀ r∈A,r.length<=5
 lens:zD6 A 1
theorem Few5.wide {A:List (List Rat)} (h:Few5 A):zC A<=5:=yN5 h.row
theorem jV7 (a0 a1:Value) (A B:List (List Rat)) (w:World) (h0:SlT .u64 4294967296 w a0 A) (h1:SlT .u64 4294967296 w a1 B) (hA:Hid (Few5 A)) (hB:Hid (Few5 B)) :
  Calls prog 8 #[a0,a1] w (RetWhy A B w):=by
 obtain ⟨A0,c0,rfl,hc0,hm0⟩:=h0.shape;obtain ⟨A1,c1,rfl,hc1,hm1⟩:=h1.shape;unfold maxLen at hm0 hm1;have ba0:=zC9 (w:=w) (zB3 _) (.cells #[.int .i64 0,.slice none 0 0,.bool false] 34);have BR0:=Blk.new w 34 #[.int .i64 0,.slice none 0 0,.bool false];have HS0:=hQ9 (h0.bQ ba0);have HS1:=hQ9 (h1.bQ ba0);clear h0 h1
 go_enter func8,ntmps8
 by_cases hw:whyq A B
 ·have CP:=qX9 _ _ A B true _ HS0.out HS1.out ⟨fun _=>hw,fun _=>rfl⟩;have HW:=hQ9 hw;clear hw
  go_wp2_with fail
  refine CP.mono ?_;rintro e w1 ⟨rfl,b1⟩;have HB1:Hid (Below w.heap.size w w1):=ba0.trans (b1.mono ba0.size);have BR1:=BR0.bQ b1;have HS01:=hQ9 (HS0.out.bQ b1);have HS11:=hQ9 (HS1.out.bQ b1);clear CP b1 ba0 BR0;have CR:=qX0 _ A 6 w1 HS01.out (jO0 hA.out.len hA.out.row hA.out.lens);go_wp2_with fail
  refine CR.mono ?_;rintro e w2 (⟨-,g,v,T,us,ps,rfl,hR⟩|⟨hn,_⟩)
  ·have HB2:Hid (Below w.heap.size w w2):=HB1.out.trans (hR.bel.mono HB1.out.size);have BR2:=BR1.bQ hR.bel;have HS02:=hQ9 (HS01.out.bQ hR.bel);have HS12:=hQ9 (HS11.out.bQ hR.bel);have HPV:=hQ9 (zE6.pvI hR.piv);have HRF:Hid (shp T A.length (zC A)/\Ech A.length (zC A) (zB8 T) ps.length (pv ps)/\Red A.length (zB8 T) ps.length (pv ps) 0/\zF3 A.length (zC A) (zB8 A) (zB8 T)):=⟨hR.sh,hR.ech,hR.red,hR.ker⟩;obtain ⟨A6,c6,e6⟩:=zD1.slice hR.piv.1;rw [zR0] at e6;subst e6;obtain ⟨C,hC⟩:∃ C,C=zC A:=⟨_,rfl⟩;have HC:=hQ9 hC;have hC4:C<=5:=by rw [hC];exact hA.out.wide
   have hpn:ps.length<=5:=zB4 hR.ech.le hA.out.len;have CZ:=zR _ A w2 HS02.out;rw [<- hC] at CZ;clear CR hR BR1 HB1 HS01 HS11 hC;go_wp2_with fail
   refine CZ.mono ?_;rintro e w3 ⟨rfl,b3⟩;have HB3:Hid (Below w.heap.size w w3):=HB2.out.trans (b3.mono HB2.out.size);have BR3:=BR2.bQ b3;have HS03:=hQ9 (HS02.out.bQ b3);have HS13:=hQ9 (HS12.out.bQ b3);have HP3:=hQ9 (HPV.out.bQ b3);clear CZ b3 BR2 HB2 HS02 HS12 HPV;go_wp2_with fail
   refine (jU3 _ C ps w3 HP3.out ⟨by omega,by omega⟩).mono ?_;rintro e w4 ⟨v4,rfl,RX4,b4⟩;have HB4:Hid (Below w.heap.size w w4):=HB3.out.trans (b4.mono HB3.out.size);have BR4:=BR3.bQ b4;have HS04:=hQ9 (HS03.out.bQ b4);have HS14:=hQ9 (HS13.out.bQ b4);have HP4:=hQ9 (HP3.out.bQ b4);have RX4':=hQ9 RX4;obtain ⟨AF,cF,eF⟩:=zD1.slice RX4.1;rw [zR0] at eF;subst eF;have hsA:shp A A.length C:=⟨rfl,fun r hr=>by rw [HC.out];exact HW.out.1.2.2 r hr⟩;have HSA:=hQ9 hsA;have CC:=jU8 _ _ A ps w4 HS04.out HP4.out ⟨⟨by have:=hA.out.len;omega,by omega⟩,fun r hr i hi=>by rw [hsA.2 r hr,HC.out];exact HRF.out.2.1.lt i hi⟩;clear b4 BR3 HB3 HS03 HS13 HP3 RX4 hsA;go_wp2_with fail
   refine CC.mono ?_;rintro e w5 ⟨v5,rfl,s5,b5⟩;have HB5:Hid (Below w.heap.size w w5):=HB4.out.trans (b5.mono HB4.out.size);have BR5:=BR4.bQ b5;have HS15:=hQ9 (HS14.out.bQ b5);have RX5:=hQ9 (RX4'.out.bQ b5);obtain ⟨A5,c5,rfl,-,-⟩:=id s5.shape;obtain ⟨b,hb⟩:=bool_ex (¬ ∀ c,c<zC B->zT8 A.length C (zB8 A) (fun i=>zB8 B i c));have HBB:=hQ9 hb;have hsB:shp B A.length (zC B):=⟨HW.out.2.2.symm,fun r hr=>HW.out.2.1.2.2 r hr⟩;have CL:=jV6 _ _ A B T ps A.length C (zC B) b w5 s5 HS15.out hb ⟨HSA.out,hsB,rfl,by rw [HC.out];exact HRF.out.2.1,HRF.out.2.2.1,by rw [HC.out];exact HRF.out.2.2.2,hA.out.len,hB.out.wide,hA.out.lens,hB.out.lens⟩;clear CC b5 BR4 HB4 HS04 HS14 HP4 RX4' hb hsB s5;go_wp2_with fail
   refine CL.mono ?_;rintro e w6 ⟨rfl,b6⟩;have BR6:=BR5.bQ b6;have RX6:=RX5.out.bQ b6;have HB6:Hid (Below w.heap.size w w6):=HB5.out.trans (b6.mono HB5.out.size);have V0:w6.cell? ⟨w.heap.size,0,none⟩=some (.int .i64 0):=BR6.cell 0;have V1:w6.cell? ⟨w.heap.size,1,none⟩=some (.slice none 0 0):=BR6.cell 1;have V2:w6.cell? ⟨w.heap.size,2,none⟩=some (.bool false):=BR6.cell 2;have F0:=BR6.frozen 0;have F1:=BR6.frozen 1;have F2:=BR6.frozen 2;have G9:=qI7 w6 w.heap.size (.int .i64 ((ps.length:Nat):Int)) (.slice AF (zI7 C ps).length cF) (.bool b);have BY:=qD3 BR6 (.int .i64 ((ps.length:Nat):Int)) (.slice AF (zI7 C ps).length cF) (.bool b);have C0:=BY.cell 0;have C1:=BY.cell 1;have C2:=BY.cell 2;have RX9:=RX6.grown G9 (RX6.notBlk BR6 (by decide));have HPV9:=hQ9 (zE6.pvI RX9);have HB9:=hQ9 (HB6.out.grown G9 HB6.out.size (fun k e=>by injection e with e;omega));clear CL b6 BR5 HB5 HS15 RX5 BR6 RX6 HB6 G9 BY RX9;go_wp2;refine bodyPost_ret (v:=.tuple #[.agg #[.int .i64 ((ps.length:Nat):Int),.slice AF (zI7 C ps).length cF,.bool b],.int .i64 0]) (by simp [results,results8,go_sem,C0,C1,C2]) rfl ?_;exact ⟨HB9.out,.inl ⟨HW.out,_,T,ps,b,rfl,by rw [<- HC.out];exact HPV9.out,HRF.out.1,HRF.out.2.1,HRF.out.2.2.1,HRF.out.2.2.2,by rw [<- HC.out];exact HBB.out⟩⟩
  ·exact absurd HW.out.1 hn
 ·have CP:=qX9 _ _ A B false _ HS0.out HS1.out ⟨fun h=>Bool.noConfusion h,fun h=>absurd h hw⟩;have HW:=hQ9 hw;clear hw
  go_wp2_with fail
  refine CP.mono ?_;rintro e w1 ⟨rfl,b1⟩;have BR6:=BR0.bQ b1;have HB6:Hid (Below w.heap.size w w1):=ba0.trans (b1.mono ba0.size);have V0:w1.cell? ⟨w.heap.size,0,none⟩=some (.int .i64 0):=BR6.cell 0;have V1:w1.cell? ⟨w.heap.size,1,none⟩=some (.slice none 0 0):=BR6.cell 1;have V2:w1.cell? ⟨w.heap.size,2,none⟩=some (.bool false):=BR6.cell 2;have F0:=BR6.frozen 0;have F1:=BR6.frozen 1;have F2:=BR6.frozen 2;have G9:=qI7 w1 w.heap.size (.int .i64 0) (.slice none 0 0) (.bool false);have BY:=qD3 BR6 (.int .i64 0) (.slice none 0 0) (.bool false);have C0:=BY.cell 0;have C1:=BY.cell 1;have C2:=BY.cell 2;have HB9:=hQ9 (HB6.out.grown G9 HB6.out.size (fun k e=>by injection e with e;omega));clear CP b1 ba0 BR0 BR6 HB6 G9 BY;go_wp2;refine bodyPost_ret (v:=.tuple #[.agg #[.int .i64 0,.slice none 0 0,.bool false],.int .i64 8]) (by simp [results,results8,go_sem,C0,C1,C2]) rfl ?_;exact ⟨HB9.out,.inr ⟨HW.out,rfl⟩⟩
end rat
namespace rat
open Go.RowKit num mem nat txt str flow whl
structure ExInL (A B:List (List Rat)) (S L:Nat):Prop where
 wide:A.length+zC B<=100
 la:zD6 A S
 lb:zD6 B S
 small:S<=100
 steps:(S+(1+S*(A.length+zC B))+1)*2^A.length<=5001
 big:dZ (S+(1+S*(A.length+zC B))) A.length<=L
 top:L<=1000
theorem jV8 (a0 a1:Value) (A B:List (List Rat)) (S L:Nat) (w:World) (h0:SlT .u64 4294967296 w a0 A) (h1:SlT .u64 4294967296 w a1 B) (hc:Hid (ExInL A B S L)) :
  Calls prog 7 #[a0,a1] w (qP8 A B L w):=by
 obtain ⟨A0,c0,rfl,hc0,hm0⟩:=h0.shape;obtain ⟨A1,c1,rfl,hc1,hm1⟩:=h1.shape;unfold maxLen at hm0 hm1;have HS0:=hQ9 h0;have HS1:=hQ9 h1;obtain ⟨m,hm⟩:∃ m,m=zC B:=⟨_,rfl⟩;have hnm:A.length+m<=100:=by rw [hm];exact hc.out.wide
 have HM:=hQ9 hm;clear h0 h1
 go_enter func7,ntmps7;go_wp2_with fail
 refine (zR _ B _ HS1.out).mono ?_;rintro e w1 ⟨rfl,b1⟩;rw [<- hm];clear hm;by_cases ho:okq A B
 ·have CF:=qD5 _ _ A B true _ (HS0.out.bQ b1) (HS1.out.bQ b1) ⟨fun _=>ho,fun _=>rfl⟩;have HO:=hQ9 ho;have HB1:=hQ9 b1;clear ho
  go_wp2_with fail
  refine CF.mono ?_;rintro e w2 ⟨rfl,b2⟩;have HB2:Hid (Below w.heap.size w w2):=HB1.out.trans (b2.mono HB1.out.size);have hmx1:¬ (100:Int)<((A.length:Nat):Int):=by omega
  have hmx2:¬ (100:Int)<((m:Nat):Int):=by omega
  clear b1 b2 CF;obtain ⟨T,hT⟩:∃ T,T=S+(1+S*(A.length+zC B)):=⟨_,rfl⟩;have HSZ:Hid ((T+1)*2^A.length<=5001/\dZ T A.length<=L):=⟨by rw [hT];exact hc.out.steps,by rw [hT];exact hc.out.big⟩
  have HLN:Hid (zH1 (zI6 A B) T/\zH1 (zJ3 A B) T):=by
   show _/\_
   rw [hT];exact yS1 HO.out hc.out.la hc.out.lb
  have HOS:Hid (okS (zI6 A B) (zJ3 A B)):=yS0 HO.out hc.out.wide;have HLA:Hid ((zI6 A B).length=A.length):=(qD8 HO.out).1;clear hT;have CK:=fun w2 h0 h1=>yR4 (.slice A0 A.length c0) (.slice A1 B.length c1) A B S w2 h0 h1 ⟨HO.out,hc.out.wide,hc.out.la,hc.out.lb,hc.out.small⟩
  go_wp2_with fail
  all_goals
   refine (CK _ (HS0.out.bQ HB2.out) (HS1.out.bQ HB2.out)).mono ?_;rintro e w3 ⟨V3,U3,rfl,sv3,su3,b3⟩;have HB3:Hid (Below w.heap.size w w3):=HB2.out.trans (b3.mono HB2.out.size);obtain ⟨AV,cV,rfl,-,-⟩:=id sv3.shape;obtain ⟨AU,cU,rfl,-,-⟩:=id su3.shape;have CS:=yS4 _ _ (zI6 A B) (zJ3 A B) T w3 sv3 su3 ⟨HLN.out.1,HLN.out.2,by rw [HLA.out];exact HSZ.out.1⟩;obtain ⟨P,hP⟩:∃ P,P=zI6 A B:=⟨_,rfl⟩;obtain ⟨Q,hQ⟩:∃ Q,Q=zJ3 A B:=⟨_,rfl⟩;rw [<- hP,<- hQ] at CS;have HPQ:=hQ9 (zA hP hQ);rw [<- hP,<- hQ];clear CK b3 sv3 su3 hP hQ;go_wp2_with fail
   refine CS.mono ?_;rintro e w4 ⟨b4,(⟨-,V4,v4,d,X,rfl,sv4,hz4,hS4⟩|⟨-,hD4,rfl⟩|⟨hn4,_⟩)⟩
   ·have HB4:Hid (Below w.heap.size w w4):=HB3.out.trans (b4.mono HB3.out.size);obtain ⟨u4,rfl,s4⟩:=hz4;obtain ⟨A4,c4,rfl,_⟩:=id s4;obtain ⟨AX,cX,rfl,-,-⟩:=id sv4.shape;obtain ⟨wx,hwx,bx,BX,hsx⟩:=zL1 w4 42 #[.bool false,.slice none 0 0];obtain ⟨V0,V1,F0,F1⟩:=Blk.two BX;obtain ⟨C0,C1,-,-⟩:=Blk.two (zT7 BX (.bool (ngB d)) (.slice A4 (digs 4294967296 d.natAbs).length c4));have b8:=(bx.setCell (p:=⟨w4.heap.size,0,none⟩) (zB3 _) (.bool (ngB d))).setCell (p:=⟨w4.heap.size,1,none⟩) (zB3 _) (.slice A4 (digs 4294967296 d.natAbs).length c4);have sX8:=sv4.bQ b8;have s8:=s4.bQ b8;have HB8:Hid (Below w.heap.size w _):=HB4.out.trans (b8.mono HB4.out.size);rw [HPQ.out.1,HPQ.out.2] at hS4;have HSOL:Hid (SolQ A B (zI5 d X)):=yS2 HO.out hS4
    have HDET:Hid (zC8 A.length (zB8 A)≠0):=by
     refine (qQ3 HO.out).1 ?_;have h:=hS4.det;rw [HLA.out] at h;rw [<- h];exact fun e=>hS4.ne (Rat.intCast_eq_zero_iff.1 e)
    have hcr:=yS3 (S:=T) hS4 HLN.out.1 HLN.out.2 (by rw [HLA.out];exact qD8 HO.out) (by rw [HLA.out,qA7 HO.out];exact qQ2 HO.out);rw [HLA.out] at hcr;have HCR:Hid (zC2 d<=L/\zH1 X L):=⟨zB4 hcr.1 HSZ.out.2,fun r hr z hz=>zB4 (hcr.2 r hr z hz) HSZ.out.2⟩;have hsh:=hS4.sh;rw [HLA.out,qA7 HO.out] at hsh
    have HLT:Hid (zD6 (zI5 d X) L):=by
     show zD6 _ _
     intro r hr x hx;unfold zI5 at hr;obtain ⟨y,hy,rfl⟩:=List.mem_map.1 hr;unfold zM2 at hx;obtain ⟨z,hz,rfl⟩:=List.mem_map.1 hx;exact yR6 hS4.ne (HCR.out.2 y hy z hz) HCR.out.1
    have CO:=fun W v u (h0:SlW .u64 4294967296 W v X) (h1:IsZ W u d)=>yP7 v u X d A.length (zC B) W h0 h1 hS4.ne ⟨hsh.1,hsh.2,by omega,by have:=HM.out;omega,zB4 HCR.out.1 hc.out.top,fun r hr z hz=>zB4 (HCR.out.2 r hr z hz) hc.out.top⟩;clear hS4 hcr hsh sv4 s4 b8 BX bx CS b4
    go_wp2_with fail
    refine (CO _ _ _ (by exact sX8) ⟨_,rfl,(by exact s8)⟩).mono ?_;rintro e w9 ⟨v9,rfl,s9,b9⟩;have HS9:=hQ9 s9;have HB9:Hid (Below w.heap.size w w9):=HB8.out.trans (b9.mono HB8.out.size);clear s9 b9 sX8 s8 CO C0 C1 V0 V1 F0 F1 hwx;go_wp2;go_ret2;exact .inl ⟨HO.out,HB9.out,.inl ⟨HDET.out,v9,zI5 d X,rfl,HS9.out,HSOL.out,HLT.out⟩⟩
   ·have HB4:Hid (Below w.heap.size w w4):=HB3.out.trans (b4.mono HB3.out.size);have HDET:Hid (zC8 A.length (zB8 A)=0):=bQ1 fun h=>(qQ3 HO.out).2 h (by rw [HPQ.out.1,HLA.out] at hD4;exact hD4);obtain ⟨wx,hwx,bx,BX,hsx⟩:=zL1 w4 42 #[.bool false,.slice none 0 0];obtain ⟨V0,V1,F0,F1⟩:=Blk.two BX;have b8:=(bx.setCell (p:=⟨w4.heap.size,0,none⟩) (zB3 _) (.bool false)).setCell (p:=⟨w4.heap.size,1,none⟩) (zB3 _) (.slice none 0 0);have HB8:Hid (Below w.heap.size w _):=HB4.out.trans (b8.mono HB4.out.size);clear hD4 BX bx b8 CS b4;go_wp2;go_ret2;exact .inl ⟨HO.out,HB8.out,.inr ⟨HDET.out,rfl⟩⟩
   ·rw [HPQ.out.1,HPQ.out.2] at hn4;exact absurd HOS.out hn4
 ·have CF:=qD5 _ _ A B false _ (HS0.out.bQ b1) (HS1.out.bQ b1) ⟨fun h=>Bool.noConfusion h,fun h=>absurd h ho⟩;have HO:=hQ9 ho;clear ho
  go_wp2_with fail
  refine CF.mono ?_;rintro e w2 ⟨rfl,b2⟩;have HB2:Hid (Below w.heap.size w w2):=b1.trans (b2.mono b1.size);clear CF b1 b2;go_wp2;go_ret2;exact .inr ⟨HO.out,rfl,HB2.out⟩
end rat
namespace rat
open Go.RowKit Go.Shelf num mem nat txt str flow whl
theorem jV9 (C:Nat) (ps:List Nat):zI7 C ps=frs ps C:=by
 unfold zI7 frs
 congr 1
 funext j
 by_cases h:j∈ps<;>simp [h]
theorem qZ1 {n C:Nat} {T:List (List Rat)} {ps:List Nat} (he:Ech n C (zB8 T) ps.length (pv ps)):(zI7 C ps).length+ps.length=C:=by
 have h:=yT3 he;rw [jV9];exact h
theorem yU {n:Nat} {A T:List (List Rat)} {ps:List Nat} (hE:Ech n n (zB8 T) ps.length (pv ps)) (hR:Red n (zB8 T) ps.length (pv ps) 0) (hK:zF3 n n (zB8 A) (zB8 T)):zC8 n (zB8 A)≠0 ↔ ps.length=n:=by
 constructor
 ·intro hd;exact (qP1 (zB3 n) hE hR hK fun j hj=>bQ1 fun hn=>hd (yN2 (zB3 n) hE hR hK ⟨j,hj,fun i hi e=>hn ⟨i,hi,e⟩⟩)).1
 ·intro hk;refine (qP1 (zB3 n) hE hR hK fun j hj => ?_).2.2.2;have h0:zI7 n ps=[]:=List.length_eq_zero_iff.1 (by have:=qZ1 hE;omega)
  have h1:j∈ps:=bQ1 fun h=>by
   have h2:j∈zI7 n ps:=List.mem_filter.2 ⟨List.mem_range.2 hj,by simp [h]⟩;rw [h0] at h2;cases h2
  obtain ⟨i,hi,e⟩:=List.getElem_of_mem h1;exact ⟨i,hi,by unfold pv;rw [zA6,zA3 hi];exact e⟩
theorem jW {A B X:List (List Rat)} {n m:Nat} (hA:shp A n n) (hB:shp B n m) (hm:zC B=m) (h:SolQ A B X):zI A X=B:=by
 have hX:shp X n m:=by rw [<- hA.1,<- hm];exact h.sh
 rcases bY3 n with e | e
 ·subst e;rw [List.length_eq_zero_iff.1 hA.1,List.length_eq_zero_iff.1 hB.1]
  rfl
 ·have hw:zC X=m:=zX0 hX (fun e2=>by omega);refine yI6 (n:=n) (C:=m) ⟨by rw [qM6];exact hA.1,fun r hr=>by rw [qV r hr,hw]⟩ hB fun i j hi hj => ?_;rw [jN hA hX.1 hw hi hj];have h2:=h.sol i j (by rw [hA.1];exact hi) (by rw [hm];exact hj);rwa [hA.1] at h2
theorem jW0 {A X:List (List Rat)} {n m:Nat} (hA:shp A n n) (hX:shp X n m) (hn:n<=200) (hm:m<=200):zZ7 [A,X]:=by
 have hwA:zC A=n:=zX0 hA (fun e=>e);refine ⟨by simp,fun i t ht => ?_⟩;rcases i with _ | _ | i
 ·obtain rfl:A=t:=by simpa using ht
  exact ⟨may_shp hA hn,fun s h0=>by omega⟩
 ·obtain rfl:X=t:=by simpa using ht
  refine ⟨?_,fun s _ hs => ?_⟩
  ·rcases bY3 n with e | e
   ·subst e;rw [List.length_eq_zero_iff.1 hX.1];exact ⟨by simp,by show 0<=200;omega,fun r hr=>by cases hr⟩
   ·have hw:zC X=m:=zX0 hX (fun e2=>by omega);exact ⟨by rw [hX.1];exact hn,by rw [hw];exact hm,fun r hr=>by rw [hw];exact hX.2 r hr⟩
  ·obtain rfl:A=s:=by simpa using hs
   rw [hwA,hX.1]
 ·simp at ht
end rat
namespace flow
open Go
def zY1 (N:Act->World->Prop) (Q:Exit->Act->World->Prop):Exit->Act->World->Prop
 | .normal,a,w=>N a w
 | e,a,w=>Q e a w
theorem jW1 {P:Program} {Q:Exit->Act->World->Prop} {N K K':Act->World->Prop} {o:Oper} {a:Act} {w:World} (h:∀ a w,K a w->K' a w) (hh:o.wp P a w K (zY1 N Q)):o.wp P a w K' Q:=by
  unfold Oper.wp at *
  generalize (execOp a.eval o).run P w=r at *
  cases r with
  | ok n w' =>
    cases n<;>simp only [Oper.upon] at hh |-<;>
      first
        | exact h _ _ hh
        | exact Calls.mono hh (fun e w'' he=>by cases e<;>first | exact h _ _ he | exact he)
        | exact Rows.mono hh (fun _ _ he=>h _ _ he)
  | halt x w'=>cases x<;>simp only [Oper.upon] at hh |-<;>exact hh
theorem qZ2 {md:Region.Mode} {ops:Array Oper} {listed:Array Bool} {i:Nat} : i∈Region.ready md ops listed ↔ i<ops.size/\listed.getD i true=false /\ ∃ o,ops[i]?=some o /\ ∀ e∈o.after,Region.binds md e=true->listed.getD e.on false=true:=by
  unfold Region.ready;rw [List.mem_filter,List.mem_range]
  cases h:ops[i]? with
  | none=>simp
  | some o =>
    simp only [Bool.and_eq_true,Bool.not_eq_true',Option.map_some,Option.getD_some,Array.all_eq_true_iff_forall_mem,Bool.or_eq_true]
    constructor
    · rintro ⟨h1,h2,h3⟩;refine ⟨h1,h2,o,rfl,fun e he hb => ?_⟩;rcases h3 e he with h4 | h4
      · rw [hb] at h4;cases h4
      · exact h4
    · rintro ⟨h1,h2,o',h3,h4⟩;injection h3 with h3;subst h3;refine ⟨h1,h2,fun e he => ?_⟩
      cases hb:Region.binds md e with
      | false=>exact .inl rfl
      | true=>exact .inr (h4 e he hb)
theorem gd (l:List Bool) (i:Nat) (d:Bool):l.toArray.getD i d=(l[i]?).getD d:=by simp [Array.getD_eq_getD_getElem?]
theorem yU0:∀ (l:List Bool),0<l.countP (!·) -> ∃ j:Nat,l[j]?=some false /\ ∀ i:Nat,i<j->l[i]?=some true
  | [],h=>by simp at h
  | false :: l,_=>⟨0,rfl,fun i hi=>absurd hi (Nat.not_lt_zero _)⟩
  | true :: l, h => by
    obtain ⟨j,h1,h2⟩:=yU0 l (by simpa using h);refine ⟨j+1,by simpa using h1,fun i hi => ?_⟩
    cases i with
    | zero=>rfl
    | succ i=>simpa using h2 i (by omega)
theorem yU1:∀ (l:List Bool),l.countP (!·)=0->l=zB l.length true
  | [],_=>rfl
  | false :: l,h=>by simp at h
  | true :: l, h => by
    have ih:=yU1 l (by simpa using h);rw [List.length_cons,List.replicate_succ,<- ih]
theorem qZ3:∀ (l:List Bool) (i k:Nat),l[i]?=some false->l.countP (!·)=k+1->(l.set i true).countP (!·)=k
  | [],i,k,h,_=>by simp at h
  | b :: l, 0, k, h, hc => by
    obtain rfl:b=false:=by simpa using h
    simp at hc |-;omega
  | b :: l, i + 1, k, h, hc => by
    have h':l[i]?=some false:=by simpa using h
    rw [zA1,List.countP_cons];rw [List.countP_cons] at hc
    cases b with
    | true=>simp at hc |-;exact qZ3 l i k h' hc
    | false =>
      simp at hc |-;have h0:0<l.countP (!·):=List.countP_pos_iff.2 ⟨false,zA5 h',rfl⟩;obtain ⟨k',rfl⟩:∃ k',k=k'+1:=⟨k-1,by omega⟩;rw [qZ3 l i k' h' hc]
def qZ4 (A:List Oper) (l:List Bool):Prop:=∀ (i:Nat) (o:Oper),A[i]?=some o->l[i]?=some true -> ∀ e∈o.after,Region.binds .any e=true->l[e.on]?=some true
def anc (A:List Oper):Nat->Nat->List Nat
  | 0,k=>[k]
  | f + 1, k => k :: (match A[k]? with
    | some o=>o.after.toList.flatMap fun e=>if Region.binds .any e=true then anc A f e.on else []
    | none=>[])
theorem yU2 {A:List Oper} {l:List Bool} (hc:qZ4 A l):∀ (f k:Nat),l[k]?=some true -> ∀ x∈anc A f k,l[x]?=some true
  | 0, k, hk, x, hx => by
    obtain rfl:=List.mem_singleton.1 hx;exact hk
  | f + 1, k, hk, x, hx => by
    rcases List.mem_cons.1 hx with rfl|hx
    · exact hk
    · cases ho:A[k]? with
      | none=>rw [ho] at hx;cases hx
      | some o =>
        rw [ho] at hx;obtain ⟨e,he,hx⟩:=List.mem_flatMap.1 hx;by_cases hb:Region.binds .any e=true
        · rw [if_pos hb] at hx;exact yU2 hc f e.on (hc k o ho hk e (Array.mem_toList_iff.1 he) hb) x hx
        · rw [if_neg hb] at hx;cases hx
theorem yU3 {P:Program} {Q:Exit->Act->World->Prop} {A B:List Oper} {l0 lB:List Bool} {m:Nat} (hlB:lB.length=B.length) (hG:∀ o∈A,o.guard=none) (hback:∀ (i:Nat) (o:Oper),A[i]?=some o -> ∀ e∈o.after,Region.binds .any e=true->e.on<i) (hcov:∀ (i:Nat) (o:Oper),B[i]?=some o->lB[i]?=some false -> ∀ k:Nat,l0[k]?=some false -> ∃ e∈o.after,Region.binds .any e=true/\e.on<A.length/\k∈anc A 20 e.on) :
    ∀ (k:Nat) (l:List Bool) (a:Act) (w:World),qZ4 A l->(∀ j:Nat,l[j]?=some false->l0[j]?=some false)->l.length=A.length->l.countP (!·)=k ->
      wpAny P .any A.toArray (zY1 (fun a w=>wpAny P .any (A ++ B).toArray Q m (zB A.length true ++ lB).toArray a w) Q) k l.toArray a w ->
      wpAny P .any (A ++ B).toArray Q (k+m) (l ++ lB).toArray a w
  | 0, l, a, w, hcl, hmo, hl, hc, h => by
    have e:=yU1 l hc;rw [hl] at e;rw [Nat.zero_add,e];exact h.2
  | k + 1, l, a, w, hcl, hmo, hl, hc, h => by
    rw [Nat.add_right_comm];obtain ⟨j,hj,hlow⟩:=yU0 l (by omega);have hjl:=(zA4.1 hj).1;have hA:∀ i,i<A.length->(A ++ B)[i]?=A[i]?:=fun i hi=>zB0 hi;have hL:∀ i,i<A.length->(l ++ lB)[i]?=l[i]?:=fun i hi=>zB0 (by omega);refine ⟨fun hr => ?_,fun i hi => ?_⟩
    · exfalso;have hjA:j<A.length:=by omega
      have hm:j∈Region.ready .any (A ++ B).toArray (l ++ lB).toArray:=by
        refine qZ2.2 ⟨by simp;omega,by rw [gd,hL j hjA,hj];rfl,A[j],by rw [bW8,hA j hjA];exact zA3 hjA,fun e he hb => ?_⟩;have h1:=hback j _ (zA3 hjA) e he hb;rw [gd,hL e.on (by omega),hlow e.on h1];rfl
      rw [hr] at hm;cases hm
    · obtain ⟨h1,h2,o,h3,h4⟩:=qZ2.1 hi;rw [bW8] at h3
      have hiA:i<A.length:=by
        rcases Nat.lt_or_ge i A.length with h5 | h5
        · exact h5
        · exfalso;rw [bW0 h5] at h3
          have h8:lB[i-A.length]?=some false:=by
            rw [gd,bW0 (by omega),hl] at h2
            cases hh:lB[i-A.length]? with
            | none=>rw [hh] at h2;cases h2
            | some b=>rw [hh] at h2;simp at h2;rw [h2]
          obtain ⟨e,he,hb,hon,hanc⟩:=hcov _ o h3 h8 j (hmo j hj);have h6:=h4 e he hb;rw [gd,hL e.on hon] at h6
          have h9:l[e.on]?=some true:=by
            cases hh:l[e.on]? with
            | none=>rw [hh] at h6;cases h6
            | some b=>rw [hh] at h6;simp at h6;rw [h6]
          have h10:=yU2 hcl 20 e.on h9 j hanc;rw [hj] at h10;cases h10
      rw [hA i hiA] at h3
      have hli:l[i]?=some false:=by
        rw [gd,hL i hiA] at h2
        cases hh:l[i]? with
        | none=>rw [hh] at h2;cases h2
        | some b=>rw [hh] at h2;simp at h2;rw [h2]
      have hiR:i∈Region.ready .any A.toArray l.toArray:=by
        refine qZ2.2 ⟨by simpa using hiA,by rw [gd,hli];rfl,o,by rw [bW8];exact h3,fun e he hb => ?_⟩;have h5:=h4 e he hb;have h6:=hback i o h3 e he hb;rw [gd,hL e.on (by omega)] at h5;rw [gd];exact h5
      have h7:=h.2 i hiR;have hg:=hG o (zA5 h3);have hw:∀ (ops:Array Oper),Region.wanted o (yielded ops a.tmps)=true:=fun ops=>by simp [Region.wanted,hg]
      have hA3:A.toArray[i]?=some o:=by rw [bW8];exact h3
      have hB3:(A ++ B).toArray[i]?=some o:=by rw [bW8,hA i hiA];exact h3
      unfold wpOp at h7 |-;simp only [hA3,hB3,hw,if_true] at h7 |-;refine h7.imp (jW1 fun a' w' hk => ?_) id
      have hset:(l ++ lB).toArray.setIfInBounds i true=(l.set i true ++ lB).toArray:=by
        rw [zA0,List.set_append_left _ _ (by omega)]
      rw [hset]
      have hcl':qZ4 A (l.set i true):=fun x ox hx hlx e he hb=>by
        rw [List.getElem?_set];by_cases e1:i=e.on
        · rw [if_pos e1,if_pos (by omega)]
        · rw [if_neg e1];rw [List.getElem?_set] at hlx;by_cases e2:i=x
          · subst e2;rw [h3] at hx;injection hx with hx;subst hx;have h5:=h4 e he hb;have h6:=hback i o h3 e he hb;rw [gd,hL e.on (by omega)] at h5
            cases hh:l[e.on]? with
            | none=>rw [hh] at h5;cases h5
            | some b=>rw [hh] at h5;simp at h5;rw [h5]
          · rw [if_neg e2] at hlx;exact hcl x ox hx hlx e he hb
      refine yU3 hlB hG hback hcov k (l.set i true) a' w' hcl' (fun j' hj'=>by
        rw [List.getElem?_set] at hj';by_cases e:i=j'
        · rw [if_pos e] at hj'
          split at hj'<;>cases hj'
        · rw [if_neg e] at hj';exact hmo j' hj') (by rw [zB2];exact hl) (qZ3 l i k hli hc) ?_
      rw [<- zA0];exact hk
def cutB (A B:List Oper) (l lB:List Bool):Bool :=
 (A.all fun o=>o.guard.isNone) && ((List.range A.length).all fun i=>((A[i]?).map fun o=>o.after.all fun e => !Region.binds .any e || decide (e.on<i)).getD true) && ((List.range B.length).all fun i=>lB[i]? == some true || ((B[i]?).map fun o=>(List.range l.length).all fun k=>l[k]? == some true || o.after.any fun e=>Region.binds .any e && (decide (e.on<A.length) && (anc A 20 e.on).contains k)).getD true) && (decide (l.length=A.length) && decide (lB.length=B.length)) && ((List.range A.length).all fun i => !(l[i]? == some true) || ((A[i]?).map fun o=>o.after.all fun e => !Region.binds .any e || l[e.on]? == some true).getD true)
theorem any_cut {P:Program} {Q:Exit->Act->World->Prop} {ops:Array Oper} (n:Nat) (l lB:List Bool) (m:Nat) {a:Act} {w:World} (hB:cutB (ops.toList.take n) (ops.toList.drop n) l lB=true)
  (h:wpAny P .any (ops.toList.take n).toArray (zY1 (fun a w=>wpAny P .any ops Q m (zB (ops.toList.take n).length true ++ lB).toArray a w) Q) (l.countP (!·)) l.toArray a w):wpAny P .any ops Q (l.countP (!·)+m) (l ++ lB).toArray a w:=by
 have hop:(ops.toList.take n ++ ops.toList.drop n).toArray=ops:=by rw [List.take_append_drop]
 generalize ops.toList.take n=A at *
 generalize ops.toList.drop n=B at *
 subst hop;unfold cutB at hB;simp only [Bool.and_eq_true,List.all_eq_true,Option.isNone_iff_eq_none,List.mem_range,decide_eq_true_eq] at hB;obtain ⟨⟨⟨⟨h1,h2⟩,h3⟩,h4,h5⟩,h0⟩:=hB
 refine yU3 (P:=P) (Q:=Q) (A:=A) (B:=B) (l0:=l) (m:=m) h5 h1 (fun i o hi e he hb=>by
  have h4:=h2 i (zA4.1 hi).1;rw [hi] at h4;simp only [Option.map_some,Option.getD_some,Array.all_eq_true_iff_forall_mem,Bool.or_eq_true,Bool.not_eq_true',decide_eq_true_eq] at h4;rcases h4 e he with h5 | h5
  ·rw [hb] at h5;cases h5
  ·exact h5) (fun i o ho hb0 k hk=>by
  have h6:=h3 i (zA4.1 ho).1;rw [ho,hb0] at h6;simp only [Option.map_some,Option.getD_some,Bool.or_eq_true,List.all_eq_true,List.mem_range,Array.any_eq_true',Bool.and_eq_true,beq_iff_eq,decide_eq_true_eq,List.contains_iff_mem] at h6;rcases h6 with h6 | h6
  ·cases h6
  ·rcases h6 k (zA4.1 hk).1 with h7 | ⟨e,he,hb,hon⟩
   ·rw [hk] at h7;cases h7
   ·exact ⟨e,he,hb,hon⟩) _ l a w (fun i o hi hli e he hb=>by
  have h7:=h0 i (zA4.1 hi).1;rw [hi,hli] at h7;simp only [Option.map_some,Option.getD_some,Bool.or_eq_true,Bool.not_eq_true',Array.all_eq_true_iff_forall_mem,beq_self_eq_true,Bool.true_eq_false,false_or,beq_iff_eq,reduceCtorEq] at h7;rcases h7 e he with h8 | h8
  ·rw [hb] at h8;cases h8
  ·exact h8) (fun j hj=>hj) h4 rfl h
theorem jW2 {P:Program} {Q:Exit->Act->World->Prop} {ops:Array Oper} {fuel:Nat} {listed:Array Bool} (n:Nat) (l lB:List Bool) (k m:Nat) {a:Act} {w:World} (hB:cutB (ops.toList.take n) (ops.toList.drop n) l lB=true) (hk:l.countP (!·)=k) (hf:fuel=k+m) (hl:listed=(l ++ lB).toArray)
  (h:wpAny P .any (ops.toList.take n).toArray (zY1 (fun a w=>wpAny P .any ops Q m (zB l.length true ++ lB).toArray a w) Q) k l.toArray a w):wpAny P .any ops Q fuel listed a w:=by
 subst hf;subst hl;subst hk
 have e:l.length=(ops.toList.take n).length:=by
  unfold cutB at hB;simp only [Bool.and_eq_true,decide_eq_true_eq] at hB;exact hB.1.2.1
 rw [e] at h;exact any_cut n l lB m hB h
end flow
namespace rat
open Go.RowKit num mem nat txt str flow whl
structure EvF (M n i:Nat) (pss qss:List (List Elt)):Prop where
 len:pss.length=n
 same:qss.map List.length=pss.map List.length
 low:∀ (j:Nat) (ps p0:List Elt),j<i->pss[j]?=some ps->pss[0]?=some p0->ps.length=p0.length
 most:∀ ps∈pss,ps.length<=M
 small:∀ e∈pss.flatten,zC3 e.1 1
theorem EvF.pair {M n i:Nat} {pss qss:List (List Elt)} (h:EvF M n i pss qss) {j:Nat} {ps qs:List Elt} (hp:pss[j]?=some ps) (hq:qss[j]?=some qs):qs.length=ps.length:=by
 have h1:=congrArg (fun l=>l[j]?) h.same;simp only [zB1,hp,hq,Option.map_some] at h1;exact Option.some.inj h1
theorem yU4 {pss qss:List (List Elt)} (h:qss.map List.length=pss.map List.length) (i:Nat) {a b:List Elt} (he:b.length=a.length):(qss.set i b).map List.length=(pss.set i a).map List.length:=by
 rw [List.map_set,List.map_set,h,he]
theorem EvF.grow {M n i:Nat} {pss qss:List (List Elt)} (h:EvF M n i pss qss) {ps qs p0:List Elt} {a b:Elt} (hp:pss[i]?=some ps) (hq:qss[i]?=some qs) (h0:pss[0]?=some p0) (hlt:ps.length<p0.length) (hs:zC3 a.1 1):EvF M n i (pss.set i (ps ++ [a])) (qss.set i (qs ++ [b])):=by
 have hi:i≠0:=fun e=>by
  subst e;rw [hp] at h0;injection h0 with h0;subst h0;omega
 have hm0:=h.most p0 (zA5 h0);refine ⟨by rw [zB2];exact h.len,yU4 h.same i (by rw [zA8,zA8,h.pair hp hq];rfl),fun j x y hj hx hy => ?_,fun x hx => ?_,fun e he => ?_⟩
 ·rw [bW1 (by omega)] at hx;rw [bW1 hi] at hy;exact h.low j x y hj hx hy
 ·rcases bW3 hx with hx | rfl
  ·exact h.most x hx
  ·rw [zA8,List.length_singleton];omega
 ·rcases qO6 he with he | he
  ·exact h.small e he
  ·rcases List.mem_append.1 he with he | he
   ·exact h.small e (qI6 hp he)
   ·rw [List.mem_singleton.1 he];exact hs
theorem EvF.cut {M n i:Nat} {pss qss:List (List Elt)} (h:EvF M n i pss qss) {ps qs p0:List Elt} (hp:pss[i]?=some ps) (hq:qss[i]?=some qs) (h0:pss[0]?=some p0) (hle:p0.length<=ps.length):EvF M n (i+1) (pss.set i (ps.take p0.length)) (qss.set i (qs.take p0.length)):=by
 have hlen:(ps.take p0.length).length=p0.length:=by rw [bQ7];omega
 have hlen2:(qs.take p0.length).length=p0.length:=by rw [bQ7,h.pair hp hq];omega
 have hm0:=h.most p0 (zA5 h0)
 have hz:∀ y,(pss.set i (ps.take p0.length))[0]?=some y->y.length=p0.length:=fun y hy=>by
  rcases zO8 hy with ⟨_,rfl⟩|⟨_,hy⟩
  ·exact hlen
  ·rw [h0] at hy;injection hy with hy;rw [hy]
 refine ⟨by rw [zB2];exact h.len,yU4 h.same i (by rw [hlen,hlen2]),fun j x y hj hx hy => ?_,fun x hx => ?_,fun e he => ?_⟩
 ·rw [hz y hy];rcases zO8 hx with ⟨_,rfl⟩|⟨hji,hx⟩
  ·exact hlen
  ·exact h.low j x p0 (by omega) hx h0
 ·rcases bW3 hx with hx | rfl
  ·exact h.most x hx
  ·rw [hlen];exact hm0
 ·rcases qO6 he with he | he
  ·exact h.small e he
  ·exact h.small e (qI6 hp (List.mem_of_mem_take he))
theorem EvF.start {M:Nat} {pss qss:List (List Elt)} (h:zD5 qss=zD5 pss) (hl:∀ r∈zD5 pss,r.length<=M /\ ∀ x∈r,zC3 x 1):EvF M pss.length 0 pss qss:=by
 refine ⟨rfl,?_,fun j _ _ hj=>absurd hj (Nat.not_lt_zero _),fun ps hp => ?_,fun e he => ?_⟩
 ·have h1:=congrArg (List.map List.length) h;simp only [zD5,List.map_map] at h1;simpa [Function.comp_def] using h1
 ·have h1:=(hl (ps.map (·.1)) (List.mem_map.2 ⟨ps,hp,rfl⟩)).1;rwa [zA9] at h1
 ·obtain ⟨ps,hp,he⟩:=List.mem_flatten.1 he;exact (hl (ps.map (·.1)) (List.mem_map.2 ⟨ps,hp,rfl⟩)).2 e.1 (List.mem_map.2 ⟨e,he,rfl⟩)
theorem EvF.done {M n:Nat} {pss qss:List (List Elt)} (h:EvF M n n pss qss):zR9 (zD5 pss)/\zC (zD5 pss)<=M/\zD6 (zD5 pss) 1:=by
  refine ⟨fun r hr => ?_,?_,fun r hr x hx => ?_⟩
  · obtain ⟨ps,hp,rfl⟩:=List.mem_map.1 hr;obtain ⟨j,hj⟩:=List.mem_iff_getElem?.1 hp;have hjn:j<pss.length:=(zA4.1 hj).1;obtain ⟨p0,h0⟩:∃ p0,pss[0]?=some p0:=⟨_,zA3 (by omega)⟩;rw [qO2 (qI2 h0),zA9,zA9];exact h.low j ps p0 (by rw [<- h.len];exact hjn) hj h0
  · cases hz:pss[0]? with
    | none =>
      have:pss=[]:=List.length_eq_zero_iff.1 (by have:=List.getElem?_eq_none_iff.1 hz;omega);rw [this];exact Nat.zero_le _
    | some p0 =>
      rw [qO2 (qI2 hz),zA9];exact h.most p0 (zA5 hz)
  · obtain ⟨ps,hp,rfl⟩:=List.mem_map.1 hr;obtain ⟨e,he,rfl⟩:=List.mem_map.1 hx;exact h.small e (List.mem_flatten.2 ⟨ps,hp,he⟩)
def qQ4 (w:World) (g i:Nat):Nat:=match w.cell? ⟨g,i,none⟩ with
 | some (.slice _ n _)=>n
 | _=>0
theorem qQ5 {w:World} {g i n c:Nat} {A:Option Addr} (h:w.cell? ⟨g,i,none⟩=some (.slice A n c)):qQ4 w g i=n:=by unfold qQ4;rw [h]
theorem zD1.placed {w:World} {base n c:Nat} {TS:TypeId} {A:Option Addr} {us:List Value} (h:zD1 w base TS (.slice A n c) us) (hn:0<us.length):∃ g,A=some ⟨g,0,none⟩:=by
 rcases h.2 with ⟨_,h0⟩|⟨g',cap,cur,e,_⟩
 ·omega
 ·injection e with e1 e2 e3;exact ⟨g',e1⟩
theorem zD0.shape {T:TypeId} {w:World} {base:Nat} {v:Value} {ps:List Elt} (h:zD0 T w base v ps):∃ A c,v=.slice A ps.length c/\ps.length<=c/\c<=maxLen:=by
 obtain ⟨A,c,e,h1,h2,_⟩:=h.isVF;exact ⟨A,c,e,h1,h2⟩
theorem yU5 (a0:Value) (M:Nat) (w:World) (h0:zT5 w a0) (hM:M<=8) :
    Calls prog 5 #[a0,.int .i64 (M:Int)] w (yM6 M w):=by
  obtain ⟨A0,n0,c0,rfl,hc0,hm0⟩:=h0.shape
  go_enter func5,ntmps5;go_wp2_with fail
  refine (jL4 _ M _ h0 hM).mono ?_;rintro e w1 ⟨V,U,us0,vs0,pss0,qss0,rfl,hT,hvq,hul,hvl⟩;obtain ⟨AV,cV,eV⟩:=zD1.slice hT.p.row;obtain ⟨AU,cU,eU⟩:=zD1.slice hT.q.row;subst eV;subst eU;have HE0:=hQ9 (EvF.start hvq hvl)
  have hpq:vs0.length=us0.length:=by
    have h1:=congrArg List.length hvq;rw [qA0,qA0] at h1;rw [hT.p.len,hT.q.len,h1]
  have hpn:=hT.p.len;have TE0:=hQ9 hT.e;rw [hpq] at TE0;rw [hpq];rw [<- hpn] at HE0;obtain ⟨n,hn⟩:∃ n,us0.length=n:=⟨_,rfl⟩;rw [hn] at TE0 HE0 hul;rw [hn];clear hT hvq hvl hpq hpn hn;go_wp2
  go_loopw [8] (fun v8 wr => ∃ (i:Nat) (us vs:List Value) (pss qss:List (List Elt)),i<=n/\Hid (TwoE w wr (.slice AV n cV) (.slice AU n cU) us us vs vs pss qss)/\Hid (EvF M n i pss qss)/\v8=.int .i64 (i:Int)) (fun v8 _=>n-(intOf v8).toNat)
  case atStart=>exact ⟨0,_,_,_,_,by omega,TE0,HE0,rfl⟩
  case round =>
    obtain ⟨i,us,vs,pss,qss,hi,TE,EF,rfl⟩:=hrel;clear TE0 HE0;by_cases hlt:i<n
    · obtain ⟨g, hg⟩ := zD1.placed TE.out.p.row (by rw [TE.out.p.len, EF.out.len]; omega)
      obtain ⟨f,hf⟩:=zD1.placed TE.out.q.row (by
        have h1:=congrArg List.length EF.out.same;rw [zA9,zA9,EF.out.len] at h1;rw [TE.out.q.len,h1];omega)
      subst hg;subst hf;go_wp2
      go_loopw [] (fun wr => ∃ (us vs:List Value) (pss qss:List (List Elt)),Hid (TwoE w wr (.slice (some ⟨g,0,none⟩) n cV) (.slice (some ⟨f,0,none⟩) n cU) us us vs vs pss qss)/\Hid (EvF M n i pss qss)) (fun wr=>qQ4 wr g 0-qQ4 wr g i)
      case atStart=>exact ⟨us,vs,pss,qss,TE,EF⟩
      case round =>
        clear TE EF;obtain ⟨us,vs,pss,qss,TE,EF⟩:=hrel
        have hqn:qss.length=n:=by
          have h1:=congrArg List.length EF.out.same;rwa [zA9,zA9,EF.out.len] at h1
        obtain ⟨u,hu⟩:∃ u,us[i]?=some u:=⟨_,zA3 (by rw [TE.out.p.len,EF.out.len];exact hlt)⟩;obtain ⟨z,hz⟩:∃ z,us[0]?=some z:=⟨_,zA3 (by rw [TE.out.p.len,EF.out.len];omega)⟩;obtain ⟨v,hv⟩:∃ v,vs[i]?=some v:=⟨_,zA3 (by rw [TE.out.q.len,hqn];exact hlt)⟩;obtain ⟨ps,hps,ru⟩:=TE.out.p.at hu;obtain ⟨p0,hp0,rz⟩:=TE.out.p.at hz;obtain ⟨qs,hqs,rv⟩:=TE.out.q.at hv;have hle:=EF.out.pair hps hqs;have hm1:=EF.out.most ps (zA5 hps);have hm0':=EF.out.most p0 (zA5 hp0);obtain ⟨Au,cu,eu,hcu,hxu⟩:=ru.shape;obtain ⟨Az,cz,ez,hcz,hxz⟩:=rz.shape;obtain ⟨Av,cv,ev,hcv,hxv⟩:=rv.shape;rw [hle] at ev hcv;subst eu;subst ez;subst ev;have HU:=hQ9 hu;have HV:=hQ9 hv;have HPS:=hQ9 hps;have HQS:=hQ9 hqs;have HP0:=hQ9 hp0;have HLE:=hQ9 hle;have lI:=hQ9 (qQ5 (TE.out.p.row.cellAt hu));have l0:=hQ9 (qQ5 (TE.out.p.row.cellAt hz));have TD:=hQ9 (TE.out.to (Below.refl _ wr).drew);have cI:=TD.out.p.row.cellAt hu;have c0:=TD.out.p.row.cellAt hz;have h0n:0<n:=by omega
        have HZ:=hQ9 hz;clear hu hz hv hps hqs hp0 hle ru rz rv;unfold maxLen at hxu hxz hxv;by_cases hlt2:ps.length<p0.length
        · go_upto_region 5 with (fail)
          go_region
          all_goals
            clear cI c0;obtain ⟨W0,hW0⟩:∃ W0,W0=wr.drew:=⟨_,rfl⟩;rw [<- hW0] at TD |-;clear hW0;have T0:=hQ9 (TD.out.to (Below.refl _ W0).drew);have cI:=T0.out.p.row.cellAt HU.out;have cVV:=T0.out.q.row.cellAt HV.out;have HL8:Hid (ps.length<=1000000000/\qs.length<=1000000000):=⟨by omega,by have:=HLE.out;omega⟩;obtain ⟨X,hX⟩:∃ X:Rat,X=(((ps.length+i:Nat):Int):Rat):=⟨_,rfl⟩;obtain ⟨Y,hY⟩:∃ Y:Rat,Y=mkRat ((ps.length+i:Nat):Int) 1:=⟨_,rfl⟩;have hwI:IntKind.i64.wrap ((ps.length:Int)+(i:Int))=((ps.length+i:Nat):Int):=by simp [IntKind.wrap,IntKind.bits,IntKind.signed];omega
            have CO:∀ w,Calls prog 12 #[.int .i64 (IntKind.i64.wrap ((ps.length:Int)+(i:Int)))] w (RetQ X w):=fun w=>by
              rw [hX,hwI];exact qD _ w (by omega) (by omega)
            have CN:∀ w,Calls prog 15 #[.int .i64 (IntKind.i64.wrap ((ps.length:Int)+(i:Int))),.int .i64 1] w (zZ5 Y w):=fun w=>by
              rw [hY,hwI];exact jC3 _ 1 w 1 rfl (by omega) (by omega) (by omega) (by omega)
            have HXL:Hid (zC3 X 1):=by show zC3 _ _;rw [hX];exact jL7 (ps.length+i) (by omega)
            have hi0:i≠0:=fun e=>by
              subst e;have h1:=HPS.out;rw [HP0.out] at h1;injection h1 with h1;rw [h1] at hlt2;exact Nat.lt_irrefl _ hlt2
            clear hX hY TD hwI;go_upto_region 6 with (fail);refine wp_region_any (by kernel_rfl) (show wpAny _ _ _ _ _ _ _ W0.drew from ?_);refine wpAny_take (i:=2) (v:=.slice (some ⟨f,0,none⟩) n cU) rfl (by kernel_rfl) (by kernel_rfl) (by kernel_rfl) (fun _ _ _ h=>h) (Or.inl ⟨by rfl,fun w=>by (go_simp;first | done | with_reducible rfl)⟩) ?_
            simp only [Act.put,zA0,zA2,zA1];refine wpAny_take (i:=3) (v:=.int .i64 (i:Int)) rfl (by kernel_rfl) (by kernel_rfl) (by kernel_rfl) (fun _ _ _ h=>h) (Or.inl ⟨by rfl,fun w=>by (go_simp;first | done | with_reducible rfl)⟩) ?_
            simp only [Act.put,zA0,zA2,zA1];refine jW2 32 [false,false,true,true,false,false,false,false,false,false,false,false,false,false,false,false,false,false,false,false,false,false,false,false,false,false,false,false,false,false,false,false] [false,false,false,false] 30 4 (by kernel_rfl) (by kernel_rfl) (by kernel_rfl) (by kernel_rfl) ?_;simp only [List.take_succ_cons,List.take_zero];have hHeld:(fun w2:World=>w2.cell? ⟨g,i,none⟩=some (.slice Au ps.length cu)/\w2.cell? ⟨f,i,none⟩=some (.slice Av ps.length cv)) W0.drew:=⟨cI,cVV⟩;refine wpAny_of_held (S:=fun w2:World=>w2.cell? ⟨g,i,none⟩=some (.slice Au ps.length cu)/\w2.cell? ⟨f,i,none⟩=some (.slice Av ps.length cv)) _ _ _ _ ?_;refine wpAnyH_take (i:=0) (v:=.slice (some ⟨g,0,none⟩) n cV) rfl (by kernel_rfl) (by kernel_rfl) (by kernel_rfl) (fun _ _ _ h=>h) (Or.inl ⟨by rfl,fun w hSw=>by (obtain ⟨hS1,hS2⟩:=hSw;go_simp;first | done | with_reducible rfl)⟩) hHeld ?_
            simp only [Act.put,zA0,zA2,zA1];refine wpAnyH_take (i:=1) (v:=.int .i64 (i:Int)) rfl (by kernel_rfl) (by kernel_rfl) (by kernel_rfl) (fun _ _ _ h=>h) (Or.inl ⟨by rfl,fun w hSw=>by (obtain ⟨hS1,hS2⟩:=hSw;go_simp;first | done | with_reducible rfl)⟩) hHeld ?_
            simp only [Act.put,zA0,zA2,zA1];refine wpAnyH_take (i:=4) (v:=.slice (some ⟨g,0,none⟩) n cV) rfl (by kernel_rfl) (by kernel_rfl) (by kernel_rfl) (fun _ _ _ h=>h) (Or.inl ⟨by rfl,fun w hSw=>by (obtain ⟨hS1,hS2⟩:=hSw;go_simp;first | done | with_reducible rfl)⟩) hHeld ?_
            simp only [Act.put,zA0,zA2,zA1];refine wpAnyH_take (i:=5) (v:=.int .i64 (i:Int)) rfl (by kernel_rfl) (by kernel_rfl) (by kernel_rfl) (fun _ _ _ h=>h) (Or.inl ⟨by rfl,fun w hSw=>by (obtain ⟨hS1,hS2⟩:=hSw;go_simp;first | done | with_reducible rfl)⟩) hHeld ?_
            simp only [Act.put,zA0,zA2,zA1];refine wpAnyH_take (i:=6) (v:=.pointer (some ⟨g,i,none⟩)) rfl (by kernel_rfl) (by kernel_rfl) (by kernel_rfl) (fun _ _ _ h=>h) (Or.inl ⟨by rfl,fun w hSw=>by (obtain ⟨hS1,hS2⟩:=hSw;go_simp;first | done | with_reducible rfl)⟩) hHeld ?_
            simp only [Act.put,zA0,zA2,zA1];refine wpAnyH_take (i:=7) (v:=.slice Au ps.length cu) rfl (by kernel_rfl) (by kernel_rfl) (by kernel_rfl) (fun _ _ _ h=>h) (Or.inl ⟨by rfl,fun w hSw=>by (obtain ⟨hS1,hS2⟩:=hSw;go_simp;first | done | with_reducible rfl)⟩) hHeld ?_
            simp only [Act.put,zA0,zA2,zA1];refine wpAnyH_take (i:=8) (v:=.slice (some ⟨g,0,none⟩) n cV) rfl (by kernel_rfl) (by kernel_rfl) (by kernel_rfl) (fun _ _ _ h=>h) (Or.inl ⟨by rfl,fun w hSw=>by (obtain ⟨hS1,hS2⟩:=hSw;go_simp;first | done | with_reducible rfl)⟩) hHeld ?_
            simp only [Act.put,zA0,zA2,zA1];refine wpAnyH_take (i:=9) (v:=.int .i64 (i:Int)) rfl (by kernel_rfl) (by kernel_rfl) (by kernel_rfl) (fun _ _ _ h=>h) (Or.inl ⟨by rfl,fun w hSw=>by (obtain ⟨hS1,hS2⟩:=hSw;go_simp;first | done | with_reducible rfl)⟩) hHeld ?_
            simp only [Act.put,zA0,zA2,zA1];refine wpAnyH_take (i:=10) (v:=.pointer (some ⟨g,i,none⟩)) rfl (by kernel_rfl) (by kernel_rfl) (by kernel_rfl) (fun _ _ _ h=>h) (Or.inl ⟨by rfl,fun w hSw=>by (obtain ⟨hS1,hS2⟩:=hSw;go_simp;first | done | with_reducible rfl)⟩) hHeld ?_
            simp only [Act.put,zA0,zA2,zA1];refine wpAnyH_take (i:=11) (v:=.slice Au ps.length cu) rfl (by kernel_rfl) (by kernel_rfl) (by kernel_rfl) (fun _ _ _ h=>h) (Or.inl ⟨by rfl,fun w hSw=>by (obtain ⟨hS1,hS2⟩:=hSw;go_simp;first | done | with_reducible rfl)⟩) hHeld ?_
            simp only [Act.put,zA0,zA2,zA1];refine wpAnyH_take (i:=12) (v:=.int .i64 ((ps.length:Nat):Int)) rfl (by kernel_rfl) (by kernel_rfl) (by kernel_rfl) (fun _ _ _ h=>h) (Or.inl ⟨by rfl,fun w hSw=>by (obtain ⟨hS1,hS2⟩:=hSw;go_simp;first | done | with_reducible rfl)⟩) hHeld ?_
            simp only [Act.put,zA0,zA2,zA1];refine wpAnyH_take (i:=13) (v:=.int .i64 (i:Int)) rfl (by kernel_rfl) (by kernel_rfl) (by kernel_rfl) (fun _ _ _ h=>h) (Or.inl ⟨by rfl,fun w hSw=>by (obtain ⟨hS1,hS2⟩:=hSw;go_simp;first | done | with_reducible rfl)⟩) hHeld ?_
            simp only [Act.put,zA0,zA2,zA1];refine wpAnyH_take (i:=14) (v:=.int .i64 (IntKind.i64.wrap ((ps.length:Int)+(i:Int)))) rfl (by kernel_rfl) (by kernel_rfl) (by kernel_rfl) (fun _ _ _ h=>h) (Or.inl ⟨by rfl,fun w hSw=>by (obtain ⟨hS1,hS2⟩:=hSw;go_simp;first | done | with_reducible rfl)⟩) hHeld ?_
            simp only [Act.put,zA0,zA2,zA1];refine wpAnyH_take (i:=18) (v:=.slice (some ⟨f,0,none⟩) n cU) rfl (by kernel_rfl) (by kernel_rfl) (by kernel_rfl) (fun _ _ _ h=>h) (Or.inl ⟨by rfl,fun w hSw=>by (obtain ⟨hS1,hS2⟩:=hSw;go_simp;first | done | with_reducible rfl)⟩) hHeld ?_
            simp only [Act.put,zA0,zA2,zA1];refine wpAnyH_take (i:=19) (v:=.int .i64 (i:Int)) rfl (by kernel_rfl) (by kernel_rfl) (by kernel_rfl) (fun _ _ _ h=>h) (Or.inl ⟨by rfl,fun w hSw=>by (obtain ⟨hS1,hS2⟩:=hSw;go_simp;first | done | with_reducible rfl)⟩) hHeld ?_
            simp only [Act.put,zA0,zA2,zA1];refine wpAnyH_take (i:=20) (v:=.pointer (some ⟨f,i,none⟩)) rfl (by kernel_rfl) (by kernel_rfl) (by kernel_rfl) (fun _ _ _ h=>h) (Or.inl ⟨by rfl,fun w hSw=>by (obtain ⟨hS1,hS2⟩:=hSw;go_simp;first | done | with_reducible rfl)⟩) hHeld ?_
            simp only [Act.put,zA0,zA2,zA1];refine wpAnyH_take (i:=21) (v:=.slice Av ps.length cv) rfl (by kernel_rfl) (by kernel_rfl) (by kernel_rfl) (fun _ _ _ h=>h) (Or.inl ⟨by rfl,fun w hSw=>by (obtain ⟨hS1,hS2⟩:=hSw;go_simp;first | done | with_reducible rfl)⟩) hHeld ?_
            simp only [Act.put,zA0,zA2,zA1];refine wpAnyH_take (i:=22) (v:=.slice (some ⟨f,0,none⟩) n cU) rfl (by kernel_rfl) (by kernel_rfl) (by kernel_rfl) (fun _ _ _ h=>h) (Or.inl ⟨by rfl,fun w hSw=>by (obtain ⟨hS1,hS2⟩:=hSw;go_simp;first | done | with_reducible rfl)⟩) hHeld ?_
            simp only [Act.put,zA0,zA2,zA1];refine wpAnyH_take (i:=23) (v:=.int .i64 (i:Int)) rfl (by kernel_rfl) (by kernel_rfl) (by kernel_rfl) (fun _ _ _ h=>h) (Or.inl ⟨by rfl,fun w hSw=>by (obtain ⟨hS1,hS2⟩:=hSw;go_simp;first | done | with_reducible rfl)⟩) hHeld ?_
            simp only [Act.put,zA0,zA2,zA1];refine wpAnyH_take (i:=24) (v:=.pointer (some ⟨f,i,none⟩)) rfl (by kernel_rfl) (by kernel_rfl) (by kernel_rfl) (fun _ _ _ h=>h) (Or.inl ⟨by rfl,fun w hSw=>by (obtain ⟨hS1,hS2⟩:=hSw;go_simp;first | done | with_reducible rfl)⟩) hHeld ?_
            simp only [Act.put,zA0,zA2,zA1];refine wpAnyH_take (i:=25) (v:=.slice Av ps.length cv) rfl (by kernel_rfl) (by kernel_rfl) (by kernel_rfl) (fun _ _ _ h=>h) (Or.inl ⟨by rfl,fun w hSw=>by (obtain ⟨hS1,hS2⟩:=hSw;go_simp;first | done | with_reducible rfl)⟩) hHeld ?_
            simp only [Act.put,zA0,zA2,zA1];refine wpAnyH_take (i:=26) (v:=.int .i64 ((ps.length:Nat):Int)) rfl (by kernel_rfl) (by kernel_rfl) (by kernel_rfl) (fun _ _ _ h=>h) (Or.inl ⟨by rfl,fun w hSw=>by (obtain ⟨hS1,hS2⟩:=hSw;go_simp;first | done | with_reducible rfl)⟩) hHeld ?_
            simp only [Act.put,zA0,zA2,zA1];refine wpAnyH_take (i:=27) (v:=.int .i64 (i:Int)) rfl (by kernel_rfl) (by kernel_rfl) (by kernel_rfl) (fun _ _ _ h=>h) (Or.inl ⟨by rfl,fun w hSw=>by (obtain ⟨hS1,hS2⟩:=hSw;go_simp;first | done | with_reducible rfl)⟩) hHeld ?_
            simp only [Act.put,zA0,zA2,zA1];refine wpAnyH_take (i:=28) (v:=.int .i64 (IntKind.i64.wrap ((ps.length:Int)+(i:Int)))) rfl (by kernel_rfl) (by kernel_rfl) (by kernel_rfl) (fun _ _ _ h=>h) (Or.inl ⟨by rfl,fun w hSw=>by (obtain ⟨hS1,hS2⟩:=hSw;go_simp;first | done | with_reducible rfl)⟩) hHeld ?_
            simp only [Act.put,zA0,zA2,zA1];refine wpAnyH_ready (rs:=[15]) (by kernel_rfl) (by simp) ?_;refine AllReadyH.cons rfl (fun K hK => ?_) AllReadyH.nil;go_simp
            go_at_call 12
            refine (CO _).mono ?_;rintro e w6 ⟨v6,rfl,k6,f6,b6⟩;have T6:=hQ9 (T0.out.to b6);have c6I:=T6.out.p.row.cellAt HU.out;have c6V:=T6.out.q.row.cellAt HV.out;obtain ⟨u6,t6,rfl,q6,d6⟩:=k6;obtain ⟨A6,c6,rfl,_⟩:=id q6;obtain ⟨D6,e6,rfl,_⟩:=id d6;obtain ⟨cC0,cC1,cC2⟩:=qC4 w6 44 (.bool (ngB X.num)) (.slice A6 (digs 4294967296 X.num.natAbs).length c6) (.slice D6 (digs 4294967296 X.den).length e6);have ba6:=zC9 (w:=w6) (zB3 _) (.cells #[.bool (ngB X.num),.slice A6 (digs 4294967296 X.num.natAbs).length c6,.slice D6 (digs 4294967296 X.den).length e6] 44);have TC:=hQ9 (T6.out.to ba6);have rC:=TC.out.p.own i _ ps HU.out HPS.out;have hszC:=TC.out.bQ.size;have cCI:=TC.out.p.row.cellAt HU.out;have cCV:=TC.out.q.row.cellAt HV.out;have NE:Hid (Els _ _ [((X,.slice A6 (digs 4294967296 X.num.natAbs).length c6,.slice D6 (digs 4294967296 X.den).length e6):Elt)]):=T0.out.new (e:=(X,.slice A6 (digs 4294967296 X.num.natAbs).length c6,.slice D6 (digs 4294967296 X.den).length e6)) (b6.trans (ba6.mono b6.size)) ⟨q6.bQ ba6,d6.bQ ba6⟩ (f6 _ _ _ rfl).1 (f6 _ _ _ rfl).2;refine hK.out _ _ ⟨c6I,c6V⟩ (fun hHeld => ?_);clear hK K;simp only [Act.put,zA0,zA2,zA1];refine wpAnyH_ready (rs:=[16]) (by kernel_rfl) (by simp) ?_;refine AllReadyH.cons rfl (fun K hK => ?_) AllReadyH.nil;go_simp;refine hK.out _ _ ⟨cCI,cCV⟩ (fun hHeld => ?_);clear hK K;simp only [Act.put,zA0,zA2,zA1];refine wpAnyH_ready (rs:=[17]) (by kernel_rfl) (by simp) ?_;refine AllReadyH.cons rfl (fun K hK => ?_) AllReadyH.nil;refine qH1 rfl (.tmp 38) (.tmp 47) rfl underlying46 zP3 (v:=.slice Au ps.length cu) (p:=(X,.slice A6 (digs 4294967296 X.num.natAbs).length c6,.slice D6 (digs 4294967296 X.den).length e6)) (ps:=ps) (by rfl) (by exact rC) (ad:=⟨w6.heap.size,0,none⟩) (c:=1) (by rfl) (by exact cC0) (by exact cC1) (by exact cC2) rfl rfl HL8.out.1 (by exact hszC) ?_;intro v5 w5 row5 bb5 HK5;have T5:=hQ9 (TC.out.growP HU.out HPS.out row5 HK5.out NE.out bb5);obtain ⟨A5,c5,e5,_,_⟩:=row5.shape;rw [zA8,List.length_singleton] at e5;subst e5;have c5V:=T5.out.q.row.cellAt HV.out;have c5I:=T5.out.p.row.cellAt HU.out;refine hK.out _ _ ⟨c5I,c5V⟩ (fun hHeld => ?_);clear hK K;simp only [Act.put,zA0,zA2,zA1];refine wpAnyH_ready (rs:=[29]) (by kernel_rfl) (by simp) ?_;refine AllReadyH.cons rfl (fun K hK => ?_) AllReadyH.nil;go_simp
            go_at_call 15
            refine (CN _).mono ?_;rintro e w8 ⟨v8,rfl,k8,f8,b8⟩;have T8:=hQ9 (T5.out.to b8);have c8V:=T8.out.q.row.cellAt HV.out;obtain ⟨u8,t8,rfl,q8,d8⟩:=k8;obtain ⟨A8,c8,rfl,_⟩:=id q8;obtain ⟨D8,e8,rfl,_⟩:=id d8;obtain ⟨cN0,cN1,cN2⟩:=qC4 w8 54 (.bool (ngB Y.num)) (.slice A8 (digs 10000 Y.num.natAbs).length c8) (.slice D8 (digs 10000 Y.den).length e8);have ba8:=zC9 (w:=w8) (zB3 _) (.cells #[.bool (ngB Y.num),.slice A8 (digs 10000 Y.num.natAbs).length c8,.slice D8 (digs 10000 Y.den).length e8] 54);have TN:=hQ9 (T8.out.to ba8);have rN:=TN.out.q.own i _ qs HV.out HQS.out;have hszN:=TN.out.bQ.size;have cNV:=TN.out.q.row.cellAt HV.out;refine hK.out _ _ ⟨T8.out.p.row.cellAt HU.out,c8V⟩ (fun hHeld => ?_);clear hK K;simp only [Act.put,zA0,zA2,zA1];refine wpAnyH_ready (rs:=[30]) (by kernel_rfl) (by simp) ?_;refine AllReadyH.cons rfl (fun K hK => ?_) AllReadyH.nil;go_simp;refine hK.out _ _ ⟨TN.out.p.row.cellAt HU.out,cNV⟩ (fun hHeld => ?_);clear hK K;simp only [Act.put,zA0,zA2,zA1];refine wpAnyH_ready (rs:=[31]) (by kernel_rfl) (by simp) ?_;refine AllReadyH.cons rfl (fun K hK => ?_) AllReadyH.nil;refine qH1 rfl (.tmp 52) (.tmp 61) rfl underlying49 yH2 (v:=.slice Av ps.length cv) (p:=(Y,.slice A8 (digs 10000 Y.num.natAbs).length c8,.slice D8 (digs 10000 Y.den).length e8)) (ps:=qs) (by rfl) (by exact rN) (ad:=⟨w8.heap.size,0,none⟩) (c:=1) (by rfl) (by exact cN0) (by exact cN1) (by exact cN2) rfl rfl HL8.out.2 (by exact hszN) ?_;intro v7 w7 row7 bb7 HK7;have T7:=hQ9 (TN.out.growQ HV.out row7 HK7.out bb7);obtain ⟨A7,c7,e7,_,_⟩:=row7.shape;rw [zA8,List.length_singleton,HLE.out] at e7;subst e7;have c7I:=T7.out.p.row.cellAt HU.out;have f7I:=T7.out.p.row.frozenAt i;have c7V:=T7.out.q.row.cellAt HV.out;have f7V:=T7.out.q.row.frozenAt i;have T7p:=hQ9 (T7.out.storeP (i:=i) (.slice A5 (ps.length+1) c5));have c9V:=T7p.out.q.row.cellAt HV.out;have f9V:=T7p.out.q.row.frozenAt i;refine hK.out _ _ ⟨c7I,c7V⟩ (fun hHeld => ?_);clear hK K;simp only [Act.put,zA0,zA2,zA1];refine wpAnyH_done (by kernel_rfl) ?_ _
            dsimp only [zY1]
            refine wpAny_take (i:=32) (v:=.pointer (some ⟨g,i,none⟩)) rfl (by kernel_rfl) (by kernel_rfl) (by kernel_rfl) (fun _ _ _ h=>h) (Or.inl ⟨by rfl,fun w=>by (go_simp;first | done | with_reducible rfl)⟩) ?_
            simp only [Act.put,zA0,zA2,zA1];refine wpAny_ready (rs:=[33]) (by kernel_rfl) (by simp) ?_;refine AllReady.cons rfl (fun K hK => ?_) AllReady.nil;go_simp;refine hK _ _ ?_;clear hK K;simp only [Act.put,zA0,zA2,zA1];refine wpAny_take (i:=34) (v:=.pointer (some ⟨f,i,none⟩)) rfl (by kernel_rfl) (by kernel_rfl) (by kernel_rfl) (fun _ _ _ h=>h) (Or.inl ⟨by rfl,fun w=>by (go_simp;first | done | with_reducible rfl)⟩) ?_
            simp only [Act.put,zA0,zA2,zA1];refine wpAny_ready (rs:=[35]) (by kernel_rfl) (by simp) ?_;refine AllReady.cons rfl (fun K hK => ?_) AllReady.nil;go_simp;refine hK _ _ ?_;clear hK K;simp only [Act.put,zA0,zA2,zA1];refine wpAny_done (by kernel_rfl) ?_ _;have TE9:=hQ9 (T7p.out.storeQ (i:=i) (.slice A7 (ps.length+1) c7));have EF9:=hQ9 (EF.out.grow (a:=(X,.slice A6 (digs 4294967296 X.num.natAbs).length c6,.slice D6 (digs 4294967296 X.den).length e6)) (b:=(Y,.slice A8 (digs 10000 Y.num.natAbs).length c8,.slice D8 (digs 10000 Y.den).length e8)) HPS.out HQS.out HP0.out hlt2 HXL.out);have l9:=hQ9 (qQ5 (TE9.out.p.row.cellAt (i:=i) (List.getElem?_set_self (zA4.1 HU.out).1)));have l90:=hQ9 (qQ5 (TE9.out.p.row.cellAt (i:=0) ((bW1 hi0).trans HZ.out)));clear CO CN c7I f7I c7V f7V c9V f9V cI cVV row5 row7 HK5 HK7 rC rN;go_wp2;go_roundw;case rel=>exact ⟨_,_,_,_,TE9,EF9⟩
            case measure=>rw [l9.out,l90.out,lI.out,l0.out];omega
        · go_upto_region 5 with (fail)
          go_region
          all_goals
            clear cI c0;obtain ⟨W0,hW0⟩:∃ W0,W0=wr.drew:=⟨_,rfl⟩;rw [<- hW0] at TD |-;clear hW0;have T0:=hQ9 (TD.out.to (Below.refl _ W0).drew);have cI:=T0.out.p.row.cellAt HU.out;have fI:=T0.out.p.row.frozenAt i;have c0:=T0.out.p.row.cellAt HZ.out;have cV:=T0.out.q.row.cellAt HV.out;have fV:=T0.out.q.row.frozenAt i;have hk1:p0.length<=cu:=by omega
            have hk2:p0.length<=cv:=by omega
            have T1:=hQ9 (TD.out.cutP HU.out HPS.out ((TD.out.p.own i _ ps HU.out HPS.out).take (m:=p0.length) (by omega)) (by cases Au<;>rfl) (fun e he=>List.mem_of_mem_take he));have T2:=hQ9 (T1.out.cutQ HV.out ((TD.out.q.own i _ qs HV.out HQS.out).take (m:=p0.length) (by have:=HLE.out;omega)) (by cases Av<;>rfl));have T3:=hQ9 (T2.out.storeP (i:=i) (.slice Au p0.length cu));have T3d:=hQ9 (T3.out.to (Below.refl _ _).drew);have c3V:=T3d.out.q.row.cellAt HV.out;have f3V:=T3d.out.q.row.frozenAt i;have T4:=hQ9 ((T3.out.storeQ (i:=i) (.slice Av p0.length cv)).to (Below.refl _ _).drew);have EF4:=hQ9 (EF.out.cut HPS.out HQS.out HP0.out (by omega));have HI:=hQ9 hi;clear TD;go_upto_region 7 with (fail);go_region
            all_goals
              clear cI fI c0 cV fV c3V f3V;go_wp2;refine ⟨⟨i+1,_,_,_,_,by omega,T4,EF4,by go_num⟩,?_⟩;simp [intOf];omega
    · obtain rfl:i=n:=by omega
      have hS:=TE.out.slT;have hF:=EF.out.done;have hb:=TE.out.bQ;have hL:=EF.out.len;have HEND:=hQ9 (⟨_,_,_,rfl,hS,hF.1,by rw [qA0,hL];omega,hF.2.1,hF.2.2,hb⟩:yM6 M w (.returned (.tuple #[.slice AV i cV,.slice AU i cU])) wr);clear hS hF hb hL TE EF;go_wp2;go_ret2;exact HEND.out
end rat
end Go.Proofs.YtbfflcpmagjlnaaGreat
