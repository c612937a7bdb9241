/- Package solve: clash. Condition: as each says. -/
import Derived.Test.YtagaabooccnamaaGreatKC7
import Derived.OwnWalk
import Derived.Shelf.Abstract
open Go.Proofs.Tryz
open Go.Lib renaming hid -> hQ9
set_option linter.unusedVariables false
set_option linter.unusedSimpArgs false
set_option maxRecDepth 100000
set_option maxHeartbeats 6400000
open And renaming intro -> zA
open List renaming getElem?_eq_getElem -> zA3, getElem?_eq_some_iff -> zA4, mem_of_getElem? -> zA5, getD_eq_getElem?_getD -> zA6, take_of_length_le -> zA7
open Nat renaming le_refl -> zB1, le_trans -> zB2
open Classical renaming byContradiction -> bQ1
open Nat renaming pow_le_pow_right -> bX9, eq_zero_or_pos -> bY3, mul_le_mul -> bY6
namespace Go.Proofs.YtagaabooccnamaaGreat
namespace rat
open Go.RowKit Go.Shelf num mem nat txt str flow whl
theorem jO8 {T:List (List Rat)} {n C:Nat} (h:shp T n C):qI8 T ↔ ∀ i j,i<n->j<C->zB6 T i j=0:=by
 constructor
 ·intro hz i j hi hj;obtain ⟨r,hr,_,hx⟩:=zR8 h hi hj;exact hz r (zA5 hr) _ (zA5 hx)
 ·intro hz r hr x hx;obtain ⟨i,hi⟩:=List.mem_iff_getElem?.1 hr;obtain ⟨j,hj⟩:=List.mem_iff_getElem?.1 hx;have h1:i<n:=by rw [<- h.1];exact (zA4.1 hi).1
  have h2:j<C:=by rw [<- h.2 r hr];exact (zA4.1 hj).1
  have h3:=hz i j h1 h2;rwa [qN4 hi hj] at h3
theorem qX5 {A:List (List Rat)} {ps:List Nat} {n:Nat} (h:A.length=n):shp (zI3 A ps) n ps.length:=⟨by rw [qX4,h],fun r hr=>by
 unfold zI3 at hr;obtain ⟨x,_,rfl⟩:=List.mem_map.1 hr;exact yO7 x ps⟩
theorem jO9 {A:List (List Rat)} {ps:List Nat} {n i j:Nat} (h:A.length=n) (hi:i<n) (hj:j<ps.length):zB6 (zI3 A ps) i j=zB6 A i (pv ps j):=by
 have hr:A[i]?=some (A[i]'(by omega)):=zA3 (by omega)
 have hp:ps[j]?=some (pv ps j):=by
  unfold pv;rw [zA6,zA3 hj]
  rfl
 rw [zP5 (yO6 hr),zP5 hr,zA6];unfold zM6;rw [List.getElem?_map,hp]
 rfl
theorem jP {t:List (List Rat)} {i j:Nat} (hj:j<zC t):zB6 (zH4 t) j i=zB6 t i j:=by
 rw [zP5 (yZ3 hj),yK6]
theorem qX6 {ps:List Nat} {C f:Nat} : f∈frs ps C ↔ f<C /\ ¬ f∈ps:=by
 unfold frs;rw [List.mem_filter,List.mem_range,decide_eq_true_iff]
theorem yP {T2 B:List (List Rat)} {qs:List Nat} {n f c:Nat} (hB:B.length=n):zI5 (nvR T2 qs n f qs.length) (zJ9 B c)=zC0 n (fun l=>nv (zB6 T2) qs.length (pv qs) f l*zB6 B l c):=by
 have hl:(nvR T2 qs n f qs.length).length=(zJ9 B c).length:=by rw [zS1,qG0,hB]
 have h:=yK5 hl n (by rw [zS1];exact zB1 n);rw [zA7 (by rw [zS1];exact zB1 n),zA7 (by rw [qG0,hB];exact zB1 n)] at h;rw [h];refine zF2 fun l hl2 => ?_;rw [yK6,zA6,qI5 hl2]
 rfl
section
variable {A B T:List (List Rat)} {ps:List Nat} {n C m:Nat}
theorem jP0 {T2:List (List Rat)} {qs:List Nat} {S:Nat} (hA:shp A n C) (hB:shp B n m) (hw:zC B=m) (hT:Ech n C (zB6 T) ps.length (pv ps)) (hR:Red n (zB6 T) ps.length (pv ps) 0) (hK:zE4 n C (zB6 A) (zB6 T)) (hn:0<n) (h2:KerE (zH4 (zI3 A ps)) ps.length n S T2 qs) :
  qI8 (zJ1 (nvT T2 qs n n) B) ↔ ∀ c,c<m->zP9 n C (zB6 A) (fun i=>zB6 B i c):=by
 have hsh:=qX5 (ps:=ps) hA.1;have hwc:zC (zI3 A ps)=ps.length:=qI3 hsh (fun e=>by omega)
 have hker:∀ y:Nat->Rat,zY9 ps.length n (zB6 (zH4 (zI3 A ps))) y ↔ ∀ j,j<ps.length->zC0 n (fun l=>y l*zB6 A l (pv ps j))=0:=fun y=>by
  have e:∀ j,j<ps.length->zC0 n (fun l=>zB6 (zH4 (zI3 A ps)) j l*y l)=zC0 n (fun l=>y l*zB6 A l (pv ps j)):=fun j hj=>zF2 fun l hl=>by
   rw [jP (by rw [hwc];exact hj),jO9 hA.1 hl hj,Rat.mul_comm]
  exact ⟨fun h j hj=>by rw [<- e j hj];exact h j hj,fun h j hj=>by rw [e j hj];exact h j hj⟩
 constructor
 ·intro hz c hc;refine jN9.2 fun y hy => ?_;have hy1:=(h2.ker y).1 ((hker y).2 fun j hj=>hy _ (hT.lt j hj));refine nv_span h2.ech h2.red hy1 fun f hf hfree => ?_
  have hfq:¬ f∈qs:=fun hm=>by
   obtain ⟨i,hi,e⟩:=zZ3.2 hm;exact hfree i hi e
  have h3:=hz (zS6 (nvR T2 qs n f qs.length) B (zC B)) (by
   unfold zJ1 nvT;rw [List.map_map];exact List.mem_map.2 ⟨f,qX6.2 ⟨hf,hfq⟩,rfl⟩) (zI5 (nvR T2 qs n f qs.length) (zJ9 B c)) (zA5 (rowq_at (by rw [hw];exact hc)))
  rw [yP hB.1] at h3;exact h3
 ·intro hr r hr1 x hx;unfold zJ1 at hr1;obtain ⟨y,hy,rfl⟩:=List.mem_map.1 hr1;unfold nvT at hy;obtain ⟨f,hf,rfl⟩:=List.mem_map.1 hy;obtain ⟨hf1,hf2⟩:=qX6.1 hf;unfold zS6 at hx;obtain ⟨c,hc,rfl⟩:=List.mem_map.1 hx;rw [List.mem_range,hw] at hc;rw [yP hB.1];have h3:=(h2.ker _).2 (zW6 h2.ech h2.red hf1 (fun i hi e=>hf2 (zZ3.1 ⟨i,hi,e⟩)));exact yN9 (hr c hc) (ann_piv hT hR hK ((hker _).1 h3))
theorem jP1 (hA:shp A n C) (hT:Ech n C (zB6 T) ps.length (pv ps)) (hR:Red n (zB6 T) ps.length (pv ps) 0) (hK:zE4 n C (zB6 A) (zB6 T)) (hk:ps.length=n):∀ c,c<m->zP9 n C (zB6 A) (fun i=>zB6 B i c):=by
 obtain ⟨E,k,p,P,hE,hRE,hKE,_⟩:=qX2 n (C+m) (zI7 C (zB6 A) (zB6 B)) (C+m) (zB1 _);refine (yO hE hRE hKE).1 ?_;refine bQ1 fun hn => ?_;have h1:=(yO0 hE hRE hKE hT hR hK).2 hn
 have:=hE.le
 omega
theorem jP2 (hA:shp A n C) (hB:shp B n m) (hT:Ech n C (zB6 T) ps.length (pv ps)) (hK:zE4 n C (zB6 A) (zB6 T)) (hk:ps.length=0):qI8 B ↔ ∀ c,c<m->zP9 n C (zB6 A) (fun i=>zB6 B i c):=by
 have hz:∀ i j,i<n->j<C->zB6 A i j=0:=fun i j hi hj=>by
  have h1:=(hK (fun l=>if l=j then 1 else 0)).2 (fun r hr=>zN3 fun l hl=>by rw [hT.rest r (by omega) hr l hl,Rat.zero_mul]) i hi;rw [zK7 (a:=j) hj (fun l hl hne=>by simp only [if_neg hne];exact Rat.mul_zero _)] at h1;simpa using h1
 rw [jO8 hB]
 constructor
 ·intro h c hc
  exact ⟨fun _=>0,fun i hi=>by
   rw [zN3 fun j _=>by rw [Rat.mul_zero]];exact (h i c hi hc).symm⟩
 ·intro h i c hi hc;obtain ⟨x,hx⟩:=h c hc;have h1:=hx i hi;rw [zN3 fun j hj=>by rw [hz i j hi hj,Rat.zero_mul]] at h1;exact h1.symm
end
structure ClashIn (A B T:List (List Rat)) (ps:List Nat) (n C m:Nat):Prop where
 sa:shp A n C
 sb:shp B n m
 wb:zC B=m
 ech:Ech n C (zB6 T) ps.length (pv ps)
 red:Red n (zB6 T) ps.length (pv ps) 0
 ker:zE4 n C (zB6 A) (zB6 T)
 n4:n<=4
 m4:m<=4
 la:zE0 A 1
 lb:zE0 B 1
theorem yP0:zC2 (0:Rat) 1:=⟨zG5 (k:=1) (by omega) (by decide +kernel),zG5 (k:=1) (by omega) (by decide +kernel)⟩
theorem yP1 {A:List (List Rat)} {ps:List Nat} (h:zE0 A 1):zE0 (zI3 A ps) 1:=fun r hr x hx=>by
 unfold zI3 at hr;obtain ⟨y,hy,rfl⟩:=List.mem_map.1 hr;unfold zM6 at hx;obtain ⟨j,_,rfl⟩:=List.mem_map.1 hx;rw [zA6]
 cases hz:y[j]? with
 | none=>exact yP0
 | some z=>exact h y hy z (zA5 hz)
theorem jP3 {t:List (List Rat)} (h:zE0 t 1):zE0 (zH4 t) 1:=fun r hr x hx=>by
 unfold zH4 at hr;obtain ⟨j,_,rfl⟩:=List.mem_map.1 hr;unfold zJ9 at hx;obtain ⟨y,hy,rfl⟩:=List.mem_map.1 hx;rw [zA6]
 cases hz:y[j]? with
 | none=>exact yP0
 | some z=>exact h y hy z (zA5 hz)
theorem jP4 {T:List (List Rat)} {qs:List Nat} {k n L:Nat} (hs:shp T k n) (he:Ech k n (zB6 T) qs.length (pv qs)) (hl:zE0 T L) (hL:1<=L):zE0 (nvT T qs n n) L:=fun r hr x hx=>by
 unfold nvT at hr;obtain ⟨f,hf,rfl⟩:=List.mem_map.1 hr;obtain ⟨h1,h2⟩:=qX6.1 hf;exact jO7 hs he hl hL h2 h1 x hx
theorem jP5 (a0 a1:Value) (A B T:List (List Rat)) (ps:List Nat) (n C m:Nat) (b:Bool) (w:World) (h0:SlT .u64 4294967296 w a0 (zI3 A ps)) (h1:SlT .u64 4294967296 w a1 B) (hb:b=true ↔ ¬ ∀ c,c<m->zP9 n C (zB6 A) (fun i=>zB6 B i c)) (hc:Hid (ClashIn A B T ps n C m)) :
    Calls prog 49 #[a0,a1] w (zD3 (.bool b) w):=by
  have HB:=hQ9 hb;have HS0:=hQ9 h0;have HS1:=hQ9 h1;obtain ⟨A0,c0,rfl,hc0,hm0⟩:=h0.shape;obtain ⟨A1,c1,rfl,hc1,hm1⟩:=h1.shape;have hl:(zI3 A ps).length=n:=by rw [qX4,hc.out.sa.1]
  have hl1:B.length=n:=hc.out.sb.1;obtain ⟨W,hW⟩:∃ W,W=zC (zI3 A ps):=⟨_,rfl⟩
  have HW:Hid ((n=0->W=0)/\(0<n->W=ps.length)):=by
    refine ⟨fun e => ?_,fun e => ?_⟩
    · rw [hW,List.length_eq_zero_iff.1 (show (zI3 A ps).length=0 by omega)]
      rfl
    · rw [hW];exact qI3 (qX5 hc.out.sa.1) (fun e2=>by omega)
  have CZ:=zS9 _ (zI3 A ps) w HS0.out;rw [hl,<- hW] at CZ;rw [hl] at HS0 hc0 |-;rw [hl1] at HS1 hc1 |-;have HWE:=hQ9 hW;have HL:=hQ9 hl;unfold maxLen at hm0 hm1;have hn4:=hc.out.n4;clear hb h0 h1 hl hl1 hW
  go_enter func49,ntmps49;go_wp2_with fail
  refine CZ.mono ?_;rintro e w1 ⟨rfl,b1⟩;clear CZ;by_cases hWn:W=n
  · have hfalse:b=false:=Bool.eq_false_iff.2 fun h=>HB.out.1 h (by
      rcases bY3 n with e | e
      · exact fun c _=>⟨fun _=>0,fun i hi=>by omega⟩
      · exact jP1 hc.out.sa hc.out.ech hc.out.red hc.out.ker (by rw [<- HW.out.2 e];exact hWn))
    subst hfalse;subst hWn;go_wp2;go_ret;exact ⟨rfl,b1⟩
  · have hz1 : (((W : Nat) : Int) == ((n : Nat) : Int)) = false := by rw [beq_eq_false_iff_ne]; omega
    have hn0:0<n:=by
      rcases bY3 n with e | e
      · exact absurd (by rw [HW.out.1 e,e]) hWn
      · exact e
    have hWp:W=ps.length:=HW.out.2 hn0;have HWn:=hQ9 hWn;have hz1':¬ ((W:Nat):Int)=((n:Nat):Int):=by omega
    by_cases hW0:W=0
    · have CN:=fun w h=>yO3 (.slice A1 n c1) B (!b) w h (by
        rw [jP2 hc.out.sa hc.out.sb hc.out.ech hc.out.ker (by rw [<- hWp];exact hW0)]
        cases hbb:b with
        | false =>
          simp only [Bool.not_false,true_iff];refine bQ1 fun hn => ?_
          have:=HB.out.2 hn
          rw [hbb] at this;exact Bool.noConfusion this
        | true =>
          simp only [Bool.not_true,Bool.false_eq_true,false_iff];exact HB.out.1 hbb) ⟨by rw [hc.out.sb.1];omega,fun r hr=>by rw [hc.out.sb.2 r hr];have:=hc.out.m4;omega⟩
      have hz2:(((W:Nat):Int) == 0)=true:=by rw [beq_iff_eq];omega
      have hz2':((W:Nat):Int)=0:=by omega
      clear hWn hW0 hWp;go_wp2_with fail
      refine (CN _ (HS1.out.bQ b1)).mono ?_;rintro e w2 ⟨rfl,b2⟩;go_wp2;go_ret;exact ⟨rfl,b1.trans (b2.mono b1.size)⟩
    · have hz2 : (((W : Nat) : Int) == 0) = false := by rw [beq_eq_false_iff_ne]; omega
      have hz2':¬ ((W:Nat):Int)=0:=by omega
      have hk4:ps.length<=3:=by have:=hc.out.ech.le;omega
      have HK:Hid (0<ps.length/\ps.length<n):=⟨by omega,by have:=hc.out.ech.le;omega⟩;have hmay:zF5 (zI3 A ps):=⟨by rw [HL.out];omega,by rw [<- HWE.out];omega,fun r hr=>by rw [<- HWE.out,hWp];exact (qX5 hc.out.sa.1).2 r hr⟩;have CT:=jG1 _ (zI3 A ps) w1 (HS0.out.bQ b1) (fun r hr x hx=>(yP1 hc.out.la r hr x hx).mono (by omega));have HB1:=hQ9 b1;have HWP:=hQ9 hWp;clear hWn hW0 b1 hWp;go_wp2_with fail
      refine CT.mono ?_;rintro e w2 (⟨-,V2,rfl,s2,b2⟩|⟨hnm,_⟩)
      · rw [if_pos rfl] at s2;have HB2 : Hid (Below w.heap.size w w2):=HB1.out.trans (b2.mono HB1.out.size);have htl : (zH4 (zI3 A ps)).length = ps.length:=by rw [qT7,<- HWE.out,HWP.out]
        have htw:zC (zH4 (zI3 A ps))=n:=by rw [yZ7 (by rw [<- HWE.out,HWP.out];exact HK.out.1),HL.out]
        have hgs:zX1 (zH4 (zI3 A ps)) 5:=by
          have hx:2^(ps.length-1)<=2^2:=bX9 (by omega) (by omega);have h4:(5+1)*2^(ps.length-1)<=6*2^2:=bY6 (by omega) hx;have h5:(5+1)*2^(ps.length-1)*2^(ps.length-1)<=6*2^2*2^2:=bY6 h4 hx;exact ⟨by rw [htl];omega,by rw [htw];omega,qQ (m:=4) (fun r hr=>by rw [qM9 r hr,HL.out];exact hn4) (jP3 (yP1 hc.out.la)),by omega,by rw [htl];omega,by rw [htl];omega⟩
        have hmt:zF5 (zH4 (zI3 A ps)):=⟨by rw [htl];omega,by rw [htw];omega,yZ5 _⟩;have CK:=fun w h=>jJ9 V2 (zH4 (zI3 A ps)) 5 w h hgs;rw [htl,htw] at CK;obtain ⟨A2,c2,rfl,-,-⟩:=id s2.shape;have HMT:=hQ9 (zA hmt (zA htl htw));have HMY:=hQ9 hmay;clear CT b2 hgs hmt htl htw hmay
        go_wp2_with fail
        refine (CK _ s2).mono ?_;rintro e w3 (⟨-,V3,T2,qs,rfl,s3,hK2,b3⟩|⟨hnm,_⟩)
        · have HB3:Hid (Below w.heap.size w w3):=HB2.out.trans (b3.mono HB2.out.size);obtain ⟨A3,c3,rfl,-,-⟩:=id s3.shape;have HK2:=hQ9 hK2;obtain ⟨R,hR⟩:∃ R,R=nvT T2 qs n n:=⟨_,rfl⟩;have hRl:R.length+qs.length=n:=by rw [hR];exact yO9 hK2.ech
          have hqk:qs.length<=ps.length:=hK2.ech.le;have HR:Hid (R=nvT T2 qs n n):=hR
          have hRsh:∀ r∈R,r.length=n:=fun r hr=>by
            rw [hR] at hr;unfold nvT at hr;obtain ⟨f,_,rfl⟩:=List.mem_map.1 hr;exact zS1 _ _ _ _ _
          have hRp:0<R.length:=by have:=HK.out.2;omega
          have hRw:zC R=n:=qT8 (List.length_pos_iff.1 hRp) hRsh
          have hRL:zE0 R 383:=by
            rw [hR];obtain ⟨S',h1,h2⟩:=hK2.len;have h3:=qI2 (S:=5) (show min qs.length (ps.length-1)<=2 by omega);have h4:(5+1)*2^(min qs.length (ps.length-1))*2^(qs.length-1)<=(5+1)*2^2*2^2:=bY6 h3 (bX9 (by omega) (by omega));exact jP4 hK2.sh hK2.ech (h1.len.mono (by omega)) (by omega)
          rw [<- hR] at s3;have k1:=HS1.out.bQ HB3.out;rw [<- hR];obtain ⟨w4,hw4⟩:∃ w4,w4=w3.alloc (.cells #[.slice A3 R.length c3,.slice A1 n c1] 22):=⟨_,rfl⟩;have hL:=yM9 22 s3 k1;have hb4:=zC6 (w:=w3) (zB1 _) (.cells #[.slice A3 R.length c3,.slice A1 n c1] 22);rw [<- hw4] at hL hb4;have HB4:Hid (Below w.heap.size w w4):=HB3.out.trans (hb4.mono HB3.out.size)
          have CM:=jJ5 _ [R,B] 383 w4 ⟨by omega,by omega⟩ hL ⟨by simp,fun t ht=>by
            rcases List.mem_cons.1 ht with rfl|ht
            · exact ⟨by omega,fun r hr=>by rw [hRsh r hr];exact hn4,hRL⟩
            · rw [List.mem_singleton.1 ht];exact ⟨by rw [hc.out.sb.1];exact hn4,fun r hr=>by rw [hc.out.sb.2 r hr];exact hc.out.m4,fun r hr x hx=>(hc.out.lb r hr x hx).mono (by omega)⟩⟩
          have HFT:Hid (qB3 [R,B]):=by
            refine ⟨by simp,fun i t ht => ?_⟩;rcases i with _ | _ | i
            · obtain rfl:R=t:=by simpa using ht
              exact ⟨⟨by omega,by omega,fun r hr=>by rw [hRw];exact hRsh r hr⟩,fun s h0=>by omega⟩
            · obtain rfl:B=t:=by simpa using ht
              refine ⟨⟨by rw [hc.out.sb.1];omega,by rw [hc.out.wb];have:=hc.out.m4;omega,fun r hr=>by rw [hc.out.wb];exact hc.out.sb.2 r hr⟩,fun s _ hs => ?_⟩;obtain rfl:R=s:=by simpa using hs
              rw [hRw,hc.out.sb.1]
            · simp at ht
          have HIF:Hid (qI8 (zJ1 R B) ↔ ∀ c,c<m->zP9 n C (zB6 A) (fun i=>zB6 B i c)):=by
            show _ ↔ _
            rw [hR];exact jP0 hc.out.sa hc.out.sb hc.out.wb hc.out.ech hc.out.red hc.out.ker hn0 hK2
          clear CK b3 s3 hK2 hR hRl hqk hRsh hRp hRw hRL k1 hL hb4 s2;go_wp2_with fail
          rw [<- hw4];clear hw4;refine CM.mono ?_;rintro e w5 (⟨-,V5,rfl,s5,b5⟩|⟨hnf,_⟩)
          · rw [if_pos rfl] at s5;have HB5 : Hid (Below w.heap.size w w5):=HB4.out.trans (b5.mono HB4.out.size);have s5' : SlT .u64 4294967296 w5 V5 (zJ1 R B):=s5;obtain ⟨A5,c5,rfl,-,-⟩:=id s5'.shape
            have CN:=yO3 _ (zJ1 R B) (!b) w5 s5' (by
              rw [HIF.out]
              cases hbb:b with
              | false =>
                simp only [Bool.not_false,true_iff];refine bQ1 fun hn => ?_
                have:=HB.out.2 hn
                rw [hbb] at this;exact Bool.noConfusion this
              | true =>
                simp only [Bool.not_true,Bool.false_eq_true,false_iff]
                exact HB.out.1 hbb) ⟨by
                  have h2:=HK2.out.ech;have h3:R.length+qs.length=n:=by rw [HR.out];exact yO9 h2
                  rw [qT6];omega,fun r hr=>by rw [yF1 r hr,hc.out.wb];have:=hc.out.m4;omega⟩
            clear CM b5 s5 s5';go_wp2_with fail
            refine CN.mono ?_;rintro e w6 ⟨rfl,b6⟩;go_wp2;go_ret;exact ⟨rfl,HB5.out.trans (b6.mono HB5.out.size)⟩
          · exact absurd HFT.out hnf
        · exact absurd HMT.out.1 hnm
      · exact absurd hmay hnm
theorem jP6 {p:List (List Rat)} (h1:p.length<=4) (h2:∀ r∈p,r.length<=4) (h3:zE0 p 1):zX1 p 5/\InvOk p 5:=by
 have hw:zC p<=4:=yM1 h2;have hx:2^(p.length-1)<=2^3:=bX9 (by omega) (by omega);have h4:(5+1)*2^(p.length-1)<=6*2^3:=bY6 (by omega) hx;have h5:(5+1)*2^(p.length-1)*2^(p.length-1)<=6*2^3*2^3:=bY6 h4 hx;exact ⟨⟨by omega,by omega,qQ h2 h3,by omega,by omega,by omega⟩,h1,by omega,qQ h2 h3,by omega,by omega,by omega⟩
def zR1 (A B:List (List Rat)):Prop:=zF5 A/\zF5 B/\A.length=B.length
def RetWhy (A B:List (List Rat)) (w:World) (e:Ending) (w':World):Prop:=Below w.heap.size w w'/\((zR1 A B /\ ∃ v T ps b,e=.returned (.tuple #[.agg #[.int .i64 ((ps.length:Nat):Int),v,.bool b],.int .i64 0])/\PvI w' v (zH2 (zC A) ps)/\shp T A.length (zC A)/\Ech A.length (zC A) (zB6 T) ps.length (pv ps)/\Red A.length (zB6 T) ps.length (pv ps) 0/\zE4 A.length (zC A) (zB6 A) (zB6 T)/\(b=true ↔ ¬ ∀ c,c<zC B->zP9 A.length (zC A) (zB6 A) (fun i=>zB6 B i c)))\/(¬ zR1 A B/\e=.returned (.tuple #[.agg #[.int .i64 0,.slice none 0 0,.bool false],.int .i64 8])))
theorem bool_ex (p:Prop):∃ b:Bool,b=true ↔ p:=by
 by_cases h:p
 ·exact ⟨true,fun _=>h,fun _=>rfl⟩
 ·exact ⟨false,fun e=>Bool.noConfusion e,fun e=>absurd e h⟩
theorem why_any (a0 a1:Value) (A B:List (List Rat)) (w:World) (h0:SlT .u64 4294967296 w a0 A) (h1:SlT .u64 4294967296 w a1 B) (hA:Hid (Few4 A)) (hB:Hid (Few4 B)) :
  Calls prog 16 #[a0,a1] w (RetWhy A B w):=by
 obtain ⟨A0,c0,rfl,hc0,hm0⟩:=h0.shape;obtain ⟨A1,c1,rfl,hc1,hm1⟩:=h1.shape;unfold maxLen at hm0 hm1;have ba0:=zC6 (w:=w) (zB1 _) (.cells #[.int .i64 0,.slice none 0 0,.bool false] 38);have BR0:=Blk.new w 38 #[.int .i64 0,.slice none 0 0,.bool false];have HS0:=hQ9 (h0.bQ ba0);have HS1:=hQ9 (h1.bQ ba0);clear h0 h1
 go_enter func16,ntmps16
 by_cases hw:zR1 A B
 ·have CP:=qW9 _ _ A B true _ HS0.out HS1.out ⟨fun _=>hw,fun _=>rfl⟩;have HW:=hQ9 hw;clear hw
  go_wp2_with fail
  refine CP.mono ?_;rintro e w1 ⟨rfl,b1⟩;have HB1:Hid (Below w.heap.size w w1):=ba0.trans (b1.mono ba0.size);have BR1:=BR0.bQ b1;have HS01:=hQ9 (HS0.out.bQ b1);have HS11:=hQ9 (HS1.out.bQ b1);clear CP b1 ba0 BR0;have CR:=qW5 _ A 5 w1 HS01.out (jP6 hA.out.len hA.out.row hA.out.lens).1;go_wp2_with fail
  refine CR.mono ?_;rintro e w2 (⟨-,g,v,T,us,ps,rfl,hR⟩|⟨hn,_⟩)
  ·have HB2:Hid (Below w.heap.size w w2):=HB1.out.trans (hR.bel.mono HB1.out.size);have BR2:=BR1.bQ hR.bel;have HS02:=hQ9 (HS01.out.bQ hR.bel);have HS12:=hQ9 (HS11.out.bQ hR.bel);have HPV:=hQ9 (zC8.pvI hR.piv);have HRF:Hid (shp T A.length (zC A)/\Ech A.length (zC A) (zB6 T) ps.length (pv ps)/\Red A.length (zB6 T) ps.length (pv ps) 0/\zE4 A.length (zC A) (zB6 A) (zB6 T)):=⟨hR.sh,hR.ech,hR.red,hR.ker⟩;obtain ⟨A6,c6,e6⟩:=zD.slice hR.piv.1;rw [zN5] at e6;subst e6;obtain ⟨C,hC⟩:∃ C,C=zC A:=⟨_,rfl⟩;have HC:=hQ9 hC;have hC4:C<=4:=by rw [hC];exact hA.out.wide
   have hpn:ps.length<=4:=zB2 hR.ech.le hA.out.len;have CZ:=zS9 _ A w2 HS02.out;rw [<- hC] at CZ;clear CR hR BR1 HB1 HS01 HS11 hC;go_wp2_with fail
   refine CZ.mono ?_;rintro e w3 ⟨rfl,b3⟩;have HB3:Hid (Below w.heap.size w w3):=HB2.out.trans (b3.mono HB2.out.size);have BR3:=BR2.bQ b3;have HS03:=hQ9 (HS02.out.bQ b3);have HS13:=hQ9 (HS12.out.bQ b3);have HP3:=hQ9 (HPV.out.bQ b3);clear CZ b3 BR2 HB2 HS02 HS12 HPV;go_wp2_with fail
   refine (jO1 _ C ps w3 HP3.out ⟨by omega,by omega⟩).mono ?_;rintro e w4 ⟨v4,rfl,RX4,b4⟩;have HB4:Hid (Below w.heap.size w w4):=HB3.out.trans (b4.mono HB3.out.size);have BR4:=BR3.bQ b4;have HS04:=hQ9 (HS03.out.bQ b4);have HS14:=hQ9 (HS13.out.bQ b4);have HP4:=hQ9 (HP3.out.bQ b4);have RX4':=hQ9 RX4;obtain ⟨AF,cF,eF⟩:=zD.slice RX4.1;rw [zN5] at eF;subst eF;have hsA:shp A A.length C:=⟨rfl,fun r hr=>by rw [HC.out];exact HW.out.1.2.2 r hr⟩;have HSA:=hQ9 hsA;have CC:=jO6 _ _ A ps w4 HS04.out HP4.out ⟨⟨by have:=hA.out.len;omega,by omega⟩,fun r hr i hi=>by rw [hsA.2 r hr,HC.out];exact HRF.out.2.1.lt i hi⟩;clear b4 BR3 HB3 HS03 HS13 HP3 RX4 hsA;go_wp2_with fail
   refine CC.mono ?_;rintro e w5 ⟨v5,rfl,s5,b5⟩;have HB5:Hid (Below w.heap.size w w5):=HB4.out.trans (b5.mono HB4.out.size);have BR5:=BR4.bQ b5;have HS15:=hQ9 (HS14.out.bQ b5);have RX5:=hQ9 (RX4'.out.bQ b5);obtain ⟨A5,c5,rfl,-,-⟩:=id s5.shape;obtain ⟨b,hb⟩:=bool_ex (¬ ∀ c,c<zC B->zP9 A.length C (zB6 A) (fun i=>zB6 B i c));have HBB:=hQ9 hb;have hsB:shp B A.length (zC B):=⟨HW.out.2.2.symm,fun r hr=>HW.out.2.1.2.2 r hr⟩;have CL:=jP5 _ _ A B T ps A.length C (zC B) b w5 s5 HS15.out hb ⟨HSA.out,hsB,rfl,by rw [HC.out];exact HRF.out.2.1,HRF.out.2.2.1,by rw [HC.out];exact HRF.out.2.2.2,hA.out.len,hB.out.wide,hA.out.lens,hB.out.lens⟩;clear CC b5 BR4 HB4 HS04 HS14 HP4 RX4' hb hsB s5;go_wp2_with fail
   refine CL.mono ?_;rintro e w6 ⟨rfl,b6⟩;have BR6:=BR5.bQ b6;have RX6:=RX5.out.bQ b6;have HB6:Hid (Below w.heap.size w w6):=HB5.out.trans (b6.mono HB5.out.size);have V0:w6.cell? ⟨w.heap.size,0,none⟩=some (.int .i64 0):=BR6.cell 0;have V1:w6.cell? ⟨w.heap.size,1,none⟩=some (.slice none 0 0):=BR6.cell 1;have V2:w6.cell? ⟨w.heap.size,2,none⟩=some (.bool false):=BR6.cell 2;have F0:=BR6.frozen 0;have F1:=BR6.frozen 1;have F2:=BR6.frozen 2;have G9:=qC w6 w.heap.size (.int .i64 ((ps.length:Nat):Int)) (.slice AF (zH2 C ps).length cF) (.bool b);have BY:=zZ1 BR6 (.int .i64 ((ps.length:Nat):Int)) (.slice AF (zH2 C ps).length cF) (.bool b);have C0:=BY.cell 0;have C1:=BY.cell 1;have C2:=BY.cell 2;have RX9:=RX6.grown G9 (RX6.notBlk BR6 (by decide));have HPV9:=hQ9 (zC8.pvI RX9);have HB9:=hQ9 (HB6.out.grown G9 HB6.out.size (fun k e=>by injection e with e;omega));clear CL b6 BR5 HB5 HS15 RX5 BR6 RX6 HB6 G9 BY RX9;go_wp2;refine bodyPost_ret (v:=.tuple #[.agg #[.int .i64 ((ps.length:Nat):Int),.slice AF (zH2 C ps).length cF,.bool b],.int .i64 0]) (by simp [results,results16,go_sem,C0,C1,C2]) rfl ?_;exact ⟨HB9.out,.inl ⟨HW.out,_,T,ps,b,rfl,by rw [<- HC.out];exact HPV9.out,HRF.out.1,HRF.out.2.1,HRF.out.2.2.1,HRF.out.2.2.2,by rw [<- HC.out];exact HBB.out⟩⟩
  ·exact absurd HW.out.1 hn
 ·have CP:=qW9 _ _ A B false _ HS0.out HS1.out ⟨fun h=>Bool.noConfusion h,fun h=>absurd h hw⟩;have HW:=hQ9 hw;clear hw
  go_wp2_with fail
  refine CP.mono ?_;rintro e w1 ⟨rfl,b1⟩;have BR6:=BR0.bQ b1;have HB6:Hid (Below w.heap.size w w1):=ba0.trans (b1.mono ba0.size);have V0:w1.cell? ⟨w.heap.size,0,none⟩=some (.int .i64 0):=BR6.cell 0;have V1:w1.cell? ⟨w.heap.size,1,none⟩=some (.slice none 0 0):=BR6.cell 1;have V2:w1.cell? ⟨w.heap.size,2,none⟩=some (.bool false):=BR6.cell 2;have F0:=BR6.frozen 0;have F1:=BR6.frozen 1;have F2:=BR6.frozen 2;have G9:=qC w1 w.heap.size (.int .i64 0) (.slice none 0 0) (.bool false);have BY:=zZ1 BR6 (.int .i64 0) (.slice none 0 0) (.bool false);have C0:=BY.cell 0;have C1:=BY.cell 1;have C2:=BY.cell 2;have HB9:=hQ9 (HB6.out.grown G9 HB6.out.size (fun k e=>by injection e with e;omega));clear CP b1 ba0 BR0 BR6 HB6 G9 BY;go_wp2;refine bodyPost_ret (v:=.tuple #[.agg #[.int .i64 0,.slice none 0 0,.bool false],.int .i64 8]) (by simp [results,results16,go_sem,C0,C1,C2]) rfl ?_;exact ⟨HB9.out,.inr ⟨HW.out,rfl⟩⟩
theorem zR1.sa {A B:List (List Rat)} (h:zR1 A B):shp A A.length (zC A):=⟨rfl,fun r hr=>h.1.2.2 r hr⟩
theorem zR1.sb {A B:List (List Rat)} (h:zR1 A B):shp B A.length (zC B):=⟨h.2.2.symm,fun r hr=>h.2.1.2.2 r hr⟩
theorem zR1.wj {A B:List (List Rat)} (h:zR1 A B):zC (zD4 A B)=zC A+zC B:=by
 by_cases h0:A.length=0
 ·have e2:A=[]:=List.length_eq_zero_iff.1 h0;have e1:B=[]:=List.length_eq_zero_iff.1 (by rw [<- h.2.2,h0]);subst e1;subst e2
  rfl
 ·exact qI3 (zX3 h.sa h.sb) (fun e=>absurd e h0)
theorem jP7 {A B:List (List Rat)} {n C m:Nat} {T:Nat->Nat->Rat} (hA:shp A n C) (hB:shp B n m) (h:zE4 n (C+m) (zB6 (zD4 A B)) T):zE4 n (C+m) (zI7 C (zB6 A) (zB6 B)) T:=(zZ fun i j hi hj=>(qP8 hA hB hi).symm).trans h
def RetWhyP (A B:List (List Rat)) (w:World) (e:Ending) (w':World):Prop:=∃ v T ps b,e=.returned (.tuple #[.int .i64 ((ps.length:Nat):Int),v,.bool b])/\PvI w' v (zH2 (zC A) ps)/\shp T A.length (zC A)/\Ech A.length (zC A) (zB6 T) ps.length (pv ps)/\Red A.length (zB6 T) ps.length (pv ps) 0/\zE4 A.length (zC A) (zB6 A) (zB6 T)/\(b=true ↔ ¬ ∀ c,c<zC B->zP9 A.length (zC A) (zB6 A) (fun i=>zB6 B i c))/\Below w.heap.size w w'
structure WhyIn (A B:List (List Rat)) (S:Nat):Prop where
 ok:zR1 A B
 ra:RdOk A S
 rj:RdOk (zD4 A B) S
 la:∀ r∈A,r.length<=1000
 lb:∀ r∈B,r.length<=1000
theorem take_in {ps:List Nat} {i j:Nat} (hi:i<ps.length):j∈ps.take (i+1) ↔ j∈ps.take i\/pv ps i=j:=by
 have hp:ps[i]?=some (pv ps i):=by
  unfold pv;rw [zA6,zA3 hi]
  rfl
 rw [List.take_add_one,hp];simp only [Option.toList,List.mem_append,List.mem_singleton];exact ⟨fun h=>h.imp id Eq.symm,fun h=>h.imp id Eq.symm⟩
theorem jP8 (a0 a1:Value) (A B:List (List Rat)) (S:Nat) (w:World) (h0:SlT .i64 10000 w a0 A) (h1:SlT .i64 10000 w a1 B) (hc:Hid (WhyIn A B S)) :
    Calls prog 17 #[a0,a1] w (RetWhyP A B w):=by
  obtain ⟨n,hn⟩:∃ n,n=A.length:=⟨_,rfl⟩;obtain ⟨C,hC⟩:∃ C,C=zC A:=⟨_,rfl⟩;obtain ⟨m,hm⟩:∃ m,m=zC B:=⟨_,rfl⟩;have hA:shp A n C:=by rw [hn,hC];exact hc.out.ok.sa
  have hB:shp B n m:=by rw [hn,hm];exact hc.out.ok.sb
  have HAB:=hQ9 (zA hA hB);have hn5:n<=5:=by rw [hn];exact hc.out.ra.1
  have hC2:C<=200:=by rw [hC];exact hc.out.ra.2.1
  have hWJ:zC (zD4 A B)=C+m:=by rw [hC,hm];exact hc.out.ok.wj
  have hLJ:(zD4 A B).length=n:=(zX3 hA hB).1;obtain ⟨A0,c0,rfl,hc0,hm0⟩:=h0.shape;obtain ⟨A1,c1,rfl,hc1,hm1⟩:=h1.shape;unfold maxLen at hm0 hm1;have C1:=yM0 _ A S w h0 hc.out.ra;have C2:=fun w2 V (h:SlT .i64 10000 w2 V (zD4 A B))=>yM0 V (zD4 A B) S w2 h hc.out.rj;rw [hLJ,hWJ] at C2;rw [<- hn,<- hC] at C1;rw [<- hn] at hc0 h0;have HS0:=hQ9 h0;have HS1:=hQ9 h1;have HN:=hQ9 (zA hn (zA hC hm));clear h0 h1 hA hB hWJ hLJ
  go_enter func17,ntmps17
  rw [<- hn];clear hn hC hm;go_wp2_with fail
  refine C1.mono ?_;rintro e w2 ⟨V2,v2,U2,qs,rfl,sU,hpv,hR,b2⟩;obtain ⟨AU,cU,rfl,-,-⟩:=id sU.shape;obtain ⟨Ap,cp,rfl,-⟩:=id hpv;have hqn:qs.length<=n:=hR.ech.le;have HR:=hQ9 hR;have HB2:=hQ9 b2;have HP2:=hQ9 hpv;have HS02:=hQ9 (HS0.out.bQ b2);have HS12:=hQ9 (HS1.out.bQ b2);clear hR b2 C1 sU hpv;go_wp2_with fail
  refine (jO _ _ A B _ HS02.out HS12.out ⟨⟨hc.out.ok.2.2,by rw [<- HN.out.1];omega⟩,hc.out.la,hc.out.lb⟩).mono ?_;rintro e w3 ⟨V3,rfl,s3,b3⟩;have HB3:Hid (Below w.heap.size w w3):=HB2.out.trans (b3.mono HB2.out.size);have HS03:=hQ9 (HS02.out.bQ b3);have HP3:=hQ9 (HP2.out.bQ b3);have C3:=C2 _ _ s3;obtain ⟨A3,c3,rfl,-,-⟩:=id s3.shape;clear C2 b3 s3 HB2 HS02 HS12 HP2;go_wp2_with fail
  refine C3.mono ?_;rintro e w4 ⟨V4,v4,U4,ps,rfl,sU,hpv4,hR4,b4⟩;obtain ⟨A4,c4,rfl,-,-⟩:=id sU.shape;obtain ⟨Aq,cq,rfl,-⟩:=id hpv4;have hpn:ps.length<=n:=hR4.ech.le;have HB4:Hid (Below w.heap.size w w4):=HB3.out.trans (b4.mono HB3.out.size);have HS04:=hQ9 (HS03.out.bQ b4);have HP4:=hQ9 (HP3.out.bQ b4)
  have HIF:Hid (qs.length<ps.length ↔ ¬ ∀ c,c<m->zP9 n C (zB6 A) (fun i=>zB6 B i c)):=by
    show _ ↔ _
    have hk:=jP7 HAB.out.1 HAB.out.2 hR4.ker;rw [yO0 hR4.ech hR4.red hk HR.out.ech HR.out.red HR.out.ker,yO hR4.ech hR4.red hk]
  clear hR4 b4 sU hpv4 C3 HB3 HS03 HP3;have ba5:=zC6 (w:=w4) (zB1 _) (.cells #[] 3);have RX5:=qP9 isI w4 w4.heap.size 3 (zB1 _);go_wp2
  go_loopw [11,12] (fun v11 v12 wr => ∃ j:Nat,j<=C/\zC8 isI wr w4.heap.size 3 v11 (pI (zH2 j qs))/\Hid (Below w4.heap.size w4 wr)/\v12=.int .i64 (j:Int)) (fun _ v12 _=>C-(intOf v12).toNat)
  case atStart=>exact ⟨0,by omega,RX5,ba5,rfl⟩
  case round =>
    clear RX5 ba5;obtain ⟨j,hj,RX,HB,rfl⟩:=hrel;obtain ⟨wi,hwi⟩:∃ wi,wi=wr:=⟨_,rfl⟩;subst hwi;obtain ⟨A5,c5,e5⟩:=zD.slice RX.1;subst e5;have CW:=yH8 _ A wi (HS04.out.bQ HB.out);rw [<- HN.out.2.1] at CW;go_wp2_with fail
    refine CW.mono ?_;rintro e w6 ⟨rfl,b6⟩;have RX6:=RX.bQ b6;have HB6:Hid (Below w4.heap.size w4 w6):=HB.out.trans (b6.mono HB.out.size);have HP6:=hQ9 (HP4.out.bQ HB6.out);clear CW RX HB b6;by_cases hlt:j<C
    · obtain ⟨Ap', cp', ep, hcell⟩ := HP6.out;injection ep with ep1 _ ep3;subst ep1; subst ep3;have HCE:=hQ9 hcell;obtain ⟨k,hk⟩ : ∃ k,k = qs.length:=⟨_,rfl⟩;have HK:=hQ9 hk;rw [<- hk];have hkn : k <= n:=by rw [hk]; exact hqn
      clear hcell hk;go_wp2
      go_loop [13,14] (fun v13 v14 => ∃ (i:Nat) (b:Bool),i<=k/\Hid (b=true ↔ ¬ j∈qs.take i)/\v13=.bool b/\v14=.int .i64 (i:Int)) (fun _ v14=>k-(intOf v14).toNat)
      case atStart=>exact ⟨0,true,by omega,by (show _ ↔ _;simp),rfl,rfl⟩
      case round =>
        obtain ⟨i,b,hi,HI,rfl,rfl⟩:=hrel;by_cases hik:i<k
        · have hin:i<qs.length:=by rw [<- HK.out];exact hik
          obtain ⟨ad,rfl,ec⟩:=HCE.out i hin;have HT:=hQ9 (take_in (j:=j) hin)
          cases b with
          | false =>
            have HI2:Hid (false=true ↔ ¬ j∈qs.take (i+1)):=⟨fun h=>Bool.noConfusion h,fun h=>by
              have h1:=HI.out.2 fun h2=>h (HT.out.2 (.inl h2));exact Bool.noConfusion h1⟩
            clear HI ec;go_wp2
            go_round
            case rel=>exact ⟨i+1,false,by omega,HI2,rfl,by go_num⟩
            case measure=>simp [intOf];omega
          | true =>
            by_cases he:pv qs i=j
            · have hq:(((pv qs i:Nat):Int) == ((j:Nat):Int))=true:=by rw [beq_iff_eq,he]
              have hq':((pv qs i:Nat):Int)=((j:Nat):Int):=by rw [he]
              have HI2:Hid (false=true ↔ ¬ j∈qs.take (i+1)):=⟨fun h=>Bool.noConfusion h,fun h=>absurd (HT.out.2 (.inr he)) h⟩;clear HI he;rw [hq'] at ec;clear hq hq';go_wp2
              go_round
              case rel=>exact ⟨i+1,false,by omega,HI2,rfl,by go_num⟩
              case measure=>simp [intOf];omega
            · have hq:(((pv qs i:Nat):Int) == ((j:Nat):Int))=false:=by rw [beq_eq_false_iff_ne];omega
              have HI2:Hid (true=true ↔ ¬ j∈qs.take (i+1)):=⟨fun _ h=>(HT.out.1 h).elim (HI.out.1 rfl) he,fun _=>rfl⟩;obtain ⟨x,hx⟩:∃ x,x=pv qs i:=⟨_,rfl⟩;rw [<- hx] at hq ec he;have hne:¬ ((x:Nat):Int)=((j:Nat):Int):=by omega
              have hbn:(((x:Nat):Int) != ((j:Nat):Int))=true:=by rw [bne_iff_ne];exact hne
              clear HI he hx;go_wp2
              go_round
              case rel=>exact ⟨i+1,true,by omega,HI2,rfl,by go_num⟩
              case measure=>simp [intOf];omega
        · have HI2:Hid (b=true ↔ ¬ j∈qs):=by
            have h:=HI.out;rw [zA7 (by rw [<- HK.out];omega)] at h;exact h
          clear HI
          cases b with
          | false =>
            have HF:Hid (zH2 (j+1) qs=zH2 j qs):=yO4 (bQ1 fun h=>Bool.noConfusion (HI2.out.2 h));have RX7:zC8 isI w6 w4.heap.size 3 (.slice A5 (pI (zH2 j qs)).length c5) (pI (zH2 (j+1) qs)):=by rw [HF.out];exact RX6
            go_wp2;rw [HK.out];go_roundw;case rel=>exact ⟨_,_,⟨j+1,by omega,RX7,by go_num⟩,rfl,rfl,rfl,rfl⟩
            case measure=>simp [intOf];omega
          | true =>
            have HF:Hid (zH2 (j+1) qs=zH2 j qs ++ [j]):=yO5 (HI2.out.1 rfl);obtain ⟨w7,hw7,b7,B7,h7⟩:=zK4 w6 3 #[.int .i64 (j:Int)];have RX7:=RX6.bQ b7;have hone:=cell_one_new w6 (.int .i64 (j:Int)) 3;rw [hw7] at hone;have HB7:Hid (Below w4.heap.size w4 w7):=HB6.out.trans (b7.mono HB6.out.size);have hb7:=HB7.out.size;have hlu:(pI (zH2 j qs)).length+1<=1000000000:=by rw [zN5];have:=qX3 j qs;omega
            clear RX6 b7 B7
            go_wp2_with (at_builtin;refine qH7 rfl (.tmp 50) (.tmp 52) rfl underlying36 info_int rfl RX7 rfl rfl (by decide) hone (fun u hu=>by (obtain rfl:=List.mem_singleton.1 hu;exact ⟨_,rfl⟩)) hlu hb7 ?_;intro v8 w8 RX8 HG8 HX8)
            rw [qP,<- HF.out] at RX8;have HB8:Hid (Below w4.heap.size w4 w8):=HB7.out.grown HG8.out HB7.out.size (fun g hg=>RX7.1.base_le g hg);clear RX7 hone HG8 HX8;go_wp2;rw [HK.out];go_roundw;case rel=>exact ⟨_,_,⟨j+1,by omega,RX8,HB8,by go_num⟩,rfl,rfl,rfl,rfl⟩
            case measure=>simp [intOf];omega
    · have hjc:j=C:=by omega
      have HPF:Hid (PvI w6 (.slice A5 (pI (zH2 j qs)).length c5) (zH2 C qs)):=by
        have h:=zC8.pvI RX6;rw [hjc] at h |-;exact h
      have HBw:Hid (Below w.heap.size w w6):=HB4.out.trans (HB6.out.mono HB4.out.size)
      have HD:Hid (decide (qs.length<ps.length)=true ↔ ¬ ∀ c,c<m->zP9 n C (zB6 A) (fun i=>zB6 B i c)):=by
        show _ ↔ _
        rw [decide_eq_true_iff,<- HIF.out]
      clear RX6 hjc;go_wp2
      go_ret3
      refine ⟨_,U2,qs,_,rfl,?_,?_,?_,?_,?_,?_,HBw.out⟩
      · rw [<- HN.out.2.1];exact HPF.out
      · rw [<- HN.out.1,<- HN.out.2.1];exact HR.out.sh
      · rw [<- HN.out.1,<- HN.out.2.1];exact HR.out.ech
      · rw [<- HN.out.1];exact HR.out.red
      · rw [<- HN.out.1,<- HN.out.2.1];exact HR.out.ker
      · rw [<- HN.out.1,<- HN.out.2.1,<- HN.out.2.2];exact HD.out
end rat
namespace rat
theorem few_why {A B:List (List Rat)} (h:Few4 A) (k:Few4 B) (ok:zR1 A B):WhyIn A B 9:=by
 have h1:=h.wide;have k1:=k.wide;have h2:=h.len;have hJ:=zX3 ok.sa ok.sb;have hx:2^A.length<=2^4:=bX9 (by omega) h2;have h4:(9+1)*2^A.length<=10*2^4:=bY6 (by omega) hx;refine ⟨ok,⟨by omega,by omega,fun r hr=>(qQ h.row h.lens r hr).mono (by omega),by omega,ok.1.2.2⟩,⟨by rw [hJ.1];omega,by rw [ok.wj];omega,jK9 h.lens k.lens (jO0 h k),by rw [hJ.1];omega,fun r hr=>by rw [ok.wj];exact hJ.2 r hr⟩,fun r hr=>by have:=h.row r hr;omega,fun r hr=>by have:=k.row r hr;omega⟩
end rat
end Go.Proofs.YtagaabooccnamaaGreat
