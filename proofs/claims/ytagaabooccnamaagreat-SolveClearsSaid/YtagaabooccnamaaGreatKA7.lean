/- Package bareiss: Solve. Condition: as it says.
Package solve: Exact. Condition: as it says.
The chapter's example of layer 16. Condition: as each says. -/
import Derived.Test.YtagaabooccnamaaGreatKA6
import Derived.Shelf.Abstract
set_option linter.unusedVariables false
set_option linter.unusedSimpArgs false
set_option maxRecDepth 100000
set_option maxHeartbeats 12800000
open And renaming intro -> zA
open List renaming getElem?_eq_getElem -> zA3, getElem?_eq_some_iff -> zA4, mem_of_getElem? -> zA5, take_of_length_le -> zA7, length_map -> zA9, replicate -> zB
open Nat renaming le_refl -> zB3, le_trans -> zB4
namespace Go.Proofs.YtagaabooccnamaaGreat.rat
open Go.RowKit num mem nat txt str flow whl
theorem jI (a0 a1 : Value) (A B : List (List Int)) (S : Nat) (w : World) (h0 : SlW .u64 4294967296 w a0 A) (h1 : SlW .u64 4294967296 w a1 B) (hc : Hid (zH6 A S /\ zH6 B S /\ (S + 1) * 2 ^ A.length <= 5001)) :
    Calls Tryz.prog 35 #[a0,a1] w (RetSol A B w):=by
  obtain ⟨n,hn⟩ : ∃ n,n = A.length:=⟨_,rfl⟩
  obtain ⟨m,hm⟩ : ∃ m,m = B.length:=⟨_,rfl⟩
  obtain ⟨A0,c0,rfl,hc0,hm0⟩:=h0.shape
  obtain ⟨A1,c1,rfl,hc1,hm1⟩:=h1.shape
  rw [<- hn] at h0 hc0 |-
  rw [<- hm] at h1 hc1 |-
  unfold maxLen at hm0 hm1
  have ba0:=zC8 (w:=w) (zB3 _) (.cells #[.bool false,.slice none 0 0] 60)
  have BR0:=Blk.new w 60 #[.bool false,.slice none 0 0]
  have st0:=h0.below ba0
  have st1:=h1.below ba0
  have HNM:=Lib.hid (zA hn hm)
  clear h0 h1 hn hm
  go_enter Tryz.func35,Tryz.ntmps35
  go_wp2_with fail
  refine (jC8 _ A _ st0).mono ?_
  rintro e w2 (⟨hS,rfl,b2⟩ | ⟨hS,rfl,b2⟩)
  · have HS:=Lib.hid hS
    have BR2:=BR0.below b2
    have st02:=st0.below b2
    have st12:=st1.below b2
    have b02:=ba0.trans (b2.mono ba0.size)
    clear hS BR0 st0 st1 ba0 b2
    go_wp2_with fail
    refine (yH7 _ B _ st12).mono ?_
    rintro e w3 (⟨hE,rfl,b3⟩ | ⟨hE,rfl,b3⟩)
    · have HEv:=Lib.hid hE
      have BR3:=BR2.below b3
      have st03:=st02.below b3
      have st13:=st12.below b3
      have b03:=b02.trans (b3.mono b02.size)
      clear hE BR2 st02 st12 b02 b3
      by_cases hl : n = m
      · have HOK : Hid (okS A B) := ⟨HS.out, HEv.out, by rw [<- HNM.out.1, <- HNM.out.2]; exact hl⟩
        subst hl
        have hn100 : n <= 100:=by rw [HNM.out.1]; exact HOK.out.1.1
        obtain ⟨mk,hmk⟩:=Classical.axiomOfChoice (fun w => qK0 (P:=Tryz.prog) (w:=w) Tryz.underlying73 yI2 n (by omega))
        have hmk1:=fun w => (hmk w).1
        have HMK:=Lib.hid (fun w => (hmk w).2)
        clear hmk
        obtain ⟨tb,bm⟩:=HMK.out w3
        obtain ⟨T0,hT0⟩ : ∃ T0,T0 = zB n ([] : List Int):=⟨_,rfl⟩
        obtain ⟨M,hM⟩ : ∃ M,M = zN1 A B:=⟨_,rfl⟩
        have HML : Hid (M.length = T0.length /\ T0.length = n):=⟨by rw [hM,hT0,qT1 HOK.out.2.2,List.length_replicate,HNM.out.1],by rw [hT0,List.length_replicate]⟩
        have TW0 : zD5 .u64 4294967296 (mk w3) w3.heap.size 48 (zB n (.slice none 0 0)) (zF5 T0 M 0):=by
          rw [zX8,hT0]
          refine ⟨tb,by rw [List.length_replicate,List.length_replicate],fun i u r hu hr => ?_⟩
          obtain rfl:=(List.mem_replicate.1 (zA5 hu)).2
          obtain rfl:=(List.mem_replicate.1 (zA5 hr)).2
          exact qA9 _ _ _ (Nat.zero_le _)
        have HAP0 : Hid (Apt (mk w3) w3.heap.size (zB n (.slice none 0 0))):=by
          refine ⟨fun u hu g e => ?_,fun i j u v hij hu hv g e => ?_⟩
          · obtain rfl:=(List.mem_replicate.1 hu).2
            cases e
          · obtain rfl:=(List.mem_replicate.1 (zA5 hu)).2
            cases e
        have hw3 : w.heap.size < w3.heap.size:=BR3.lt
        have HM:=Lib.hid hM
        have HST:=Lib.hid (zA st03 st13)
        have HB0 : Hid (Below w3.heap.size w3 (mk w3)):=bm
        have HB03:=Lib.hid b03
        have HBR:=Lib.hid BR3
        clear tb bm hT0 hM st03 st13 BR3 b03
        go_wp2
        go_loopw [34] (fun v34 wr => ∃ (i : Nat) (us : List Value),i <= n /\ zD5 .u64 4294967296 wr w3.heap.size 48 us (zF5 T0 M i) /\ Hid (Apt wr w3.heap.size us) /\ Hid (Below w3.heap.size w3 wr) /\ v34 = .int .i64 (i : Int)) (fun v34 _ => n - (intOf v34).toNat)
        case atStart => exact ⟨0,_,by omega,TW0,HAP0,HB0,rfl⟩
        case round =>
          clear TW0 HB0 HAP0
          obtain ⟨i,us,hi,TW,HAP,HBi,rfl⟩:=hrel
          obtain ⟨wi,hwi⟩ : ∃ wi,wi = wr:=⟨_,rfl⟩
          subst hwi
          by_cases hin : i < n
          · obtain ⟨p,hp⟩ : ∃ p,A[i]? = some p:=⟨_,zA3 (by rw [<- HNM.out.1]; exact hin)⟩
            obtain ⟨q,hq⟩ : ∃ q,B[i]? = some q:=⟨_,zA3 (by rw [<- HNM.out.2]; exact hin)⟩
            have hpl : p.length <= 100:=by rw [HOK.out.1.2 p (zA5 hp)]; exact HOK.out.1.1
            have hql : q.length <= 100:=(HOK.out.2.1.2 q (zA5 hq)).2
            have bd:=(Below.refl wi.heap.size wi).drew
            have HBd : Hid (Below w3.heap.size w3 wi.drew):=HBi.out.drew
            have s0d:=HST.out.1.below HBd.out
            have s1d:=HST.out.2.below HBd.out
            obtain ⟨ad0,rfl⟩:=s0d.place (List.length_pos_iff.1 (by have:=HNM.out.1; omega))
            obtain ⟨ad1,rfl⟩:=s1d.place (List.length_pos_iff.1 (by have:=HNM.out.2; omega))
            obtain ⟨Ap,cp,hia,ecp,sp⟩:=s0d.at2 hp
            obtain ⟨Aq,cq,hib,ecq,sq⟩:=s1d.at2 hq
            obtain ⟨pa,hpa,vpa,npa⟩:=sp.pairs
            obtain ⟨pb,hpb,vpb,npb⟩:=sq.pairs
            have hla : pa.length <= 1000:=by rw [<- zA9 (f:=(·.1)),hpa]; omega
            have hlb : pb.length <= 1000:=by rw [<- zA9 (f:=(·.1)),hpb]; omega
            have TMd:=TW.below bd
            obtain ⟨x,hx⟩ : ∃ x,T0[i]? = some x:=⟨_,zA3 (by rw [HML.out.2]; exact hin)⟩
            have hm2 : (zF5 T0 M i)[i]? = some x:=by rw [zV7 HML.out.1 (by rw [HML.out.2]; omega)]; exact hx
            have HMI : Hid ((zF5 T0 M i).set i (p ++ q) = zF5 T0 M (i + 1)):=zV8 HML.out.1 (by rw [HM.out]; exact qL8 hp hq)
            have HX:=Lib.hid hm2
            have HPP:=Lib.hid (zA hpa hpb)
            have ba:=zC8 (w:=wi.drew) (zB3 _) (.cells #[.slice Ap p.length cp,.slice Aq q.length cq] 48)
            have HV:=zQ7 wi.drew 48 [.slice Ap p.length cp,.slice Aq q.length cq]
            have HPA:=Lib.hid (zA (vpa.below ba) (zA (npa.below ba) (zA (vpb.below ba) (npb.below ba))))
            have HBA:=Lib.hid ba
            clear hp hq hx hm2 hpa hpb vpa npa vpb npb ba sp sq s0d s1d hpl hql TW
            go_upto_region 7 with (fail)
            go_region_law (go_simp; go_at_call 72; refine (jG9 _ _ _ pa pb _ (by exact HV) HPA.out.1 HPA.out.2.1 HPA.out.2.2.1 HPA.out.2.2.2 hla hlb).mono ?_; rintro e w6 ⟨V6,rfl,R6,N6,b6⟩; obtain ⟨A6,c6,rfl⟩:=R6.slice; obtain ⟨m6,hm6⟩ : ∃ m6,m6 = (pa ++ pb).length:=⟨_,rfl⟩; rw [<- hm6] at R6 |-; clear hm6; have b06 : Below wi.drew.heap.size wi.drew w6:=HBA.out.trans (b6.mono HBA.out.size); have TM6:=TMd.below b06; obtain ⟨A6',c6',hu6,ec6,-⟩:=TM6.at_ HX.out; have f6:=TM6.1.1.frozen i)
            all_goals
              have sR : SlZ .u64 4294967296 w6 (.slice A6 m6 c6) (p ++ q):=by
                have h:=R6.slP.sl N6
                rwa [List.map_append,HPP.out.1,HPP.out.2] at h
              have TM7:=TM6.stored i sR
              rw [HMI.out] at TM7
              have HB7:=Lib.hid ((HBd.out.trans (b06.mono HBd.out.size)).grown (zF0 w6 w3.heap.size i (.slice A6 m6 c6)) (zB4 HBd.out.size b06.size) (fun x e => by injection e with e; omega))
              have HA7 : Hid (Apt (w6.setCell ⟨w3.heap.size,i,none⟩ (.slice A6 m6 c6)) w3.heap.size (us.set i (.slice A6 m6 c6))):=Apt.newR (HAP.out.grow (zN0 bd)) ((zN0 b06).trans (zQ2 w6 w3.heap.size i _)) HBd.out.size (fun g e => ⟨zB4 HBA.out.size (R6.bk e).1,(zQ2 w6 w3.heap.size i _).2 g (R6.bk e).2⟩)
              clear TM6 sR R6 N6 b6 b06 TMd ec6 f6 ecp ecq HV HAP HBi bd
              go_wp2
              go_roundw
              case rel => exact ⟨i + 1,_,by omega,TM7,HA7,HB7,by go_num⟩
              case measure => simp [intOf]; omega
          · have TWn : zD5 .u64 4294967296 wi w3.heap.size 48 us M:=by
              have h1:=zX9 HML.out.1
              rw [HML.out.2] at h1
              rw [show i = n by omega,h1] at TW
              exact TW
            have hwb : zG B <= 100:=by
              unfold zG
              cases hB : B with
              | nil => simp
              | cons r B' => exact (HOK.out.2.1.2 r (by rw [hB]; exact List.mem_cons_self ..)).2
            have HCW : Hid (shI M n (n + zG B) /\ n <= n + zG B /\ n <= 100 /\ n + zG B <= 200 /\ zH6 M S /\ (S + 1) * 2 ^ n <= 5001):=by
              rw [HM.out,HNM.out.1]
              exact ⟨besI_sh HOK.out,Nat.le_add_right _ _,HOK.out.1.1,by have:=HOK.out.1.1; omega,jG2 HOK.out.2.2 hc.out.1 hc.out.2.1,hc.out.2.2⟩
            clear TW hwb
            go_wp2_with fail
            refine (jD4 w3.heap.size n (n + zG B) S us M _ TWn HCW).mono ?_
            rintro e w5 ⟨hg5,⟨us5,T,d,neg,v5,a,rfl,hv5,TS5,hsh,hlT,hld,hBr,hPr,hAp⟩ | ⟨v5,rfl,hv5,hd0⟩⟩
            · obtain ⟨u5, rfl, s5⟩ := hv5
              obtain ⟨A5,c5,rfl,_⟩:=id s5
              have HAP5 : Hid (Apt w5 w3.heap.size us5):=hAp _ HBi.out.size HAP.out
              have HSV : Hid (SolvedI A B (sgT neg T) (sgn neg d)):=by
                have e:=HNM.out.1
                rw [HM.out] at hPr
                rw [e] at hBr hPr hsh
                exact jG4 HOK.out hBr hPr (by rw [show zG B = A.length + zG B - A.length by omega]; exact hsh) hlT hld
              have hd0 : d ≠ 0:=hBr.ne
              obtain ⟨L,hL⟩ : ∃ L,L = zG B:=⟨_,rfl⟩
              have HSH : Hid (shI T n L):=by rw [hL,show zG B = n + zG B - n by omega]; exact hsh
              obtain ⟨X,hX⟩ : ∃ X,X = sgT neg T:=⟨_,rfl⟩
              have HX:=Lib.hid hX
              have HXL : Hid (X.length = T.length /\ T.length = n):=⟨by rw [hX,yK],hsh.1⟩
              have HLT:=Lib.hid hlT
              have hLb : L <= 100:=by
                rw [hL]
                unfold zG
                cases hB : B with
                | nil => simp
                | cons r B' => exact (HOK.out.2.1.2 r (by rw [hB]; exact List.mem_cons_self ..)).2
              have HLD:=Lib.hid hld
              have hsz5 : w3.heap.size <= w5.heap.size:=zB4 HBi.out.size hg5.size
              have b05:=HB03.out.trans (HBi.out.mono HB03.out.size)
              have b06:=b05.grown hg5 b05.size (fun x e => by injection e with e; omega)
              have BR5:=Blk.grown (HBR.out.below HBi.out) hg5 (show w.heap.size ≠ w3.heap.size by omega)
              have ba:=zC8 (w:=w5) (zB3 _) (.cells #[.bool (ngB d),.slice A5 (digs 4294967296 d.natAbs).length c5] 60)
              have B6:=Blk.new w5 60 #[.bool (ngB d),.slice A5 (digs 4294967296 d.natAbs).length c5]
              have s6:=s5.below ba
              have BR6:=BR5.below ba
              have b07:=b06.trans (ba.mono b06.size)
              have TS6:=TS5.below ba
              have HAP6:=Lib.hid (HAP5.out.grow (zN0 ba))
              have HGR : Hid (∀ u ∈ us5,∀ g,u.ownBlock = some g -> w3.heap.size <= g /\ g < w5.heap.size):=fun u hu g e => ⟨(HAP5.out.1 u hu g e).1,(HAP5.out.1 u hu g e).2.lt⟩
              obtain ⟨t,ht⟩ : ∃ t,t = zJ5 d 0:=⟨_,rfl⟩
              have hz1 : (t == 0) = false:=by rw [ht,beq_eq_false_iff_ne]; exact fun e => hd0 ((qS d).1 e)
              have HT:=Lib.hid ht
              clear hsh hlT hld hBr hPr hAp hX hL ht hd0 hg5 b05 b06 BR5 s5 ba TS5 TWn HAP HBi
              go_wp2_with fail
              refine (zZ9 _ d t _ ⟨_,rfl,s6⟩ HT.out).mono ?_
              rintro e w7 ⟨rfl,b7⟩
              have BR7:=BR6.below b7
              have B7:=B6.below b7
              have s7:=s6.below b7
              have TS7 : zD5 .u64 4294967296 w7 w3.heap.size 48 us5 (zF5 T X 0):=by rw [zX8]; exact TS6.below b7
              have HAP7:=Lib.hid (HAP6.out.grow (zN0 b7))
              have HB7 : Hid (Below w.heap.size w w7):=b07.trans (b7.mono b07.size)
              clear BR6 B6 s6 TS6 HAP6 b07 b7
              go_wp2
              go_loopw [62] (fun v62 wr => ∃ i : Nat,i <= n /\ zD5 .u64 4294967296 wr w3.heap.size 48 us5 (zF5 T X i) /\ Hid (Apt wr w3.heap.size us5) /\ Blk wr w5.heap.size 60 #[.bool (ngB d),.slice A5 (digs 4294967296 d.natAbs).length c5] /\ IsS wr .u64 (.slice A5 (digs 4294967296 d.natAbs).length c5) (digs 4294967296 d.natAbs) /\ Blk wr w.heap.size 60 #[.bool false,.slice none 0 0] /\ Hid (Below w.heap.size w wr) /\ v62 = .int .i64 (i : Int)) (fun v62 _ => n - (intOf v62).toNat)
              case atStart => exact ⟨0,by omega,TS7,HAP7,B7,s7,BR7,HB7,rfl⟩
              case round =>
                clear TS7 HAP7 B7 s7 BR7 HB7
                obtain ⟨i,hi,TS,HAP,BP,su,BR,HB,rfl⟩:=hrel
                obtain ⟨wo,hwo⟩ : ∃ wo,wo = wr:=⟨_,rfl⟩
                subst hwo
                by_cases hin : i < n
                · obtain ⟨r,hr,hrl⟩:=zT6 HSH.out hin
                  have hr2 : (zF5 T X i)[i]? = some r:=by rw [zV7 HXL.out.1 (by rw [HXL.out.2]; omega)]; exact hr
                  obtain ⟨Ar,cr,hur,ecr,sr⟩:=TS.at_ hr2
                  obtain ⟨r2,hr3⟩ : ∃ r2,r2 = sgR neg r:=⟨_,rfl⟩
                  have HRX : Hid (X[i]? = some r2):=by rw [HX.out,hr3]; exact yK0 hr
                  have HRL : Hid (r2.length = r.length /\ r.length = L):=⟨by rw [hr3,yK1],hrl⟩
                  have HRZ : Hid (∀ (j : Nat) (z : Int),r[j]? = some z -> r2[j]? = some (sgn neg z) /\ zC1 z <= 5000):=by
                    show ∀ j z,_
                    intro j z hz
                    rw [hr3]
                    exact ⟨sgR_at hz,HLT.out r (zA5 hr) z (zA5 hz)⟩
                  have HR:=Lib.hid (zA hr hr2)
                  have HUR:=Lib.hid hur
                  have TS0 : zD5 .u64 4294967296 wo w3.heap.size 48 us5 ((zF5 T X i).set i (zM5 r r2 0)):=by rw [jG5,jG8 hr2]; exact TS
                  have HL : Hid (i < (zF5 T X i).length):=(zA4.1 hr2).1
                  obtain ⟨rl,hrl2⟩ : ∃ rl,rl = r.length:=⟨_,rfl⟩
                  rw [<- hrl2] at hur ecr sr
                  have HRL2:=Lib.hid hrl2
                  have hrlb : rl <= 100:=by omega
                  have HURL : Hid (us5[i]? = some (.slice Ar rl cr)):=hur
                  clear hr hr2 hr3 hrl hur sr TS HUR hrl2
                  go_wp2
                  go_loopw [70] (fun v70 wr => ∃ j : Nat,j <= rl /\ zD5 .u64 4294967296 wr w3.heap.size 48 us5 ((zF5 T X i).set i (zM5 r r2 j)) /\ Hid (Apt wr w3.heap.size us5) /\ Blk wr w5.heap.size 60 #[.bool (ngB d),.slice A5 (digs 4294967296 d.natAbs).length c5] /\ IsS wr .u64 (.slice A5 (digs 4294967296 d.natAbs).length c5) (digs 4294967296 d.natAbs) /\ Blk wr w.heap.size 60 #[.bool false,.slice none 0 0] /\ Hid (Below w.heap.size w wr) /\ v70 = .int .i64 (j : Int)) (fun v70 _ => rl - (intOf v70).toNat)
                  case atStart => exact ⟨0,by omega,TS0,HAP,BP,su,BR,HB,rfl⟩
                  case round =>
                    clear TS0 HAP BP su BR HB ecr
                    obtain ⟨j,hj,TS,HAP,BP,su,BR,HB,rfl⟩:=hrel
                    obtain ⟨wi2,hwi2⟩ : ∃ wi2,wi2 = wr:=⟨_,rfl⟩
                    subst hwi2
                    by_cases hjl : j < rl
                    · obtain ⟨z,hz⟩ : ∃ z,r[j]? = some z:=⟨_,zA3 (by rw [<- HRL2.out]; exact hjl)⟩
                      have hmj : (zM5 r r2 j)[j]? = some z:=by rw [mixR_at HRL.out.1 (by rw [<- HRL2.out]; omega)]; exact hz
                      obtain ⟨Z,hZ⟩ : ∃ Z,Z = sgn neg z:=⟨_,rfl⟩
                      have hzl : zC1 z <= 5000:=(HRZ.out j z hz).2
                      have CG : ∀ w a,IsZ w a z -> Calls Tryz.prog 75 #[.bool neg,a] w (zE2 Z w):=fun w a h => by rw [hZ]; exact yI1 neg a z w h (by omega)
                      have HSET : Hid ((zM5 r r2 j).set j Z = zM5 r r2 (j + 1)):=jG7 HRL.out.1 (by rw [hZ]; exact (HRZ.out j z hz).1)
                      have hcur : ((zF5 T X i).set i (zM5 r r2 j))[i]? = some (zM5 r r2 j):=List.getElem?_set_self HL.out
                      have HCUR:=Lib.hid hcur
                      have bd:=(Below.refl wi2.heap.size wi2).drew
                      have TSd:=TS.below bd
                      have srow:=TSd.2.2 i _ _ HURL.out hcur
                      obtain ⟨gr,or,rfl,hgr⟩:=srow.place (fun e => by rw [e] at hmj; simp at hmj)
                      obtain ⟨uz,hjn,p0,p1,sz⟩:=srow.at2 hmj
                      obtain ⟨Az,cz,rfl,_⟩:=id sz
                      have ecd:=TSd.1.cell HURL.out
                      rw [zQ0] at ecd
                      have hfz:=((HAP.out.1 _ (zA5 HURL.out) gr rfl).2)
                      have hgb:=HGR.out _ (zA5 HURL.out) gr rfl
                      have hix:=fun w => zV4 (P:=Tryz.prog) Tryz.underlying48 (by kernel_rfl) (g:=gr) (o:=or) (c:=cr) hjn w
                      have BPd:=BP.below bd
                      have sud:=su.below bd
                      have BRd:=BR.below bd
                      have HBd : Hid (Below w.heap.size w wi2.drew):=HB.out.drew
                      have HAPd:=Lib.hid (HAP.out.grow (zN0 bd))
                      have fz:=(zN0 bd).2 gr hfz
                      have f0:=fz.frozen (or + j * 2)
                      have f1:=fz.frozen (or + j * 2 + 1)
                      have HMJ:=Lib.hid (zA hmj (zA4.1 hmj).1)
                      have hszd:=HBd.out.size
                      clear hz hmj hZ hzl hcur hgr TS BP su BR HB HAP bd hfz
                      go_upto_region 18 with (fail)
                      go_region_law (go_simp; go_at_call 75; refine (CG _ _ ⟨_,rfl,by exact sz⟩).mono ?_; rintro e w8 ⟨v8,rfl,k8,-,b8⟩; obtain ⟨u8,rfl,s8⟩:=k8; obtain ⟨A8,c8,rfl,_⟩:=id s8; have TS8:=TSd.below b8; have srow8:=TS8.2.2 i _ _ HURL.out HCUR.out; obtain ⟨uz8,-,p08,p18,sz8⟩:=srow8.at2 HMJ.out.1; have ec8:=TS8.1.cell HURL.out; rw [zQ0] at ec8; have fz8:=(zN0 b8).2 gr fz; have f08:=fz8.frozen (or + j * 2); have f18:=fz8.frozen (or + j * 2 + 1))
                      all_goals
                        obtain ⟨TS9,hne9⟩:=TS8.setZ (HAPd.out.grow (zN0 b8)) HURL.out HCUR.out HMJ.out.2 s8
                        obtain ⟨Az8,cz8,rfl,_⟩:=id sz8
                        rw [HSET.out,List.set_set] at TS9
                        have G9:=qS7 w8 gr (or + j * 2) (.bool (ngB Z)) (.slice A8 (digs 4294967296 Z.natAbs).length c8)
                        have BP9:=Blk.grown (BPd.below b8) G9 (by omega)
                        have su9:=Go.Proofs.YtagaabooccnamaaGreat.rat.IsS.put2 (x:=.bool (ngB Z)) (y:=.slice A8 (digs 4294967296 Z.natAbs).length c8) (sud.below b8) p08 p18
                        have BR9:=Blk.grown (BRd.below b8) G9 (by omega)
                        have HB9:=Lib.hid ((HBd.out.trans (b8.mono hszd)).grown G9 (zB4 hszd b8.size) (fun x e => by injection e with e; omega))
                        have HAP9:=Lib.hid ((HAPd.out.grow (zN0 b8)).grow ((zQ2 w8 gr (or + j * 2) (.bool (ngB Z))).trans (zQ2 _ gr (or + j * 2 + 1) (.slice A8 (digs 4294967296 Z.natAbs).length c8))))
                        clear TS8 srow8 sz8 p08 p18 ec8 fz8 f08 f18 s8 b8 G9 TSd srow p0 p1 sz ecd BPd sud BRd fz f0 f1 HAPd HBd
                        go_wp2
                        go_roundw
                        case rel => exact ⟨j + 1,by omega,TS9,HAP9,BP9,su9,BR9,HB9,by go_num⟩
                        case measure => simp [intOf]; omega
                    · have TS9 : zD5 .u64 4294967296 wi2 w3.heap.size 48 us5 (zF5 T X (i + 1)):=by
                        have h1:=jG6 HRL.out.1
                        rw [show j = r.length by rw [<- HRL2.out]; omega,h1,zV8 HXL.out.1 HRX.out] at TS
                        exact TS
                      clear TS
                      go_wp2
                      go_roundw
                      case rel => exact ⟨i + 1,by omega,TS9,HAP,BP,su,BR,HB,by go_num⟩
                      case measure => simp [intOf]; omega
                · have TSn : zD5 .u64 4294967296 wo w3.heap.size 48 us5 X:=by
                    have h1:=zX9 HXL.out.1
                    rw [HXL.out.2] at h1
                    rw [show i = n by omega,h1] at TS
                    exact TS
                  obtain ⟨Z,hZ⟩ : ∃ Z,Z = sgn neg d:=⟨_,rfl⟩
                  have CG : ∀ w a,IsZ w a d -> Calls Tryz.prog 75 #[.bool neg,a] w (zE2 Z w):=fun w a h => by rw [hZ]; exact yI1 neg a d w h (by have:=HLD.out; omega)
                  have HSV2 : Hid (SolvedI A B X Z):=by rw [HX.out,hZ]; exact HSV.out
                  obtain ⟨V0,V1,F0,F1⟩:=Blk.two BP
                  clear TS hZ HSV HAP
                  go_wp2_with fail
                  refine (CG _ _ ⟨_,rfl,su⟩).mono ?_
                  rintro e w8 ⟨v8,rfl,k8,-,b8⟩
                  obtain ⟨u8,rfl,s8⟩:=k8
                  obtain ⟨A8,c8,rfl,_⟩:=id s8
                  have BR8:=BR.below b8
                  have TS8:=TSn.below b8
                  have b08:=HB.out.trans (b8.mono HB.out.size)
                  obtain ⟨W0,W1,K0,K1⟩:=Blk.two BR8
                  have G9:=zV9 w8 w.heap.size (.bool (ngB Z)) (.slice A8 (digs 4294967296 Z.natAbs).length c8)
                  obtain ⟨C0,C1,-,-⟩:=Blk.two (zT7 BR8 (.bool (ngB Z)) (.slice A8 (digs 4294967296 Z.natAbs).length c8))
                  have s9:=Go.Proofs.YtagaabooccnamaaGreat.flow.off s8 BR8 no_ints2 G9
                  have HB9:=Lib.hid (b08.grown G9 b08.size (fun k e => by injection e with e; omega))
                  have TS9:=TS8.offZ BR8 no_ints2 (by decide) G9 (fun u hu e => by have:=(HGR.out u hu _ e).1; omega)
                  have SL9:=TS9.sub (o:=0) (m:=n) (c:=n) (by have:=HXL.out; omega) (zB3 n) (by unfold maxLen; omega)
                  rw [List.drop_zero,zA7 (by have:=HXL.out; omega)] at SL9
                  clear TS9 G9 TS8 BR8 b08 b8 s8 BR HB TSn su BP V0 V1 F0 F1 CG
                  go_wp2
                  refine bodyPost_ret (v:=.tuple #[.slice (some ⟨w3.heap.size,0,none⟩) n n,.agg #[.bool (ngB Z),.slice A8 (digs 4294967296 Z.natAbs).length c8],.int .i64 0]) (by simp [results,Tryz.results35,go_sem,C0,C1]) rfl ?_
                  exact ⟨HB9.out,.inl ⟨HOK.out,_,_,Z,X,rfl,SL9,⟨_,rfl,s9⟩,HSV2.out⟩⟩
            · obtain ⟨u5,rfl,s5⟩:=hv5
              obtain ⟨A5,c5,rfl,_⟩:=id s5
              have HN : Hid (zC6 A.length (qF (zC4 A)) = 0):=by
                have e:=HNM.out.1
                rw [HM.out,e,yK3 HOK.out] at hd0
                exact hd0
              obtain ⟨O,hO⟩ : ∃ O : Int,O = 0:=⟨_,rfl⟩
              have s5o : IsS w5 .u64 (.slice A5 (digs 4294967296 (0 : Int).natAbs).length c5) (digs 4294967296 O.natAbs):=by rw [hO]; exact s5
              obtain ⟨b5,hb5⟩ : ∃ b5,b5 = ngB 0:=⟨_,rfl⟩
              obtain ⟨l5,hl5⟩ : ∃ l5,l5 = (digs 4294967296 (0 : Int).natAbs).length:=⟨_,rfl⟩
              rw [<- hb5,<- hl5]
              rw [<- hl5] at s5o
              have hbo : b5 = ngB O:=by rw [hb5,hO]
              obtain ⟨t,ht⟩ : ∃ t,t = zJ5 O 0:=⟨_,rfl⟩
              have hz1 : (t == 0) = true:=by rw [ht,beq_iff_eq]; exact (qS O).2 hO
              have HT:=Lib.hid ht
              have HBO:=Lib.hid hbo
              have b05:=HB03.out.trans (HBi.out.mono HB03.out.size)
              have b06:=b05.grown hg5 b05.size (fun x e => by injection e with e; omega)
              have BR5:=Blk.grown (HBR.out.below HBi.out) hg5 (show w.heap.size ≠ w3.heap.size by omega)
              have ba:=zC8 (w:=w5) (zB3 _) (.cells #[.bool b5,.slice A5 l5 c5] 60)
              have B6:=Blk.new w5 60 #[.bool b5,.slice A5 l5 c5]
              have s6:=s5o.below ba
              have BR6:=BR5.below ba
              have b07:=b06.trans (ba.mono b06.size)
              clear hd0 hO hb5 hl5 hbo ht hg5 b05 b06 BR5 s5 s5o ba TWn HAP HBi
              go_wp2_with fail
              refine (zZ9 _ O t _ ⟨_,by rw [<- HBO.out],s6⟩ HT.out).mono ?_
              rintro e w7 ⟨rfl,b7⟩
              have BR7:=BR6.below b7
              have b08:=b07.trans (b7.mono b07.size)
              clear BR6 B6 s6 b07 b7
              skip
              obtain ⟨V0,V1,F0,F1⟩:=Blk.two BR7
              have G8:=zV9 w7 w.heap.size (.bool false) (.slice none 0 0)
              obtain ⟨C0,C1,-,-⟩:=Blk.two (zT7 BR7 (.bool false) (.slice none 0 0))
              have HB:=Lib.hid (b08.grown G8 b08.size (fun k e => by injection e with e; omega))
              clear G8 BR7 b08
              go_wp2
              refine bodyPost_ret (v:=.tuple #[.slice none 0 0,.agg #[.bool false,.slice none 0 0],.int .i64 7]) (by simp [results,Tryz.results35,go_sem,C0,C1]) rfl ?_
              exact ⟨HB.out,.inr (.inl ⟨HOK.out,HN.out,rfl⟩)⟩
      · have HN : Hid (¬ okS A B):=fun h => hl (by rw [HNM.out.1,HNM.out.2]; exact h.2.2)
        have g1 : (((n : Nat) : Int) != ((m : Nat) : Int)) = true:=by rw [bne_iff_ne]; omega
        obtain ⟨V0,V1,F0,F1⟩:=Blk.two BR3
        have G8:=zV9 w3 w.heap.size (.bool false) (.slice none 0 0)
        obtain ⟨C0,C1,-,-⟩:=Blk.two (zT7 BR3 (.bool false) (.slice none 0 0))
        have HB:=Lib.hid (b03.grown G8 b03.size (fun k e => by injection e with e; omega))
        clear G8 BR3 b03 st03 st13
        go_wp2
        refine bodyPost_ret (v:=.tuple #[.slice none 0 0,.agg #[.bool false,.slice none 0 0],.int .i64 8]) (by simp [results,Tryz.results35,go_sem,C0,C1]) rfl ?_
        exact ⟨HB.out,.inr (.inr ⟨HN.out,rfl⟩)⟩
    · have HN : Hid (¬ okS A B):=fun h => hE h.2.1
      have BR3:=BR2.below b3
      have b03:=b02.trans (b3.mono b02.size)
      clear hE BR2 b02 b3 st02 st12
      obtain ⟨V0,V1,F0,F1⟩:=Blk.two BR3
      have G8:=zV9 w3 w.heap.size (.bool false) (.slice none 0 0)
      obtain ⟨C0,C1,-,-⟩:=Blk.two (zT7 BR3 (.bool false) (.slice none 0 0))
      have HB:=Lib.hid (b03.grown G8 b03.size (fun k e => by injection e with e; omega))
      clear G8 BR3 b03
      go_wp2
      refine bodyPost_ret (v:=.tuple #[.slice none 0 0,.agg #[.bool false,.slice none 0 0],.int .i64 8]) (by simp [results,Tryz.results35,go_sem,C0,C1]) rfl ?_
      exact ⟨HB.out,.inr (.inr ⟨HN.out,rfl⟩)⟩
  · have HN : Hid (¬ okS A B):=fun h => hS h.1
    have BR2:=BR0.below b2
    have b02:=ba0.trans (b2.mono ba0.size)
    clear hS BR0 ba0 b2 st0 st1
    obtain ⟨V0,V1,F0,F1⟩:=Blk.two BR2
    have G8:=zV9 w2 w.heap.size (.bool false) (.slice none 0 0)
    obtain ⟨C0,C1,-,-⟩:=Blk.two (zT7 BR2 (.bool false) (.slice none 0 0))
    have HB:=Lib.hid (b02.grown G8 b02.size (fun k e => by injection e with e; omega))
    clear G8 BR2 b02
    go_wp2
    refine bodyPost_ret (v:=.tuple #[.slice none 0 0,.agg #[.bool false,.slice none 0 0],.int .i64 8]) (by simp [results,Tryz.results35,go_sem,C0,C1]) rfl ?_
    exact ⟨HB.out,.inr (.inr ⟨HN.out,rfl⟩)⟩
structure ExIn (A B : List (List Rat)) (S : Nat) : Prop where
 wide : A.length + zD3 B <= 100
 la : zI6 A S
 lb : zI6 B S
 small : S <= 100
 steps : (S + (1 + S * (A.length + zD3 B)) + 1) * 2 ^ A.length <= 5001
 big : dZ (S + (1 + S * (A.length + zD3 B))) A.length <= 1000
theorem jI0 (a0 a1 : Value) (A B : List (List Rat)) (S : Nat) (w : World) (h0 : SlT .u64 4294967296 w a0 A) (h1 : SlT .u64 4294967296 w a1 B) (hc : Hid (ExIn A B S)) :
  Calls Tryz.prog 9 #[a0,a1] w (qS6 A B 1000 w):=by
 obtain ⟨A0,c0,rfl,hc0,hm0⟩:=h0.shape
 obtain ⟨A1,c1,rfl,hc1,hm1⟩:=h1.shape
 unfold maxLen at hm0 hm1
 have HS0:=Lib.hid h0
 have HS1:=Lib.hid h1
 obtain ⟨m,hm⟩ : ∃ m,m = zD3 B:=⟨_,rfl⟩
 have hnm : A.length + m <= 100:=by rw [hm]; exact hc.out.wide
 have HM:=Lib.hid hm
 clear h0 h1
 go_enter Tryz.func9,Tryz.ntmps9
 go_wp2_with fail
 refine (qE8 _ B _ HS1.out).mono ?_
 rintro e w1 ⟨rfl,b1⟩
 rw [<- hm]
 clear hm
 by_cases ho : okq A B
 ·have CF:=qL4 _ _ A B true _ (HS0.out.below b1) (HS1.out.below b1) ⟨fun _ => ho,fun _ => rfl⟩
  have HO:=Lib.hid ho
  have HB1:=Lib.hid b1
  clear ho
  go_wp2_with fail
  refine CF.mono ?_
  rintro e w2 ⟨rfl,b2⟩
  have HB2 : Hid (Below w.heap.size w w2):=HB1.out.trans (b2.mono HB1.out.size)
  have hmx1 : ¬ (100 : Int) < ((A.length : Nat) : Int):=by omega
  have hmx2 : ¬ (100 : Int) < ((m : Nat) : Int):=by omega
  clear b1 b2 CF
  obtain ⟨T,hT⟩ : ∃ T,T = S + (1 + S * (A.length + zD3 B)):=⟨_,rfl⟩
  have HSZ : Hid ((T + 1) * 2 ^ A.length <= 5001 /\ dZ T A.length <= 1000):=⟨by rw [hT]; exact hc.out.steps,by rw [hT]; exact hc.out.big⟩
  have HLN : Hid (zH6 (zJ4 A B) T /\ zH6 (zJ7 A B) T):=by
   show _ /\ _
   rw [hT]; exact jH6 HO.out hc.out.la hc.out.lb
  have HOS : Hid (okS (zJ4 A B) (zJ7 A B)):=jH5 HO.out hc.out.wide
  have HLA : Hid ((zJ4 A B).length = A.length):=(qL9 HO.out).1
  clear hT
  have CK:=fun w2 h0 h1 => jH (.slice A0 A.length c0) (.slice A1 B.length c1) A B S w2 h0 h1 ⟨HO.out,hc.out.wide,hc.out.la,hc.out.lb,hc.out.small⟩
  go_wp2_with fail
  all_goals
   refine (CK _ (HS0.out.below HB2.out) (HS1.out.below HB2.out)).mono ?_
   rintro e w3 ⟨V3,U3,rfl,sv3,su3,b3⟩
   have HB3 : Hid (Below w.heap.size w w3):=HB2.out.trans (b3.mono HB2.out.size)
   obtain ⟨AV,cV,rfl,-,-⟩:=id sv3.shape
   obtain ⟨AU,cU,rfl,-,-⟩:=id su3.shape
   have CS:=jI _ _ (zJ4 A B) (zJ7 A B) T w3 sv3 su3 ⟨HLN.out.1,HLN.out.2,by rw [HLA.out]; exact HSZ.out.1⟩
   obtain ⟨P,hP⟩ : ∃ P,P = zJ4 A B:=⟨_,rfl⟩
   obtain ⟨Q,hQ⟩ : ∃ Q,Q = zJ7 A B:=⟨_,rfl⟩
   rw [<- hP,<- hQ] at CS
   have HPQ:=Lib.hid (zA hP hQ)
   rw [<- hP,<- hQ]
   clear CK b3 sv3 su3 hP hQ
   go_wp2_with fail
   refine CS.mono ?_
   rintro e w4 ⟨b4,(⟨-,V4,v4,d,X,rfl,sv4,hz4,hS4⟩ | ⟨-,hD4,rfl⟩ | ⟨hn4,_⟩)⟩
   ·have HB4 : Hid (Below w.heap.size w w4):=HB3.out.trans (b4.mono HB3.out.size)
    obtain ⟨u4,rfl,s4⟩:=hz4
    obtain ⟨A4,c4,rfl,_⟩:=id s4
    obtain ⟨AX,cX,rfl,-,-⟩:=id sv4.shape
    obtain ⟨wx,hwx,bx,BX,hsx⟩:=zN8 w4 60 #[.bool false,.slice none 0 0]
    obtain ⟨V0,V1,F0,F1⟩:=Blk.two BX
    obtain ⟨C0,C1,-,-⟩:=Blk.two (zT7 BX (.bool (ngB d)) (.slice A4 (digs 4294967296 d.natAbs).length c4))
    have b8:=(bx.setCell (p:=⟨w4.heap.size,0,none⟩) (zB3 _) (.bool (ngB d))).setCell (p:=⟨w4.heap.size,1,none⟩) (zB3 _) (.slice A4 (digs 4294967296 d.natAbs).length c4)
    have sX8:=sv4.below b8
    have s8:=s4.below b8
    have HB8 : Hid (Below w.heap.size w _):=HB4.out.trans (b8.mono HB4.out.size)
    rw [HPQ.out.1,HPQ.out.2] at hS4
    have HSOL : Hid (SolQ A B (zJ1 d X)):=jH8 HO.out hS4
    have HDET : Hid (zC6 A.length (zB9 A) ≠ 0):=by
     refine (yL0 HO.out).1 ?_
     have h:=hS4.det
     rw [HLA.out] at h
     rw [<- h]
     exact fun e => hS4.ne (Rat.intCast_eq_zero_iff.1 e)
    have hcr:=jH9 (S:=T) hS4 HLN.out.1 HLN.out.2 (by rw [HLA.out]; exact qL9 HO.out) (by rw [HLA.out,qF3 HO.out]; exact qT3 HO.out)
    rw [HLA.out] at hcr
    have HCR : Hid (zC1 d <= 1000 /\ zH6 X 1000):=⟨zB4 hcr.1 HSZ.out.2,fun r hr z hz => zB4 (hcr.2 r hr z hz) HSZ.out.2⟩
    have hsh:=hS4.sh
    rw [HLA.out,qF3 HO.out] at hsh
    have HLT : Hid (zI6 (zJ1 d X) 1000):=by
     show zI6 _ _
     intro r hr x hx
     unfold zJ1 at hr
     obtain ⟨y,hy,rfl⟩:=List.mem_map.1 hr
     unfold zL5 at hx
     obtain ⟨z,hz,rfl⟩:=List.mem_map.1 hx
     exact jH3 hS4.ne (HCR.out.2 y hy z hz) HCR.out.1
    have CO:=fun W v u (h0 : SlW .u64 4294967296 W v X) (h1 : IsZ W u d) => jE5 v u X d A.length (zD3 B) W h0 h1 hS4.ne ⟨hsh.1,hsh.2,by omega,by have:=HM.out; omega,HCR.out.1,HCR.out.2⟩
    clear hS4 hcr hsh sv4 s4 b8 BX bx CS b4
    go_wp2_with fail
    refine (CO _ _ _ (by exact sX8) ⟨_,rfl,(by exact s8)⟩).mono ?_
    rintro e w9 ⟨v9,rfl,s9,b9⟩
    have HS9:=Lib.hid s9
    have HB9 : Hid (Below w.heap.size w w9):=HB8.out.trans (b9.mono HB8.out.size)
    clear s9 b9 sX8 s8 CO C0 C1 V0 V1 F0 F1 hwx
    go_wp2
    go_ret2
    exact .inl ⟨HO.out,HB9.out,.inl ⟨HDET.out,v9,zJ1 d X,rfl,HS9.out,HSOL.out,HLT.out⟩⟩
   ·have HB4 : Hid (Below w.heap.size w w4):=HB3.out.trans (b4.mono HB3.out.size)
    have HDET : Hid (zC6 A.length (zB9 A) = 0):=Classical.byContradiction fun h => (yL0 HO.out).2 h (by rw [HPQ.out.1,HLA.out] at hD4; exact hD4)
    obtain ⟨wx,hwx,bx,BX,hsx⟩:=zN8 w4 60 #[.bool false,.slice none 0 0]
    obtain ⟨V0,V1,F0,F1⟩:=Blk.two BX
    have b8:=(bx.setCell (p:=⟨w4.heap.size,0,none⟩) (zB3 _) (.bool false)).setCell (p:=⟨w4.heap.size,1,none⟩) (zB3 _) (.slice none 0 0)
    have HB8 : Hid (Below w.heap.size w _):=HB4.out.trans (b8.mono HB4.out.size)
    clear hD4 BX bx b8 CS b4
    go_wp2
    go_ret2
    exact .inl ⟨HO.out,HB8.out,.inr ⟨HDET.out,rfl⟩⟩
   ·rw [HPQ.out.1,HPQ.out.2] at hn4
    exact absurd HOS.out hn4
 ·have CF:=qL4 _ _ A B false _ (HS0.out.below b1) (HS1.out.below b1) ⟨fun h => Bool.noConfusion h,fun h => absurd h ho⟩
  have HO:=Lib.hid ho
  clear ho
  go_wp2_with fail
  refine CF.mono ?_
  rintro e w2 ⟨rfl,b2⟩
  have HB2 : Hid (Below w.heap.size w w2):=b1.trans (b2.mono b1.size)
  clear CF b1 b2
  go_wp2
  go_ret2
  exact .inr ⟨HO.out,rfl,HB2.out⟩
end Go.Proofs.YtagaabooccnamaaGreat.rat
namespace Go.Proofs.YtagaabooccnamaaGreat.rat
open Go.RowKit Go.Shelf num mem nat txt str flow whl
theorem qF4 (w : World) (T1 T2 : TypeId) {q : Rat} {u t : Value} (h1 : IsS w .u64 u (digs 4294967296 q.num.natAbs)) (h2 : IsS w .u64 t (digs 4294967296 q.den)) :
  ∃ w2,(w.alloc (.cells #[.bool (ngB q.num),u,t] T1)).alloc (.cells #[.slice (some ⟨w.heap.size,0,none⟩) 1 1] T2) = w2 /\ SlT .u64 4294967296 w2 (.slice (some ⟨w.heap.size + 1,0,none⟩) 1 1) [[q]] /\ Below w.heap.size w w2:=by
 obtain ⟨w1,hw1⟩ : ∃ w1,w1 = w.alloc (.cells #[.bool (ngB q.num),u,t] T1):=⟨_,rfl⟩
 have hs:=yZ w T1 h1 h2
 have b1:=zC8 (w:=w) (zB3 _) (.cells #[.bool (ngB q.num),u,t] T1)
 have hz : w1.heap.size = w.heap.size + 1:=by rw [hw1]; simp
 rw [<- hw1] at hs b1 |-
 have b2:=zC8 (w:=w1) (zB3 _) (.cells #[.slice (some ⟨w.heap.size,0,none⟩) 1 1] T2)
 have hv:=zQ7 w1 T2 [.slice (some ⟨w.heap.size,0,none⟩) 1 1]
 have st:=slT_one hv (hs.below b2) (fun A n c e => by injection e with _ _ e3; subst e3; unfold maxLen; simp)
 rw [hz] at st
 exact ⟨_,rfl,st,b1.trans (b2.mono b1.size)⟩
theorem jI1 : zI6 [[(2 : Rat)]] 1 /\ zI6 [[(1 : Rat)]] 1 /\ zI6 [[(2 : Rat),1]] 1:=by
 have h2 : zC7 (2 : Rat) 1:=⟨zI0 (k:=1) (by omega) (by decide +kernel),zI0 (k:=1) (by omega) (by decide +kernel)⟩
 have h1 : zC7 (1 : Rat) 1:=⟨zI0 (k:=1) (by omega) (by decide +kernel),zI0 (k:=1) (by omega) (by decide +kernel)⟩
 refine ⟨fun r hr x hx => ?_,fun r hr x hx => ?_,fun r hr x hx => ?_⟩
 ·simp at hr; subst hr; simp at hx; subst hx; exact h2
 ·simp at hr; subst hr; simp at hx; subst hx; exact h1
 ·simp at hr; subst hr; simp at hx; rcases hx with rfl | rfl; exact h2; exact h1
theorem yL1 : SolIn [[(2 : Rat)]] [[(1 : Rat)]] 3 /\ ExIn [[(2 : Rat)]] [[(1 : Rat)]] 1:=by
 obtain ⟨l1,l2,l3⟩:=jI1
 refine ⟨⟨by simp,by show 1 + 1 <= 200; omega,fun r hr x hx => (l1 r hr x hx).mono (by omega),fun r hr x hx => (l2 r hr x hx).mono (by omega),fun _ => ?_⟩,⟨by show 1 + 1 <= 100; omega,l1,l2,by omega,by show (1 + (1 + 1 * (1 + 1)) + 1) * 2 ^ 1 <= 5001; omega,by show dZ (1 + (1 + 1 * (1 + 1))) 1 <= 1000; decide⟩⟩
 show qF0 [[(2 : Rat),1]] 3
 have hs : shp [[(2 : Rat),1]] 1 2:=⟨rfl,fun r hr => by simp at hr; subst hr; rfl⟩
 exact ⟨by simp,by show 2 <= 200; omega,yW4 hs l3,by omega,by simp,by simp⟩
theorem ex16_ok : okq [[(2 : Rat)]] [[(1 : Rat)]]:=⟨rfl,⟨by simp,by show 1 <= 200; omega,fun r hr => by simp at hr; subst hr; rfl⟩,⟨by simp,by show 1 <= 200; omega,fun r hr => by simp at hr; subst hr; rfl⟩,rfl⟩
theorem yL2 : zC6 1 (zB9 [[(2 : Rat)]]) ≠ 0:=by
 show zC6 1 (zB9 [[(2 : Rat)]]) ≠ 0
 decide +kernel
theorem jI2 : SolQ [[(2 : Rat)]] [[(1 : Rat)]] [[Rat.divInt 1 2]]:=by
 refine ⟨⟨rfl,fun r hr => by simp at hr; subst hr; rfl⟩,fun i j hi hj => ?_⟩
 obtain rfl : i = 0:=by have : i < 1:=hi; omega
 obtain rfl : j = 0:=by have : j < 1:=hj; omega
 decide +kernel
theorem yL3 {L : Nat} {w : World} {e : Ending} {w' : World} {P O : Rat} (hP : P = 2) (hO : O = 1) (h : qS6 [[P]] [[O]] L w e w') : Below w.heap.size w w' /\ ∃ V,e = .returned (.tuple #[V,.int .i64 0]) /\ SlT .u64 4294967296 w' V [[Rat.divInt 1 2]]:=by
 subst hP; subst hO
 rcases h with ⟨_,hb,(⟨hd,V,X,he,hs,hx,_⟩ | ⟨hd,_⟩)⟩ | ⟨hn,_⟩
 ·exact ⟨hb,V,he,by rw [jI2.one hx yL2]; exact hs⟩
 ·exact absurd hd yL2
 ·exact absurd ex16_ok hn
theorem jI3 (w : World) : Calls Tryz.prog 13 #[] w (zD8 (.bool true) w):=by
 obtain ⟨O,hO⟩ : ∃ O : Rat,O = ((1 : Int) : Rat):=⟨_,rfl⟩
 obtain ⟨P,hP⟩ : ∃ P : Rat,P = ((2 : Int) : Rat):=⟨_,rfl⟩
 obtain ⟨H,hH⟩ : ∃ H : Rat,H = Rat.divInt 1 2:=⟨_,rfl⟩
 have CO : ∀ w,Calls Tryz.prog 41 #[.int .i64 1] w (RetQ O w):=fun w => by rw [hO]; exact qQ9 1 _ (by omega) (by omega)
 have CP : ∀ w,Calls Tryz.prog 41 #[.int .i64 2] w (RetQ P w):=fun w => by rw [hP]; exact qQ9 2 _ (by omega) (by omega)
 have CH : ∀ w,Calls Tryz.prog 42 #[.int .i64 1,.int .i64 2] w (qD1 H 0 w):=fun w => by rw [hH]; exact yX6 1 2 w (by omega) (by omega) (by omega)
 have eP : P = 2:=by rw [hP]; rfl
 have eO : O = 1:=by rw [hO]; rfl
 have HE:=Lib.hid (zA eP eO)
 have HH:=Lib.hid hH
 have CS : ∀ w a b,SlT .u64 4294967296 w a [[P]] -> SlT .u64 4294967296 w b [[O]] -> Calls Tryz.prog 8 #[a,b] w (fun e w' => Below w.heap.size w w' /\ ∃ V,e = .returned (.tuple #[V,.int .i64 0]) /\ SlT .u64 4294967296 w' V [[H]]):=fun w a b h0 h1 => (jE1 a b [[P]] [[O]] 3 w h0 h1 (by rw [eP,eO]; exact yL1.1)).mono fun e w' h => by rw [hH]; exact yL3 eP eO h
 have CX : ∀ w a b,SlT .u64 4294967296 w a [[P]] -> SlT .u64 4294967296 w b [[O]] -> Calls Tryz.prog 9 #[a,b] w (fun e w' => Below w.heap.size w w' /\ ∃ V,e = .returned (.tuple #[V,.int .i64 0]) /\ SlT .u64 4294967296 w' V [[H]]):=fun w a b h0 h1 => (jI0 a b [[P]] [[O]] 1 w h0 h1 (by rw [eP,eO]; exact yL1.2)).mono fun e w' h => by rw [hH]; exact yL3 eP eO h
 have CM : ∀ w a b,SlT .u64 4294967296 w a [[H]] -> SlT .u64 4294967296 w b [[H]] -> Calls Tryz.prog 10 #[a,b] w (zD8 (.bool true) w):=fun w a b h0 h1 => yY6 a b [[H]] [[H]] true w h0 h1 (by simp)
 clear hO hP hH eP eO
 go_enter Tryz.func13,Tryz.ntmps13
 go_wp2_with fail
 refine (CP _).mono ?_
 rintro e w1 ⟨v0,rfl,k0,-,b1⟩
 obtain ⟨u0,t0,rfl,q0,d0⟩:=k0
 obtain ⟨A0,c0,rfl,_⟩:=id q0
 obtain ⟨D0,e0,rfl,_⟩:=id d0
 obtain ⟨w2,hw2,st2,b2⟩:=qF4 w1 83 44 q0 d0
 have B2:=b1.trans (b2.mono b1.size)
 clear q0 d0 b1 b2
 go_wp2_with fail
 refine (CO _).mono ?_
 rintro e w3 ⟨v1,rfl,k1,-,b3⟩
 obtain ⟨u1,t1,rfl,q1,d1⟩:=k1
 obtain ⟨A1,c1,rfl,_⟩:=id q1
 obtain ⟨D1,e1,rfl,_⟩:=id d1
 obtain ⟨w4,hw4,st4,b4⟩:=qF4 w3 83 44 q1 d1
 have st24:=(st2.below b3).below (b4.mono (zB3 _))
 have B3:=B2.trans (b3.mono B2.size)
 have B4:=B3.trans (b4.mono B3.size)
 clear q1 d1 b3 b4 st2 B2 B3
 go_wp2_with fail
 refine (CS _ _ _ st24 st4).mono ?_
 rintro e w5 ⟨b5,V5,rfl,sx⟩
 have B5:=B4.trans (b5.mono B4.size)
 obtain ⟨AX,cX,rfl,-,-⟩:=id sx.shape
 clear st24 st4 b5 B4 hw2 hw4
 go_wp2_with fail
 refine (CH _).mono ?_
 rintro e w6 ⟨v6,rfl,k6,b6⟩
 obtain ⟨u6,t6,rfl,q6,d6⟩:=k6
 obtain ⟨A6,c6,rfl,_⟩:=id q6
 obtain ⟨D6,e6,rfl,_⟩:=id d6
 have B6:=B5.trans (b6.mono B5.size)
 have sx6:=sx.below b6
 obtain ⟨wx,hwx,bx,BX,hsx⟩:=zN8 w6 83 #[.bool false,.slice none 0 0,.slice none 0 0]
 have V0 : wx.cell? ⟨w6.heap.size,0,none⟩ = some (.bool false):=BX.cell 0
 have V1 : wx.cell? ⟨w6.heap.size,1,none⟩ = some (.slice none 0 0):=BX.cell 1
 have V2 : wx.cell? ⟨w6.heap.size,2,none⟩ = some (.slice none 0 0):=BX.cell 2
 have F0:=BX.frozen 0
 have F1:=BX.frozen 1
 have F2:=BX.frozen 2
 have BY:=qK3 BX (.bool (ngB H.num)) (.slice A6 (digs 4294967296 H.num.natAbs).length c6) (.slice D6 (digs 4294967296 H.den).length e6)
 obtain ⟨w7,hw7⟩ : ∃ w7,((wx.setCell ⟨w6.heap.size,0,none⟩ (.bool (ngB H.num))).setCell ⟨w6.heap.size,1,none⟩ (.slice A6 (digs 4294967296 H.num.natAbs).length c6)).setCell ⟨w6.heap.size,2,none⟩ (.slice D6 (digs 4294967296 H.den).length e6) = w7:=⟨_,rfl⟩
 have b7 : Below w6.heap.size w6 w7:=by
  rw [<- hw7]
  exact ((bx.setCell (p:=⟨w6.heap.size,0,none⟩) (zB3 _) _).setCell (p:=⟨w6.heap.size,1,none⟩) (zB3 _) _).setCell (p:=⟨w6.heap.size,2,none⟩) (zB3 _) _
 rw [hw7] at BY
 have B7:=B6.trans (b7.mono B6.size)
 have sx7:=sx6.below b7
 have q7:=q6.below b7
 have d7:=d6.below b7
 clear sx sx6 b6 b7 bx BX B5 B6 q6 d6
 clear hsx
 go_wp2_with fail
 refine (CP _).mono ?_
 rintro e w8 ⟨v8,rfl,k8,-,b8⟩
 obtain ⟨u8,t8,rfl,q8,d8⟩:=k8
 obtain ⟨A8,c8,rfl,_⟩:=id q8
 obtain ⟨D8,e8,rfl,_⟩:=id d8
 obtain ⟨w9,hw9,st9,b9⟩:=qF4 w8 83 44 q8 d8
 have B8:=B7.trans (b8.mono B7.size)
 have B9:=B8.trans (b9.mono B8.size)
 have c79:=b8.trans (b9.mono b8.size)
 have BY9:=BY.below c79
 have sx9:=sx7.below c79
 have q9:=q7.below c79
 have d9:=d7.below c79
 clear hw7 V0 V1 V2 F0 F1 F2 hwx BY sx7 q7 d7 q8 d8 b8 b9 c79 B7 B8
 go_wp2_with fail
 refine (CO _).mono ?_
 rintro e w10 ⟨v10,rfl,k10,-,b10⟩
 obtain ⟨u10,t10,rfl,q10,d10⟩:=k10
 obtain ⟨A10,c10,rfl,_⟩:=id q10
 obtain ⟨D10,e10,rfl,_⟩:=id d10
 obtain ⟨w11,hw11,st11,b11⟩:=qF4 w10 83 44 q10 d10
 have B10:=B9.trans (b10.mono B9.size)
 have B11:=B10.trans (b11.mono B10.size)
 have c911:=b10.trans (b11.mono b10.size)
 have BY11:=BY9.below c911
 have sx11:=sx9.below c911
 have q11:=q9.below c911
 have d11:=d9.below c911
 have st911:=st9.below c911
 clear hw9 BY9 sx9 q9 d9 q10 d10 b10 b11 c911 B9 B10 st9
 go_wp2_with fail
 refine (CX _ _ _ st911 st11).mono ?_
 rintro e w12 ⟨b12,V12,rfl,sy⟩
 have B12:=B11.trans (b12.mono B11.size)
 obtain ⟨AY,cY,rfl,-,-⟩:=id sy.shape
 have BY12:=BY11.below b12
 have sx12:=sx11.below b12
 have q12:=q11.below b12
 have d12:=d11.below b12
 have C0 : w12.cell? ⟨w6.heap.size,0,none⟩ = some (.bool (ngB H.num)):=BY12.cell 0
 have C1 : w12.cell? ⟨w6.heap.size,1,none⟩ = some (.slice A6 (digs 4294967296 H.num.natAbs).length c6):=BY12.cell 1
 have C2 : w12.cell? ⟨w6.heap.size,2,none⟩ = some (.slice D6 (digs 4294967296 H.den).length e6):=BY12.cell 2
 obtain ⟨w13,hw13,st13,b13⟩:=qF4 w12 83 44 q12 d12
 have sx13:=sx12.below b13
 have sy13:=sy.below b13
 have B13:=B12.trans (b13.mono B12.size)
 clear hw11 BY11 sx11 q11 d11 st911 st11 b12 B11 BY12 q12 d12 b13 B12 sx12 sy
 go_wp2_with fail
 refine (CM _ _ _ sx13 st13).mono ?_
 rintro e w14 ⟨rfl,b14⟩
 have B14:=B13.trans (b14.mono B13.size)
 have sx14:=sx13.below b14
 have sy14:=sy13.below b14
 clear hw13 C0 C1 C2 st13 sx13 sy13 b14 B13
 go_wp2_with fail
 refine (CM _ _ _ sy14 sx14).mono ?_
 rintro e w15 ⟨rfl,b15⟩
 go_wp2
 go_ret
 exact ⟨rfl,B14.trans (b15.mono B14.size)⟩
end Go.Proofs.YtagaabooccnamaaGreat.rat
