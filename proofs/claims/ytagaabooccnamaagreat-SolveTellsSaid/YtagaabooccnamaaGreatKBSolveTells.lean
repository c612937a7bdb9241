/- SolveTells: equations solved, both ways. Condition: the arguments can be read as data. -/
import Derived.Test.YtagaabooccnamaaGreatKB7
import Derived.Deep.CutRange
import Derived.OpenShut
import Derived.LaidMore
import Derived.Lay
import Derived.Stop.Joined
set_option maxRecDepth 100000
set_option maxHeartbeats 6400000
open And renaming intro -> zA
open Nat renaming le_trans -> zB5
namespace Go.Proofs.YtagaabooccnamaaGreat.solveTells
open Go.ChangeShapes Go.WideShapes Go.ChangeAt Go.RowKit num mem nat txt str flow whl rat
theorem own : ownKnob Tryz.prog.godebug = none:=by kernel_rfl
theorem laidOut : laidOutB Tryz.prog = true:=by kernel_rfl
theorem cells_u : Tryz.prog.cellsOf 98 = 1:=by kernel_rfl
theorem walk (v0 : Value) (v1 : Value) (w : World) (h0 : zS5 w v0) (h1 : zS5 w v1) :
  Calls Tryz.prog 3 #[v0,v1] w (zD5 (.bool true) w):=by
 go_enter Tryz.func3,Tryz.ntmps3
 go_wp2_with fail
 refine (yH7 _ 4 _ h0 (by omega)).mono ?_
 rintro e w1 ⟨V0,U0,A,rfl,sa,ua,ha4,hra,hla,b1⟩
 obtain ⟨AV,cV,rfl,-,-⟩:=id sa.shape
 obtain ⟨AU,cU,rfl,-,-⟩:=id ua.shape
 have h1':=h1.below b1
 go_wp2_with fail
 refine (yH7 _ 4 _ h1' (by omega)).mono ?_
 rintro e w2 ⟨V1,U1,B,rfl,sb,ub,hb4,hrb,hlb,b2⟩
 obtain ⟨BV,dV,rfl,-,-⟩:=id sb.shape
 obtain ⟨BU,dU,rfl,-,-⟩:=id ub.shape
 have HFA : Hid (Few4 A):=⟨ha4,hra,hla⟩
 have HFB : Hid (Few4 B):=⟨hb4,hrb,hlb⟩
 have HSA:=Lib.hid (sa.below b2)
 have HSB:=Lib.hid sb
 have HUA:=Lib.hid (ua.below b2)
 have HUB:=Lib.hid ub
 have HB2 : Hid (Below w.heap.size w w2):=b1.trans (b2.mono b1.size)
 have CS:=yL8 _ _ A B 9 w2 HSA.out HSB.out (few_sol HFA.out HFB.out)
 have CX:=fun w b => yO2 (.slice AV A.length cV) (.slice BV B.length dV) A B 1 w (HSA.out.below b) (HSB.out.below b) (few_ex HFA.out HFB.out)
 clear sa ua sb ub hra hla hrb hlb h1' b1 b2
 by_cases ok : okq A B
 ·have OK:=Lib.hid ok
  have hz2 : (((B.length : Nat) : Int) == ((A.length : Nat) : Int)) = true:=by rw [beq_iff_eq,ok.2.2.2]
  have hww : zD2 A = A.length:=ok.1.symm
  have CCA:=fun w b => zW5 (.slice AV A.length cV) A 0 w (HSA.out.below b) (by rw [if_pos OK.out.2.1])
  have CCB:=fun w b => zW5 (.slice BV B.length dV) B 0 w (HSB.out.below b) (by rw [if_pos OK.out.2.2.1])
  have CW:=fun w b => qT5 (.slice AU A.length cU) A w (HUA.out.below b)
  have CR:=fun w b => jM (.slice AU A.length cU) (.slice BU B.length dU) A B 9 w (HUA.out.below b) (HUB.out.below b) (few_ref HFA.out HFB.out OK.out)
  rw [hww] at CW
  clear ok hww
  by_cases hd : zC8 A.length (zC0 A) = 0
  ·have HD:=Lib.hid hd
   have CS':=CS.mono (fun e w' h => h.rank OK.out HD.out)
   have CX':=fun w b => (CX w b).mono (fun e w' h => h.rank OK.out HD.out)
   clear hd CS CX
   go_wp2_with fail
   refine CS'.mono ?_
   rintro e w3 ⟨rfl,b3⟩
   have B3:=b3
   go_wp2_with fail
   refine (CX' _ B3).mono ?_
   rintro e w4 ⟨rfl,b4⟩
   have B4:=B3.trans (b4.mono B3.size)
   go_wp2_with fail
   refine (qM3 _ _ [] [] true _ (qG2 _ _ _) (qG2 _ _ _) (by simp)).mono ?_
   rintro e w5 ⟨rfl,b5⟩
   have B5:=B4.trans (b5.mono B4.size)
   go_wp2_with fail
   refine (CCA _ B5).mono ?_
   rintro e w6 ⟨rfl,b6⟩
   have B6:=B5.trans (b6.mono B5.size)
   go_wp2_with fail
   refine (CCB _ B6).mono ?_
   rintro e w7 ⟨rfl,b7⟩
   have B7:=B6.trans (b7.mono B6.size)
   go_wp2_with fail
   refine (CW _ B7).mono ?_
   rintro e w8 ⟨rfl,b8⟩
   have B8:=B7.trans (b8.mono B7.size)
   go_wp2_with fail
   refine (CR _ B8).mono ?_
   rintro e w9 ⟨b9,(⟨hd,_⟩ | ⟨_,rfl⟩)⟩
   ·exact absurd HD.out hd
   ·have B9:=B8.trans (b9.mono B8.size)
    go_wp2_with fail
    refine (qC3 _).mono ?_
    rintro e w10 ⟨rfl,b10⟩
    have B10:=HB2.out.trans ((B9.trans (b10.mono B9.size)).mono HB2.out.size)
    go_wp2
    go_ret
    exact ⟨rfl,B10⟩
  ·have HD:=Lib.hid hd
   have CS':=CS.mono (fun e w' h => h.yes OK.out HD.out)
   have CX':=fun w b => (CX w b).mono (fun e w' h => h.yes OK.out HD.out)
   clear hd CS CX
   go_wp2_with fail
   refine CS'.mono ?_
   rintro e w3 ⟨V3,X,rfl,s3,hX,lX,b3⟩
   obtain ⟨A3,c3,rfl,-,-⟩:=id s3.shape
   have HX:=Lib.hid (zA hX lX)
   have B3:=b3
   clear hX lX
   go_wp2_with fail
   refine (CX' _ B3).mono ?_
   rintro e w4 ⟨V4,Y,rfl,s4,hY,lY,b4⟩
   obtain rfl : X = Y:=HX.out.1.one hY HD.out
   obtain ⟨A4,c4,rfl,-,-⟩:=id s4.shape
   have B4:=B3.trans (b4.mono B3.size)
   have s34:=s3.below b4
   clear hY lY s3
   go_wp2_with fail
   refine (qM3 _ _ X X true _ s34 s4 (by simp)).mono ?_
   rintro e w5 ⟨rfl,b5⟩
   have B5:=B4.trans (b5.mono B4.size)
   have HS5:=Lib.hid (s34.below b5)
   clear s34 s4
   go_wp2_with fail
   refine (CCA _ B5).mono ?_
   rintro e w6 ⟨rfl,b6⟩
   have B6:=B5.trans (b6.mono B5.size)
   go_wp2_with fail
   refine (CCB _ B6).mono ?_
   rintro e w7 ⟨rfl,b7⟩
   have B7:=B6.trans (b7.mono B6.size)
   go_wp2_with fail
   refine (CW _ B7).mono ?_
   rintro e w8 ⟨rfl,b8⟩
   have B8:=B7.trans (b8.mono B7.size)
   have C58:=(b6.trans (b7.mono b6.size)).trans (b8.mono (zB5 b6.size b7.size))
   have HS8:=Lib.hid (HS5.out.below C58)
   go_wp2_with fail
   refine (CR _ B8).mono ?_
   rintro e w9 ⟨b9,(⟨_,V9,Z,rfl,s9,hZ⟩ | ⟨hd,_⟩)⟩
   ·obtain rfl : X = Z:=HX.out.1.one hZ HD.out
    obtain ⟨A9,c9,rfl,-,-⟩:=id s9.shape
    have B9:=B8.trans (b9.mono B8.size)
    have s89:=HS8.out.below b9
    clear hZ
    go_wp2_with fail
    refine (ist_any _ _ X X 1 _ s89 s9 (fun r hr x hx => (HX.out.2 r hr x hx).mono (by omega)) (by simp)).mono ?_
    rintro e w10 ⟨rfl,b10⟩
    have B10:=B9.trans (b10.mono B9.size)
    go_wp2_with fail
    refine (qC3 _).mono ?_
    rintro e w11 ⟨rfl,b11⟩
    have B11:=HB2.out.trans ((B10.trans (b11.mono B10.size)).mono HB2.out.size)
    go_wp2
    go_ret
    exact ⟨rfl,B11⟩
   ·exact absurd hd HD.out
 ·have CS':=CS.mono (fun e w' h => h.no ok)
  have CX':=fun w b => (CX w b).mono (fun e w' h => h.no ok)
  have NO:=Lib.hid ok
  have CCA:=fun n w b => zW5 (.slice AV A.length cV) A n w (HSA.out.below b)
  have CCB:=fun n w b => zW5 (.slice BV B.length dV) B n w (HSB.out.below b)
  have CW:=fun w b => qT5 (.slice AU A.length cU) A w (HUA.out.below b)
  clear ok CS CX
  go_wp2_with fail
  refine CS'.mono ?_
  rintro e w3 ⟨rfl,b3⟩
  have B3:=b3
  go_wp2_with fail
  refine (CX' _ B3).mono ?_
  rintro e w4 ⟨rfl,b4⟩
  have B4:=B3.trans (b4.mono B3.size)
  go_wp2_with fail
  refine (qM3 _ _ [] [] true _ (qG2 _ _ _) (qG2 _ _ _) (by simp)).mono ?_
  rintro e w5 ⟨rfl,b5⟩
  have B5:=B4.trans (b5.mono B4.size)
  clear CS' CX'
  by_cases ma : zI3 A
  ·have CCA':=fun w b => CCA 0 w b (by rw [if_pos ma])
   have MA:=Lib.hid ma
   clear ma CCA
   go_wp2_with fail
   refine (CCA' _ B5).mono ?_
   rintro e w6 ⟨rfl,b6⟩
   have B6:=B5.trans (b6.mono B5.size)
   by_cases mb : zI3 B
   ·have CCB':=fun w b => CCB 0 w b (by rw [if_pos mb])
    have MB:=Lib.hid mb
    clear mb CCB
    go_wp2_with fail
    refine (CCB' _ B6).mono ?_
    rintro e w7 ⟨rfl,b7⟩
    have B7:=B6.trans (b7.mono B6.size)
    obtain ⟨C,hC⟩ : ∃ C,C = zD2 A:=⟨_,rfl⟩
    rw [<- hC] at CW
    have HC:=Lib.hid hC
    clear hC
    go_wp2_with fail
    refine (CW _ B7).mono ?_
    rintro e w8 ⟨rfl,b8⟩
    have B8:=B7.trans (b8.mono B7.size)
    by_cases hw : A.length = C
    ·subst hw
     have hne : ¬ B.length = A.length:=fun e => NO.out ⟨HC.out,MA.out,MB.out,e.symm⟩
     have hz2 : (((B.length : Nat) : Int) == ((A.length : Nat) : Int)) = false:=by rw [beq_eq_false_iff_ne]; omega
     have hz3 : ¬ ((B.length : Nat) : Int) = ((A.length : Nat) : Int):=by omega
     go_wp2_with fail
     refine (qC3 _).mono ?_
     rintro e w10 ⟨rfl,b10⟩
     have B10:=HB2.out.trans ((B8.trans (b10.mono B8.size)).mono HB2.out.size)
     go_wp2
     go_ret
     exact ⟨rfl,B10⟩
    ·have hz : (((A.length : Nat) : Int) == ((C : Nat) : Int)) = false:=by rw [beq_eq_false_iff_ne]; omega
     clear hw
     go_wp2_with fail
     refine (qC3 _).mono ?_
     rintro e w10 ⟨rfl,b10⟩
     have B10:=HB2.out.trans ((B8.trans (b10.mono B8.size)).mono HB2.out.size)
     go_wp2
     go_ret
     exact ⟨rfl,B10⟩
   ·have CCB':=fun w b => CCB 8 w b (by rw [if_neg mb])
    clear mb CCB
    go_wp2_with fail
    refine (CCB' _ B6).mono ?_
    rintro e w7 ⟨rfl,b7⟩
    have B7:=B6.trans (b7.mono B6.size)
    go_wp2_with fail
    refine (qC3 _).mono ?_
    rintro e w10 ⟨rfl,b10⟩
    have B10:=HB2.out.trans ((B7.trans (b10.mono B7.size)).mono HB2.out.size)
    go_wp2
    go_ret
    exact ⟨rfl,B10⟩
  ·have CCA':=fun w b => CCA 8 w b (by rw [if_neg ma])
   clear ma CCA
   go_wp2_with fail
   refine (CCA' _ B5).mono ?_
   rintro e w6 ⟨rfl,b6⟩
   have B6:=B5.trans (b6.mono B5.size)
   go_wp2_with fail
   refine (qC3 _).mono ?_
   rintro e w10 ⟨rfl,b10⟩
   have B10:=HB2.out.trans ((B6.trans (b10.mono B6.size)).mono HB2.out.size)
   go_wp2
   go_ret
   exact ⟨rfl,B10⟩
theorem lifted (os : Os) (started : os.Started) (H : Type) (enc : TypeId × Value -> H) :
  ReturnsInHanded {} Tryz.checked os 3 .any (Rows.solveTellsSpec.pre6 enc Tryz.prog Tryz.f3 Rows.solveTellsRow.domain false) (Rows.solveTellsSpec.post enc Tryz.prog Tryz.f3 false true false false):=by
 refine returnsInHanded_of_change (C:=Tryz.checked) own started (by kernel_rfl) Tryz.func3
  (ChangeSpec.witness6 (enc:=enc) (C:=Tryz.checked) false ⟨#[],#[.slice none 0 0,.slice none 0 0],[]⟩ 8 (by kernel_rfl) (by kernel_rfl) (by kernel_rfl) (by kernel_rfl)) ?_
 intro W base args ds gs before hval0 hW hcnd _
 have hval : ∀ (j : Nat) t v,Tryz.f3.params[j]? = some t -> args[j]? = some v -> Value.okWide Tryz.prog W .any base t v:=hval0
 have hW':=hW
 obtain ⟨p,q,hA0,hV,rfl,hfz,hnd⟩:=hW
 have hA : DataW.TrodAll enc Tryz.prog W 0 (fun _ => true) true Tryz.f3.params.toList args.toList ds p:=hA0
 rw [Tryz.params3] at hA hval
 obtain ⟨v0,vs0,d0,ds0,p0,q0,hargs,rfl,rfl,t0,r0⟩:=trodAll_cons hA
 obtain ⟨v1,vs1,d1,ds1,p1,q1,rfl,rfl,rfl,t1,r1⟩:=trodAll_cons r0
 obtain ⟨rfl,rfl,rfl⟩:=trodAll_nil r1
 obtain rfl : args = #[v0,v1]:=by cases args; simp_all
 obtain ⟨rfl,rfl⟩:=trodVars_none hV
 have hs0:=arg_t Tryz.underlying22 (by kernel_rfl) Tryz.underlying44 Tryz.underlying83 (by kernel_rfl) (by kernel_rfl) Tryz.underlying60 (by kernel_rfl) Tryz.underlying4 Tryz.underlying50 Tryz.underlying50 Tryz.underlying98 cells_u (hval 0 22 v0 rfl rfl) t0
 have hs1:=arg_t Tryz.underlying22 (by kernel_rfl) Tryz.underlying44 Tryz.underlying83 (by kernel_rfl) (by kernel_rfl) Tryz.underlying60 (by kernel_rfl) Tryz.underlying4 Tryz.underlying50 Tryz.underlying50 Tryz.underlying98 cells_u (hval 1 22 v1 rfl rfl) t1
 clear hA0 hval0
 simp only [List.append_nil] at hW'
 have hlt0 : ∀ x ∈ p0,x.block < W.heap.size:=fun x hx => hW'.lt x (List.mem_append_left _ hx)
 have hlt1 : ∀ x ∈ p1,x.block < W.heap.size:=fun x hx => hW'.lt x (List.mem_append_right _ (hx))
 refine (walk v0 v1 W hs0 hs1).mono fun e W' ⟨he,hb⟩ => ?_
 subst he
 have s0:=Below.trod laidOut (by kernel_rfl) (of_decide_eq_true (by kernel_rfl)) t0 hb hlt0
 have s1:=Below.trod laidOut (by kernel_rfl) (of_decide_eq_true (by kernel_rfl)) t1 hb hlt1
 exact ⟨_,rfl,_,_,_,[] ++ [],_,[],hW',trodAll_cons_mk (shut_bool Tryz.underlying4 _) trodAll_mk0,trodAll_cons_mk s0 (trodAll_cons_mk s1 (trodAll_mk0)),rfl,hb.frame _,fun h => by cases h⟩
theorem over : Rows.solveTellsRow.holds Tryz.pinned (OpenSpec.ofChange Rows.solveTellsSpec) :=
 OpenClaim.holds_of_wide 3 Tryz.f3 rfl rfl rfl rfl rfl rfl rfl ⟨rfl,rfl,rfl,rfl,rfl⟩ rfl rfl rfl rfl rfl (by kernel_rfl) Tryz.func3 (by kernel_rfl)
  (of_decide_eq_true (by kernel_rfl)) (by unfold Func.isWrapper; first | (rw [if_pos (by decide +kernel)]; kernel_rfl) | (rw [if_neg (by decide +kernel)]; exact ⟨rfl,rfl⟩))
  (fun os started H enc _ => lifted os started H enc)
theorem proved : Rows.SolveTellsSaid:=over
end Go.Proofs.YtagaabooccnamaaGreat.solveTells
