/- Package gauss: down. Condition: as each says. -/
import Derived.Test.YtbfflcpmagjlnaaGreatKE5
import Derived.RangeFuncFrom
import Derived.RangeFuncCalls
import Derived.RangeFuncLeaves
import Derived.Shelf.Abstract
import Derived.Shelf.RegionOpen
import Derived.WalkKit
import Derived.OwnWalkIn
import Derived.TacticsInMore
import Derived.LoopNIn
import Derived.LoopIn
import Derived.OwnWalk
import Derived.Deep.RegionHeld
import Derived.BigQuiet
import Derived.Deep.CutRange
open Go.Proofs.Tryz
open Go.Lib renaming hid -> hQ9
set_option linter.unusedVariables false
set_option linter.unusedSimpArgs false
set_option maxRecDepth 100000
set_option maxHeartbeats 6400000
open And renaming intro -> zA
open List renaming setIfInBounds_toArray -> zA0, set_cons_succ -> zA1, set_cons_zero -> zA2, getElem?_eq_getElem -> zA3, getElem?_eq_some_iff -> zA4, mem_of_getElem? -> zA5, getD_eq_getElem?_getD -> zA6, take_of_length_le -> zA7, length_append -> zA8, length_map -> zA9, replicate -> zB, getElem?_append_left -> zB0, getElem?_map -> zB1, length_set -> zB2
open Nat renaming le_refl -> zB3, le_trans -> zB4
open Go.World renaming block_lt_of_cell? -> bQ0
open Classical renaming byContradiction -> bQ1
open List renaming getElem?_set_self -> bQ3, length_take -> bQ7, take_add_one -> bQ9, getElem?_append_right -> bW0, getElem?_set_ne -> bW1, mem_or_eq_of_mem_set -> bW3, getElem?_eq_none -> bW4, getElem?_toArray -> bW8, getElem?_drop -> bW9, ext_getElem? -> bX0, take_length -> bX1, length_drop -> bX2, length_cons -> bX3
open Nat renaming pow_le_pow_right -> bX9, mul_le_mul_left -> bY, mul_comm -> bY0, lt_of_lt_of_le -> bY2, eq_zero_or_pos -> bY3, zero_add -> bY5, mul_le_mul -> bY6
namespace Go.Proofs.YtbfflcpmagjlnaaGreat
namespace rat
open Go.RowKit num mem nat txt str flow whl
theorem zV3 {w w1 w2:World} {row:Option Nat} {g:Nat} (h:w.grownBy w1 row) (h2:w1.grownBy w2 (some g)) (hg:w.heap.size<=g):w.grownBy w2 row:=by
 refine ⟨h2.os.trans h.os,h2.tape.trans h.tape,h2.output.trans h.output,zB4 h.size h2.size,fun k hk hne => ?_⟩;rw [h2.block k (bY2 hk h.size) (fun e=>by injection e with e;omega)];exact h.block k hk hne
theorem yM2 {w w1 w2:World} {row:Option Nat} {v:Value} (h:w.grownBy w1 row) (h2:w1.grownBy w2 v.ownBlock) (hg:∀ g,v.ownBlock=some g->w.heap.size<=g):w.grownBy w2 row:=by
 cases e:v.ownBlock with
 | none=>rw [e] at h2;exact zJ9 h ⟨h2.os,h2.tape,h2.output,h2.size,fun k hk=>h2.block k hk (by simp)⟩
 | some g=>rw [e] at h2;exact zV3 h h2 (hg g e)
theorem Dwn.small {T0 T:List (List Rat)} {n C a S:Nat} {ps:List Nat} {d:Rat} (h:Dwn T0 T n C a ps d S) (hS:(S+1)*2^(n-1)<=400):zH7 T 399:=by
 obtain ⟨S',h1,h2⟩:=h.len;refine h1.mono ?_;have h3:(S+1)*2^(min ps.length (n-1))<=(S+1)*2^(n-1):=bY _ (bX9 (by omega) (Nat.min_le_right _ _));omega
theorem zE2.offQ {w w':World} {g gx n C:Nat} {TS t:TypeId} {us:List Value} {T:List (List Rat)} {a b c:Value} (h:zE2 .u64 4294967296 w g TS us T) (hs:shp T n C) (hB:Blk w gx t #[a,b,c]) (hno:∀ x∈(#[a,b,c]:Array Value),∀ n,x ≠ .int .u64 n) (hne:TS≠t) (hg:w.grownBy w' (some gx)) (hoff:0<C -> ∀ u∈us,u.ownBlock≠some gx):zE2 .u64 4294967296 w' g TS us T:=by
 have hgx:g≠gx:=fun e=>by
  have h1:=h.1.1;unfold Blk at h1 hB;rw [e,hB] at h1;injection h1 with h1;injection h1 with _ h1;exact hne h1.symm
 refine ⟨h.1.grown hg (fun e=>hgx (by injection e with e;exact e.symm)),h.2.1,fun i u r hu hr => ?_⟩;have hsl:=h.2.2 i u r hu hr;by_cases h0:r=[]
 ·subst h0;exact hsl.any
 ·have hC:0<C:=by rw [<- hs.2 r (zA5 hr)];exact List.length_pos_iff.2 h0
  exact hsl.off hB hno hg (hoff hC u (zA5 hu))
theorem zE6.keepS {w w':World} {base:Nat} {e:TypeId} {V:Value} {vs:List Value} {v:Value} {l:List Nat} (h:zE6 isI w base e V vs) (hg:w.grownBy w' V.ownBlock) (hs:IsS w .u64 v l):IsS w' .u64 v l:=by
  cases ho:V.ownBlock with
  | none=>rw [ho] at hg;exact hs.bQ ⟨hg.os,hg.tape,hg.output,hg.size,fun k hk=>hg.block k hk (by simp)⟩
  | some g =>
    rw [ho] at hg;obtain ⟨cs,h1,h2⟩:=h.2 g ho;exact flow.off hs h1 (fun c hc n=>by obtain ⟨n',rfl⟩:=h2 c hc;simp) hg
theorem zE6.notBlk {w:World} {base g:Nat} {e t:TypeId} {V:Value} {vs:List Value} {cs:Array Value} (h:zE6 isI w base e V vs) (hT:Blk w g t cs) (hne:e≠t):∀ x,V.ownBlock=some x->some g≠some x:=fun x e1 e2=>by
 obtain ⟨cs,h1,_⟩:=h.2 x e1;injection e2 with e2;subst e2;unfold Blk at hT;rw [h1] at hT;injection hT with hT;injection hT with _ hT;exact hne hT
theorem zE6.keepBlk {w w':World} {base g:Nat} {e t:TypeId} {V:Value} {vs:List Value} {cs:Array Value} (h:zE6 isI w base e V vs) (hT:Blk w g t cs) (hne:e≠t) (hg:w.grownBy w' V.ownBlock):Blk w' g t cs:=by
  cases ho:V.ownBlock with
  | none=>rw [ho] at hg;exact hT.bQ ⟨hg.os,hg.tape,hg.output,hg.size,fun k hk=>hg.block k hk (by simp)⟩
  | some x =>
    rw [ho] at hg;exact Blk.grown hT hg (fun e=>h.notBlk hT hne x ho (by rw [e]))
theorem qI7 (w:World) (g:Nat) (x y z:Value):w.grownBy (((w.setCell ⟨g,0,none⟩ x).setCell ⟨g,1,none⟩ y).setCell ⟨g,2,none⟩ z) (some g):=((zF4 w g 0 x).trans (zF4 _ g 1 y)).trans (zF4 _ g 2 z)
theorem no3 {k:IntKind} {A D:Option Addr} {n m c e:Nat} (b:Bool):∀ x∈(#[.bool b,.slice A n c,.slice D m e]:Array Value),∀ z,x ≠ .int k z:=by
 intro x hx z;have:x=.bool b\/x=.slice A n c\/x=.slice D m e:=by simpa using hx
 rcases this with rfl|rfl|rfl<;>simp
theorem zM1.set {us:List Value} {G:Nat->Prop} (h:zM1 us G) {u:Value} (hu:∀ g,u.ownBlock=some g -> ¬ G g) (i:Nat):zM1 (us.set i u) G:=fun x hx g hg=>by
 rcases bW3 hx with hx | rfl
 ·exact h x hx g hg
 ·exact hu g hg
def pI (ps:List Nat):List Value:=vi (ps.map fun (i:Nat)=>(i:Int))
theorem zR0 (ps:List Nat):(pI ps).length=ps.length:=by unfold pI;rw [vi_len,zA9]
theorem yM3 (ps:List Nat) (a:Nat):pI ps ++ [.int .i64 (a:Int)]=pI (ps ++ [a]):=by unfold pI vi;simp
structure DownEnd (T0:List (List Rat)) (g n C pl S:Nat) (w:World) (v v5:Value) (w':World) (T:List (List Rat)) (us:List Value) (ps:List Nat) (d:Rat):Prop where
 dwn:Dwn T0 T n C pl ps d S
 tab:zE2 .u64 4294967296 w' g 46 us T
 piv:zE6 isI w' w.heap.size 3 v (pI ps)
 num:IsQ w' v5 d
 len:zC3 d (1+400*ps.length)
 own:w.grownBy w' (some g)
def yM4 (T0:List (List Rat)) (g n C pl S:Nat) (w:World) (e:Ending) (w':World):Prop:=∃ v v5 T us ps d,e=.returned (.tuple #[v,v5])/\DownEnd T0 g n C pl S w v v5 w' T us ps d
theorem jM5 (g n C pl S : Nat) (us : List Value) (T0 : List (List Rat)) (w : World) (h : zE2 .u64 4294967296 w g 46 us T0) (hc : Hid (shp T0 n C /\ pl <= C /\ n <= 5 /\ C <= 1000 /\ zH7 T0 S /\ (S + 1) * 2 ^ (n - 1) <= 400)) :
    Calls prog 52 #[.slice (some ⟨g,0,none⟩) n n,.int .i64 (pl:Int)] w (yM4 T0 g n C pl S w):=by
  have hn5:=hc.out.2.2.1;have hC:=hc.out.2.2.2.1;have hpl:=hc.out.2.1;obtain ⟨O,hO⟩:∃ O:Rat,O=1:=⟨_,rfl⟩
  have CO:∀ w,Calls prog 12 #[.int .i64 1] w (RetQ O w):=fun w=>by
    have h:=qD 1 w (by omega) (by omega);rwa [show ((1:Int):Rat)=O by rw [hO];rfl] at h
  have HO:=hQ9 hO;clear hO
  go_enter func52,ntmps52;go_wp2_with fail
  refine (CO _).mono ?_;rintro e w2 ⟨v2,rfl,k2,-,b2⟩;obtain ⟨u2,t2,rfl,s2,d2⟩:=k2;obtain ⟨A2,c2,rfl,_⟩:=id s2;obtain ⟨D2,e2,rfl,_⟩:=id d2;have ba:=zC9 (w:=w) (zB3 _) (.cells #[.bool false,.slice none 0 0,.slice none 0 0] 44);have hs1:(w.alloc (.cells #[.bool false,.slice none 0 0,.slice none 0 0] 44)).heap.size=w.heap.size+1:=by first | rfl | exact Array.size_push _
  have BR0:=(Blk.new w 44 #[.bool false,.slice none 0 0,.slice none 0 0]).bQ b2;have ba2:=zC9 (w:=w2) (zB3 _) (.cells #[.bool (ngB O.num),.slice A2 (digs 4294967296 O.num.natAbs).length c2,.slice D2 (digs 4294967296 O.den).length e2] 44);have BP0:=Blk.new w2 44 #[.bool (ngB O.num),.slice A2 (digs 4294967296 O.num.natAbs).length c2,.slice D2 (digs 4294967296 O.den).length e2];have hgP:w.heap.size<w2.heap.size:=by have:=b2.size;omega
  have hglt:g<w.heap.size:=h.lt;have bb2:=ba.trans (b2.mono ba.size);have TS0:=(h.bQ bb2).bQ ba2;have HG0:Hid (w.grownBy _ (some g)):=qW7 (bb2.trans (ba2.mono bb2.size)) (some g);have s20:=s2.bQ ba2;have d20:=d2.bQ ba2;have BR1:=BR0.bQ ba2
  have HD0:Hid (Dwn T0 T0 n C 0 [] O S):=by
    show Dwn T0 T0 n C 0 [] O S
    rw [HO.out];exact Dwn.start hc.out.1 hc.out.2.2.2.2.1
  have HL0:Hid (zC3 O (1+400*([]:List Nat).length)):=by
    show zC3 O _
    rw [HO.out];exact qU7 (.inr rfl)
  have HO0:Hid (0<C->zM1 us (fun x=>x=w.heap.size\/x=w2.heap.size)):=by
    show _->_
    intro hC0 u hu x hx hG;obtain ⟨i,hi⟩:=List.mem_iff_getElem?.1 hu;obtain ⟨r,hr⟩:∃ r,T0[i]?=some r:=⟨_,zA3 (by rw [<- h.2.1];exact (zA4.1 hi).1)⟩;have hsl:=h.2.2 i u r hi hr;have hr0:r≠[]:=List.length_pos_iff.1 (by rw [hc.out.1.2 r (zA5 hr)];exact hC0);obtain ⟨g',o',c',rfl,hlt,_⟩:=hsl.place hr0;have e1:g'=x:=by simpa [Value.ownBlock] using hx
    rcases hG with e2 | e2<;>omega
  clear ba b2 ba2 bb2 s2 d2 BR0 hs1;go_wp2
  go_loopw [6,15] (fun v6 v15 wr => ∃ (j:Nat) (T:List (List Rat)) (us':List Value) (ps:List Nat) (d:Rat) (u t:Value),j<=pl/\Hid (Dwn T0 T n C j ps d S)/\zE2 .u64 4294967296 wr g 46 us' T/\zE6 isI wr w.heap.size 3 v6 (pI ps)/\Blk wr w2.heap.size 44 #[.bool (ngB d.num),u,t]/\IsS wr .u64 u (digs 4294967296 d.num.natAbs)/\IsS wr .u64 t (digs 4294967296 d.den)/\Blk wr w.heap.size 44 #[.bool false,.slice none 0 0,.slice none 0 0]/\Hid (zC3 d (1+400*ps.length))/\Hid (w.grownBy wr (some g))/\Hid (0<C->zM1 us' (fun x=>x=w.heap.size\/x=w2.heap.size))/\v15=.int .i64 (j:Int)) (fun _ v15 _=>pl-(intOf v15).toNat)
  case atStart=>exact ⟨0,T0,us,[],O,_,_,by omega,HD0,TS0,qW9 _ _ _ _,BP0,s20,d20,BR1,HL0,HG0,HO0,rfl⟩
  case round =>
    clear TS0 BP0 s20 d20 BR1 HL0 HG0 HD0 HO0 CO HO;obtain ⟨j,T,us',ps,d,u,t,hj,HD,TS,RP,BP,su,st,BR,HLD,HG,HOF,rfl⟩:=hrel;obtain ⟨Au,cu,rfl,_⟩:=id su;obtain ⟨At,ct,rfl,_⟩:=id st;by_cases hlt:j<pl
    · obtain ⟨A6, c6, e6⟩ := zD1.slice RP.1;rw [zR0] at e6;subst e6;have hkn : ps.length <= n:=HD.out.ech.le;by_cases hk:ps.length<n
      · have hnk:¬ n=ps.length:=by omega
        have hTl:T.length=n:=HD.out.sh.1;have SL:=TS.sub (o:=ps.length) (m:=n-ps.length) (c:=n-ps.length) (by omega) (zB3 _) (by unfold maxLen;omega);have hj:j<C:=by omega
        have HSH:=hQ9 HD.out.sh;go_wp2_with fail
        refine (yM0 _ _ j _ SL (fun r hr=>by rw [HSH.out.2 r (List.mem_of_mem_drop (List.mem_of_mem_take hr))];omega)).mono ?_;rintro e w4 ⟨f,rfl,hf,hz,hnz,b4⟩;have hLl:((T.drop ps.length).take (n-ps.length)).length=n-ps.length:=by rw [bQ7,bX2];omega
        have hent:∀ i,i<n-ps.length->zB8 ((T.drop ps.length).take (n-ps.length)) i j=zB8 T (ps.length+i) j:=fun i hi=>by
          have e:((T.drop ps.length).take (n-ps.length)).getD i []=T.getD (ps.length+i) []:=by rw [zA6,List.getElem?_take_of_lt hi,bW9,zA6]
          unfold zB8;rw [e]
        rw [hLl] at hf hnz;have TS4:=TS.bQ b4;have RP4:=RP.bQ b4;have BP4:=BP.bQ b4;have su4:=su.bQ b4;have st4:=st.bQ b4;have BR4:=BR.bQ b4;have HG4:Hid (w.grownBy w4 (some g)):=zJ9 HG.out b4;clear TS RP BP su st BR HG SL;by_cases hfl:f<n-ps.length
        · have hne:zB8 T (ps.length+f) j≠0:=by rw [<- hent f hfl];exact hnz hfl
          have HNE:=hQ9 hne;clear hz hnz hent hne hLl
          go_upto_if 30 with (fail)
          have hb28:((f:Int) == ((n-ps.length:Nat):Int))=false:=by rw [beq_eq_false_iff_ne];omega
          obtain ⟨B30,hB⟩:∃ B,B=decide (0<f):=⟨_,rfl⟩;rw [hb28,<- hB];have HB:=hQ9 hB;clear hb28 hB
          go_cut [] from 31 to 44 (fun wx => ∃ (us2:List Value) (d2:Rat) (u2 t2:Value),zE2 .u64 4294967296 wx g 46 us2 (zI3 T ps.length (ps.length+f))/\Hid (zM1 us2 (fun x=>x=w.heap.size\/x=w2.heap.size))/\zE6 isI wx w.heap.size 3 (.slice A6 ps.length c6) (pI ps)/\Blk wx w2.heap.size 44 #[.bool (ngB d2.num),u2,t2]/\IsS wx .u64 u2 (digs 4294967296 d2.num.natAbs)/\IsS wx .u64 t2 (digs 4294967296 d2.den)/\Blk wx w.heap.size 44 #[.bool false,.slice none 0 0,.slice none 0 0]/\Hid (d2=if ps.length+f=ps.length then d else -d)/\Hid (w.grownBy wx (some g)))
          case first =>
            by_cases hf0:f=0
            · subst hf0;have hb:B30=false:=HB.out;subst hb;have e1:zI3 T ps.length (ps.length+0)=T:=jH5 (by omega);have e2:d=if ps.length+0=ps.length then d else -d:=(if_pos rfl).symm
              go_wp2_with fail
              go_meet
              exact ⟨us',d,_,_,by rw [e1];exact TS4,HOF.out (by omega),RP4,BP4,su4,st4,BR4,e2,HG4.out⟩
            · have hb:B30=true:=by rw [HB.out];exact decide_eq_true (by omega)
              subst hb;obtain ⟨rk,hrk,hrkl⟩:=zI0 HSH.out (show ps.length<n by omega);obtain ⟨rf,hrf,hrfl⟩:=zI0 HSH.out (show ps.length+f<n by omega);obtain ⟨Ak,ck,huk,eck,srk⟩:=TS4.at_ hrk;obtain ⟨Af,cf,huf,ecf,srf⟩:=TS4.at_ hrf;have fk:=TS4.frozenAt ps.length;have ff:=TS4.frozenAt (ps.length+f);have hpos:0<n-ps.length:=by omega
              go_upto_region 10 with (fail)
              go_region
              all_goals
                have TS5:=TS4.stored ps.length srf;have srk5:=TS4.1.keepF (zF4 w4 g ps.length (.slice Af rf.length cf)) srk;have TS6:=TS5.stored (ps.length+f) srk5;rw [show (T.set ps.length rf).set (ps.length+f) rk=zI3 T ps.length (ps.length+f) by unfold zI3;rw [zK5 hrk,zK5 hrf]] at TS6;have G8:=zJ9 ((zF4 w4 g ps.length (.slice Af rf.length cf)).trans (zF4 _ g (ps.length+f) (.slice Ak rk.length ck))) (Below.refl _ ((w4.setCell ⟨g,ps.length,none⟩ (.slice Af rf.length cf)).setCell ⟨g,ps.length+f,none⟩ (.slice Ak rk.length ck))).drew;have TS8:=TS6.bQ (Below.refl _ _).drew;have HO8:Hid (zM1 ((us'.set ps.length (.slice Af rf.length cf)).set (ps.length+f) (.slice Ak rk.length ck)) (fun x=>x=w.heap.size\/x=w2.heap.size)):=((HOF.out (by omega)).set (fun x hx=>HOF.out (by omega) _ (zA5 huf) x hx) ps.length).set (fun x hx=>HOF.out (by omega) _ (zA5 huk) x hx) (ps.length+f);have RP8:=RP4.grown G8 (fun x e1 e2=>RP4.notTab TS4.1 (by decide) (by rw [e1,e2]));have BP8:=Blk.grown BP4 G8 (by omega);have BR8:=Blk.grown BR4 G8 (by omega);have su8:=TS4.1.keep G8 su4;have st8:=TS4.1.keep G8 st4;have HG8:Hid (w.grownBy _ (some g)):=HG4.out.trans G8;have kd:IsQ _ (.agg #[.bool (ngB d.num),.slice Au (digs 4294967296 d.num.natAbs).length cu,.slice At (digs 4294967296 d.den).length ct]) d:=⟨_,_,rfl,su8,st8⟩;obtain ⟨V0,V1,V2,_,_,_⟩:=three BP8;have HLd:Hid (zC3 d 100000):=HLD.out.mono (by have:=HD.out.ech.le;omega);clear TS5 TS6 srk5 G8 TS4 RP4 BP4 BR4 su4 st4 HG4 srk srf eck ecf fk ff su8 st8;rw [hrfl,hrkl] at *;obtain ⟨M,hM⟩:∃ M,M = -d:=⟨_,rfl⟩;have CN:∀ w a,IsQ w a d->Calls prog 85 #[a] w (RetQ M w):=fun w a h=>by rw [hM];exact qU1 a d w h HLd.out
                have HM:=hQ9 hM;clear hM;go_wp2_with fail
                refine (CN _ _ kd).mono ?_;rintro e w9 ⟨v9,rfl,k9,-,b9⟩;obtain ⟨u9,t9,rfl,s9,d9⟩:=k9;obtain ⟨A9,c9,rfl,_⟩:=id s9;obtain ⟨D9,e9,rfl,_⟩:=id d9;have BP9:=BP8.bQ b9;obtain ⟨X0,X1,X2,F0,F1,F2⟩:=three BP9;have G10:=qI7 w9 w2.heap.size (.bool (ngB M.num)) (.slice A9 (digs 4294967296 M.num.natAbs).length c9) (.slice D9 (digs 4294967296 M.den).length e9);have B10:=qD3 BP9 (.bool (ngB M.num)) (.slice A9 (digs 4294967296 M.num.natAbs).length c9) (.slice D9 (digs 4294967296 M.den).length e9);have TS10:=(TS8.bQ b9).offQ (qN3 HSH.out (by omega) (by omega)) BP9 (no3 _) (by decide) G10 (fun hC0 u hu e=>HO8.out u hu _ e (.inr rfl));have RP10:=(RP8.bQ b9).grown G10 (fun x e1 e2=>(RP8.bQ b9).notBlk BP9 (by decide) x e1 e2);have BR10:=Blk.grown (BR8.bQ b9) G10 (by omega);have s10:=flow.off s9 BP9 (no3 _) G10;have d10:=flow.off d9 BP9 (no3 _) G10;have HG10:Hid (w.grownBy _ (some g)):=zV3 (zJ9 HG8.out b9) G10 (by omega);have E2:Hid (M=if ps.length+f=ps.length then d else -d):=HM.out.trans (if_neg (by omega)).symm;clear TS8 RP8 BP8 BR8 BP9 s9 d9 kd;go_wp2
                go_meet
                exact ⟨_,M,_,_,TS10,HO8,RP10,B10,s10,d10,BR10,E2,HG10.out⟩
          case rest =>
            obtain ⟨us2,d2,u2,t2,TS5,HO5,RP5,BP5,su5,st5,BR5,HD2,HG5⟩:=hcut;obtain ⟨w5,hw5⟩:∃ w5,w5=wc:=⟨_,rfl⟩;subst hw5;clear TS4 RP4 BP4 su4 st4 BR4 HG4 HOF HB;obtain ⟨T1,hT1⟩:∃ T1,T1=zI3 T ps.length (ps.length+f):=⟨_,rfl⟩;rw [<- hT1] at TS5;have hs1:shp T1 n C:=by rw [hT1];exact qN3 HSH.out (by omega) (by omega)
            obtain ⟨r1,hr1,hrl1,hq1⟩:=zW8 hs1 hk hj;obtain ⟨q1,hqe⟩:∃ q1,q1=zB8 T1 ps.length j:=⟨_,rfl⟩;rw [<- hqe] at hq1
            have hqf:q1=zB8 T (ps.length+f) j:=by
              rw [hqe,hT1,qV7 HSH.out (by omega) (by omega)];exact congrFun (if_pos rfl) j
            have hq0:q1≠0:=by rw [hqf];exact HNE.out
            have hR1:zH7 T1 399:=by rw [hT1];exact yJ0 HSH.out (by omega) (by omega) (HD.out.small hc.out.2.2.2.2.2)
            have hLr:zM0 r1 399:=hR1 r1 (zA5 hr1);obtain ⟨Dn,hDn⟩:∃ Dn,Dn=d2*q1:=⟨_,rfl⟩;obtain ⟨X,hX⟩:∃ X,X=q1⁻¹:=⟨_,rfl⟩;have hLX:zC3 X 399:=by rw [hX];exact jA6 hq0 (hLr.len q1 (zA5 hq1))
            have hL2:zC3 d2 (1+400*ps.length):=by
              rw [HD2.out];by_cases e:ps.length+f=ps.length
              · rw [if_pos e];exact HLD.out
              · rw [if_neg e];exact qT2 HLD.out
            have hLn:zC3 Dn (1+400*(ps.length+1)):=by rw [hDn];exact (qG2 hL2 (hLr.len q1 (zA5 hq1))).mono (by omega)
            obtain ⟨Au2,cu2,rfl,_⟩:=id su5;obtain ⟨At2,ct2,rfl,_⟩:=id st5;have CM:∀ w a b,IsQ w a d2->IsQ w b q1->Calls prog 86 #[a,b] w (RetQ Dn w):=fun w a b h1 h2=>by rw [hDn];exact qN8 a d2 b q1 w h1 h2 (hL2.mono (by omega)) ((hLr.len q1 (zA5 hq1)).mono (by omega))
            have CV:∀ w a,IsQ w a q1->Calls prog 87 #[a] w (zV0 X 0 w):=fun w a h1=>by rw [hX];exact inv8_ok a q1 w h1 ((hLr.len q1 (zA5 hq1)).mono (by omega)) hq0
            have HE:=hQ9 (zA hT1 (zA hs1 (zA hr1 (zA hrl1 (zA hq1 (zA hqe (zA hqf (zA hq0 (zA hR1 (zA hDn (zA hX (zA hLX hLn))))))))))));have HLR:=hQ9 hLr;clear hT1 hs1 hqe hqf hq0 hR1 hDn hX hLX hLn hL2 hLr hrl1;have bd:=(Below.refl w5.heap.size w5).drew;have TSd:=TS5.bQ bd;have RPd:=RP5.bQ bd;have BPd:=BP5.bQ bd;have sud:=su5.bQ bd;have std:=st5.bQ bd;have BRd:=BR5.bQ bd;have HGd:Hid (w.grownBy w5.drew (some g)):=zJ9 HG5.out bd;obtain ⟨Ar,cr,hur,ecr,sr⟩:=TSd.at_ hr1;obtain ⟨gr,or,uq,tq,rfl,hia,k0,k1,k2,sq,dq⟩:=sr.at_ hq1;obtain ⟨Aq,cq,rfl,_⟩:=id sq;obtain ⟨Dq,eq,rfl,_⟩:=id dq;have hix:=fun w=>zH9 (P:=prog) underlying46 (by kernel_rfl) (g:=gr) (o:=or) (c:=cr) hia w;have kq:IsQ w5.drew (.agg #[.bool (ngB q1.num),.slice Aq (digs 4294967296 q1.num.natAbs).length cq,.slice Dq (digs 4294967296 q1.den).length eq]) q1:=⟨_,_,rfl,sq,dq⟩;have kd:IsQ w5.drew (.agg #[.bool (ngB d2.num),.slice Au2 (digs 4294967296 d2.num.natAbs).length cu2,.slice At2 (digs 4294967296 d2.den).length ct2]) d2:=⟨_,_,rfl,sud,std⟩;obtain ⟨V0,V1,V2,_,_,_⟩:=three BPd;have hpos:0<n-ps.length:=by omega
            clear TS5 RP5 BP5 su5 st5 BR5 HG5 bd sr hr1 hq1;go_upto_region 12 with (fail)
            go_cut [] from 45 to 52 (fun wx => ∃ u3 t3:Value,zE2 .u64 4294967296 wx g 46 us2 T1/\zE6 isI wx w.heap.size 3 (.slice A6 ps.length c6) (pI ps)/\Blk wx w2.heap.size 44 #[.bool (ngB Dn.num),u3,t3]/\IsS wx .u64 u3 (digs 4294967296 Dn.num.natAbs)/\IsS wx .u64 t3 (digs 4294967296 Dn.den)/\Blk wx w.heap.size 44 #[.bool false,.slice none 0 0,.slice none 0 0]/\Hid (w.grownBy wx (some g)))
            case first =>
             go_region_law (go_simp;go_at_call 86;refine (CM _ _ _ (by exact kd) (by exact kq)).mono ?_;rintro e w6 ⟨v6,rfl,k6,-,b6⟩;obtain ⟨u6,t6,rfl,s6,d6⟩:=k6;obtain ⟨A7,c7,rfl,_⟩:=id s6;obtain ⟨D7,e7,rfl,_⟩:=id d6;have BP6:=BPd.bQ b6;obtain ⟨X0,X1,X2,F0,F1,F2⟩:=three BP6)
             all_goals
              have G7:=qI7 w6 w2.heap.size (.bool (ngB Dn.num)) (.slice A7 (digs 4294967296 Dn.num.natAbs).length c7) (.slice D7 (digs 4294967296 Dn.den).length e7);have B7:=qD3 BP6 (.bool (ngB Dn.num)) (.slice A7 (digs 4294967296 Dn.num.natAbs).length c7) (.slice D7 (digs 4294967296 Dn.den).length e7);have TS7:=(TSd.bQ b6).offQ HE.out.2.1 BP6 (no3 _) (by decide) G7 (fun hC0 u hu e=>HO5.out u hu _ e (.inr rfl));have RP7:=(RPd.bQ b6).grown G7 (fun x e1 e2=>(RPd.bQ b6).notBlk BP6 (by decide) x e1 e2);have BR7:=Blk.grown (BRd.bQ b6) G7 (by omega);have s7:=flow.off s6 BP6 (no3 _) G7;have d7:=flow.off d6 BP6 (no3 _) G7;have HG7:Hid (w.grownBy _ (some g)):=zV3 (zJ9 HGd.out b6) G7 (by omega);clear TSd RPd BPd BRd HGd BP6 s6 d6 kq kd sud std sq dq k0 k1 k2 ecr hix hur V0 V1 V2;go_wp2
              go_meet
              exact ⟨_,_,TS7,RP7,B7,s7,d7,BR7,HG7⟩
            case rest =>
              obtain ⟨u3,t3,TS7,RP7,BP7,su7,st7,BR7,HG7⟩:=hcut;obtain ⟨w7,hw7⟩:∃ w7,w7=wc:=⟨_,rfl⟩;subst hw7;clear TSd RPd BPd BRd HGd kq kd sud std sq dq k0 k1 k2 ecr hix hur V0 V1 V2 CM;obtain ⟨Ar,cr,hur,ecr,sr⟩:=TS7.at_ HE.out.2.2.1;obtain ⟨gr,or,uq,tq,rfl,hia,k0,k1,k2,sq,dq⟩:=sr.at_ HE.out.2.2.2.2.1;obtain ⟨Aq,cq,rfl,_⟩:=id sq;obtain ⟨Dq,eq,rfl,_⟩:=id dq;have hix:=fun w=>zH9 (P:=prog) underlying46 (by kernel_rfl) (g:=gr) (o:=or) (c:=cr) hia w;have kq:IsQ w7 (.agg #[.bool (ngB q1.num),.slice Aq (digs 4294967296 q1.num.natAbs).length cq,.slice Dq (digs 4294967296 q1.den).length eq]) q1:=⟨_,_,rfl,sq,dq⟩;clear sr
              go_wp2_with fail
              refine (CV _ _ kq).mono ?_;rintro e w8 ⟨v8,rfl,k8,-,b8⟩;obtain ⟨u8,t8,rfl,s8,d8⟩:=k8;obtain ⟨A8,c8,rfl,_⟩:=id s8;obtain ⟨D8,e8,rfl,_⟩:=id d8;have ba:=zC9 (w:=w8) (zB3 _) (.cells #[.bool (ngB X.num),.slice A8 (digs 4294967296 X.num.natAbs).length c8,.slice D8 (digs 4294967296 X.den).length e8] 44);have BU:=Blk.new w8 44 #[.bool (ngB X.num),.slice A8 (digs 4294967296 X.num.natAbs).length c8,.slice D8 (digs 4294967296 X.den).length e8];have bb:=b8.trans (ba.mono b8.size);have bd:=(Below.refl (w8.alloc (.cells #[.bool (ngB X.num),.slice A8 (digs 4294967296 X.num.natAbs).length c8,.slice D8 (digs 4294967296 X.den).length e8] 44)).heap.size (w8.alloc (.cells #[.bool (ngB X.num),.slice A8 (digs 4294967296 X.num.natAbs).length c8,.slice D8 (digs 4294967296 X.den).length e8] 44))).drew;have bb9:=bb.trans (bd.mono bb.size);have TS9:=TS7.bQ bb9;have RP9:=RP7.bQ bb9;have BP9:=BP7.bQ bb9;have su9:=su7.bQ bb9;have st9:=st7.bQ bb9;have BR9:=BR7.bQ bb9;have HG9:Hid (w.grownBy _ (some g)):=zJ9 HG7.out bb9;have BU9:=BU.bQ bd;obtain ⟨V0,V1,V2,_,_,_⟩:=three BU9;have kX:IsQ _ (.agg #[.bool (ngB X.num),.slice A8 (digs 4294967296 X.num.natAbs).length c8,.slice D8 (digs 4294967296 X.den).length e8]) X:=⟨_,_,rfl,s8.bQ (ba.trans (bd.mono ba.size)),d8.bQ (ba.trans (bd.mono ba.size))⟩;obtain ⟨Ar2,cr2,hur2,ecr2,sr2⟩:=TS9.at_ HE.out.2.2.1;have HLS:Hid (r1.length<=1000/\(∀ x∈r1,zC3 x 399)/\zC3 X 399/\399<=4900/\399<=4900):=⟨by rw [HE.out.2.2.2.1];exact hC,HLR.out.len,HE.out.2.2.2.2.2.2.2.2.2.2.2.1,by omega,by omega⟩
              have HNL:Hid ((zH3 r1 X).length<=1000000000):=by
                show _<=_
                rw [qM4];have:=HLS.out.1;omega
              have hkl:ps.length<T1.length:=by rw [HE.out.2.1.1];exact hk
              clear TS7 RP7 BP7 su7 st7 BR7 HG7 ba BU bb bd bb9 s8 d8 kq sq dq k0 k1 k2 ecr hix hur CV;go_upto_region 14 with (fail)
              go_cut [] from 63 to 69 (fun wx => ∃ us3:List Value,zE2 .u64 4294967296 wx g 46 us3 (T1.set ps.length (zH3 r1 X))/\Hid (zM1 us3 (fun x=>x=w.heap.size\/x=w2.heap.size))/\zE6 isI wx w.heap.size 3 (.slice A6 ps.length c6) (pI ps)/\Blk wx w2.heap.size 44 #[.bool (ngB Dn.num),u3,t3]/\IsS wx .u64 u3 (digs 4294967296 Dn.num.natAbs)/\IsS wx .u64 t3 (digs 4294967296 Dn.den)/\Blk wx w.heap.size 44 #[.bool false,.slice none 0 0,.slice none 0 0]/\Hid (w.grownBy wx (some g)))
              case first =>
                go_region_law (go_simp;go_at_call 88;refine (jJ6 _ _ r1 X 399 399 _ (by exact sr2) (by exact kX) HLS.out).mono ?_;rintro e w10 ⟨gn,rfl,RNn,hgn,b10⟩;have sR:=RNn.sl rfl HNL.out;have TS10:=TS9.bQ b10;obtain ⟨u0,c10⟩:=TS10.cellAt (i:=ps.length) hkl;have f10:=TS10.frozenAt ps.length)
                all_goals
                  have TS11:=TS10.stored ps.length sR;have G11:=zF4 w10 g ps.length (.slice (some ⟨gn,0,none⟩) (zH3 r1 X).length (zH3 r1 X).length);have hb10:=b10.size
                  have HO11:Hid (zM1 (us2.set ps.length (.slice (some ⟨gn,0,none⟩) (zH3 r1 X).length (zH3 r1 X).length)) (fun x=>x=w.heap.size\/x=w2.heap.size)):=HO5.out.set (fun x hx hG=>by
                    have h1:gn=x:=by simpa [Value.ownBlock] using hx
                    have h2:=BP9.lt;have h3:=BR9.lt;rcases hG with e | e<;>omega) ps.length
                  have RP11:=(RP9.bQ b10).grown G11 (fun x e1 e2=>(RP9.bQ b10).notTab TS10.1 (by decide) (by rw [e1,e2]));have BP11:=Blk.grown (BP9.bQ b10) G11 (by omega);have BR11:=Blk.grown (BR9.bQ b10) G11 (by omega);have su11:=TS10.1.keep G11 (su9.bQ b10);have st11:=TS10.1.keep G11 (st9.bQ b10);have HG11:Hid (w.grownBy _ (some g)):=(zJ9 HG9.out b10).trans G11;clear TS9 RP9 BP9 su9 st9 BR9 HG9 TS10 sR kX sr2;go_wp2
                  go_meet
                  exact ⟨_,TS11,HO11,RP11,BP11,su11,st11,BR11,HG11⟩
              case rest =>
                obtain ⟨us3,TS9',HO9,RP9',BP9',su9',st9',BR9',HG9'⟩:=hcut;obtain ⟨w9,hw9⟩:∃ w9,w9=wc:=⟨_,rfl⟩;subst hw9;clear TS9 RP9 BP9 su9 st9 BR9 HG9 BU9 V0 V1 V2 kX hur2 ecr2 sr2 HNL HLS HO5;obtain ⟨T2,hT2⟩:∃ T2,T2=T1.set ps.length (zH3 r1 X):=⟨_,rfl⟩;rw [<- hT2] at TS9'
                have eT2:T2=zP8 (zI3 T ps.length (ps.length+f)) ps.length (zB8 (zI3 T ps.length (ps.length+f)) ps.length j)⁻¹:=by
                  rw [hT2,zP8,<- HE.out.1,zK5 HE.out.2.2.1,HE.out.2.2.2.2.2.2.2.2.2.2.1,HE.out.2.2.2.2.2.1]
                have hs2:shp T2 n C:=by rw [hT2];exact qH8 HE.out.2.1 (by rw [qM4];exact HE.out.2.2.2.1)
                have hp2:T2[ps.length]?=some (zH3 r1 X):=by rw [hT2];exact bQ3 hkl
                have hR2:zH7 T2 399:=by
                  rw [hT2];intro x hx;rcases bW3 hx with hx | rfl
                  · exact HE.out.2.2.2.2.2.2.2.2.1 x hx
                  · rw [HE.out.2.2.2.2.2.2.2.2.2.2.1];exact HLR.out.scale (zA5 HE.out.2.2.2.2.1) HE.out.2.2.2.2.2.2.2.1
                have HPV:Hid (zH6 T2 (fun i=>decide (ps.length<i)) (zH3 r1 X) j n=zM7 T (fun i=>decide (ps.length<i)) ps.length (ps.length+f) j n):=by
                  show _=_
                  unfold zM7;rw [<- eT2,zK5 hp2]
                have HDN:Hid (Dwn T0 (zM7 T (fun i=>decide (ps.length<i)) ps.length (ps.length+f) j n) n C (j+1) (ps ++ [j]) Dn S):=by
                  have h1:=HD.out.pivot hj (show ps.length<=ps.length+f by omega) (show ps.length+f<n by omega) HNE.out;have h2:Dn=(if ps.length+f=ps.length then d else -d)*zB8 T (ps.length+f) j:=by rw [HE.out.2.2.2.2.2.2.2.2.2.1,HD2.out,HE.out.2.2.2.2.2.2.1]
                  show Dwn _ _ _ _ _ _ _ _
                  rw [h2];exact h1
                have HLL:Hid (zC3 Dn (1+400*(ps ++ [j]).length)):=by
                  show zC3 _ _
                  rw [zA8];exact HE.out.2.2.2.2.2.2.2.2.2.2.2.2
                have HPS:Hid (pI ps ++ [.int .i64 (j:Int)]=pI (ps ++ [j])):=yM3 ps j;have HRP2:Hid (zM0 (zH3 r1 X) 399):=hR2 _ (zA5 hp2);have hpl2:Hid ((zH3 r1 X).length=C):=hs2.2 _ (zA5 hp2);have H2:=hQ9 (zA hs2 (zA hp2 hR2));have bd:=(Below.refl w9.heap.size w9).drew;have TSd:=TS9'.bQ bd;obtain ⟨Ap,cp,hup,ecp,sp⟩:=TSd.at_ hp2
                have CC:∀ o m:Nat,o+m=n\/m=0->ps.length<=o->o<=n->(m=0->n=ps.length+1)->(m≠0->o=ps.length+1)->Calls prog 89 #[.slice (some ⟨g,o,none⟩) m m,.slice Ap (zH3 r1 X).length cp,.int .i64 (j:Int)] w9.drew (qO7 g us3 (zM7 T (fun i=>decide (ps.length<i)) ps.length (ps.length+f) j n) w9.drew):=fun o m h1 h2 h3 h4 h5=>by
                  have hc1:=yM1 g o m m j n C 399 us3 _ (zH3 r1 X) T2 (fun i=>decide (ps.length<i)) w9.drew TSd sp ⟨H2.out.1,hpl2.out,hj,by omega,zB3 _,by omega,hC,fun i hi=>by simp;omega,fun i h6 h7=>by simp;omega,H2.out.2.2,HRP2.out,fun _=>by omega⟩
                  have e:zH6 T2 (fun i=>decide (ps.length<i)) (zH3 r1 X) j (o+m)=zM7 T (fun i=>decide (ps.length<i)) ps.length (ps.length+f) j n:=by
                    rw [<- HPV.out];rcases h1 with h1 | h1
                    · rw [h1]
                    · subst h1;have h6:=h4 rfl;rw [qI (o+0) (fun i hi=>by simp;omega),qI n (fun i hi=>by simp;omega)]
                  rwa [e] at hc1
                have RPd:=RP9'.bQ bd;have BPd:=BP9'.bQ bd;have sud:=su9'.bQ bd;have std:=st9'.bQ bd;have BRd:=BR9'.bQ bd;have HGd:Hid (w.grownBy w9.drew (some g)):=zJ9 HG9'.out bd;have h1m:(1:Int)<=((n-ps.length:Nat):Int):=by omega
                clear TS9' RP9' BP9' su9' st9' BR9' HG9' hT2 eT2 hs2 hp2 hR2 hup;by_cases hm2:n-ps.length=1
                · have HM2:=hQ9 hm2;have hcc:=CC ps.length 0 (.inr rfl) (zB3 _) (by omega) (fun _=>by omega) (fun e=>absurd rfl e);go_upto_region 15 with (fail)
                  go_region_law (go_simp;go_at_call 89;refine hcc.mono ?_;rintro e w10 ⟨rfl,us4,TS10,G10,ST10⟩)
                  all_goals
                    have RP10:=RPd.grown G10 (fun x e1 e2=>RPd.notTab TSd.1 (by decide) (by rw [e1,e2]));have BP10:=Blk.grown BPd G10 (by omega);have BR10:=Blk.grown BRd G10 (by omega);have su10:=TSd.1.keep G10 sud;have st10:=TSd.1.keep G10 std;have HG10:Hid (w.grownBy w10 (some g)):=HGd.out.trans G10
                    have HO10:Hid (zM1 us4 (fun x=>x=w.heap.size\/x=w2.heap.size)):=ST10 _ (fun x hx=>by
                      have h2:=BPd.lt;have h3:=BRd.lt;rcases hx with rfl|rfl
                      · exact h3
                      · exact h2) HO9.out
                    have ba:=zC9 (w:=w10) (zB3 _) (.cells #[.int .i64 (j:Int)] 3);have RP11:=RP10.bQ ba;have TS11:=TS10.bQ ba;have BP11:=BP10.bQ ba;have BR11:=BR10.bQ ba;have su11:=su10.bQ ba;have st11:=st10.bQ ba;have HG11:Hid (w.grownBy _ (some g)):=zJ9 HG10.out ba;have hbase:w.heap.size<=(w10.alloc (.cells #[.int .i64 (j:Int)] 3)).heap.size:=zB4 HG10.out.size ba.size;have hone:=cell_one_new w10 (.int .i64 (j:Int)) 3;have hlp:(pI ps).length+1<=1000000000:=by rw [zR0];omega
                    clear TSd RPd BPd BRd sud std HGd G10 TS10 RP10 BP10 BR10 su10 st10 HG10 ba ST10 ecp sp CC
                    go_wp2_with (at_builtin;refine qX rfl (.tmp 77) (.tmp 79) rfl underlying32 info_int rfl RP11 rfl rfl (by decide) hone (fun u hu=>by (obtain rfl:=List.mem_singleton.1 hu;exact ⟨_,rfl⟩)) hlp hbase ?_;intro v12 w12 RP12 HG12 HX12)
                    have TS13:=TS11.keepX RP11 (RP11.notTab TS11.1 (by decide)) HG12.out;have BP13:=RP11.keepBlk BP11 (by decide) HG12.out;have BR13:=RP11.keepBlk BR11 (by decide) HG12.out;have su13:=RP11.keepS HG12.out su11;have st13:=RP11.keepS HG12.out st11;have HG13:Hid (w.grownBy w12 (some g)):=yM2 HG11.out HG12.out (fun x e=>RP11.1.base_le x e);rw [HPS.out] at RP12;clear TS11 RP11 BP11 BR11 su11 st11 HG11 hone;go_wp2;go_roundw;case rel=>exact ⟨j+1,_,us4,ps ++ [j],Dn,_,_,by omega,HDN,TS13,RP12,BP13,su13,st13,BR13,HLL,HG13,fun _=>HO10.out,by go_num⟩
                    case measure=>simp [intOf];omega
                · have hcc:=CC (ps.length+1) (n-ps.length-1) (.inl (by omega)) (by omega) (by omega) (fun e=>by omega) (fun _=>rfl);go_upto_region 15 with (fail)
                  go_region_law (go_simp;go_at_call 89;refine hcc.mono ?_;rintro e w10 ⟨rfl,us4,TS10,G10,ST10⟩)
                  all_goals
                    have RP10:=RPd.grown G10 (fun x e1 e2=>RPd.notTab TSd.1 (by decide) (by rw [e1,e2]));have BP10:=Blk.grown BPd G10 (by omega);have BR10:=Blk.grown BRd G10 (by omega);have su10:=TSd.1.keep G10 sud;have st10:=TSd.1.keep G10 std;have HG10:Hid (w.grownBy w10 (some g)):=HGd.out.trans G10
                    have HO10:Hid (zM1 us4 (fun x=>x=w.heap.size\/x=w2.heap.size)):=ST10 _ (fun x hx=>by
                      have h2:=BPd.lt;have h3:=BRd.lt;rcases hx with rfl|rfl
                      · exact h3
                      · exact h2) HO9.out
                    have ba:=zC9 (w:=w10) (zB3 _) (.cells #[.int .i64 (j:Int)] 3);have RP11:=RP10.bQ ba;have TS11:=TS10.bQ ba;have BP11:=BP10.bQ ba;have BR11:=BR10.bQ ba;have su11:=su10.bQ ba;have st11:=st10.bQ ba;have HG11:Hid (w.grownBy _ (some g)):=zJ9 HG10.out ba;have hbase:w.heap.size<=(w10.alloc (.cells #[.int .i64 (j:Int)] 3)).heap.size:=zB4 HG10.out.size ba.size;have hone:=cell_one_new w10 (.int .i64 (j:Int)) 3;have hlp:(pI ps).length+1<=1000000000:=by rw [zR0];omega
                    clear TSd RPd BPd BRd sud std HGd G10 TS10 RP10 BP10 BR10 su10 st10 HG10 ba ST10 ecp sp CC
                    go_wp2_with (at_builtin;refine qX rfl (.tmp 77) (.tmp 79) rfl underlying32 info_int rfl RP11 rfl rfl (by decide) hone (fun u hu=>by (obtain rfl:=List.mem_singleton.1 hu;exact ⟨_,rfl⟩)) hlp hbase ?_;intro v12 w12 RP12 HG12 HX12)
                    have TS13:=TS11.keepX RP11 (RP11.notTab TS11.1 (by decide)) HG12.out;have BP13:=RP11.keepBlk BP11 (by decide) HG12.out;have BR13:=RP11.keepBlk BR11 (by decide) HG12.out;have su13:=RP11.keepS HG12.out su11;have st13:=RP11.keepS HG12.out st11;have HG13:Hid (w.grownBy w12 (some g)):=yM2 HG11.out HG12.out (fun x e=>RP11.1.base_le x e);rw [HPS.out] at RP12;clear TS11 RP11 BP11 BR11 su11 st11 HG11 hone;go_wp2;go_roundw;case rel=>exact ⟨j+1,_,us4,ps ++ [j],Dn,_,_,by omega,HDN,TS13,RP12,BP13,su13,st13,BR13,HLL,HG13,fun _=>HO10.out,by go_num⟩
                    case measure=>simp [intOf];omega
        · obtain rfl:f=n-ps.length:=by omega
          have HD5:Hid (Dwn T0 T n C (j+1) ps d S):=HD.out.skip fun i h1 h2=>by
            have h3:=hz (i-ps.length) (by omega);rw [hent _ (by omega),show ps.length+(i-ps.length)=i by omega] at h3;exact h3
          clear hz hnz hent hLl;go_wp2;go_roundw;case rel=>exact ⟨j+1,T,us',ps,d,_,_,by omega,HD5,TS4,RP4,BP4,su4,st4,BR4,HLD,HG4,HOF,by go_num⟩
          case measure=>simp [intOf];omega
      · have hn0:n-ps.length=0:=by omega
        have SL:=TS.sub (o:=0) (m:=0) (c:=0) (by omega) (zB3 _) (by unfold maxLen;omega);go_wp2_with fail
        refine (yM0 _ _ j _ SL (fun r hr=>by simp at hr)).mono ?_;rintro e w4 ⟨f,rfl,hf,-,-,b4⟩;obtain rfl:f=0:=by simpa using hf
        have TS4:=TS.bQ b4;have RP4:=RP.bQ b4;have BP4:=BP.bQ b4;have su4:=su.bQ b4;have st4:=st.bQ b4;have BR4:=BR.bQ b4;have HG4:Hid (w.grownBy w4 (some g)):=zJ9 HG.out b4;have HD5:Hid (Dwn T0 T n C (j+1) ps d S):=HD.out.skip fun i h1 h2=>by omega
        clear TS RP BP su st BR HG SL;go_wp2;go_roundw;case rel=>exact ⟨j+1,T,us',ps,d,_,_,by omega,HD5,TS4,RP4,BP4,su4,st4,BR4,HLD,HG4,HOF,by go_num⟩
        case measure=>simp [intOf];omega
    · obtain rfl:j=pl:=by omega
      obtain ⟨V0,V1,V2,_,_,_⟩:=three BP;obtain ⟨R0,R1,R2,F0,F1,F2⟩:=three BR;have G9:=qI7 wr w.heap.size (.bool (ngB d.num)) (.slice Au (digs 4294967296 d.num.natAbs).length cu) (.slice At (digs 4294967296 d.den).length ct);have B9:=qD3 BR (.bool (ngB d.num)) (.slice Au (digs 4294967296 d.num.natAbs).length cu) (.slice At (digs 4294967296 d.den).length ct);have TS9:=TS.offQ HD.out.sh BR (no3 _) (by decide) G9 (fun hC0 u hu e=>HOF.out hC0 u hu _ e (.inl rfl));have RP9:=RP.grown G9 (fun x e1 e2=>RP.notBlk BR (by decide) x e1 e2);have s9:=flow.off su BR (no3 _) G9;have d9:=flow.off st BR (no3 _) G9;have HG9:Hid (w.grownBy _ (some g)):=zV3 HG.out G9 (zB3 _);obtain ⟨w9,hw9⟩:∃ w9,w9=(((wr.setCell ⟨w.heap.size,0,none⟩ (.bool (ngB d.num))).setCell ⟨w.heap.size,1,none⟩ (.slice Au (digs 4294967296 d.num.natAbs).length cu)).setCell ⟨w.heap.size,2,none⟩ (.slice At (digs 4294967296 d.den).length ct)):=⟨_,rfl⟩;rw [<- hw9] at B9 TS9 RP9 s9 d9 HG9;have bd:=(Below.refl w9.heap.size w9).drew;have B10:=B9.bQ bd;have HEND:Hid (yM4 T0 g n C j S w (.returned (.tuple #[u6,.agg #[.bool (ngB d.num),.slice Au (digs 4294967296 d.num.natAbs).length cu,.slice At (digs 4294967296 d.den).length ct]])) w9.drew):=⟨_,_,T,us',ps,d,rfl,HD.out,TS9.bQ bd,RP9.bQ bd,⟨_,_,rfl,s9.bQ bd,d9.bQ bd⟩,HLD.out,zJ9 HG9.out bd⟩;obtain ⟨C0,C1,C2,_,_,_⟩:=three B10;clear TS9 RP9 s9 d9 HG9 B9 bd B10;rw [hw9] at C0 C1 C2;have HW:=hQ9 hw9;clear hw9;go_upto_region 18 with (fail);go_region
      all_goals
        go_wp2;exact bodyPost_ret (v:=.tuple #[u6,.agg #[.bool (ngB d.num),.slice Au (digs 4294967296 d.num.natAbs).length cu,.slice At (digs 4294967296 d.den).length ct]]) (by simp [results,results52,go_sem,C0,C1,C2]) rfl (by have h:=HEND.out;rw [HW.out] at h;exact h)
end rat
namespace rat
open Go.RowKit Go.Shelf num mem nat txt str flow whl
attribute [local go_sem] Oper.semAt_some
theorem jM6 {F:Fence} {n:Nat} {P:Program} {ops:Array Oper} {Q:Exit->Act->World->Prop} {i:Nat} {K:Act->World->Prop} {a:Act} {w:World} (l:Nat) (hro:F.round=none) (hd:∀ (j:Nat) (o:Oper),ops[j]?=some o -> ∀ c,o.op ≠ .defer c) (h:wpOpIn F n P ops Q i K a w):wpOpIn (F.inRound l) n P ops Q i K a w:=by
 unfold wpOpIn at *
 split
 ·rename_i e
  rw [e] at h;exact h
 ·rename_i o e
  simp only [e] at h
  split
  ·rename_i hw
   simp only [hw,if_true] at h;unfold Oper.wpIn at *;refine ⟨h.1,?_⟩;have h:=h.2;rw [hro,Oper.semAt_none] at h;rw [Fence.inRound_round,Oper.semAt_some l _ o (hd i o e)]
   generalize (execOp a.eval o).run P w=r at *
   cases r with
   | ok x w'=>cases x<;>exact h
   | halt x w'=>cases x<;>exact h
  ·rename_i hw
   simp only [hw] at h;exact h
theorem yM5 {F:Fence} {n:Nat} {P:Program} {md:Region.Mode} {ops:Array Oper} {Q:Exit->Act->World->Prop} (l:Nat) (hro:F.round=none) (hd:∀ (j:Nat) (o:Oper),ops[j]?=some o -> ∀ c,o.op ≠ .defer c):∀ (fuel:Nat) (listed:Array Bool) (a:Act) (w:World),wpAnyIn F n P md ops Q fuel listed a w->wpAnyIn (F.inRound l) n P md ops Q fuel listed a w
 | 0,_,_,_,h=>h
 | fuel+1,listed,a,w,h=>⟨h.1,fun i hi=>jM6 l hro hd (wpOpIn_mono (fun a w h=>yM5 l hro hd fuel _ a w h) (h.2 i hi))⟩
theorem jM7 {n:Nat} {P:Program} {l:List Oper} {Q:Exit->Act->World->Prop} {id:Nat} {a:Act} {w:World} (r:Nat) (hm:P.follows .mixedOrders=true) (hd:l.all (fun o=>match o.op with | .defer _=>false | _=>true)=true)
  (h:wpAnyIn Fence.wide n P .any l.toArray Q l.length (Array.replicate l.length false) a w.drew):(Code.region id l.toArray true).wpIn (Fence.wide.inRound r) n P Q a w:=by
 refine wpIn_region_any hm ?_;refine yM5 r rfl (fun j o hj c hc => ?_) _ _ _ _ h;have h1:=List.all_eq_true.1 hd o (by simpa using zA5 (by simpa using hj));rw [hc] at h1;cases h1
theorem IsS.own {w w':World} {row:Option Nat} {k:IntKind} {v:Value} {l:List Nat} (h:IsS w k v l) (hg:w.grownBy w' row) (hr:∀ x,row=some x -> ∃ o:Obj,w.heap[x]?=some o/\o.isCells=false):IsS w' k v l:=by
 obtain ⟨A,c,e,h1,h2,h3⟩:=h;refine ⟨A,c,e,h1,h2,fun i d hd => ?_⟩;obtain ⟨ad,h4,h5⟩:=h3 i d hd;exact ⟨ad,h4,cell_kept h5 hg hr⟩
theorem SlF.own {w w':World} {row:Option Nat} {k:IntKind} {B:Nat} {v:Value} {r:List Rat} (h:SlF k B w v r) (hg:w.grownBy w' row) (hr:∀ x,row=some x -> ∃ o:Obj,w.heap[x]?=some o/\o.isCells=false):SlF k B w' v r:=by
 obtain ⟨ps,h1,⟨A,c,e1,h2,h3,h4⟩,h5⟩:=h;refine ⟨ps,h1,⟨A,c,e1,h2,h3,fun i p hp => ?_⟩,fun p hp=>⟨IsS.own (h5 p hp).1 hg hr,IsS.own (h5 p hp).2 hg hr⟩⟩;obtain ⟨g',o,e2,c0,c1,c2⟩:=h4 i p hp;exact ⟨g',o,e2,cell_kept c0 hg hr,cell_kept c1 hg hr,cell_kept c2 hg hr⟩
theorem zE2.ownK {w w':World} {row:Option Nat} {k:IntKind} {B g:Nat} {TS:TypeId} {us:List Value} {T:List (List Rat)} (h:zE2 k B w g TS us T) (hg:w.grownBy w' row) (hr:∀ x,row=some x -> ∃ o:Obj,w.heap[x]?=some o/\o.isCells=false):zE2 k B w' g TS us T:=by
 refine ⟨h.1.grown hg fun e => ?_,h.2.1,fun i u r hu h2=>SlF.own (h.2.2 i u r hu h2) hg hr⟩;obtain ⟨o,h1,h2⟩:=hr g e;have h3:=h.1.1;unfold Blk at h3;rw [h1] at h3;injection h3 with h3;subst h3;cases h2
def KpG (g n0:Nat) (W W':World):Prop:=W.heap.size<=W'.heap.size /\ ∀ k,k<n0->k<W.heap.size->k≠g->W'.heap[k]?=W.heap[k]?
theorem KpG.refl (g n0:Nat) (W:World):KpG g n0 W W:=⟨zB3 _,fun _ _ _ _=>rfl⟩
theorem KpG.trans {g n0:Nat} {A B C:World} (h:KpG g n0 A B) (k:KpG g n0 B C):KpG g n0 A C :=
 ⟨zB4 h.1 k.1,fun i hi hl hg=>(k.2 i hi (bY2 hl h.1) hg).trans (h.2 i hi hl hg)⟩
theorem KpG.cell {g n0:Nat} {W W':World} {p:Addr} {v:Value} (h:KpG g n0 W W') (hp:W.cell? p=some v) (hn:p.block<n0) (hg:p.block≠g):W'.cell? p=some v:=by
 have h1:=h.2 p.block hn (bQ0 _ _ hp) hg;exact (World.cell?_of_block h1).trans hp
abbrev BkT (ps:List Nat):={ x:Nat × Nat // x.1<ps.length/\x.2=pv ps x.1 }
def bkE {ps:List Nat} (x:BkT ps):Array Value:=#[.int .i64 (x.1.1:Int),.int .i64 (x.1.2:Int)]
def zO9 {ps:List Nat} (xs:List (BkT ps)):Prop:=∀ (t:Nat) (x:BkT ps),xs[t]?=some x->x.1.1+t+1=ps.length
theorem zO9.snoc {ps:List Nat} {xs:List (BkT ps)} {x:BkT ps} (h:zO9 xs) (hx:x.1.1+xs.length+1=ps.length):zO9 (xs ++ [x]):=fun t y hy=>by
 by_cases ht:t<xs.length
 ·rw [zB0 ht] at hy;exact h t y hy
 ·rw [bW0 (by omega)] at hy
  have e:t-xs.length=0:=by
   have:=(zA4.1 hy).1
   simp at this;omega
  rw [e] at hy;obtain rfl:x=y:=by simpa using hy
  omega
theorem zO9.init {ps:List Nat} {xs:List (BkT ps)} {x:BkT ps} (h:zO9 (xs ++ [x])):zO9 xs/\x.1.1+xs.length+1=ps.length :=
 ⟨fun t y hy=>h t y (by rw [zB0 (zA4.1 hy).1];exact hy),h xs.length x (by rw [bW0 (zB3 _)];simp)⟩
theorem jM8 (F:Fence) (n:Nat) (hf:F.fn 117) (hro:F.round=none) (hn:1<=n) (l Bs g n0 c:Nat) (A:Option Addr) (ps:List Nat) (hps:ps.length<=1000) (J Jx:List (BkT ps)->World->Prop)
  (hY : ∀ pre x W, J pre W -> pre.length < ps.length -> YieldAt F (n - 1) prog l (bkE x) W fun e W' =>
   (e=.returned (.bool true)/\J (pre ++ [x]) W'/\KpG g n0 W W')\/(e=.returned (.bool false)/\Jx (pre ++ [x]) W'))
  (W:World) (hBs:W.cell? ⟨Bs,0,none⟩=some (.slice A ps.length c)) (hBn:Bs<n0) (hBg:Bs≠g) (hc:∀ i,i<ps.length -> ∃ ad,A=some ad/\ad.block<n0/\ad.block≠g/\W.cell? (ad.add i)=some (.int .i64 (pv ps i:Int))) (h0:J [] W) :
  CallsIn F n prog 117 #[.func (.yield l) #[] #[],.pointer (some ⟨Bs,0,none⟩)] W fun e W'=>(∃ v,e=.returned v) /\
   ((∃ xs:List (BkT ps),(xs.length=ps.length/\zO9 xs)/\J xs W')\/(∃ pre,True/\Jx pre W')):=by
 refine callsIn_of_wp func117 rfl hf ?_ hro;simp only [ntmps117,List.size_toArray,bX3,List.length_nil,Nat.reduceAdd,Nat.reduceSub,Array.replicate_succ,Array.replicate_zero,List.push_toArray,List.append_toArray,List.nil_append,List.cons_append]
 gi_wp2
 gi_loopw [3] (fun v3 wr => ∃ (z:Int) (xs:List (BkT ps)),z=(ps.length:Int)-1-(xs.length:Int)/\xs.length<=ps.length/\Hid (zO9 xs)/\v3=.int .i64 z/\Hid (J xs wr)/\Hid (KpG g n0 W wr)) (fun v3 _=>(intOf v3+1).toNat)
 case atStart=>exact ⟨_,[],by simp,Nat.zero_le _,(fun t x h=>by simp at h),rfl,h0,KpG.refl _ _ _⟩
 case round =>
  obtain ⟨z,xs,hz,hxl,HB,rfl,HJ,HK⟩:=hrel;have hBr:=HK.out.cell hBs hBn hBg;by_cases hlt:xs.length<ps.length
  ·obtain ⟨i,rfl⟩:∃ i:Nat,z=i:=⟨ps.length-1-xs.length,by omega⟩;have hip:i<ps.length:=by omega
   obtain ⟨ad,rfl,ha1,ha2,ha3⟩:=hc i hip;have hcx:=HK.out.cell ha3 (by unfold Addr.add;split<;>exact ha1) (by unfold Addr.add;split<;>exact ha2);obtain ⟨x,hx⟩:∃ x:BkT ps,x=⟨(i,pv ps i),hip,rfl⟩:=⟨_,rfl⟩;have hxe:bkE x = #[.int .i64 (i:Int),.int .i64 (pv ps i:Int)]:=by rw [hx];rfl
   have hxi:x.1.1=i:=by rw [hx]
   obtain ⟨fn,tmps,assign,body,hy,hR⟩:=hY xs x wr HJ.out hlt;rw [hxe] at hy;have HX:=hQ9 hxi;have HZ:=hQ9 hz;clear hx hxe hxi hz ha3 hc;have h0i:(0:Int)<=(i:Int):=by omega
   gi_wp2
   refine hR.mono ?_;rintro e W3 (⟨rfl,hJ3,hk3⟩|⟨rfl,hJx3⟩)
   ·have HB3:Hid (zO9 (xs ++ [x])):=HB.out.snoc (by rw [HX.out];have:=HZ.out;omega);have HK3:Hid (KpG g n0 W W3):=HK.out.trans hk3;have HJ3:=hQ9 hJ3;clear hJ3 hk3
    gi_wp2
    go_roundw;case rel=>exact ⟨(i:Int)-1,xs ++ [x],by (have:=HZ.out;first | (simp;omega) | (simp;done) | omega),by simp;omega,HB3,by go_num,HJ3,HK3⟩
    case measure=>first | (simp [intOf];omega) | (simp [intOf];done)
   ·gi_wp2
    refine bodyPost_ret (results_none rfl _ _ _) rfl ?_;exact ⟨⟨_,rfl⟩,.inr ⟨_,trivial,hJx3⟩⟩
  ·have hz0:¬ (0:Int)<=z:=by omega
   have hxe:xs.length=ps.length:=by omega
   have HXE:=hQ9 hxe;clear hxe
   gi_wp2
   go_end0
   exact ⟨⟨_,rfl⟩,.inl ⟨xs,⟨HXE.out,HB.out⟩,HJ.out⟩⟩
theorem back_in (F:Fence) (n:Nat) (hf:F.fn 90) (hro:F.round=none) (a:Option Addr) (len cap:Nat) (w:World) :
  CallsIn F n prog 90 #[.slice a len cap] w fun e w'=>e=.returned (.func (.func 117) #[] #[.pointer (some ⟨w.heap.size,0,none⟩)])/\w'=w.alloc (.cells #[.slice a len cap] 32):=by
 refine callsIn_of_wp func90 rfl hf ?_ hro;simp only [ntmps90,List.size_toArray,bX3,List.length_nil,Nat.reduceAdd,Nat.reduceSub,Array.replicate_succ,Array.replicate_zero,List.push_toArray,List.append_toArray,List.nil_append,List.cons_append]
 gi_wp2
 go_ret;exact ⟨rfl,rfl⟩
theorem jM9 (F:Fence) (n:Nat) (hf:F.fn 117) (hro:F.round=none) (hn:1<=n) (Bs g c:Nat) (A:Option Addr) (ps:List Nat) (hps:ps.length<=1000) (w:World)
  (hBs:w.cell? ⟨Bs,0,none⟩=some (.slice A ps.length c)) (hBg:Bs≠g) (hc:∀ i,i<ps.length -> ∃ ad,A=some ad/\ad.block≠g/\w.cell? (ad.add i)=some (.int .i64 (pv ps i:Int))) :
  SeqStopsK F n prog 117 #[.pointer (some ⟨Bs,0,none⟩)] (bkE (ps:=ps)) (KpG g w.heap.size) (fun xs=>xs.length=ps.length/\zO9 xs) (fun _=>True) ps.length w:=fun l J Jx W hW _ _ hY h0=>by
 have hB1:=bQ0 _ _ hBs
 exact jM8 F n hf hro hn l Bs g w.heap.size c A ps hps J Jx hY W ((hW.cell hB1).trans hBs) hB1 hBg (fun i hi=>by
  obtain ⟨ad,e,h1,h2⟩:=hc i hi;have h3:=bQ0 _ _ h2;have h4:(ad.add i).block=ad.block:=by unfold Addr.add;split<;>rfl
  exact ⟨ad,e,by rw [<- h4];exact h3,h1,(hW.cell h3).trans h2⟩) h0
def UpI (T0:List (List Rat)) (g n C a S:Nat) (ps:List Nat) (w:World) (xs:List (BkT ps)) (W:World):Prop:=∃ (us:List Value) (T:List (List Rat)) (S':Nat),shp T n C/\zH7 T S'/\S'+1<=(S+1)*2^xs.length/\zE2 .u64 4294967296 W g 46 us T/\(zO9 xs->Upw T0 T n C a ps (ps.length-xs.length) S)/\W.cell? ⟨w.heap.size,0,none⟩=some (.slice (some ⟨g,0,none⟩) n n)/\w.grownBy W (some g)
theorem UpI.ownFrom (T0:List (List Rat)) (g n C a S:Nat) (ps:List Nat) (w:World) {B:Nat} (hB:w.heap.size<=B):OwnFrom B (UpI T0 g n C a S ps w):=fun xs W W' row h hg hr=>by
 obtain ⟨us,T,S',h1,h2,h3,h4,h5,h6,h7⟩:=h;have hr2:∀ x,row=some x -> ∃ o:Obj,W.heap[x]?=some o/\o.isCells=false:=fun x e=>(hr x e).2;refine ⟨us,T,S',h1,h2,h3,zE2.ownK h4 hg hr2,h5,cell_kept h6 hg hr2,?_⟩
 cases e:row with
 | none=>rw [e] at hg;exact zJ9 h7 ⟨hg.os,hg.tape,hg.output,hg.size,fun k hk=>hg.block k hk (by simp)⟩
 | some x=>rw [e] at hg;exact zV3 h7 hg (zB4 hB (hr x e).1)
def RetUp (T0:List (List Rat)) (g n C a S:Nat) (ps:List Nat) (w:World) (e:Ending) (w':World):Prop:=e=.returned (.tuple #[]) /\ ∃ us T,Upw T0 T n C a ps 0 S/\zE2 .u64 4294967296 w' g 46 us T/\w.grownBy w' (some g)
theorem gup_any (g n C a S c6:Nat) (A6:Option Addr) (us:List Value) (ps:List Nat) (T0 T:List (List Rat)) (w:World) (h:zE2 .u64 4294967296 w g 46 us T) (hp:∀ i,i<ps.length -> ∃ ad,A6=some ad/\ad.block≠g/\w.cell? (ad.add i)=some (.int .i64 (pv ps i:Int)))
  (hc:Hid (shp T n C/\a<=C/\n<=5/\C<=1000/\zH7 T S/\(S+1)*2^(ps.length-1)<=2450/\Ech n a (zB8 T) ps.length (pv ps)/\zF3 n C (zB8 T0) (zB8 T))) :
  Calls prog 53 #[.slice (some ⟨g,0,none⟩) n n,.slice A6 ps.length c6] w (RetUp T0 g n C a S ps w):=by
 have hle:=hc.out.2.2.2.2.2.2.1.le;have hn5:=hc.out.2.2.1;have hC:=hc.out.2.2.2.1;have hgl:=h.lt;refine (callsIn_wide (n:=3)).1 ?_;refine callsIn_of_wp_marks func53 rfl trivial ?_ rfl;simp only [ntmps53,List.size_toArray,bX3,List.length_nil,Nat.reduceAdd,Nat.reduceSub,Array.replicate_succ,Array.replicate_zero,List.push_toArray,List.append_toArray,List.nil_append,List.cons_append]
 gi_wp2
 refine ⟨trivial,?_⟩
 gi_at_call 90
 refine (back_in Fence.wide _ trivial rfl _ _ _ _).mono ?_;rintro e w' ⟨rfl,rfl⟩
 gi_wp2
 have hgr0:w.grownBy ((w.alloc (.cells #[.slice (some ⟨g,0,none⟩) n n] 22)).alloc (.cells #[.slice A6 ps.length c6] 32)) none:=(World.grownBy_alloc _ _ none).trans (World.grownBy_alloc _ _ none)
 have hs:((w.alloc (.cells #[.slice (some ⟨g,0,none⟩) n n] 22)).alloc (.cells #[.slice A6 ps.length c6] 32)).cell? ⟨w.heap.size,0,none⟩=some (.slice (some ⟨g,0,none⟩) n n) :=
  cell_kept (by rw [World.cell?_alloc_new];rfl) (World.grownBy_alloc _ _ none) (fun r e=>by cases e)
 have hb:((w.alloc (.cells #[.slice (some ⟨g,0,none⟩) n n] 22)).alloc (.cells #[.slice A6 ps.length c6] 32)).cell? ⟨w.heap.size+1,0,none⟩=some (.slice A6 ps.length c6):=by
  have:=World.cell?_alloc_new (w:=w.alloc (.cells #[.slice (some ⟨g,0,none⟩) n n] 22)) #[.slice A6 ps.length c6] 32 0
  rw [World.size_alloc] at this;exact this
 have hT0:=zE2.ownK h hgr0 (fun x e=>by cases e);obtain ⟨W0,hW0⟩:∃ W0,((w.alloc (.cells #[.slice (some ⟨g,0,none⟩) n n] 22)).alloc (.cells #[.slice A6 ps.length c6] 32))=W0:=⟨_,rfl⟩;have hsz:W0.heap.size=w.heap.size+2:=by rw [<- hW0];simp
 rw [hW0] at hgr0 hs hb hT0 |-
 refine wpIn_rangeFunc_ownF rfl (by omega) (gf:=117) (lb:=#[.pointer (some ⟨w.heap.size+1,0,none⟩)]) rfl trivial (enters_of func117 (by kernel_rfl) rfl)
  (jM9 Fence.wide _ trivial rfl (by omega) (w.heap.size + 1) g c6 A6 ps (by omega) W0 hb (by omega) (fun i hi => by
   obtain ⟨ad,e,h1,h2⟩:=hp i hi;exact ⟨ad,e,h1,cell_kept h2 hgr0 (fun r e=>by cases e)⟩))
  KpG.trans (fun W l o o' hl hW ho hwk=>⟨(grownBy_putObj' W l o').size,fun k hk hkw hkg=>(grownBy_putObj' W l o').block k hkw (fun e=>by injection e with e;omega)⟩) (Below.refl _ _) (fun _=>rfl)
  (UpI T0 g n C a S ps w) (fun _ _ _=>False)
  (UpI.ownFrom T0 g n C a S ps w (by omega))
  (fun _ _ _ _ _ hs _ _=>hs)
  ⟨us,T,S,hc.out.1,hc.out.2.2.2.2.1,by simp,hT0,fun _=>Upw.start hc.out.1 hc.out.2.2.2.2.2.2.1 hc.out.2.2.2.2.2.2.2 hc.out.2.2.2.2.1,hs,⟨hgr0.os,hgr0.tape,hgr0.output,hgr0.size,fun k hk _=>hgr0.block k hk (by simp)⟩⟩
  (fun x => { tmps:=#[.slice (some ⟨g,0,none⟩) n n,.slice A6 ps.length c6,.pointer (some ⟨w.heap.size,0,none⟩),undef,.int .i64 (x.1.1:Int),.int .i64 (x.1.2:Int),.slice A6 ps.length c6,.func (.func 117) #[] #[.pointer (some ⟨w.heap.size+1,0,none⟩)],.int .i64 (x.1.1:Int),.int .i64 (x.1.2:Int),undef,undef,undef,undef,undef,undef,undef,undef,undef],defers:=[] }) ?assign ?body ?done ?stop
 case assign =>
  intro l x W K hK;simp only [bkE]
  gi_wp2
  exact hK
 case body =>
  rintro l pre x W ⟨us1,T1,S1,q1,q2,q3,q4,q5,q6,q7⟩ hlen;obtain ⟨⟨i,p⟩,hip,hpe⟩:=x
  dsimp only at hip hpe
  subst hpe;obtain ⟨r,hr,hrl⟩:=zI0 q1 (show i<n by omega);obtain ⟨Ar,cr,hu,hcl,hsr⟩:=q4.at_ hr;have HQ:=hQ9 (zA q1 (zA q2 (zA q3 q5)))
  have hS1:Hid (S1+S1<=4900):=by
   have e2:(S+1)*2^pre.length<=(S+1)*2^(ps.length-1):=bY _ (bX9 (by omega) (by omega));have e3:=hc.out.2.2.2.2.2.1;exact (by omega:S1+S1<=4900)
  have hai:pv ps i<C:=bY2 (hc.out.2.2.2.2.2.2.1.lt i hip) hc.out.2.1;obtain ⟨b,hbp⟩:∃ b,b=pv ps i:=⟨_,rfl⟩;have HBP:=hQ9 hbp
  have CC:∀ w',zE2 .u64 4294967296 w' g 46 us1 T1->SlF .u64 4294967296 w' (.slice Ar r.length cr) r->Calls prog 89 #[.slice (some ⟨g,0,none⟩) i n,.slice Ar r.length cr,.int .i64 (pv ps i:Int)] w' (qO7 g us1 (upT T1 i (pv ps i)) w'):=fun w' k1 k2=>by
   have:=yM1 g 0 i n (pv ps i) n C S1 us1 (.slice Ar r.length cr) r T1 (fun _=>true) w' k1 k2 ⟨HQ.out.1,hrl,hai,by omega,by omega,by omega,hC,fun i hi=>absurd hi (by omega),fun _ _ _=>rfl,HQ.out.2.1,HQ.out.2.1 r (zA5 hr),fun _=>hS1.out⟩
   rw [bY5] at this;unfold upT;rw [zK5 hr];exact this
  rw [hrl] at hu hcl hsr CC;have HRL:=hQ9 (zA hr hrl);have hin:i<=n:=by omega
  have hin2:i<n:=by omega
  have hmix:prog.follows .mixedOrders=true:=by kernel_rfl
  have fin:∀ (a':Act) (W':World) (us2:List Value),zE2 .u64 4294967296 W' g 46 us2 (upT T1 i (pv ps i))->W.drew.grownBy W' (some g)->ownPostK (KpG g W0.heap.size) (UpI T0 g n C a S ps w) (fun _ _ _=>False) (pre ++ [(⟨(i,pv ps i),hip,rfl⟩:BkT ps)]) W .normal a' W':=fun a' W' us2 k1 k2=>by
   have G:W.grownBy W' (some g):=(zJ9 (qO8 W (some g)) (Below.refl _ W).drew).trans k2;have hgW:=q4.1.1;have hgl2:=q4.lt;unfold Blk at hgW;obtain ⟨e1,e2,e3,e4⟩:=HQ.out;refine ⟨KeepsOthers.of_grownBy G (fun j o e hj=>by cases e;rw [hgW] at hj;cases hj;rfl),⟨G.size,fun k hk hl hkg=>G.block k hl (fun e=>by injection e with e;omega)⟩,?_⟩;refine ⟨us2,_,S1+S1+1,?_,?_,?_,k1,fun hB => ?_,(World.cell?_of_block (G.block w.heap.size (bQ0 _ _ q6) (fun e=>by injection e with e;omega))).trans q6,q7.trans G⟩
   ·unfold upT;rw [zK5 hr];exact qH9 e1 hrl i (by omega)
   ·unfold upT;rw [zK5 hr];exact qN6 e1 hai e2 (e2 r (zA5 hr)) i (by omega)
   ·rw [zA8];exact qW0 e3
   ·obtain ⟨b1,b2⟩:=zO9.init hB;have b3:i+pre.length+1=ps.length:=b2;have u1:=e4 b1;rw [show ps.length-pre.length=i+1 by omega] at u1;have u2:=u1.step hc.out.2.1 hip;rw [show ps.length-(pre ++ [(⟨(i,pv ps i),hip,rfl⟩:BkT ps)]).length=i by rw [zA8];simp only [bX3,List.length_nil];omega];exact u2
  have hcall:Calls prog 89 #[.slice (some ⟨g,0,none⟩) i n,.slice Ar C cr,.int .i64 (pv ps i:Int)] W.drew (qO7 g us1 (upT T1 i (pv ps i)) W.drew):=CC W.drew q4.drew hsr.drew;clear CC HQ q4 hsr q1 q2 q3 q5 hS1 hai hp hT0 hb hs hgr0 hc;obtain ⟨QQ,hQQ⟩:∃ QQ,QQ=ownPostK (KpG g W0.heap.size) (UpI T0 g n C a S ps w) (fun _ _ _=>False) (pre ++ [(⟨(i,pv ps i),hip,rfl⟩:BkT ps)]) W:=⟨_,rfl⟩;rw [<- hQQ] at fin;have HPAN:∀ c a a' w,QQ (.panic c) a w->QQ (.panic c) a' w:=by rw [hQQ];exact fun _ _ _ _ h=>h
  show Code.wpIn _ _ _ _ (ownPostK (KpG g W0.heap.size) (UpI T0 g n C a S ps w) (fun _ _ _=>False) (pre ++ [(⟨(i,pv ps i),hip,rfl⟩:BkT ps)]) W) _ _
  rw [<- hQQ];clear hQQ
  gi_wp2
  have HPN:∀ (o:Option Nat) (v:Value) c a w,Exit.inBlock 1 QQ (.panic c) (a.put o v) w->Exit.inBlock 1 QQ (.panic c) a w:=fun o v c a w h=>HPAN c _ a w h;refine jM7 l hmix (by kernel_rfl) ?_
  change wpAnyIn Fence.wide 1 prog .any _ _ 9 #[false,false,false,false,false,false,false,false,false] _ _
  refine wpAnyIn_take (i:=1) (v:=?_) rfl rfl (by kernel_rfl) (by kernel_rfl) (by kernel_rfl) (HPN _ _) ⟨Or.inl ⟨by rfl,?_⟩,fun _=>rfl⟩ ?_
  rotate_left
  ·intro w;go_simp
   try with_reducible rfl
  refine wpAnyIn_take (i:=4) (v:=?_) rfl rfl (by kernel_rfl) (by kernel_rfl) (by kernel_rfl) (HPN _ _) ⟨Or.inl ⟨by rfl,?_⟩,fun _=>rfl⟩ ?_
  rotate_left
  ·intro w;go_simp
   try with_reducible rfl
  refine wpAnyIn_take (i:=7) (v:=?_) rfl rfl (by kernel_rfl) (by kernel_rfl) (by kernel_rfl) (HPN _ _) ⟨Or.inl ⟨by rfl,?_⟩,fun _=>rfl⟩ ?_
  rotate_left
  ·intro w;go_simp
   try with_reducible rfl
  refine wpAnyIn_ready (rs:=[0,3]) (by kernel_rfl) (by simp) ?_;refine AllReadyIn.cons rfl (fun K hK => ?_) ?_
  ·go_simp;refine hK _ _ ?_;clear hK K;refine wpAnyIn_take (i:=2) (v:=?_) rfl rfl (by kernel_rfl) (by kernel_rfl) (by kernel_rfl) (HPN _ _) ⟨Or.inl ⟨by rfl,?_⟩,fun _=>rfl⟩ ?_
   rotate_left
   ·intro w;go_simp
    try with_reducible rfl
   refine wpAnyIn_ready (rs:=[3]) (by kernel_rfl) (by simp) ?_;refine AllReadyIn.cons rfl (fun K hK => ?_) ?_
   ·go_simp;refine hK _ _ ?_;clear hK K;refine wpAnyIn_take (i:=5) (v:=?_) rfl rfl (by kernel_rfl) (by kernel_rfl) (by kernel_rfl) (HPN _ _) ⟨Or.inl ⟨by rfl,?_⟩,fun _=>rfl⟩ ?_
    rotate_left
    ·intro w;go_simp
     try with_reducible rfl
    refine wpAnyIn_ready (rs:=[6]) (by kernel_rfl) (by simp) ?_;refine AllReadyIn.cons rfl (fun K hK => ?_) ?_
    ·go_simp;refine hK _ _ ?_;clear hK K;refine wpAnyIn_ready (rs:=[8]) (by kernel_rfl) (by simp) ?_;refine AllReadyIn.cons rfl (fun K hK => ?_) AllReadyIn.nil;go_simp;refine ⟨trivial,?_⟩;refine (callsIn_wide.2 hcall).mono ?_;rintro e w' ⟨rfl,us2,k1,k2,-⟩;refine hK _ _ ?_;refine wpAnyIn_done (by kernel_rfl) ?_ _;exact fin _ _ us2 k1 k2
    exact AllReadyIn.nil
   exact AllReadyIn.nil
  refine AllReadyIn.cons rfl (fun K hK => ?_) ?_
  ·go_simp;refine hK _ _ ?_;clear hK K;refine wpAnyIn_take (i:=5) (v:=?_) rfl rfl (by kernel_rfl) (by kernel_rfl) (by kernel_rfl) (HPN _ _) ⟨Or.inl ⟨by rfl,?_⟩,fun _=>rfl⟩ ?_
   rotate_left
   ·intro w;go_simp
    try with_reducible rfl
   refine wpAnyIn_ready (rs:=[0,6]) (by kernel_rfl) (by simp) ?_;refine AllReadyIn.cons rfl (fun K hK => ?_) ?_
   ·go_simp;refine hK _ _ ?_;clear hK K;refine wpAnyIn_take (i:=2) (v:=?_) rfl rfl (by kernel_rfl) (by kernel_rfl) (by kernel_rfl) (HPN _ _) ⟨Or.inl ⟨by rfl,?_⟩,fun _=>rfl⟩ ?_
    rotate_left
    ·intro w;go_simp
     try with_reducible rfl
    refine wpAnyIn_ready (rs:=[6]) (by kernel_rfl) (by simp) ?_;refine AllReadyIn.cons rfl (fun K hK => ?_) ?_
    ·go_simp;refine hK _ _ ?_;clear hK K;refine wpAnyIn_ready (rs:=[8]) (by kernel_rfl) (by simp) ?_;refine AllReadyIn.cons rfl (fun K hK => ?_) AllReadyIn.nil;go_simp;refine ⟨trivial,?_⟩;refine (callsIn_wide.2 hcall).mono ?_;rintro e w' ⟨rfl,us2,k1,k2,-⟩;refine hK _ _ ?_;refine wpAnyIn_done (by kernel_rfl) ?_ _;exact fin _ _ us2 k1 k2
    exact AllReadyIn.nil
   refine AllReadyIn.cons rfl (fun K hK => ?_) ?_
   ·go_simp;refine hK _ _ ?_;clear hK K;refine wpAnyIn_ready (rs:=[0]) (by kernel_rfl) (by simp) ?_;refine AllReadyIn.cons rfl (fun K hK => ?_) ?_
    ·go_simp;refine hK _ _ ?_;clear hK K;refine wpAnyIn_take (i:=2) (v:=?_) rfl rfl (by kernel_rfl) (by kernel_rfl) (by kernel_rfl) (HPN _ _) ⟨Or.inl ⟨by rfl,?_⟩,fun _=>rfl⟩ ?_
     rotate_left
     ·intro w;go_simp
      try with_reducible rfl
     refine wpAnyIn_ready (rs:=[8]) (by kernel_rfl) (by simp) ?_;refine AllReadyIn.cons rfl (fun K hK => ?_) AllReadyIn.nil;go_simp;refine ⟨trivial,?_⟩;refine (callsIn_wide.2 hcall).mono ?_;rintro e w' ⟨rfl,us2,k1,k2,-⟩;refine hK _ _ ?_;refine wpAnyIn_done (by kernel_rfl) ?_ _;exact fin _ _ us2 k1 k2
    exact AllReadyIn.nil
   exact AllReadyIn.nil
  exact AllReadyIn.nil
 case done =>
  rintro D xs W hD ⟨hxl,hB⟩ ⟨us1,T1,S1,q1,q2,q3,q4,q5,q6,q7⟩ hK;have hup:=q5 hB;rw [show ps.length-xs.length=0 by omega] at hup;have hDl:∃ o:Obj,W.heap[D]?=some o/\o.isCells=false:=⟨_,hK,rfl⟩;refine ⟨by simp,.inl ⟨_,_,rfl,run_takeDeferred hK,?_⟩⟩;refine ⟨_,results_none rfl _ _ _,rfl,us1,T1,hup,zE2.ownK q4 (grownBy_putObj' W D (.deferred none)) (fun x e=>by cases e;exact hDl),?_⟩;exact zV3 q7 (grownBy_putObj' W D (.deferred none)) (by omega)
 case stop =>
  rintro D c pre W _ _ h _;exact h.elim
theorem shp_of {T:List (List Rat)} (h:zF5 T):shp T T.length (zC T):=⟨rfl,h.2.2⟩
theorem pI_at {ps:List Nat} {i:Nat} (h:i<ps.length):(pI ps)[i]?=some (.int .i64 (pv ps i:Int)):=by
 unfold pI vi pv;rw [List.map_map,zB1,zA3 h];simp [zA6,h]
theorem zE6.pvs {w:World} {base g m c:Nat} {TS:TypeId} {us:List Value} {A:Option Addr} {ps:List Nat} (h:zE6 isI w base 3 (.slice A m c) (pI ps)) (hT:zG0 w g TS us) (hne:3≠TS):∀ i,i<ps.length -> ∃ ad,A=some ad/\ad.block≠g/\w.cell? (ad.add i)=some (.int .i64 (pv ps i:Int)):=fun i hi=>by
 have hn:=h.notTab hT hne;rcases h.1.2 with ⟨e,h0⟩|⟨g',cap,cur,e,_⟩
 ·rw [zR0] at h0;omega
 ·have e2:=e;injection e2 with e1 e2 e3;subst e1;have hc:=h.1;rw [e] at hc;refine ⟨_,rfl,fun e4=>hn (by rw [<- e4];rfl),?_⟩;rw [zS];exact hc.cellAt (pI_at hi)
theorem zE6.weak {S:Value->Prop} {w:World} {base base':Nat} {e:TypeId} {v:Value} {vs:List Value} (h:zE6 S w base e v vs) (hb:base'<=base):zE6 S w base' e v vs:=⟨zD1.weak h.1 hb,h.2⟩
theorem qI8 {S n m:Nat} (h:m<=n):(S+1)*2^m<=(S+1)*2^n:=bY _ (bX9 (by omega) h)
structure RedE (T0:List (List Rat)) (n C S:Nat) (w:World) (g:Nat) (v:Value) (w':World) (T:List (List Rat)) (us:List Value) (ps:List Nat):Prop where
 sh:shp T n C
 ech:Ech n C (zB8 T) ps.length (pv ps)
 red:Red n (zB8 T) ps.length (pv ps) 0
 ker:zF3 n C (zB8 T0) (zB8 T)
 len:∃ S',zH7 T S'/\S'+1<=(S+1)*2^(min ps.length (n-1))*2^(ps.length-1)
 tab:zE2 .u64 4294967296 w' g 46 us T
 piv:zE6 isI w' w.heap.size 3 v (pI ps)
 bel:Below w.heap.size w w'
 lo:w.heap.size<=g
def zX (T:List (List Rat)) (S:Nat):Prop:=T.length<=5/\zC T<=200/\zH7 T S/\S<=100000/\(S+1)*2^(T.length-1)<=400/\(S+1)*2^(T.length-1)*2^(T.length-1)<=2450
theorem qX0 (a0:Value) (T:List (List Rat)) (S:Nat) (w:World) (h0:SlT .u64 4294967296 w a0 T) (hc:Hid (zX T S)) :
  Calls prog 21 #[a0] w (fun e w'=>(zF5 T /\ ∃ g v T' us ps,e=.returned (.tuple #[.slice (some ⟨g,0,none⟩) T.length T.length,v,.int .i64 0])/\RedE T T.length (zC T) S w g v w' T' us ps)\/(¬ zF5 T/\e=.returned (.tuple #[.slice none 0 0,.slice none 0 0,.int .i64 8])/\Below w.heap.size w w')):=by
 have st0:=h0;obtain ⟨A0,c0,rfl,hc0,hm0⟩:=h0.shape;obtain ⟨n,hn⟩:∃ n,n=T.length:=⟨_,rfl⟩;obtain ⟨C,hC⟩:∃ C,C=zC T:=⟨_,rfl⟩;have HST:=hQ9 st0;clear h0 st0 hc0 hm0
 go_enter func21,ntmps21;go_wp2_with fail
 refine (jM1 _ T _ HST.out ⟨hc.out.2.1,by have:=hc.out.1;omega,hc.out.2.2.1.len.mono hc.out.2.2.2.1⟩).mono ?_;rintro e w2 (⟨hm,g,us,pss,rfl,hT,hV,hU,hg,b2⟩|⟨hm,V,rfl,hS,b2⟩)
 ·have TS:=TabO.tabS hT hU;rw [hV] at TS;rw [<- hn];rw [<- hn] at hU;have HM:=hQ9 hm;have HH:=hQ9 (zA hn hC);have sl:=TS.slT hn.symm (by have:=hc.out.1;omega);clear hT hV hn hC hm
  go_wp2_with fail
  refine (zR _ T _ sl).mono ?_;rintro e w3 ⟨rfl,b3⟩;rw [<- HH.out.1,<- HH.out.2];have TS3:=TS.bQ b3;have b23:=b2.trans (b3.mono b2.size);clear sl TS b3 b2;go_wp2_with fail
  refine (jM5 g n C C S us T _ TS3 ⟨by rw [HH.out.1,HH.out.2];exact shp_of HM.out,zB3 _,by rw [HH.out.1];exact hc.out.1,by rw [HH.out.2];have:=hc.out.2.1;omega,hc.out.2.2.1,by rw [HH.out.1];exact hc.out.2.2.2.2.1⟩).mono ?_;rintro e w4 ⟨v,v5,T4,us4,ps,d,rfl,hD⟩;obtain ⟨dwn,tab,piv,num,len,own⟩:=hD;obtain ⟨u,t,rfl,su,st⟩:=num;obtain ⟨Au,cu,rfl,_⟩:=id su;obtain ⟨At,ct,rfl,_⟩:=id st;obtain ⟨A6,c6,e6⟩:=zD1.slice piv.1;rw [zR0] at e6;subst e6;have hpn:ps.length<=n:=dwn.ech.le;have b24:=b23.grown own b23.size (fun k e=>by cases e;exact hg);obtain ⟨S1,r1,hS1⟩:=dwn.len;have hp1:=qI8 (S:=S) (show min ps.length (n-1)<=n-1 by omega);have hp2:=qI8 (S:=S1) (show ps.length-1<=n-1 by omega);have hm2:(S1+1)*2^(n-1)<=(S+1)*2^(n-1)*2^(n-1):=Nat.mul_le_mul_right _ (zB4 hS1 hp1);have hq1:=hc.out.2.2.2.2.2;rw [<- HH.out.1] at hq1;have HB:=hQ9 (zA hp1 (zA hp2 (zA hm2 (zA hq1 hS1))));clear hp1 hp2 hm2 hq1 hS1;have ba:=zC9 (w:=w4) (zB3 _) (.cells #[.bool (ngB d.num),.slice Au (digs 4294967296 d.num.natAbs).length cu,.slice At (digs 4294967296 d.den).length ct] 44);have tab4:=tab.bQ ba;have piv4:=(piv.bQ ba).weak b23.size;have b25:=b24.trans (ba.mono b24.size);have HDW:=hQ9 dwn;have HR1:=hQ9 r1;clear tab piv ba dwn r1 su st own TS3 b23 b24;go_wp2_with fail
  have cu:=gup_any g n C C S1 c6 A6 us4 ps T T4 _ tab4 (piv4.pvs tab4.1 (by decide)) ⟨HDW.out.sh,zB3 _,by rw [HH.out.1];exact hc.out.1,by rw [HH.out.2];have:=hc.out.2.1;omega,HR1.out,by have:=HB.out;omega,HDW.out.ech,HDW.out.ker⟩;refine cu.mono ?_;rintro e w6 ⟨rfl,us6,T6,hU6,tab6,own6⟩;have piv6:=piv4.grown own6 (fun x e1 e2=>piv4.notTab tab4.1 (by decide) (by rw [e1,e2]));have b26:=b25.grown own6 b25.size (fun k e=>by cases e;exact hg);clear cu piv4 tab4;go_wp2
  go_ret3
  refine .inl ⟨HM.out,g,.slice A6 ps.length c6,T6,us6,ps,?_,?_⟩
  ·rw [<- HH.out.1]
   rfl
  ·rw [<- HH.out.1,<- HH.out.2];obtain ⟨S2,r2,hS2⟩:=hU6.len;refine ⟨hU6.sh,hU6.ech,hU6.red,hU6.ker,⟨S2,r2,zB4 hS2 ?_⟩,tab6,piv6,b26,hg⟩;exact bY6 HB.out.2.2.2.2 (bX9 (by omega) (by omega))
 ·rw [if_neg (by decide)] at hS;obtain ⟨AV,cV,rfl,-,-⟩:=hS.shape;have HN:=hQ9 hm;clear hm;go_wp2
  go_ret3
  exact .inr ⟨HN.out,rfl,b2⟩
def PvI (w:World) (v:Value) (ps:List Nat):Prop:=∃ A c,v=.slice A ps.length c /\ ∀ i,i<ps.length -> ∃ ad,A=some ad/\w.cell? (ad.add i)=some (.int .i64 (pv ps i:Int))
theorem PvI.bQ {w w':World} {v:Value} {ps:List Nat} (h:PvI w v ps) (hb:Below w.heap.size w w'):PvI w' v ps:=by
 obtain ⟨A,c,e,h1⟩:=h;refine ⟨A,c,e,fun i hi => ?_⟩;obtain ⟨ad,e2,h2⟩:=h1 i hi;exact ⟨ad,e2,(hb.cell (bQ0 _ _ h2)).trans h2⟩
theorem zE6.pvI {w:World} {base:Nat} {v:Value} {ps:List Nat} (h:zE6 isI w base 3 v (pI ps)):PvI w v ps:=by
 obtain ⟨A,c,e⟩:=zD1.slice h.1;rw [zR0] at e;subst e;refine ⟨A,c,rfl,fun i hi => ?_⟩;rcases h.1.2 with ⟨e,h0⟩|⟨g',cap,cur,e,_⟩
 ·rw [zR0] at h0;omega
 ·have e2:=e;injection e2 with e1 e2 e3;subst e1;have hc:=h.1;rw [e] at hc;refine ⟨_,rfl,?_⟩;rw [zS];exact hc.cellAt (pI_at hi)
end rat
namespace rat
open Go.RowKit num mem nat txt str flow whl
def yM6 (M:Nat) (w:World) (e:Ending) (w':World):Prop:=∃ V U p,e=.returned (.tuple #[V,U])/\SlT .u64 4294967296 w' V p/\zR9 p/\p.length<=M/\zC p<=M/\zD6 p 1/\Below w.heap.size w w'
end rat
namespace rat
open Go.RowKit Go.Shelf num mem nat txt str flow whl
theorem qX1 {r v:List Rat} (hl:r.length=v.length):∀ k,k<=r.length->zI8 (r.take k) (v.take k)=zB9 k (fun l=>r.getD l 0*v.getD l 0)
  | 0,_=>by rw [List.take_zero];exact jE0 _
  | k + 1, hk => by
    obtain ⟨x,hx⟩:∃ x,r[k]?=some x:=⟨_,zA3 (by omega)⟩;obtain ⟨y,hy⟩:∃ y,v[k]?=some y:=⟨_,zA3 (by omega)⟩;rw [jL2 hx hy,qX1 hl k (by omega)];show _=zB9 k _+r.getD k 0*v.getD k 0
    rw [zA6,zA6,hx,hy]
    rfl
theorem qX2 {q:List (List Rat)} {l j:Nat} : (zJ8 q j).getD l 0=zB8 q l j:=by
 unfold zJ8 zB8;rw [zA6,zB1,zA6 (l:=q)]
 cases q[l]? with
 | none=>simp
 | some r=>rfl
theorem jN {p q:List (List Rat)} {n m C:Nat} (hp:shp p n m) (hq:q.length=m) (hw:zC q=C) {i j:Nat} (hi:i<n) (hj:j<C):zB8 (zI p q) i j=zO m (zB8 p) (zB8 q) i j:=by
 obtain ⟨r,hr,hrl⟩:=zI0 hp hi;have h1:(zI p q)[i]?=some (zQ9 r q (zC q)):=by unfold zI;rw [zB1,hr];rfl
 rw [zM6 h1,hw,jE9 hj];have hl:r.length=(zJ8 q j).length:=by rw [qC6,hrl,hq]
 have h2:=qX1 hl r.length (zB3 _);rw [bX1,hl,bX1,<- hl,hrl] at h2;rw [h2];unfold zO;exact zE4 fun l hl=>by rw [qX2,zM6 hr]
theorem zX0 {T:List (List Rat)} {n C:Nat} (h:shp T n C) (h0:n=0->C=0):zC T=C:=by
 cases T with
 | nil=>exact (h0 h.1.symm).symm
 | cons r T=>exact h.2 r List.mem_cons_self
def hasP (ps:List Nat) (j k:Nat):Prop:=∃ i,i<k/\pv ps i=j
theorem qA1 {ps:List Nat} {j:Nat} : hasP ps j ps.length ↔ j∈ps:=by
 constructor
 ·rintro ⟨i,hi,e⟩;refine zA5 (i:=i) ?_;rw [zA3 hi];unfold pv at e;rw [zA6,zA3 hi] at e;exact congrArg some e
 ·intro h;obtain ⟨i,hi⟩:=List.mem_iff_getElem?.1 h;refine ⟨i,(zA4.1 hi).1,?_⟩;unfold pv;rw [zA6,hi]
  rfl
def RetPos (ps:List Nat) (j:Nat) (w:World) (e:Ending) (w':World):Prop:=∃ z:Int,e=.returned (.int .i64 z) /\ -1<=z/\z<=1000/\(0<=z ↔ j∈ps)/\Below w.heap.size w w'
theorem jN0 (a0:Value) (ps:List Nat) (j:Nat) (w:World) (h0:PvI w a0 ps) (hm:ps.length<=1000) :
  Calls prog 91 #[a0,.int .i64 (j:Int)] w (RetPos ps j w):=by
 have st0:=h0;obtain ⟨A0,c0,rfl,_⟩:=h0
 go_enter func91,ntmps91
 go_wp2
 go_loopw [8] (fun v8 wr => ∃ k:Nat,k<=ps.length/\Hid (¬ hasP ps j k)/\Below w.heap.size w wr/\v8=.int .i64 (k:Int)) (fun v8 _=>ps.length-(intOf v8).toNat)
 case atStart=>exact ⟨0,by omega,(by show ¬ _;rintro ⟨i,hi,_⟩;omega),Below.refl _ _,rfl⟩
 case round =>
  obtain ⟨k,hk,HZ,bb,rfl⟩:=hrel;by_cases hlt:k<ps.length
  ·obtain ⟨A,c,e,hA⟩:=st0.bQ bb;injection e with e1 _ e3;subst e1;subst e3;obtain ⟨ad,rfl,k0⟩:=hA k hlt;obtain ⟨x,hx⟩:∃ x,x=pv ps k:=⟨_,rfl⟩;rw [<- hx] at k0;have HX:=hQ9 hx;clear hx hA st0;by_cases hxy:j=x
   ·subst hxy;have HT:Hid (j∈ps):=qA1.1 ⟨k,hlt,HX.out.symm⟩;go_wp2;go_ret;exact ⟨(k:Int),rfl,by omega,by omega,⟨fun _=>HT.out,fun _=>by omega⟩,bb⟩
   ·have hxb:(((j:Nat):Int) == ((x:Nat):Int))=false:=by rw [beq_eq_false_iff_ne];omega
    have HZ2:Hid (¬ hasP ps j (k+1)):=by
     show ¬ _
     rintro ⟨i,hi,e⟩;by_cases e2:i=k
     ·subst e2;exact hxy (HX.out.trans e).symm
     ·exact HZ.out ⟨i,by omega,e⟩
    go_wp2;go_roundw;case rel=>exact ⟨k+1,by omega,HZ2,bb,by go_num⟩
    case measure=>simp [intOf];omega
  ·obtain rfl:k=ps.length:=by omega
   have HT:Hid (¬ j∈ps):=fun h=>HZ.out (qA1.2 h);go_wp2;go_ret;exact ⟨-1,rfl,by omega,by omega,⟨fun h=>by omega,fun h=>absurd h HT.out⟩,bb⟩
theorem qX3 (a0:Value) (ps:List Nat) (j:Nat) (w:World) (h0:PvI w a0 ps) (hm:ps.length<=1000) :
  Calls prog 54 #[a0,.int .i64 (j:Int)] w (zE1 (.bool (decide (j∈ps))) w):=by
 have st0:=h0;obtain ⟨A0,c0,rfl,_⟩:=h0
 go_enter func54,ntmps54;go_wp2_with fail
 refine (jN0 _ ps j _ st0 hm).mono ?_;rintro e w2 ⟨z,rfl,h1,h2,h3,b2⟩;have H3:=hQ9 h3;clear h3;by_cases hz:(0:Int)<=z
 ·have HT:Hid (decide (j∈ps)=true):=decide_eq_true (H3.out.1 hz);go_wp2;go_ret;exact ⟨by rw [HT.out];rfl,b2⟩
 ·have HT:Hid (decide (j∈ps)=false):=decide_eq_false (fun h=>hz (H3.out.2 h));have hzd:decide ((0:Int)<=z)=false:=decide_eq_false hz;go_wp2;go_ret;exact ⟨by rw [HT.out];rfl,b2⟩
theorem qI9 (n:Nat) (f:Nat->Rat):∀ m,zB9 (n+m) f=zB9 n f+zB9 m (fun j=>f (n+j))
  | 0=>(Rat.add_zero _).symm
  | m + 1 => by
    show zB9 (n+m) f+f (n+m)=zB9 n f+(zB9 m (fun j=>f (n+j))+f (n+m))
    rw [qI9 n f m,Rat.add_assoc]
def zJ6 (n:Nat) (A X:Nat->Nat->Rat):Nat->Nat->Rat:=fun i j=>if j<n then A i j else X i (j-n)
theorem yM7 (n m:Nat) (A X:Nat->Nat->Rat) (x y:Nat->Rat) (i:Nat):zB9 (n+m) (fun j=>zJ6 n A X i j*(if j<n then x j else y (j-n)))=zB9 n (fun j=>A i j*x j)+zB9 m (fun j=>X i j*y j):=by
 rw [qI9]
 congr 1
 ·exact zE4 fun j hj=>by unfold zJ6;rw [if_pos hj,if_pos hj]
 ·exact zE4 fun j hj=>by unfold zJ6;rw [if_neg (by omega),if_neg (by omega),Nat.add_sub_cancel_left]
theorem sum_idF {n i:Nat} (hi:i<n) (x:Nat->Rat):zB9 n (fun j=>idF i j*x j)=x i:=by
 rw [zL3 hi (fun j _ hne=>by unfold idF;rw [if_neg (fun e=>hne e.symm),Rat.zero_mul])];unfold idF;rw [if_pos rfl,Rat.one_mul]
theorem qO9 (n:Nat) (f g:Nat->Rat):zB9 n (fun j=>f j * -(g j)) = -(zB9 n (fun j=>f j*g j)):=by
 have h:=zH5 n (-1) (fun j=>f j*g j);rw [show (-1:Rat)*zB9 n (fun j=>f j*g j) = -(zB9 n (fun j=>f j*g j)) by grind] at h;rw [<- h];exact zE4 fun j _=>by grind
end rat
namespace rat
open Go.RowKit num mem nat txt str flow whl
theorem yM8 (n:Nat) (M:Nat->Nat->Rat):∀ a,a<=n -> ∃ (c:Rat) (E:Nat->Nat->Rat) (k:Nat) (p:Nat->Nat),Ech n a E k p /\ ∀ f,RowFn n n f->f M=c*f E
  | 0,_=>⟨1,M,0,id,Ech.zero n M id,fun f _=>by grind⟩
  | a + 1, ha => by
    obtain ⟨c,E,k,p,hE,hf⟩:=yM8 n M a (by omega);by_cases h0:∀ i,k<=i->i<n->E i a=0
    · exact ⟨c,E,k,p,hE.skip h0,hf⟩
    · obtain ⟨i,hi,hin,hne⟩:∃ i,k<=i/\i<n/\E i a≠0:=bQ1 fun h=>h0 fun i h1 h2=>bQ1 fun h3=>h ⟨i,h1,h2,h3⟩
      obtain ⟨c1,E1,hE1,hf1,hne1⟩:∃ (c1:Rat) (E1:Nat->Nat->Rat),Ech n a E1 k p/\(∀ f,RowFn n n f->f M=c1*f E1)/\E1 k a≠0:=by
        by_cases e:k=i
        · subst e;exact ⟨c,E,hE,hf,hne⟩
        · refine ⟨-c,zD4 E k i,hE.swap hi hin,fun f h => ?_,?_⟩
          · rw [hf f h,h.swap E (by omega) hin e];grind
          · unfold zD4;rw [if_pos rfl];exact hne
      have hk:k<n:=by omega
      have hE2:=hE1.scale (E1 k a)⁻¹;have h1:zE7 E1 k (E1 k a)⁻¹ k a=1:=by unfold zE7;rw [if_pos rfl];exact Rat.mul_inv_cancel _ hne1
      have hE3:=hE2.clear (t:=fun i=>if i=k then 0 else zE7 E1 k (E1 k a)⁻¹ i a) hk h1 (if_pos rfl) (fun i hki _=>if_neg (by omega));refine ⟨c1*E1 k a,_,_,_,hE3,fun f h => ?_⟩;rw [h.clear _ hk (if_pos rfl),h.scale _ _ _ hk,hf1 f h]
      have:=Rat.mul_inv_cancel _ hne1
      grind
theorem yM9 {n:Nat} {f:(Nat->Nat->Rat)->Rat} (h:RowFn n n f) (M:Nat->Nat->Rat):f M=zC8 n M*f idF:=by
 obtain ⟨c,E,k,p,hE,hf⟩:=yM8 n M n (zB3 n);rw [hf f h,hf _ (zT2 n),h.steps hE,(zT2 n).steps hE,qH7]
 split<;>grind
theorem jN1 (n:Nat) (M B:Nat->Nat->Rat):zC8 n (zO n M B)=zC8 n M*zC8 n B:=by
 have h:=yM9 (jG8 n B) M;have e:zC8 n (zO n idF B)=zC8 n B:=zL0 n fun i j hi _=>mulF_id n B hi;rw [<- e];exact h
def zG9 (M:Nat->Nat->Rat) (c:Nat) (v:Nat->Rat):Nat->Nat->Rat:=fun i j=>if j=c then v i else M i j
theorem jN2 (n c:Nat) (v:Nat->Rat) (hc:c<n):zC8 n (zG9 idF c v)=v c:=by
 have hd:=zT2 n;by_cases h0:v c=0
 ·rw [hd.zero hc (fun j _=>by
   unfold zG9 idF;by_cases e:j=c
   ·rw [if_pos e,h0]
   ·rw [if_neg e,if_neg (fun h=>e h.symm)]),h0]
 ·have h1:=hd.clear (zG9 idF c v) (p:=c) (t:=fun i=>if i=c then 0 else v i*(v c)⁻¹) hc (if_pos rfl);have h2:=hd.scale idF c (v c) hc;have hi:=Rat.mul_inv_cancel _ h0;rw [<- h1,hd.congr _ (zE7 idF c (v c)) (fun i j hi' hj => ?_),h2,qH7]
  ·grind
  ·unfold zI1 zG9 zE7 idF;by_cases e1:i=c<;>by_cases e2:j=c
   ·subst e1;subst e2;simp;grind
   ·subst e1;simp only [if_true,if_neg e2,if_neg (fun h:i=j=>e2 h.symm)];grind
   ·subst e2;simp only [if_neg e1,if_true];grind
   ·simp only [if_neg e1,if_neg e2,if_neg (show ¬ c=j from fun h=>e2 h.symm)];grind
theorem qA2 (n:Nat) (M:Nat->Nat->Rat) (c:Nat) (v:Nat->Rat) (hc:c<n):zC8 n (zG9 M c (fun i=>zB9 n (fun l=>M i l*v l)))=v c*zC8 n M:=by
 have h:=jN1 n M (zG9 idF c v);rw [jN2 n c v hc] at h;rw [show v c*zC8 n M=zC8 n M*v c by grind,<- h];refine zL0 n fun i j hi hj => ?_;unfold zG9 zO;by_cases e:j=c
 ·simp only [if_pos e]
 ·simp only [if_neg e];rw [zL3 (a:=j) hj (fun l _ hne=>by unfold idF;rw [if_neg hne];grind)];unfold idF;rw [if_pos rfl];grind
theorem jN3 (k:Nat) (M:Nat->Nat->Rat) (h:∀ i,i<k->M i k=0):zC8 (k+1) M=zC8 k M*M k k:=by
  have hd:=zT2 (k+1)
  have hR:RowFn k k (fun L=>zC8 (k+1) (fun i j=>if i<k then (if j<k then L i j else 0) else M i j)):=by
    refine ⟨fun L L' hL=>hd.congr _ _ fun i j hi hj => ?_,fun L a c ha => ?_,fun L a b t ha hb hab => ?_⟩
    · by_cases e:i<k
      · by_cases e2:j<k
        · rw [if_pos e,if_pos e,if_pos e2,if_pos e2,hL i j e e2]
        · rw [if_pos e,if_pos e,if_neg e2,if_neg e2]
      · rw [if_neg e,if_neg e]
    · rw [<- hd.scale _ a c (by omega)];refine hd.congr _ _ fun i j hi hj => ?_;unfold zE7;by_cases e:i=a
      · subst e;simp only [if_pos ha,if_true];split<;>grind
      · simp only [if_neg e]
    · rw [<- hd.add (fun i j=>if i<k then (if j<k then L i j else 0) else M i j) a b t (by omega) (by omega) hab];refine hd.congr _ _ fun i j hi hj => ?_;unfold zL9;by_cases e:i=a
      · subst e;simp only [if_pos ha,if_pos hb,if_true];split<;>grind
      · simp only [if_neg e]
  have h1:=yM9 hR M
  have h2:zC8 (k+1) (fun i j=>if i<k then (if j<k then M i j else 0) else M i j)=zC8 (k+1) M:=hd.congr _ _ fun i j hi hj=>by
    by_cases e:i<k
    · by_cases e2:j<k
      · rw [if_pos e,if_pos e2]
      · obtain rfl:j=k:=by omega
        rw [if_pos e,if_neg e2,h i e]
    · rw [if_neg e]
  have key:∀ m,m<=k->zC8 (k+1) (fun i j=>if i<k then idF i j else if j<m then 0 else M k j)=zC8 (k+1) (fun i j=>if i<k then idF i j else M k j):=by
    intro m
    induction m with
    | zero=>intro _;exact hd.congr _ _ fun i j _ _=>by split<;>simp
    | succ m ih =>
      intro hm;rw [<- ih (by omega),<- hd.add (fun i j=>if i<k then idF i j else if j<m then 0 else M k j) k m (M k m) (by omega) (by omega) (by omega)];refine hd.congr _ _ fun i j hi hj => ?_;unfold zL9;by_cases e:i=k
      · subst e;simp only [if_neg (Nat.lt_irrefl i),if_true,if_pos (show m<i by omega)];unfold idF;by_cases e2:j<m
        · rw [if_pos (by omega),if_pos e2,if_neg (by omega)];grind
        · by_cases e3:j=m
          · subst e3;rw [if_pos (by omega),if_neg e2,if_pos rfl];grind
          · rw [if_neg (by omega),if_neg e2,if_neg (fun h=>e3 h.symm)];grind
      · simp only [if_neg e,if_pos (show i<k by omega)]
  have h3:zC8 (k+1) (fun i j=>if i<k then (if j<k then idF i j else 0) else M i j)=M k k:=by
    have e1:=key k (zB3 k);have e2:=hd.scale idF k (M k k) (by omega);rw [hd.congr _ (fun i j=>if i<k then idF i j else M k j) (fun i j hi hj => ?_),<- e1,hd.congr _ (zE7 idF k (M k k)) (fun i j hi hj => ?_),e2,qH7]
    · grind
    · unfold zE7 idF;by_cases e:i<k
      · rw [if_pos e,if_neg (show ¬ i=k by omega)]
      · obtain rfl:i=k:=by omega
        rw [if_neg e];by_cases e3:j<i
        · rw [if_pos e3,if_pos rfl,if_neg (by omega)];grind
        · obtain rfl:j=i:=by omega
          rw [if_neg e3,if_pos rfl,if_pos rfl];grind
    · by_cases e:i<k
      · rw [if_pos e,if_pos e];by_cases e2:j<k
        · rw [if_pos e2]
        · rw [if_neg e2];unfold idF;rw [if_neg (by omega)]
      · obtain rfl:i=k:=by omega
        rw [if_neg e,if_neg e]
  have h4:=h1;simp only [h2,h3] at h4;exact h4
def qF (a:Nat->Nat->Int):Nat->Nat->Rat:=fun i j=>(a i j:Rat)
theorem jN4 (n:Nat) (f:Nat->Rat) (h:∀ i,i<n -> ∃ z:Int,f i=(z:Rat)):∃ z:Int,zB9 n f=(z:Rat):=by
  induction n with
  | zero=>exact ⟨0,rfl⟩
  | succ n ih =>
    obtain ⟨x,hx⟩:=ih fun i hi=>h i (by omega);obtain ⟨y,hy⟩:=h n (by omega);exact ⟨x+y,by show zB9 n f+f n=_;rw [hx,hy,Rat.intCast_add]⟩
theorem qX4:∀ (n:Nat) (M:Nat->Nat->Rat),(∀ i j,i<n->j<n -> ∃ z:Int,M i j=(z:Rat)) -> ∃ z:Int,zC8 n M=(z:Rat)
  | 0,_,_=>⟨1,rfl⟩
  | n + 1, M, h => jN4 _ _ fun j hj => by
    obtain ⟨x,hx⟩:=h 0 j (by omega) hj;obtain ⟨y,hy⟩:=qX4 n (zM M j) fun i c hi hc=>h _ _ (by omega) (zZ9 hc)
    obtain ⟨s,hs⟩:∃ s:Int,sgN j=(s:Rat):=by
      unfold sgN
      split
      · exact ⟨1,rfl⟩
      · exact ⟨-1,rfl⟩
    exact ⟨s*x*y,by rw [hx,hy,hs,Rat.intCast_mul,Rat.intCast_mul]⟩
end rat
namespace rat
open Go.RowKit Go.Shelf num mem nat txt str flow whl
theorem yN (n:Nat) (M:Nat->Nat->Rat):∀ a,a<=n -> ∃ (c:Rat) (E:Nat->Nat->Rat) (k:Nat) (p:Nat->Nat),Ech n a E k p/\Red n E k p 0/\(∀ f,RowFn n n f->f M=c*f E)/\c≠0/\zF3 n n M E
  | 0,_=>⟨1,M,0,id,Ech.zero n M id,fun m _ h=>by omega,fun f _=>by grind,by decide,zF3.refl _ _ _⟩
  | a + 1, ha => by
    obtain ⟨c,E,k,p,hE,hR,hf,hc,hK⟩:=yN n M a (by omega);by_cases h0:∀ i,k<=i->i<n->E i a=0
    · exact ⟨c,E,k,p,hE.skip h0,hR,hf,hc,hK⟩
    · obtain ⟨i,hi,hin,hne⟩:∃ i,k<=i/\i<n/\E i a≠0:=bQ1 fun h=>h0 fun i h1 h2=>bQ1 fun h3=>h ⟨i,h1,h2,h3⟩
      obtain ⟨c1,E1,hE1,hR1,hf1,hc1,hne1,hK1⟩:∃ (c1:Rat) (E1:Nat->Nat->Rat),Ech n a E1 k p/\Red n E1 k p 0/\(∀ f,RowFn n n f->f M=c1*f E1)/\c1≠0/\E1 k a≠0/\zF3 n n M E1:=by
        by_cases e:k=i
        · subst e;exact ⟨c,E,hE,hR,hf,hc,hne,hK⟩
        · refine ⟨-c,zD4 E k i,hE.swap hi hin,hR.swap hi hin,fun f h => ?_,?_,?_,hK.trans (qV1 E (by omega) hin)⟩
          · rw [hf f h,h.swap E (by omega) hin e];grind
          · intro e2;apply hc;grind
          · unfold zD4;rw [if_pos rfl];exact hne
      have hk:k<n:=by omega
      have hi1:=Rat.mul_inv_cancel _ hne1
      have hine:(E1 k a)⁻¹ ≠ 0:=fun e=>by
        rw [e] at hi1
        revert hi1
        rw [Rat.mul_zero]
        decide
      have hE2:=hE1.scale (E1 k a)⁻¹;have h1:zE7 E1 k (E1 k a)⁻¹ k a=1:=by unfold zE7;rw [if_pos rfl];exact hi1
      have hE3:=hE2.clear (t:=fun i=>if i=k then 0 else zE7 E1 k (E1 k a)⁻¹ i a) hk h1 (if_pos rfl) (fun i hki _=>if_neg (by omega));have hR3:=Red.clear (t:=fun i=>if i=k then 0 else zE7 E1 k (E1 k a)⁻¹ i a) (hR1.scale (E1 k a)⁻¹) hE2 hk h1 (if_pos rfl) (fun i hki _=>if_neg hki);refine ⟨c1*E1 k a,_,_,_,hE3,hR3,fun f h => ?_,?_,hK1.trans ((qV2 E1 hine).trans (qN _ hk (if_pos rfl)))⟩
      · rw [h.clear _ hk (if_pos rfl),h.scale _ _ _ hk,hf1 f h]
        grind
      · intro e;rcases Rat.mul_eq_zero.1 e with h | h
        · exact hc1 h
        · exact hne1 h
theorem qP {k:Nat} {p:Nat->Nat} (hr:∀ i j,i<j->j<k->p i<p j):∀ n,(∀ j,j<n -> ∃ i,i<k/\p i=j)->n<=k /\ ∀ i,i<n->p i=i
  | 0,_=>⟨by omega,fun i h=>by omega⟩
  | n + 1, h => by
    obtain ⟨h1,h2⟩:=qP hr n fun j hj=>h j (by omega);obtain ⟨i,hi,e⟩:=h n (by omega)
    have hin:i=n:=by
      rcases Nat.lt_trichotomy i n with hl|hl|hl
      · have:=h2 i hl;omega
      · exact hl
      · have h3:=hr n i hl hi;rcases bY3 n with e0 | e0
        · omega
        · have h4:=hr (n-1) n (by omega) (by omega);have h5:=h2 (n-1) (by omega);omega
    subst hin;refine ⟨by omega,fun j hj => ?_⟩;by_cases e2:j<i
    · exact h2 j e2
    · obtain rfl:j=i:=by omega
      exact e
theorem qP0 {n:Nat} {f:Nat->Rat}:∀ C,n<=C->(∀ j,n<=j->j<C->f j=0)->zB9 C f=zB9 n f:=by
 intro C hC h;obtain ⟨m,rfl⟩:∃ m,C=n+m:=⟨C-n,by omega⟩;rw [qI9,zN9 (n:=m) fun i hi=>h (n+i) (by omega) (by omega),Rat.add_zero]
theorem yN0 {n:Nat} {M:Nat->Nat->Rat} {x:Nat->Rat} {c:Nat} (hc:c<n) (hx:zT0 n n M x) (hne:x c≠0):zC8 n M=0:=by
 have h1:=qA2 n M c x hc;have h2:=qA2 n M c (fun _=>0) hc
 have e:zC8 n (zG9 M c (fun i=>zB9 n (fun l=>M i l*x l)))=zC8 n (zG9 M c (fun i=>zB9 n (fun l=>M i l*(fun _=>(0:Rat)) l))):=zL0 n fun i j hi hj=>by
  unfold zG9;by_cases e:j=c
  ·rw [if_pos e,if_pos e];show zB9 n (fun l=>M i l*x l)=zB9 n (fun l=>M i l*0)
   rw [hx i hi,zN9 fun l _=>by rw [Rat.mul_zero]]
  ·rw [if_neg e,if_neg e]
 rw [e,h2,Rat.zero_mul] at h1;rcases Rat.mul_eq_zero.1 h1.symm with h | h
 ·exact absurd h hne
 ·exact h
theorem yN1 {n:Nat} {M:Nat->Nat->Rat} (h:∀ x,zT0 n n M x -> ∀ c,c<n->x c=0):zC8 n M≠0:=by
 obtain ⟨c,E,k,p,hE,hR,hf,hc,hK⟩:=yN n M n (zB3 n)
 have hall:∀ j,j<n -> ∃ i,i<k/\p i=j:=fun j hj=>bQ1 fun hn=>by
  have h1:=zW7 hE hR hj (fun i hi e=>hn ⟨i,hi,e⟩);have h2:=h _ ((hK _).2 h1) j hj;rw [zT1] at h2
  revert h2
  decide
 obtain ⟨hnk,_⟩:=qP hE.rise n hall;have hkn:k=n:=by have:=hE.le;omega
 rw [hf _ (zT2 n),(zT2 n).steps hE,if_pos hkn,qH7,Rat.mul_one];exact hc
theorem yN2 {n C k:Nat} {A T:Nat->Nat->Rat} {p:Nat->Nat} (hC:n<=C) (hE:Ech n C T k p) (hR:Red n T k p 0) (hK:zF3 n C A T):(∃ j,j<n /\ ∀ i,i<k->p i≠j)->zC8 n A=0:=by
 rintro ⟨j,hj,hf⟩;have h1:=(hK _).2 (zW7 hE hR (show j<C by omega) hf);refine yN0 (x:=nv T k p j) hj (fun i hi => ?_) (by rw [zT1];decide);have h2:=h1 i hi;rw [qP0 (n:=n) C hC (fun l h3 h4=>by rw [yI2 hE (show j<l by omega),Rat.mul_zero])] at h2;exact h2
theorem qP1 {n C k:Nat} {A T:Nat->Nat->Rat} {p:Nat->Nat} (hC:n<=C) (hE:Ech n C T k p) (hR:Red n T k p 0) (hK:zF3 n C A T) (h:∀ j,j<n -> ∃ i,i<k/\p i=j):k=n/\(∀ i,i<n->p i=i)/\(∀ i j,i<n->j<n->T i j=idF i j)/\zC8 n A≠0:=by
 obtain ⟨h1,h2⟩:=qP hE.rise n h;have hkn:k=n:=by have:=hE.le;omega
 have hT:∀ i j,i<n->j<n->T i j=idF i j:=fun i j hi hj=>by
  unfold idF;by_cases e:i=j
  ·subst e;rw [if_pos rfl]
   have:=hE.one i (by omega)
   rwa [h2 i hi] at this
  ·rw [if_neg e]
   have:=hR j (Nat.zero_le _) (by omega) i hi e
   rwa [h2 j hj] at this
 refine ⟨hkn,h2,hT,yN1 fun x hx c hc => ?_⟩
 have h3:=(hK (fun l=>if l<n then x l else 0)).1 (fun i hi=>by
  rw [qP0 (n:=n) C hC (fun l h3 h4=>by simp only [if_neg (show ¬ l<n by omega)];rw [Rat.mul_zero])];have h4:=hx i hi;rw [<- h4];exact zE4 fun l hl=>by simp only [if_pos hl]) c hc
 rw [qP0 (n:=n) C hC (fun l h3 h4=>by simp only [if_neg (show ¬ l<n by omega)];rw [Rat.mul_zero]),zL3 (a:=c) hc (fun l hl hne=>by rw [hT c l hc hl];unfold idF;rw [if_neg (fun e=>hne e.symm),Rat.zero_mul]),hT c c hc hc] at h3;unfold idF at h3;rw [if_pos rfl,Rat.one_mul] at h3;simpa only [if_pos hc] using h3
structure SolQ (A B X:List (List Rat)):Prop where
 sh:shp X A.length (zC B)
 sol:∀ i j,i<A.length->j<zC B->zO A.length (zB8 A) (zB8 X) i j=zB8 B i j
theorem SolQ.one {A B X Y:List (List Rat)} (h:SolQ A B X) (k:SolQ A B Y) (hd:zC8 A.length (zB8 A)≠0):X=Y:=by
 refine yI6 h.sh k.sh fun c j hc hj => ?_;have e1:=qA2 A.length (zB8 A) c (fun l=>zB8 X l j) hc;have e2:=qA2 A.length (zB8 A) c (fun l=>zB8 Y l j) hc
 have e:zC8 A.length (zG9 (zB8 A) c (fun i=>zB9 A.length (fun l=>zB8 A i l*(fun l=>zB8 X l j) l)))=zC8 A.length (zG9 (zB8 A) c (fun i=>zB9 A.length (fun l=>zB8 A i l*(fun l=>zB8 Y l j) l))):=zL0 _ fun i l hi hl=>by
  unfold zG9;by_cases e:l=c
  ·rw [if_pos e,if_pos e];exact (h.sol i j hi hj).trans (k.sol i j hi hj).symm
  ·rw [if_neg e,if_neg e]
 rw [e,e2] at e1;have h1:=Rat.mul_inv_cancel _ hd;have h3:zB8 X c j*zC8 A.length (zB8 A)*(zC8 A.length (zB8 A))⁻¹ = zB8 Y c j*zC8 A.length (zB8 A)*(zC8 A.length (zB8 A))⁻¹:=by rw [e1]
 rw [Rat.mul_assoc,Rat.mul_assoc,h1,Rat.mul_one,Rat.mul_one] at h3;exact h3
theorem qP2 {P Q:List (List Rat)} {i:Nat} {p q:List Rat} (hp:P[i]?=some p) (hq:Q[i]?=some q):(zF0 P Q)[i]?=some (p ++ q):=by
 unfold zF0;rw [List.getElem?_zipWith,hp,hq]
theorem zX1 {P Q:List (List Rat)} {n a b:Nat} (hp:shp P n a) (hq:shp Q n b):shp (zF0 P Q) n (a+b):=by
 refine ⟨by unfold zF0;rw [List.length_zipWith,hp.1,hq.1,Nat.min_self],fun r hr => ?_⟩;obtain ⟨i,hi⟩:=List.mem_iff_getElem?.1 hr;unfold zF0 at hi;rw [List.getElem?_zipWith_eq_some] at hi;obtain ⟨x,y,hx,hy,rfl⟩:=hi;rw [zA8,hp.2 x (zA5 hx),hq.2 y (zA5 hy)]
theorem qX5 {P Q:List (List Rat)} {n a b i j:Nat} (hp:shp P n a) (hq:shp Q n b) (hi:i<n):zB8 (zF0 P Q) i j=zJ6 a (zB8 P) (zB8 Q) i j:=by
 obtain ⟨r,hr,hl⟩:=zI0 hp hi;obtain ⟨s,hs,hl2⟩:=zI0 hq hi;rw [zM6 (qP2 hr hs)];unfold zJ6;rw [zA6];by_cases h:j<a
 ·rw [if_pos h,zB0 (by omega),zM6 hr,zA6]
 ·rw [if_neg h,bW0 (by omega),hl,zM6 hs,zA6]
theorem solq_of {A B T:List (List Rat)} {n m k:Nat} {p:Nat->Nat} (hA:shp A n n) (hB:shp B n m) (hm:zC B=m) (hT:shp T n (n+m)) (hE:Ech n (n+m) (zB8 T) k p) (hR:Red n (zB8 T) k p 0) (hK:zF3 n (n+m) (zB8 (zF0 A B)) (zB8 T)) (h:∀ j,j<n -> ∃ i,i<k/\p i=j):SolQ A B (T.map fun r=>r.drop n):=by
  obtain ⟨_,_,hI,_⟩:=qP1 (Nat.le_add_right n m) hE hR hK h;have hl:A.length=n:=hA.1
  have hent:∀ i c,i<n->zB8 (T.map fun r=>r.drop n) i c=zB8 T i (n+c):=fun i c hi=>by
    obtain ⟨r,hr,hrl⟩:=zI0 hT hi;have h1:(T.map fun r=>r.drop n)[i]?=some (r.drop n):=by rw [zB1,hr];rfl
    rw [zM6 h1,zM6 hr,zA6,bW9,zA6]
  have hk2:zF3 n (n+m) (zJ6 n (zB8 A) (zB8 B)) (zJ6 n idF (fun i c=>zB8 T i (n+c))):=by
    refine ((qC8 fun i j hi hj=>(qX5 hA hB hi).symm).trans hK).trans (qC8 fun i j hi hj => ?_);unfold zJ6;by_cases h:j<n
    · rw [if_pos h];exact hI i j hi h
    · rw [if_neg h];show zB8 T i j=zB8 T i (n+(j-n))
      rw [show n+(j-n)=j by omega]
  refine ⟨⟨by rw [zA9,hT.1,hl],fun r hr => ?_⟩,fun i c hi hc => ?_⟩
  · obtain ⟨y,hy,rfl⟩:=List.mem_map.1 hr;rw [bX2,hT.2 y hy,hm];omega
  · rw [hl] at hi |-;rw [hm] at hc
    have h1:=(hk2 (fun j=>if j<n then zB8 T j (n+c) else -(idF (j-n) c))).2 (fun i hi=>by
      rw [yM7 n m idF (fun i c=>zB8 T i (n+c)) (fun j=>zB8 T j (n+c)) (fun j => -(idF j c)),sum_idF hi (fun j=>zB8 T j (n+c)),qO9]
      have e:zB9 m (fun j=>zB8 T i (n+j)*idF j c)=zB8 T i (n+c):=by
        rw [zL3 hc (fun j _ hne=>by unfold idF;rw [if_neg hne,Rat.mul_zero])];unfold idF;rw [if_pos rfl,Rat.mul_one]
      rw [e]
      grind) i hi
    rw [yM7 n m (zB8 A) (zB8 B) (fun j=>zB8 T j (n+c)) (fun j => -(idF j c)),qO9] at h1
    have e:zB9 m (fun j=>zB8 B i j*idF j c)=zB8 B i c:=by
      rw [zL3 hc (fun j _ hne=>by unfold idF;rw [if_neg hne,Rat.mul_zero])];unfold idF;rw [if_pos rfl,Rat.mul_one]
    rw [e] at h1;unfold zO;rw [zE4 (g:=fun l=>zB8 A i l*zB8 T l (n+c)) fun l hl=>by rw [hent l c hl]]
    grind
def zQ (v:Value):Prop:=∃ A n c,v=.slice A n c
section
variable {P:Program}
theorem jN5 {w:World} {base:Nat} {t ty e:TypeId} (hT:P.underlying t=some (.slice e)) (hI:∃ i,P.info? e=some i/\i.zero=some (.slice none 0 0)/\i.size=1/\i.bytes=24) {v:Value} {vs news:List Value} (hown:zE6 zQ w base e v vs) {ad:Addr} {m c:Nat} (hm:m=news.length) (hm0:0<m)
  (hr:∀ (i:Nat) (u:Value),news[i]?=some u->w.cell? (ad.add i)=some u) (h1:∀ u∈news,zQ u) (hlen:vs.length+m<=1000000000) (hbase:base<=w.heap.size) :
  ∃ v' w',(Builtin.append_ #[t,t] ty #[v,.slice (some ad) m c]).run P w=.ok v' w'/\zE6 zQ w' base e v' (vs ++ news)/\w.grownBy w' v.ownBlock/\(v'.ownBlock=v.ownBlock\/v'.ownBlock=some w.heap.size):=by
 obtain ⟨i,hi,hz,hs,hby⟩:=hI;subst hm;have one:∀ u∈news,u.oneCell'=true:=fun u hu=>by obtain ⟨A_,n_,c_,rfl⟩:=h1 u hu;rfl
 have hl:news.length=news.length*i.size:=by rw [hs,Nat.mul_one]
 have zs:∀ n,∀ c∈Builtin.zeroCells (Value.slice none 0 0).cells n,zQ c:=by
  intro n c hc
  have:c=.slice none 0 0:=by
   have h0:∀ n,∀ c∈(Builtin.zeroCells (Value.slice none 0 0).cells n),c=.slice none 0 0:=by
    intro n c hc;unfold Builtin.zeroCells at hc;simp [Value.cells,Nat.mod_one] at hc;obtain ⟨_,h3⟩:=hc
    first | exact h3.symm | exact h3.2.symm
   exact h0 n c hc
  exact ⟨none,0,0,this⟩
 obtain ⟨v',w',g1,g2,g3,_,g5⟩:=run_append_own_at (P:=P) w base t ty e i (.slice none 0 0) 1 24 hT hi hz hs hby rfl (by decide) v vs.length vs hown.1 ad news.length c news (by simp) (fun j u hu=>hr j u hu) one (by unfold maxLen;omega) (by omega) hbase;refine ⟨v',w',g1,⟨by unfold zD1;rw [zA8];exact g2,fun g hg => ?_⟩,g3,g5⟩;rcases hown.1.2 with ⟨rfl,h0⟩|⟨g',cap,cur,rfl,hbg,hgg,hnc,hcm,hcs,htake⟩
 ·have hx:vs=[]:=List.eq_nil_of_length_eq_zero h0;subst hx;have hr2:=run_append_nil (P:=P) w t ty e i (.slice none 0 0) hT hi hz ad news.length c news hl hr hm0 (by omega) (by rw [hby];simp at hlen;omega);rw [hr2] at g1;injection g1 with g1 g1';subst g1;subst g1';obtain rfl:w.heap.size=g:=by simpa [Value.ownBlock] using hg
  refine ⟨_,heap_alloc_new w.drew _,fun c hc => ?_⟩;rcases Array.mem_append.1 hc with hc | hc
  ·exact h1 c (by simpa using hc)
  ·exact zs _ c hc
 ·obtain ⟨cs,hcs1,hcs2⟩:=hown.2 g' rfl;rw [hgg] at hcs1;injection hcs1 with hcs1;injection hcs1 with hcs1 _ _;subst hcs1;by_cases hroom:vs.length+news.length<=cap
  ·have hfit:vs.length*i.size+news.length<=cur.size:=by rw [hcs,hs];omega
   have hr2:=run_append_room (P:=P) w t ty e i hT hi g' vs.length cap cur hgg ad news.length c news hl hr one hroom hfit;rw [hr2] at g1;injection g1 with g1 g1';subst g1;subst g1';obtain rfl:g'=g:=by simpa [Value.ownBlock] using hg
   refine ⟨_,setRow_heap w g' cur _ e _ hgg,fun c hc => ?_⟩;have hc2:c∈cur.toList.take (vs.length*i.size) ++ news ++ cur.toList.drop (vs.length*i.size+news.length):=by simpa using hc
   rcases List.mem_append.1 hc2 with hc2 | hc2
   ·rcases List.mem_append.1 hc2 with hc2 | hc2
    ·exact hcs2 c (by simpa using List.mem_of_mem_take hc2)
    ·exact h1 c hc2
   ·exact hcs2 c (by simpa using List.mem_of_mem_drop hc2)
  ·have holds:∀ j u,vs[j]?=some u->w.cell? ((⟨g',0,none⟩:Addr).add j)=some u:=World.ownsRow.cells hown.1 (g:=g') rfl;have hr2:=run_append_grow (P:=P) w t ty e i (.slice none 0 0) hT hi hz ⟨g',0,none⟩ vs.length cap vs (by rw [hs];omega) holds ad news.length c news hl hr (by omega) (by omega) (growslice_fits (by omega) (by rw [hby];omega));rw [hr2] at g1;injection g1 with g1 g1';subst g1;subst g1';obtain rfl:w.heap.size=g:=by simpa [Value.ownBlock] using hg
   refine ⟨_,heap_alloc_new w.drew _,fun c hc => ?_⟩;rcases Array.mem_append.1 hc with hc | hc
   ·rcases Array.mem_append.1 hc with hc | hc
    ·have hcv:c∈vs:=by simpa using hc
     rw [<- htake] at hcv;exact hcs2 c (by simpa using List.mem_of_mem_take hcv)
    ·exact h1 c (by simpa using hc)
   ·exact zs _ c hc
theorem jN6 {w:World} {o:Oper} {a:Act} {K:Act->World->Prop} {Q:Exit->Act->World->Prop} (s x:Operand) {t:TypeId}
  (ho:o.op=.call { callee:=.builtin .append,args:=#[s,x],argTypes:=#[t,t] })
  {base:Nat} {e:TypeId} (hT:P.underlying t=some (.slice e)) (hI:∃ i,P.info? e=some i/\i.zero=some (.slice none 0 0)/\i.size=1/\i.bytes=24) {v:Value} {vs news:List Value} (hs:a.eval s=v) (hown:zE6 zQ w base e v vs) {ad:Addr} {m c:Nat} (hx:a.eval x=.slice (some ad) m c) (hm:m=news.length) (hm0:0<m)
  (hr:∀ (i:Nat) (u:Value),news[i]?=some u->w.cell? (ad.add i)=some u) (h1:∀ u∈news,zQ u) (hlen:vs.length+m<=1000000000) (hbase:base<=w.heap.size)
  (h:∀ v' w',zE6 zQ w' base e v' (vs ++ news)->Hid (w.grownBy w' v.ownBlock)->Hid (v'.ownBlock=v.ownBlock\/v'.ownBlock=some w.heap.size)->K (a.put o.dst v') w'):o.wp P a w K Q:=by
 obtain ⟨v',w',hrun,h2,h3,h4⟩:=jN5 (P:=P) (ty:=o.type) hT hI hown (c:=c) hm hm0 hr h1 hlen hbase;unfold Oper.wp execOp;simp only [ho,resolve,invoke,builtin,Sem.run_bind,Sem.run_pure,Result.andThen_ok,List.map_toArray,List.map_cons,List.map_nil,hs,hx,hrun];exact h v' w' h2 h3 h4
theorem jN7 {w:World} {ops:Array Oper} {rest:List Oper} {o:Oper} {a:Act} {Q:Exit->Act->World->Prop} (hgd:o.guard=none) (s x:Operand) {t:TypeId}
  (ho:o.op=.call { callee:=.builtin .append,args:=#[s,x],argTypes:=#[t,t] })
  {base:Nat} {e:TypeId} (hT:P.underlying t=some (.slice e)) (hI:∃ i,P.info? e=some i/\i.zero=some (.slice none 0 0)/\i.size=1/\i.bytes=24) {v:Value} {vs news:List Value} (hs:a.eval s=v) (hown:zE6 zQ w base e v vs) {ad:Addr} {m c:Nat} (hx:a.eval x=.slice (some ad) m c) (hm:m=news.length) (hm0:0<m)
  (hr:∀ (i:Nat) (u:Value),news[i]?=some u->w.cell? (ad.add i)=some u) (h1:∀ u∈news,zQ u) (hlen:vs.length+m<=1000000000) (hbase:base<=w.heap.size)
  (h:∀ v' w',zE6 zQ w' base e v' (vs ++ news)->Hid (w.grownBy w' v.ownBlock)->Hid (v'.ownBlock=v.ownBlock\/v'.ownBlock=some w.heap.size)->wpList P ops Q rest (a.put o.dst v') w'):wpList P ops Q (o :: rest) a w :=
 wpList_plain hgd fun _ hK=>jN6 s x ho hT hI hs hown hx hm hm0 hr h1 hlen hbase fun v' w' h2 h3 h4=>hK _ _ (h v' w' h2 h3 h4)
end
theorem zE6.keepG {w w':World} {base:Nat} {e:TypeId} {V:Value} {vs:List Value} {v:Value} {r:List Rat} (h:zE6 zQ w base e V vs) (hg:w.grownBy w' V.ownBlock) (hs:SlF .u64 4294967296 w v r):SlF .u64 4294967296 w' v r:=by
  cases ho:V.ownBlock with
  | none=>rw [ho] at hg;exact hs.bQ ⟨hg.os,hg.tape,hg.output,hg.size,fun k hk=>hg.block k hk (by simp)⟩
  | some g =>
    rw [ho] at hg;obtain ⟨cs,h1,h2⟩:=h.2 g ho;exact hs.keepX h1 (fun c hc b=>by obtain ⟨A,n,m,rfl⟩:=h2 c hc;simp) (fun c hc n=>by obtain ⟨A,n',m,rfl⟩:=h2 c hc;simp) hg
structure TabX (w:World) (base:Nat) (V:Value) (us:List Value) (K:List (List Rat)):Prop where
 row:zE6 zQ w base 46 V us
 len:us.length=K.length
 own:∀ (i:Nat) (u:Value) (r:List Rat),us[i]?=some u->K[i]?=some r->SlF .u64 4294967296 w u r
theorem TabX.nil (w:World) (base:Nat):TabX w base (.slice none 0 0) [] []:=⟨qW9 _ _ _ _,rfl,fun i u r h=>by simp at h⟩
theorem TabX.bQ {w w':World} {base:Nat} {V:Value} {us:List Value} {K:List (List Rat)} (h:TabX w base V us K) (hb:Below w.heap.size w w'):TabX w' base V us K:=⟨h.row.bQ hb,h.len,fun i u r hu hr=>(h.own i u r hu hr).bQ hb⟩
theorem TabX.snoc {w w':World} {base:Nat} {V V' u:Value} {us:List Value} {K:List (List Rat)} {r:List Rat} (h:TabX w base V us K) (h':zE6 zQ w' base 46 V' (us ++ [u])) (hg:w.grownBy w' V.ownBlock) (hu:SlF .u64 4294967296 w u r):TabX w' base V' (us ++ [u]) (K ++ [r]):=by
 refine ⟨h',by simp [h.len],fun i a b ha hb => ?_⟩;by_cases hi:i<us.length
 ·rw [zB0 hi] at ha;rw [zB0 (by rw [<- h.len];exact hi)] at hb;exact h.row.keepG hg (h.own i a b ha hb)
 ·rw [bW0 (by omega)] at ha;rw [bW0 (by rw [<- h.len];omega),<- h.len] at hb;rcases hj:i-us.length with _ | j
  ·rw [hj] at ha hb;obtain rfl:u=a:=by simpa using ha
   obtain rfl:r=b:=by simpa using hb
   exact h.row.keepG hg hu
  ·rw [hj] at ha;simp at ha
theorem TabX.slT {w:World} {base:Nat} {V:Value} {us:List Value} {K:List (List Rat)} (h:TabX w base V us K):SlT .u64 4294967296 w V K:=by
 refine ⟨us,h.len,?_,h.own⟩;have h1:=h.row.1;rcases h1.2 with ⟨e,h0⟩|⟨g,cap,cur,e,_,hg,hn,hm,_,_⟩
 ·obtain rfl:us=[]:=List.length_eq_zero_iff.1 h0;exact ⟨none,0,e,by simp,by unfold maxLen;omega,fun i u hu=>by simp at hu⟩
 ·exact ⟨_,cap,e,hn,hm,fun i u hu=>⟨_,rfl,World.ownsRow.cells h1 (g:=g) (by rw [e];rfl) i u hu⟩⟩
def frs (ps:List Nat) (C:Nat):List Nat:=(List.range C).filter fun j=>decide (¬ j∈ps)
theorem yN3 {ps:List Nat} {j:Nat} (h:j∈ps):frs ps (j+1)=frs ps j:=by
 unfold frs;rw [List.range_succ,List.filter_append];simp [h]
theorem yN4 {ps:List Nat} {j:Nat} (h:¬ j∈ps):frs ps (j+1)=frs ps j ++ [j]:=by
 unfold frs;rw [List.range_succ,List.filter_append];simp [h]
def nvR (T:List (List Rat)) (ps:List Nat) (C j k:Nat):List Rat:=(List.range C).map (nv (zB8 T) k (pv ps) j)
def nvT (T:List (List Rat)) (ps:List Nat) (C m:Nat):List (List Rat):=(frs ps m).map fun j=>nvR T ps C j ps.length
theorem zS1 (T:List (List Rat)) (ps:List Nat) (C j k:Nat):(nvR T ps C j k).length=C:=by unfold nvR;simp
theorem qJ {T:List (List Rat)} {ps:List Nat} {C j k c:Nat} (h:c<C):(nvR T ps C j k)[c]?=some (nv (zB8 T) k (pv ps) j c):=by
 unfold nvR;rw [zB1,List.getElem?_range h]
 rfl
theorem jN8 (T:List (List Rat)) (ps:List Nat) {C j:Nat} (hj:j<C):nvR T ps C j 0=zW6 C j:=by
 apply bX0;intro c;by_cases hc:c<C
 ·rw [qJ hc];unfold nv;by_cases e:j=c
  ·subst e;rw [jE2 hc,if_pos rfl]
  ·unfold zW6 zL2;rw [bW1 e,List.getElem?_replicate,if_pos hc,if_neg (fun h=>e h.symm)];show some (-(0:Rat))=some 0
   rw [Rat.neg_zero]
 ·rw [bW4 (by rw [zS1];omega),bW4 (by rw [qU6];omega)]
theorem jN9 {T:List (List Rat)} {ps:List Nat} {n C j k:Nat} (h:Ech n C (zB8 T) ps.length (pv ps)) (hk:k<ps.length) (hj:¬ j∈ps):(nvR T ps C j k).set (pv ps k) (-(zB8 T k j))=nvR T ps C j (k+1):=by
  have hne:pv ps k≠j:=fun e=>hj (qA1.1 ⟨k,hk,e⟩);have hlt:=h.lt k hk;apply bX0;intro c;by_cases hc:c<C
  · rw [qJ hc];by_cases e:pv ps k=c
    · subst e;rw [bQ3 (by rw [zS1];exact hc)];unfold nv;rw [if_neg hne];show _=some (-(zB9 k _+(if pv ps k=pv ps k then zB8 T k j else 0)))
      rw [zN9 fun i hi=>if_neg fun e=>by have:=h.inj (by omega) hk e;omega,if_pos rfl,Rat.zero_add]
    · rw [bW1 e,qJ hc];unfold nv;by_cases e2:c=j
      · rw [if_pos e2,if_pos e2]
      · rw [if_neg e2,if_neg e2];show _=some (-(zB9 k _+(if pv ps k=c then zB8 T k j else 0)))
        rw [if_neg e,Rat.add_zero]
  · rw [bW4 (by rw [zB2,zS1];omega),bW4 (by rw [zS1];omega)]
theorem nvT_in {T:List (List Rat)} {ps:List Nat} {C j:Nat} (h:j∈ps):nvT T ps C (j+1)=nvT T ps C j:=by unfold nvT;rw [yN3 h]
theorem nvT_out {T:List (List Rat)} {ps:List Nat} {C j:Nat} (h:¬ j∈ps):nvT T ps C (j+1)=nvT T ps C j ++ [nvR T ps C j ps.length]:=by unfold nvT;rw [yN4 h,List.map_append];rfl
structure KerE (T0:List (List Rat)) (n C S:Nat) (T:List (List Rat)) (ps:List Nat):Prop where
 sh:shp T n C
 ech:Ech n C (zB8 T) ps.length (pv ps)
 red:Red n (zB8 T) ps.length (pv ps) 0
 ker:zF3 n C (zB8 T0) (zB8 T)
 len:∃ S',zH7 T S'/\S'+1<=(S+1)*2^(min ps.length (n-1))*2^(ps.length-1)
def RetKer (T0:List (List Rat)) (n C S:Nat) (w:World) (e:Ending) (w':World):Prop:=∃ V T ps,e=.returned (.tuple #[V,.int .i64 0])/\SlT .u64 4294967296 w' V (nvT T ps C C)/\KerE T0 n C S T ps/\Below w.heap.size w w'
theorem jO (a0 : Value) (T : List (List Rat)) (S : Nat) (w : World) (h0 : SlT .u64 4294967296 w a0 T) (hc : Hid (zX T S)) :
    Calls prog 57 #[a0] w (fun e w'=>(zF5 T/\RetKer T T.length (zC T) S w e w')\/(¬ zF5 T/\e=.returned (.tuple #[.slice none 0 0,.int .i64 8])/\Below w.heap.size w w')):=by
  have st0:=h0;obtain ⟨A0,c0,rfl,hc0,hm0⟩:=h0.shape;obtain ⟨n,hn⟩:∃ n,n=T.length:=⟨_,rfl⟩;obtain ⟨C,hC⟩:∃ C,C=zC T:=⟨_,rfl⟩;have hn5:n<=5:=by rw [hn];exact hc.out.1
  have hC2:C<=200:=by rw [hC];exact hc.out.2.1
  have HST:=hQ9 st0;clear h0 st0 hc0 hm0
  go_enter func57,ntmps57;go_wp2_with fail
  refine (qX0 _ T S _ HST.out hc).mono ?_;rintro e w2 (⟨hm,g,v,T',us,ps,rfl,hR⟩|⟨hm,rfl,b2⟩)
  · rw [<- hn, <- hC] at hR;rw [<- hn];have HNC:=hQ9 (zA hn hC);have HK : Hid (KerE T n C S T' ps):=⟨hR.sh,hR.ech,hR.red,hR.ker,hR.len⟩;have hT'l : T'.length = n:=hR.sh.1;have HW : Hid (zC T' = C):=zX0 hR.sh (fun e => by rw [hC]; rw [hn] at e; rw [List.length_eq_zero_iff.1 e]; rfl);have sT:=hR.tab.slT hT'l (by omega);have tT:=hR.tab;obtain ⟨Av,cv,ev⟩:=zD1.slice hR.piv.1;rw [zR0] at ev;subst ev;have pv0:=hR.piv.pvI;have b2:=hR.bel;have hpn : ps.length <= n:=hR.ech.le;have HM:=hQ9 hm;have HTL:=hQ9 hT'l;clear hR hm hn hC hT'l
    go_wp2_with fail
    refine (zR _ T' _ sT).mono ?_;rintro e w3 ⟨rfl,b3⟩;rw [HW.out];have bb3:=b2.trans (b3.mono b2.size);have tT3:=tT.bQ b3;have pv3:=pv0.bQ b3;clear sT tT pv0 b2 b3;go_wp2
    go_loopw [9,30] (fun v9 v30 wr => ∃ (j:Nat) (us2:List Value),j<=C/\TabX wr w3.heap.size v9 us2 (nvT T' ps C j)/\Hid (Below w3.heap.size w3 wr)/\v30=.int .i64 (j:Int)) (fun _ v30 _=>C-(intOf v30).toNat)
    case atStart=>exact ⟨0,[],by omega,TabX.nil _ _,Below.refl _ _,rfl⟩
    case round =>
      obtain ⟨j,us2,hj,TX,HB,rfl⟩:=hrel;obtain ⟨A9,c9,e9⟩:=zD1.slice TX.row.1;subst e9;by_cases hlt:j<C
      · have pvr:=pv3.bQ HB.out;have hps:ps.length<=1000:=by omega
        by_cases hin:j∈ps
        · have CC:=qX3 _ ps j wr pvr hps;rw [decide_eq_true hin] at CC;have HNX:Hid (nvT T' ps C (j+1)=nvT T' ps C j):=nvT_in hin;clear hin pvr hps
          go_wp2_with fail
          refine CC.mono ?_;rintro e w4 ⟨rfl,b4⟩;have TX4:=TX.bQ b4;have HB4:Hid (Below w3.heap.size w3 w4):=HB.out.trans (b4.mono HB.out.size);clear TX CC HB;go_wp2;go_roundw;case rel=>exact ⟨j+1,us2,by omega,by rw [HNX.out];exact TX4,HB4,by go_num⟩
          case measure=>simp [intOf];omega
        · have CC:=qX3 _ ps j wr pvr hps;rw [decide_eq_false hin] at CC;have HNI:=hQ9 hin;clear hin pvr hps
          go_wp2_with fail
          refine CC.mono ?_;rintro e w4 ⟨rfl,b4⟩;have TX4:=TX.bQ b4;have HB4:Hid (Below w3.heap.size w3 w4):=HB.out.trans (b4.mono HB.out.size);clear TX CC HB b4;go_wp2_with fail
          refine (jJ4 (C:Int) (j:Int) C j w4 rfl rfl hC2 hlt).mono ?_;rintro e w5 ⟨gv,rfl,RN,hgv,b5⟩;rw [qU6] at RN |-;rw [<- jN8 T' ps hlt] at RN;have HGV:=hQ9 hgv;have HB5:=hQ9 b5;clear hgv b5;go_wp2
          go_loopw [44] (fun v44 wr => ∃ k:Nat,k<=ps.length/\zD2 wr gv C (nvR T' ps C j k)/\Hid (Below w4.heap.size w4 wr)/\v44=.int .i64 (k:Int)) (fun v44 _=>ps.length-(intOf v44).toNat)
          case atStart=>exact ⟨0,by omega,RN,HB5.out,rfl⟩
          case round =>
            clear RN HB5;obtain ⟨k,hk,RN,HB6,rfl⟩:=hrel;by_cases hkl:k<ps.length
            · obtain ⟨wo,hwo⟩:∃ wo,wo=wr:=⟨_,rfl⟩;subst hwo;have b36:Hid (Below w3.heap.size w3 wo):=HB4.out.trans (HB6.out.mono HB4.out.size);obtain ⟨A,c,e,hA⟩:=pv3.bQ b36.out;injection e with e1 _ e3;subst e1;subst e3;obtain ⟨adp,rfl,kp⟩:=hA k hkl;obtain ⟨x,hx⟩:∃ x,x=pv ps k:=⟨_,rfl⟩;rw [<- hx] at kp;have hxC:x<C:=by rw [hx];exact HK.out.ech.lt k hkl
              have HX:=hQ9 hx;obtain ⟨r,hr,hrl,hq⟩:=zW8 HK.out.sh (show k<n by omega) hlt;obtain ⟨q,hqe⟩:∃ q,q=zB8 T' k j:=⟨_,rfl⟩;rw [<- hqe] at hq;have HQE:=hQ9 hqe
              have hLQ:Hid (zC3 q 100000):=by
                obtain ⟨S',h1,h2⟩:=HK.out.len;have h3:=h1.len r (zA5 hr) q (zA5 hq);refine h3.mono ?_;have h4:=hc.out.2.2.2.2.2;rw [<- HNC.out.1] at h4;have h5:(S+1)*2^(min ps.length (n-1))*2^(ps.length-1)<=(S+1)*2^(n-1)*2^(n-1):=bY6 (qI8 (Nat.min_le_right _ _)) (bX9 (by omega) (by omega));have h6:=zB4 h2 (zB4 h5 h4);omega
              obtain ⟨Ar,cr,hur,ecr,sr⟩:=(tT3.bQ b36.out).at_ hr;obtain ⟨gr,or,uq,tq,rfl,hia,k0,k1,k2,sq,dq⟩:=sr.at_ hq;obtain ⟨Aq,cq,rfl,_⟩:=id sq;obtain ⟨Dq,eq,rfl,_⟩:=id dq;have hix:=fun w=>zH9 (P:=prog) underlying46 (by kernel_rfl) (g:=gr) (o:=or) (c:=cr) hia w;have hiv:=fun w=>yL4 (P:=prog) underlying46 (by kernel_rfl) (g:=gv) (c:=C) hxC w;have kq:IsQ wo (.agg #[.bool (ngB q.num),.slice Aq (digs 4294967296 q.num.natAbs).length cq,.slice Dq (digs 4294967296 q.den).length eq]) q:=⟨_,_,rfl,sq,dq⟩;obtain ⟨M,hM⟩:∃ M,M = -q:=⟨_,rfl⟩;have CN:∀ w a,IsQ w a q->Calls prog 85 #[a] w (RetQ M w):=fun w a h=>by rw [hM];exact qU1 a q w h hLQ.out
              have HM2:=hQ9 hM;have hkn:k<n:=by omega
              clear hM hx hqe hr hq hA sr hrl hur;go_wp2_with fail
              refine (CN _ _ kq).mono ?_;rintro e w7 ⟨v7,rfl,k7,-,b7⟩;obtain ⟨u7,t7,rfl,s7,d7⟩:=k7;obtain ⟨A7,c7,rfl,_⟩:=id s7;obtain ⟨D7,e7,rfl,_⟩:=id d7;have RN7:=RN.bQ b7;obtain ⟨p5,q5,t5,P0,P1,P2,F0,F1,F2⟩:=RN7.place hxC;obtain ⟨G8,-,R8⟩:=yL3 RN7 hxC s7 d7;have HR8:=hQ9 (R8 (by rw [zS1];exact hxC))
              have HSE:Hid ((nvR T' ps C j k).set x M=nvR T' ps C j (k+1)):=by
                show _=_
                rw [HX.out,HM2.out,HQE.out];exact jN9 HK.out.ech hkl HNI.out
              have bb7:=HB6.out.trans (b7.mono HB6.out.size);have bb8:Hid (Below w4.heap.size w4 _):=bb7.grown G8 bb7.size (fun q e=>by injection e with e;have:=HGV.out;omega);clear R8 G8 RN RN7 s7 d7 kq sq dq k0 k1 k2 ecr hix b7 bb7;go_wp2;go_roundw;case rel=>exact ⟨k+1,by omega,by rw [<- HSE.out];exact HR8.out,bb8,by go_num⟩
              case measure=>simp [intOf];omega
            · obtain rfl:k=ps.length:=by omega
              obtain ⟨wo,hwo⟩:∃ wo,wo=wr:=⟨_,rfl⟩;subst hwo;have sv:=RN.sl (zS1 _ _ _ _ _) (by omega);have TX6:=TX4.bQ HB6.out;have b36:Hid (Below w3.heap.size w3 wo):=HB4.out.trans (HB6.out.mono HB4.out.size);have ba:=zC9 (w:=wo) (zB3 _) (.cells #[.slice (some ⟨gv,0,none⟩) C C] 46);have TX7:=TX6.bQ ba;have sv7:=sv.bQ ba;have hone:=cell_one_new wo (.slice (some ⟨gv,0,none⟩) C C) 46;have hb3:w3.heap.size<=(wo.alloc (.cells #[.slice (some ⟨gv,0,none⟩) C C] 46)).heap.size:=zB4 b36.out.size ba.size
              have hlu:us2.length+1<=1000000000:=by
                have h1:=TX7.len
                have h2:(nvT T' ps C j).length<=j:=by
                  unfold nvT frs;rw [zA9];exact zB4 (List.length_filter_le _ _) (by simp)
                omega
              have HNX:Hid (nvT T' ps C (j+1)=nvT T' ps C j ++ [nvR T' ps C j ps.length]):=nvT_out HNI.out;have b37:Hid (Below w3.heap.size w3 _):=b36.out.trans (ba.mono b36.out.size);clear TX4 TX6 RN sv ba HB6 b36
              go_wp2_with (at_builtin;refine jN7 rfl (.tmp 61) (.tmp 63) rfl underlying22 qI5 rfl TX7.row rfl rfl (by decide) hone (fun u hu=>by (obtain rfl:=List.mem_singleton.1 hu;exact ⟨_,_,_,rfl⟩)) hlu hb3 ?_;intro v12 w12 RX12 HG12 HX12)
              have TX12:=TX7.snoc RX12 HG12.out sv7;have HB12:Hid (Below w3.heap.size w3 w12):=b37.out.grown HG12.out b37.out.size (fun g hg=>TX7.row.1.base_le g hg);clear TX7 RX12 sv7 hone;go_wp2;go_roundw;case rel=>exact ⟨j+1,_,by omega,by rw [HNX.out];exact TX12,HB12,by go_num⟩
              case measure=>simp [intOf];omega
      · obtain rfl:j=C:=by omega
        have HV:=hQ9 TX.slT;have b3r:=hQ9 (bb3.trans (HB.out.mono bb3.size));clear TX HB;go_wp2;go_ret2;exact .inl ⟨HM.out,by rw [<- HNC.out.1,<- HNC.out.2];exact ⟨_,T',ps,rfl,HV.out,HK.out,b3r.out⟩⟩
  · have HN:=hQ9 hm;clear hm;go_wp2;go_ret2;exact .inr ⟨HN.out,rfl,b2⟩
theorem yN5 {t:List (List Rat)} {m:Nat} (h:∀ r∈t,r.length<=m):zC t<=m:=by
 cases t with
 | nil=>exact Nat.zero_le _
 | cons r t=>exact h r List.mem_cons_self
theorem yN6 {p:List (List Rat)} {m:Nat} (h2:∀ r∈p,r.length<=m) (h3:zD6 p 1):zH7 p (m+1):=fun r hr=>(qV9 (fun x hx=>h3 r hr x hx)).mono (by have:=h2 r hr;omega)
theorem jO0 {p:List (List Rat)} (h1:p.length<=5) (h2:∀ r∈p,r.length<=5) (h3:zD6 p 1):zX p 6:=by
 have hw:zC p<=5:=yN5 h2;have hx:2^(p.length-1)<=2^4:=bX9 (by omega) (by omega);have h4:(6+1)*2^(p.length-1)<=7*2^4:=bY6 (by omega) hx;have h5:(6+1)*2^(p.length-1)*2^(p.length-1)<=7*2^4*2^4:=bY6 h4 hx;exact ⟨h1,by omega,yN6 h2 h3,by omega,by omega,by omega⟩
section
variable {P:Program}
end
theorem zP1.cutFrom {w:World} {g o n c k:Nat} {A:Option Addr} {ps:List Elt} (h:zP1 w (.slice (some ⟨g,o,none⟩) n c) ps) (hk:k<=ps.length) (hA:k<ps.length->A=some ⟨g,o+k*3,none⟩):zP1 w (.slice A (n-k) (c-k)) (ps.drop k):=by
 obtain ⟨A',c',e,h1,h2,h3⟩:=h;injection e with e1 e2 e3;subst e1;subst e2;subst e3;refine ⟨A,c-k,by rw [bX2],by rw [bX2];omega,by omega,fun i p hp => ?_⟩;rw [bW9] at hp;have hi:=(zA4.1 hp).1;obtain ⟨g',o',e,c0,c1,c2⟩:=h3 _ p hp;injection e with e;injection e with e4 e5;subst e4;subst e5;refine ⟨g,o+k*3,hA (by omega),?_,?_,?_⟩
 ·rw [show o+k*3+i*3=o+(k+i)*3 by omega];exact c0
 ·rw [show o+k*3+i*3=o+(k+i)*3 by omega];exact c1
 ·rw [show o+k*3+i*3=o+(k+i)*3 by omega];exact c2
def zN0 (T:List (List Rat)) (n k:Nat):List (List Rat):=(T.take k).map (fun r=>r.drop n) ++ T.drop k
theorem cutT_at {T:List (List Rat)} {n k:Nat} (hk:k<=T.length):(zN0 T n k)[k]?=T[k]?:=by
 unfold zN0;have hl:((T.take k).map fun r=>r.drop n).length=k:=by rw [zA9,bQ7];omega
 rw [bW0 (by omega),hl,Nat.sub_self,bW9,Nat.add_zero]
theorem jO1 {T:List (List Rat)} {n k:Nat} {r:List Rat} (hr:T[k]?=some r):(zN0 T n k).set k (r.drop n)=zN0 T n (k+1):=by
 have hk:k<T.length:=(zA4.1 hr).1;unfold zN0;have hl:((T.take k).map fun r=>r.drop n).length=k:=by rw [zA9,bQ7];omega
 have hd:T.drop k=r :: T.drop (k+1):=by
  rw [List.drop_eq_getElem_cons hk];rw [zA3 hk] at hr;injection hr with hr;rw [hr]
 rw [List.set_append_right _ _ (by omega),hl,Nat.sub_self,hd,zA2,bQ9,hr];simp
theorem yN7 {T:List (List Rat)} {n k:Nat} (h:T.length<=k):zN0 T n k=T.map fun r=>r.drop n:=by
 unfold zN0;rw [zA7 h,List.drop_eq_nil_of_le h,List.append_nil]
theorem yN8 (T:List (List Rat)) (n:Nat) {k:Nat} (hk:k<=T.length):(zN0 T n k).length=T.length:=by
 unfold zN0;rw [zA8,zA9,bQ7,bX2];omega
theorem jO2 {n:Nat} {p:Nat->Nat} (hr:∀ i j,i<j->j<n->p i<p j) (h:p (n-1)=n-1) (hn:0<n):∀ i,i<n->p i=i:=by
  have a1:∀ i,i<n->i<=p i:=by
    intro i
    induction i with
    | zero=>intro _;omega
    | succ i ih =>
      intro hi;have h1:=ih (by omega);have h2:=hr i (i+1) (by omega) hi;omega
  have a2:∀ d,d<=n-1->p (n-1-d)<=n-1-d:=by
    intro d
    induction d with
    | zero=>intro _;rw [Nat.sub_zero,h];exact zB3 _
    | succ d ih =>
      intro hd;have h1:=ih (by omega);have h2:=hr (n-1-(d+1)) (n-1-d) (by omega) (by omega);omega
  intro i hi;have h1:=a1 i hi;have h2:=a2 (n-1-i) (by omega);rw [show n-1-(n-1-i)=i by omega] at h2;omega
def yN9 (A B:List (List Rat)) (L:Nat) (w:World) (e:Ending) (w':World):Prop:=Below w.heap.size w w'/\((zC8 A.length (zB8 A)≠0 /\ ∃ V X,e=.returned (.tuple #[V,.int .i64 0])/\SlT .u64 4294967296 w' V X/\SolQ A B X/\zD6 X L)\/(zC8 A.length (zB8 A)=0/\e=.returned (.tuple #[.slice none 0 0,.int .i64 7])))
structure StpIn (A B:List (List Rat)) (n m S:Nat):Prop where
 la:A.length=n
 sa:shp A n n
 sb:shp B n m
 wb:zC B=m
 wj:zC (zF0 A B)=n+m\/n=0
 ok:zX (zF0 A B) S
theorem jO3 (a0:Value) (A B:List (List Rat)) (n m S:Nat) (w:World) (h0:SlT .u64 4294967296 w a0 (zF0 A B)) (hm:zF5 (zF0 A B)) (hc:Hid (StpIn A B n m S)) :
    Calls prog 34 #[a0,.int .i64 (n:Int)] w (yN9 A B 2450 w):=by
  obtain ⟨T,hT⟩:∃ T,T=zF0 A B:=⟨_,rfl⟩;have CR:=qX0 a0 (zF0 A B) S w h0 hc.out.ok;have HJ:Hid (shp (zF0 A B) n (n+m)):=zX1 hc.out.sa hc.out.sb;obtain ⟨C,hC⟩:∃ C,C=zC (zF0 A B):=⟨_,rfl⟩;have hln:(zF0 A B).length=n:=HJ.out.1;have HC:Hid (C=n+m\/n=0):=by show _\/_;rw [hC];exact hc.out.wj
  have hn5:n<=5:=by rw [<- hln];exact hc.out.ok.1
  have hCw:C<=200:=by rw [hC];exact hm.2.1
  have HOK:Hid ((S+1)*2^(n-1)*2^(n-1)<=2450):=by
    have h:=hc.out.ok.2.2.2.2.2;rw [hln] at h;exact h
  rw [hln,<- hC] at CR;have HM:=hQ9 hm;clear hC hln hm hT
  go_enter func34,ntmps34;go_wp2_with fail
  refine CR.mono ?_;rintro e w2 (⟨-,g,v,T6,us6,ps,rfl,hR⟩|⟨hm2,_⟩)
  · obtain ⟨sh, ech, red, ker, len, tab, piv, bel, lo⟩ := hR;obtain ⟨A6,c6,e6⟩:=zD1.slice piv.1;rw [zR0] at e6;subst e6;have hpn : ps.length <= n:=ech.le;have HSH:=hQ9 sh;have HE:=hQ9 (zA ech (zA red ker))
    have HL:Hid (zD6 T6 2450):=by
      obtain ⟨S2,r2,hS2⟩:=len;have h1:=qI8 (S:=S) (show min ps.length (n-1)<=n-1 by omega);have h2:(S+1)*2^(min ps.length (n-1))*2^(ps.length-1)<=(S+1)*2^(n-1)*2^(n-1):=bY6 h1 (bX9 (by omega) (by omega));have h3:=HOK.out;exact r2.len.mono (by omega)
    have pvs:=piv.pvs tab.1 (by decide);have HB:=hQ9 bel;clear len bel
    have HNO:Hid ((∃ j,j<n /\ ∀ i,i<ps.length->pv ps i≠j)->zC8 A.length (zB8 A)=0):=by
      rintro ⟨j,hj,hf⟩
      have hCm:C=n+m:=by
        rcases HC.out with h | h
        · exact h
        · omega
      subst hCm;rw [hc.out.la];have hK2:zF3 n (n+m) (zJ6 n (zB8 A) (zB8 B)) (zB8 T6):=(qC8 fun i j hi hj=>(qX5 hc.out.sa hc.out.sb hi).symm).trans ker;have h1:=yN2 (Nat.le_add_right n m) ech red hK2 ⟨j,hj,hf⟩;rw [<- h1];exact zL0 n fun i j hi hj=>by unfold zJ6;rw [if_pos hj]
    have HYES:Hid ((∀ j,j<n -> ∃ i,i<ps.length/\pv ps i=j)->zC8 A.length (zB8 A)≠0/\SolQ A B (T6.map fun r=>r.drop n)):=by
      intro h;rcases bY3 n with e0 | hn0
      · subst e0;have hA:A=[]:=List.length_eq_zero_iff.1 hc.out.la;have hT:T6=[]:=List.length_eq_zero_iff.1 sh.1;subst hA;subst hT;refine ⟨by decide,⟨rfl,fun r hr=>by cases hr⟩,fun i j hi => ?_⟩;exact absurd hi (Nat.not_lt_zero _)
      · have hCm:C=n+m:=by
          rcases HC.out with h | h
          · exact h
          · omega
        subst hCm;have hK2:zF3 n (n+m) (zJ6 n (zB8 A) (zB8 B)) (zB8 T6):=(qC8 fun i j hi hj=>(qX5 hc.out.sa hc.out.sb hi).symm).trans ker;obtain ⟨_,_,_,h4⟩:=qP1 (Nat.le_add_right n m) ech red hK2 h;refine ⟨?_,solq_of hc.out.sa hc.out.sb hc.out.wb sh ech red ker h⟩;rw [hc.out.la];intro e;apply h4;rw [<- e];exact zL0 n fun i j hi hj=>by unfold zJ6;rw [if_pos hj]
    have HRISE:Hid (∀ i j,i<j->j<ps.length->pv ps i<pv ps j):=ech.rise;clear sh ech red ker piv;by_cases hk2:0<n/\(ps.length<n\/pv ps (n-1)≠n-1)
    · have HZ:Hid (zC8 A.length (zB8 A)=0):=HNO.out (bQ1 fun hno=>by
        have hall:∀ j,j<n -> ∃ i,i<ps.length/\pv ps i=j:=fun j hj=>bQ1 fun h2=>hno ⟨j,hj,fun i hi e=>h2 ⟨i,hi,e⟩⟩;obtain ⟨h3,h4⟩:=qP HRISE.out n hall;rcases hk2.2 with h5 | h5
        · omega
        · exact h5 (h4 (n-1) (by omega)))
      obtain ⟨hn0,hk3⟩:=hk2;have hn0i:(0:Int)<(n:Int):=by omega
      clear HNO HYES;by_cases hk4:ps.length<n
      · clear hk3 pvs;go_wp2;go_ret2;exact ⟨HB.out,.inr ⟨HZ.out,rfl⟩⟩
      · have hpe:ps.length=n:=by omega
        have hk5:pv ps (n-1)≠n-1:=by
          rcases hk3 with h | h
          · exact absurd h hk4
          · exact h
        obtain ⟨ad,rfl,-,ec⟩:=pvs (n-1) (by omega);have hne:(((pv ps (n-1):Nat):Int) == (n:Int)-1)=false:=by rw [beq_eq_false_iff_ne];omega
        have hcast:(((n-1:Nat):Nat):Int)=(n:Int)-1:=by omega
        have hix:((n:Int)-1).toNat=n-1:=by omega
        clear hk3 pvs hk5;go_wp2;go_ret2;exact ⟨HB.out,.inr ⟨HZ.out,rfl⟩⟩
    · have HALL:Hid (∀ j,j<n -> ∃ i,i<ps.length/\pv ps i=j):=fun j hj=>by
        have h1:¬ ps.length<n:=fun h=>hk2 ⟨by omega,.inl h⟩;have h2:pv ps (n-1)=n-1:=bQ1 fun h=>hk2 ⟨by omega,.inr h⟩;exact ⟨j,by omega,jO2 (fun i j hi hj=>HRISE.out i j hi (by omega)) h2 (by omega) j hj⟩
      have HSOL:=hQ9 (HYES.out HALL.out);have HT6:Hid (T6.length=n):=HSH.out.1
      have HCC:Hid (0<n->C=n+m):=fun h=>by
        rcases HC.out with h2 | h2
        · exact h2
        · omega
      clear HNO HYES HALL;rcases bY3 n with hn0 | hn0
      · have hni:¬ (0:Int)<(n:Int):=by omega
        clear hk2 pvs hn0;go_wp2
        go_loopw [36] (fun v36 wr => ∃ (k:Nat) (us7:List Value),k<=n/\zE2 .u64 4294967296 wr g 46 us7 (zN0 T6 n k)/\Hid (Below w.heap.size w wr)/\v36=.int .i64 (k:Int)) (fun v36 _=>n-(intOf v36).toNat)
        case atStart=>exact ⟨0,us6,by omega,tab,HB,rfl⟩
        case round =>
          clear tab HB;obtain ⟨k,us7,hk,TS,HB7,rfl⟩:=hrel;by_cases hlt:k<n
          · exfalso;omega
          · have hke:k=n:=by omega
            have hS:SlT .u64 4294967296 wr (.slice (some ⟨g,0,none⟩) n n) (T6.map fun r=>r.drop n):=by
              have h:=TS.slT (show (zN0 T6 n k).length=n by rw [yN8 T6 n (by have:=HT6.out;omega)];exact HT6.out) (by omega);rwa [yN7 (by have:=HT6.out;omega)] at h
            have HV:=hQ9 hS;clear hS TS hke;go_wp2;go_ret2;refine ⟨HB7.out,.inl ⟨HSOL.out.1,_,_,rfl,HV.out,HSOL.out.2,?_⟩⟩;intro r hr x hx;obtain ⟨y,hy,rfl⟩:=List.mem_map.1 hr;exact HL.out y hy x (List.mem_of_mem_drop hx)
      · have hpe:ps.length=n:=Nat.le_antisymm hpn (Nat.le_of_not_lt fun h=>hk2 ⟨hn0,.inl h⟩);have hk5:pv ps (n-1)=n-1:=bQ1 fun h=>hk2 ⟨hn0,.inr h⟩;obtain ⟨ad,rfl,-,ec⟩:=pvs (n-1) (by omega);rw [hk5] at ec;have hcast:(((n-1:Nat):Nat):Int)=(n:Int)-1:=by omega
        have hix:((n:Int)-1).toNat=n-1:=by omega
        have hn0i:(0:Int)<(n:Int):=by omega
        have hpni:¬ ((ps.length:Nat):Int)<(n:Int):=by omega
        rw [hcast] at ec;have hbq:(((n:Int)-1 == (n:Int)-1))=true:=beq_self_eq_true _;clear hk2 pvs hk5;go_wp2
        go_loopw [36] (fun v36 wr => ∃ (k:Nat) (us7:List Value),k<=n/\zE2 .u64 4294967296 wr g 46 us7 (zN0 T6 n k)/\Hid (Below w.heap.size w wr)/\v36=.int .i64 (k:Int)) (fun v36 _=>n-(intOf v36).toNat)
        case atStart=>exact ⟨0,us6,by omega,tab,HB,rfl⟩
        case round =>
          clear tab HB;obtain ⟨k,us7,hk,TS,HB7,rfl⟩:=hrel;by_cases hlt:k<n
          · obtain ⟨r,hr,hrl⟩:=zI0 HSH.out hlt;have hr2:(zN0 T6 n k)[k]?=some r:=by rw [cutT_at (by have:=HT6.out;omega)];exact hr
            have HNX:Hid ((zN0 T6 n k).set k (r.drop n)=zN0 T6 n (k+1)):=jO1 hr;have hrl2:r.length=n+m:=by rw [hrl];exact HCC.out (by omega)
            obtain ⟨Ar,cr,hur,ecr,sr⟩:=TS.at_ hr2;have frr:=TS.frozenAt k;obtain ⟨gr,or,cc,esl,-,hrc,hcm⟩:=sr.place (fun e=>by rw [e] at hrl2;simp at hrl2;omega);injection esl with esl1 _ esl3;subst esl1;subst esl3;obtain ⟨psi,hpm,hVF,hIE⟩:=sr;have hpl:psi.length=r.length:=by rw [<- hpm,zA9]
            obtain ⟨A2,hA2⟩:∃ A2:Option Addr,A2=if cr=n then some ⟨gr,or,none⟩ else some ⟨gr,or+n*3,none⟩:=⟨_,rfl⟩
            have VFrom:=hVF.cutFrom (k:=n) (A:=A2) (by omega) (fun h=>by rw [hA2,if_neg (by omega)]);have sR:SlF .u64 4294967296 wr (.slice A2 (r.length-n) (cr-n)) (r.drop n):=⟨psi.drop n,by rw [List.map_drop,hpm],VFrom,fun p hp=>hIE p (List.mem_of_mem_drop hp)⟩;have hjc2:¬ cr<n:=by omega
            have hjc3:¬ r.length<n:=by omega
            have hA3:=hA2.symm;have TS2:=TS.stored k sR;rw [HNX.out] at TS2;have HB8:Hid (Below w.heap.size w _):=HB7.out.setCell (p:=⟨g,k,none⟩) lo (.slice A2 (r.length-n) (cr-n));clear hr hr2 hrl hpm hVF hIE hpl VFrom sR hA2 hur TS HB7 hrl2;go_wp2;go_roundw;case rel=>exact ⟨k+1,_,by omega,TS2,HB8,by go_num⟩
            case measure=>simp [intOf];omega
          · have hke:k=n:=by omega
            have hS:SlT .u64 4294967296 wr (.slice (some ⟨g,0,none⟩) n n) (T6.map fun r=>r.drop n):=by
              have h:=TS.slT (show (zN0 T6 n k).length=n by rw [yN8 T6 n (by have:=HT6.out;omega)];exact HT6.out) (by omega);rwa [yN7 (by have:=HT6.out;omega)] at h
            have HV:=hQ9 hS;clear hS TS hke;go_wp2;go_ret2;refine ⟨HB7.out,.inl ⟨HSOL.out.1,_,_,rfl,HV.out,HSOL.out.2,?_⟩⟩;intro r hr x hx;obtain ⟨y,hy,rfl⟩:=List.mem_map.1 hr;exact HL.out y hy x (List.mem_of_mem_drop hx)
  · exact absurd HM.out hm2
end rat
namespace nat
open Go.RowKit num mem limb
theorem jO4 (v u:Value) (x y:Nat) (w:World) (h:IsS w .u64 v (digs 4294967296 x)) (h':IsS w .u64 u (digs 4294967296 y)) (hl:(digs 4294967296 x).length<=90000) (hl':(digs 4294967296 y).length<=90000) (hp:0<x) :
  Calls prog 80 #[v,u] w (zD7 .u64 (digs 4294967296 (Nat.lcm x y)) w):=by
 obtain ⟨G,hG⟩:∃ G,G=Nat.gcd x y:=⟨_,rfl⟩;have HE:Hid (zN7 [x,y]=G):=by show _=_;rw [hG];simp [zN7]
 have hd:G∣x:=by rw [hG];exact Nat.gcd_dvd_left x y
 have hG0:0<G:=by rw [hG];exact Nat.gcd_pos_of_pos_left _ hp
 have hm:x % G=0:=Nat.mod_eq_zero_of_dvd hd;have hlG:(digs 4294967296 G).length<=90000:=zB4 (zG1 (by omega) (Nat.le_of_dvd hp hd)) hl;obtain ⟨q,hq⟩:∃ q,q=x / G:=⟨_,rfl⟩
 have hlq:(digs 4294967296 q).length<=100000:=by
  rw [hq];exact zB4 (zG1 (by omega) (Nat.div_le_self x G)) (by omega)
 have hz:Nat.lcm x y=q*y:=by
  rw [hq];show x*y / Nat.gcd x y=x / G*y
  rw [<- hG,bY0 x y,Nat.mul_div_assoc y hd,bY0]
 obtain ⟨Z,hZ⟩:∃ Z,Z=Nat.lcm x y:=⟨_,rfl⟩;rw [<- hZ] at hz |-;have HG0:=hQ9 hG0;have HM:=hQ9 hm;have HQ:=hQ9 hq;have HZ:=hQ9 hz;clear hG hd hG0 hm hq hz hZ hp;obtain ⟨A1,c1,rfl,_⟩:=id h;obtain ⟨A2,c2,rfl,_⟩:=id h'
 go_enter func80,ntmps80;go_wp2_with fail
 have hb:=zC9 (zB3 w.heap.size) (.cells #[.slice A1 (digs 4294967296 x).length c1,.slice A2 (digs 4294967296 y).length c2] 40);have ha:=h.bQ hb;have ha':=h'.bQ hb;refine (qT5 _ [_,_] [x,y] _ (zS7 w 40 [_,_]) (qK4 ha ha') (by simp) (by intro q hq;simp at hq;rcases hq with rfl|rfl;exact hl;exact hl')).mono ?_;rintro e w1 ⟨v1,rfl,k1,f1,b1⟩;have b2:=hb.trans (b1.mono hb.size);have ha1:=ha.bQ b1;have ha1':=ha'.bQ b1;rw [HE.out] at k1;obtain ⟨A3,c3,rfl,_⟩:=id k1;clear ha ha' hb b1;go_wp2_with fail
 refine (qB4 _ _ x G _ ha1 k1 hl hlG HG0.out q HM.out HQ.out).mono ?_;rintro e w2 ⟨v2,rfl,k2,f2,b3⟩;obtain ⟨A4,c4,rfl,_⟩:=id k2;have b4:=b2.trans (b3.mono b2.size);have ha2':=ha1'.bQ b3;clear ha1 ha1' k1 b3 b2;go_wp2_with fail
 refine (mul_any _ _ q y _ k2 ha2' hlq (by omega) Z HZ.out).mono ?_;rintro e w3 ⟨v3,rfl,k3,f3,b5⟩;go_wp2;go_ret;exact ⟨_,rfl,k3,f3.mono b4.size,b4.trans (b5.mono b4.size)⟩
end nat
namespace rat
open Go.RowKit num mem nat txt str flow whl
structure BrQ (n C k:Nat) (a:Nat->Nat->Int) (R:Nat->Nat->Rat) (d:Rat):Prop where
 le:k<=n
 wide:n<=C
 ne:d≠0
 det:zC8 k (qF a)=d
 rel:∀ i j,i<n->k<=j->j<C->d*(a i j:Rat)=zB9 k (fun c=>(a i c:Rat)*R c j)+(if k<=i then R i j else 0)
theorem BrQ.start {n C:Nat} (a:Nat->Nat->Int) (h:n<=C):BrQ n C 0 a (qF a) 1 :=
 ⟨by omega, h, by decide, rfl, fun i j _ _ _ => by
  rw [if_pos (Nat.zero_le i)];show 1*(a i j:Rat)=0+(a i j:Rat)
  grind⟩
theorem qP3 (n:Nat) (d:Rat) (f g:Nat->Rat):zB9 n (fun c=>f c*(g c*d⁻¹))=zB9 n (fun c=>f c*g c)*d⁻¹:=by
 rw [show zB9 n (fun c=>f c*g c)*d⁻¹ = d⁻¹ * zB9 n (fun c=>f c*g c) by grind,<- zH5];exact zE4 fun c _=>by grind
theorem BrQ.minor {n C k:Nat} {a:Nat->Nat->Int} {R:Nat->Nat->Rat} {d:Rat} (h:BrQ n C k a R d) {i j:Nat} (hi:i<n) (hk:k<=i) (hj:k<=j) (hC:j<C) :
  zC8 (k+1) (fun r c=>qF a (if r<k then r else i) (if c<k then c else j))=R i j:=by
 have hd:=Rat.mul_inv_cancel _ h.ne;obtain ⟨N0,hN0⟩:∃ N0:Nat->Nat->Rat,N0=fun r c=>if c<k then qF a (if r<k then r else i) c else if r=k then 1 else 0:=⟨_,rfl⟩
 obtain ⟨v,hv⟩:∃ v:Nat->Rat,v=fun l=>if l<k then R l j*d⁻¹ else R i j*d⁻¹:=⟨_,rfl⟩
 have e1:zC8 (k+1) (fun r c=>qF a (if r<k then r else i) (if c<k then c else j))=zC8 (k+1) (zG9 N0 k (fun r=>zB9 (k+1) (fun l=>N0 r l*v l))):=by
  refine zL0 _ fun r c hr hc => ?_;unfold zG9;by_cases ec:c=k
  ·subst ec;rw [if_pos rfl,if_neg (Nat.lt_irrefl c)];show _=zB9 c (fun l=>N0 r l*v l)+N0 r c*v c
   have es:zB9 c (fun l=>N0 r l*v l)=zB9 c (fun l=>(a (if r<c then r else i) l:Rat)*R l j)*d⁻¹:=by
    rw [<- qP3];refine zE4 fun l hl => ?_;rw [hN0,hv];simp only [if_pos hl]
    rfl
   rw [es]
   have ev:N0 r c*v c=if r=c then R i j*d⁻¹ else 0:=by
    rw [hN0,hv];simp only [if_neg (Nat.lt_irrefl c)]
    split<;>grind
   rw [ev];by_cases er:r<c
   ·have hr2:=h.rel r j (by have:=h.le;omega) hj hC;rw [if_neg (by omega)] at hr2;rw [if_pos er,if_neg (by omega)];show (a r j:Rat)=_
    have e2:zB9 c (fun l=>(a r l:Rat)*R l j)=d*(a r j:Rat):=by grind
    rw [e2]
    grind
   ·obtain rfl:r=c:=by omega
    have hr2:=h.rel i j hi hj hC;rw [if_pos hk] at hr2;rw [if_neg er,if_pos rfl];show (a i j:Rat)=_
    grind
  ·rw [if_neg ec,hN0];simp only [if_pos (show c<k by omega)]
 rw [e1,qA2 _ _ _ _ (by omega),jN3 k N0 (fun r hr=>by rw [hN0];simp only [if_neg (Nat.lt_irrefl k),if_neg (show ¬ r=k by omega)])]
 have e2:zC8 k N0=d:=by
  rw [<- h.det];refine zL0 _ fun r c hr hc => ?_;rw [hN0];simp only [if_pos hc,if_pos hr]
 have e3:N0 k k=1:=by rw [hN0];simp only [if_neg (Nat.lt_irrefl k),if_true]
 have e4:v k=R i j*d⁻¹:=by rw [hv];simp only [if_neg (Nat.lt_irrefl k)]
 rw [e2,e3,e4]
 grind
theorem BrQ.cramer {n C k:Nat} {a:Nat->Nat->Int} {R:Nat->Nat->Rat} {d:Rat} (h:BrQ n C k a R d) {i j:Nat} (hi:i<k) (hj:k<=j) (hC:j<C) :
  zC8 k (zG9 (qF a) i (fun r=>qF a r j))=R i j:=by
 have hd:=Rat.mul_inv_cancel _ h.ne
 have e1:zC8 k (zG9 (qF a) i (fun r=>qF a r j))=zC8 k (zG9 (qF a) i (fun r=>zB9 k (fun l=>qF a r l*(R l j*d⁻¹)))):=by
  refine zL0 _ fun r c hr hc => ?_;unfold zG9;by_cases ec:c=i
  ·rw [if_pos ec,if_pos ec];show qF a r j=zB9 k (fun l=>qF a r l*(R l j*d⁻¹))
   rw [qP3];have hr2:=h.rel r j (by have:=h.le;omega) hj hC;rw [if_neg (by omega)] at hr2
   have e2:zB9 k (fun c=>qF a r c*R c j)=d*(a r j:Rat):=by
    have:zB9 k (fun c=>qF a r c*R c j)=zB9 k (fun c=>(a r c:Rat)*R c j):=rfl;rw [this];grind
   rw [e2];show (a r j:Rat)=_
   grind
  ·rw [if_neg ec,if_neg ec]
 rw [e1,qA2 k (qF a) i (fun l=>R l j*d⁻¹) hi,h.det]
 grind
theorem BrQ.int {n C k:Nat} {a:Nat->Nat->Int} {R:Nat->Nat->Rat} {d:Rat} (h:BrQ n C k a R d) {i j:Nat} (hi:i<n) (hj:k<=j) (hC:j<C):∃ z:Int,R i j=(z:Rat):=by
 by_cases hk:k<=i
 ·rw [<- h.minor hi hk hj hC];exact qX4 _ _ fun r c _ _=>⟨_,rfl⟩
 ·rw [<- h.cramer (by omega) hj hC];refine qX4 _ _ fun r c _ _ => ?_;unfold zG9
  split
  ·exact ⟨_,rfl⟩
  ·exact ⟨_,rfl⟩
def stepQ (k:Nat) (R:Nat->Nat->Rat) (d:Rat):Nat->Nat->Rat:=fun i j=>if i=k then R k j else (R i j*R k k-R i k*R k j)*d⁻¹
theorem BrQ.step {n C k:Nat} {a:Nat->Nat->Int} {R:Nat->Nat->Rat} {d:Rat} (h:BrQ n C k a R d) (hk:k<n) (hp:R k k≠0):BrQ n C (k+1) a (stepQ k R d) (R k k):=by
 have hd:=Rat.mul_inv_cancel _ h.ne;have hw:=h.wide;refine ⟨hk,h.wide,hp,?_,fun i j hi hj hC => ?_⟩
 ·rw [<- h.minor hk (zB3 k) (zB3 k) (by omega)];refine zL0 _ fun r c hr hc => ?_
  by_cases e1:r<k<;>by_cases e2:c<k
  ·rw [if_pos e1,if_pos e2]
  ·rw [if_pos e1,if_neg e2,show c=k by omega]
  ·rw [if_neg e1,if_pos e2,show r=k by omega]
  ·rw [if_neg e1,if_neg e2,show r=k by omega,show c=k by omega]
 ·have r1:=h.rel i j hi (by omega) hC;have r2:=h.rel i k hi (zB3 k) (by omega)
  have e1:zB9 k (fun c=>(a i c:Rat)*stepQ k R d c j)=(R k k*zB9 k (fun c=>(a i c:Rat)*R c j)-R k j*zB9 k (fun c=>(a i c:Rat)*R c k))*d⁻¹:=by
   have e0:zB9 k (fun c=>(a i c:Rat)*stepQ k R d c j)=zB9 k (fun c=>R k k*d⁻¹ * ((a i c:Rat)*R c j)+(- R k j*d⁻¹)*((a i c:Rat)*R c k)):=zE4 fun c hc=>by
    unfold stepQ;rw [if_neg (show ¬ c=k by omega)]
    grind
   rw [e0,zT,zH5,zH5]
   grind
  have e2:zB9 (k+1) (fun c=>(a i c:Rat)*stepQ k R d c j)=zB9 k (fun c=>(a i c:Rat)*stepQ k R d c j)+(a i k:Rat)*R k j:=by
   show _+(a i k:Rat)*stepQ k R d k j=_
   unfold stepQ;rw [if_pos rfl]
  rw [e2,e1];obtain ⟨S,hS⟩:∃ S,S=zB9 k (fun c=>(a i c:Rat)*R c j):=⟨_,rfl⟩;obtain ⟨T,hT⟩:∃ T,T=zB9 k (fun c=>(a i c:Rat)*R c k):=⟨_,rfl⟩;rw [<- hS] at r1 |-;rw [<- hT] at r2 |-;by_cases k1:i<k
  ·rw [if_neg (by omega)] at r1 r2 |-;have:S=d*(a i j:Rat):=by grind
   have:T=d*(a i k:Rat):=by grind
   grind
  ·by_cases k2:i=k
   ·subst k2;rw [if_pos (zB3 i)] at r1 r2;rw [if_neg (by omega)];have:S=d*(a i j:Rat)-R i j:=by grind
    have:T=d*(a i i:Rat)-R i i:=by grind
    grind
   ·rw [if_pos (by omega)] at r1 r2 |-;have:S=d*(a i j:Rat)-R i j:=by grind
    have:T=d*(a i k:Rat)-R i k:=by grind
    unfold stepQ;rw [if_neg k2]
    grind
theorem BrQ.swap {n C k f:Nat} {a:Nat->Nat->Int} {R:Nat->Nat->Rat} {d:Rat} (h:BrQ n C k a R d) (hf:k<=f) (hn:f<n):BrQ n C k (fun i=>if i=k then a f else if i=f then a k else a i) (zD4 R k f) d:=by
 refine ⟨h.le,h.wide,h.ne,?_,fun i j hi hj hC => ?_⟩
 ·rw [<- h.det];refine zL0 _ fun r c hr hc => ?_;have e:(if r=k then a f else if r=f then a k else a r)=a r:=by rw [if_neg (show ¬ r=k by omega),if_neg (show ¬ r=f by omega)]
  show (((if r=k then a f else if r=f then a k else a r) c:Int):Rat)=(a r c:Rat)
  rw [e]
 ·have es:∀ i',zB9 k (fun c=>(a i' c:Rat)*zD4 R k f c j)=zB9 k (fun c=>(a i' c:Rat)*R c j):=fun i'=>zE4 fun c hc=>by
   unfold zD4;rw [if_neg (show ¬ c=k by omega),if_neg (show ¬ c=f by omega)]
  by_cases e1:i=k
  ·subst e1
   have:=h.rel f j hn hj hC
   rw [if_pos hf] at this;simp only [if_true,es];rw [if_pos (zB3 i),this];unfold zD4;rw [if_pos rfl]
  ·by_cases e2:i=f
   ·subst e2
    have:=h.rel k j (by omega) hj hC
    rw [if_pos (zB3 k)] at this;simp only [if_neg e1,if_true,es];rw [if_pos hf,this];unfold zD4;rw [if_neg e1,if_pos rfl]
   ·have:=h.rel i j hi hj hC
    simp only [if_neg e1,if_neg e2,es];rw [this];unfold zD4;rw [if_neg e1,if_neg e2]
theorem BrQ.none {n C k:Nat} {a:Nat->Nat->Int} {R:Nat->Nat->Rat} {d:Rat} (h:BrQ n C k a R d) (hk:k<n) (h0:∀ i,k<=i->i<n->R i k=0):zC8 n (qF a)=0:=by
  have hd:=Rat.mul_inv_cancel _ h.ne;have hw:=h.wide;have e:=qA2 n (qF a) k (fun l=>if l<k then R l k*d⁻¹ else 0) hk;simp only [if_neg (Nat.lt_irrefl k)] at e;rw [zL0 n (M':=qF a) (fun i j hi hj => ?_)] at e
  · rw [e];grind
  · unfold zG9;by_cases ej:j=k
    · subst ej;rw [if_pos rfl];have r1:=h.rel i j hi (zB3 j) (by omega)
      have e1:∀ m,j<=m->zB9 m (fun l=>qF a i l*(if l<j then R l j*d⁻¹ else 0))=zB9 j (fun l=>(a i l:Rat)*R l j)*d⁻¹:=by
        intro m hm
        induction m with
        | zero => obtain rfl : j = 0 := by omega
                  rw [<- qP3];rfl
        | succ m ih =>
          by_cases e2:j<=m
          · show zB9 m _+qF a i m*(if m<j then _ else 0)=_
            rw [ih e2,if_neg (by omega)];grind
          · obtain rfl:j=m+1:=by omega
            rw [<- qP3];exact zE4 fun l hl=>by rw [if_pos hl];rfl
      show zB9 n (fun l=>qF a i l*(if l<j then R l j*d⁻¹ else 0))=qF a i j
      rw [e1 n (by omega)]
      have e3:(if j<=i then R i j else 0)=0:=by
        split
        · exact h0 i (by assumption) hi
        · rfl
      rw [e3] at r1;show _=(a i j:Rat)
      have:zB9 j (fun l=>(a i l:Rat)*R l j)=d*(a i j:Rat):=by grind
      rw [this];grind
    · rw [if_neg ej]
def SlZ (k:IntKind) (B:Nat) (w:World) (v:Value) (zs:List Int):Prop:=∃ A c,v=.slice A zs.length c/\zs.length<=c/\c<=maxLen /\ ∀ (i:Nat) (z:Int),zs[i]?=some z -> ∃ g o u,A=some ⟨g,o,none⟩/\w.cell? ⟨g,o+i*2,none⟩=some (.bool (ngB z))/\w.cell? ⟨g,o+i*2+1,none⟩=some u/\IsS w k u (digs B z.natAbs)
theorem SlZ.bQ {k:IntKind} {B:Nat} {w w':World} {v:Value} {zs:List Int} (h:SlZ k B w v zs) (hb:Below w.heap.size w w'):SlZ k B w' v zs:=by
 obtain ⟨A,c,e,h1,h2,h3⟩:=h;refine ⟨A,c,e,h1,h2,fun i z hz => ?_⟩;obtain ⟨g,o,u,e2,c0,c1,s⟩:=h3 i z hz;exact ⟨g,o,u,e2,(hb.cell (bQ0 w _ c0)).trans c0,(hb.cell (bQ0 w _ c1)).trans c1,s.bQ hb⟩
theorem SlZ.shape {k:IntKind} {B:Nat} {w:World} {v:Value} {zs:List Int} (h:SlZ k B w v zs):∃ A c,v=.slice A zs.length c/\zs.length<=c/\c<=maxLen:=by
 obtain ⟨A,c,e,h1,h2,_⟩:=h;exact ⟨A,c,e,h1,h2⟩
theorem SlZ.at_ {k:IntKind} {B:Nat} {w:World} {A:Option Addr} {n c:Nat} {zs:List Int} {i:Nat} {z:Int} (h:SlZ k B w (.slice A n c) zs) (hz:zs[i]?=some z):∃ g o u,A=some ⟨g,o,none⟩/\i<n/\w.cell? ⟨g,o+i*2,none⟩=some (.bool (ngB z))/\w.cell? ⟨g,o+i*2+1,none⟩=some u/\IsS w k u (digs B z.natAbs):=by
 obtain ⟨A',c',e,h1,h2,h3⟩:=h;injection e with e1 e2 e3;subst e1;subst e2;subst e3;obtain ⟨g,o,u,e4,c0,c1,s⟩:=h3 i z hz;exact ⟨g,o,u,e4,(zA4.1 hz).1,c0,c1,s⟩
theorem SlZ.at2 {k:IntKind} {B:Nat} {w:World} {g o n c:Nat} {zs:List Int} {i:Nat} {z:Int} (h:SlZ k B w (.slice (some ⟨g,o,none⟩) n c) zs) (hz:zs[i]?=some z):∃ u,i<n/\w.cell? ⟨g,o+i*2,none⟩=some (.bool (ngB z))/\w.cell? ⟨g,o+i*2+1,none⟩=some u/\IsS w k u (digs B z.natAbs):=by
 obtain ⟨g',o',u,hA,h1,h2,h3,h4⟩:=h.at_ hz;injection hA with hA;injection hA with e1 e2;subst e1;subst e2;exact ⟨u,h1,h2,h3,h4⟩
theorem SlZ.place {k:IntKind} {B:Nat} {w:World} {A:Option Addr} {n c:Nat} {zs:List Int} (h:SlZ k B w (.slice A n c) zs) (hne:zs≠[]):∃ g o,A=some ⟨g,o,none⟩/\g<w.heap.size:=by
  cases zs with
  | nil=>exact absurd rfl hne
  | cons z zs =>
    obtain ⟨g,o,u,rfl,_,hc,_⟩:=h.at_ (i:=0) (z:=z) rfl;exact ⟨g,o,rfl,bQ0 w _ hc⟩
theorem qJ0 (k:IntKind) (B:Nat) (w:World) {A:Option Addr} {c:Nat} (hc:c<=maxLen):SlZ k B w (.slice A 0 c) []:=⟨A,c,rfl,Nat.zero_le _,hc,fun i z hz=>by simp at hz⟩
theorem SlZ.take {k:IntKind} {B:Nat} {w:World} {A:Option Addr} {n c:Nat} {zs:List Int} (h:SlZ k B w (.slice A n c) zs) {m:Nat} (hm:m<=zs.length):SlZ k B w (.slice A m c) (zs.take m):=by
 obtain ⟨A',c',e,h1,h2,h3⟩:=h;injection e with e1 e2 e3;subst e1;subst e2;subst e3;have hl:(zs.take m).length=m:=by rw [bQ7];omega
 refine ⟨A,c,by rw [hl],by omega,h2,fun i z hz=>h3 i z ?_⟩;rw [List.getElem?_take] at hz
 split at hz
 ·exact hz
 ·cases hz
theorem SlZ.drop {k:IntKind} {B:Nat} {w:World} {g o n c:Nat} {zs:List Int} (h:SlZ k B w (.slice (some ⟨g,o,none⟩) n c) zs) {m:Nat} (hm:m<=zs.length):SlZ k B w (.slice (some ⟨g,o+m*2,none⟩) (n-m) (c-m)) (zs.drop m):=by
 obtain ⟨A',c',e,h1,h2,h3⟩:=h;injection e with e1 e2 e3;subst e1;subst e2;subst e3;refine ⟨_,_,by rw [bX2],by rw [bX2];omega,by omega,fun i z hz => ?_⟩;rw [bW9] at hz;obtain ⟨g',o',u,e4,c0,c1,s⟩:=h3 (m+i) z hz;injection e4 with e4;injection e4 with e5 e6;subst e5;subst e6;refine ⟨g,o+m*2,u,rfl,?_,?_,s⟩
 ·rw [<- c0];congr 2;omega
 ·rw [<- c1];congr 2;omega
theorem zX2 {P:Program} {t e:TypeId} (hu:P.underlying t=some (.slice e)) (hs:(P.info? e).map (·.size)=some 2) {g o n c k:Nat} (hk:k<n) (w:World):(Instr.indexAt t (.slice (some ⟨g,o,none⟩) n c) (.int .i64 (k:Int))).run P w=.ok (.pointer (some ⟨g,o+k*2,none⟩)) w:=by
  cases hq:P.info? e with
  | none=>simp [hq] at hs
  | some inf =>
    have hsz:inf.size=2:=by simpa [hq] using hs
    simp [Instr.indexAt,asIntOf,go_sem,run_underlying hu,sizeOf,typeInfo,hq,hsz,hk]
def zK (w:World) (g n:Nat) (zs:List Int):Prop:=∃ ps:List (Int × Value),ps.length=n/\zs.length<=n/\Blk w g 42 (zF2 ps).toArray/\(∀ p∈ps,∃ A m c,p.2=.slice A m c) /\ ∀ (i:Nat) (z:Int),zs[i]?=some z -> ∃ p,ps[i]?=some p/\p.1=z/\IsS w .u64 p.2 (digs 4294967296 z.natAbs)
theorem zK.bQ {w w':World} {g n:Nat} {zs:List Int} (h:zK w g n zs) (hb:Below w.heap.size w w'):zK w' g n zs:=by
 obtain ⟨ps,h1,h2,h3,h4,h5⟩:=h;refine ⟨ps,h1,h2,h3.bQ hb,h4,fun i q hq => ?_⟩;obtain ⟨p,k1,k2,k3⟩:=h5 i q hq;exact ⟨p,k1,k2,k3.bQ hb⟩
theorem zK.lt {w:World} {g n:Nat} {zs:List Int} (h:zK w g n zs):g<w.heap.size:=by
 obtain ⟨ps,_,_,h3,_⟩:=h;exact h3.lt
theorem qP4 (ps:List (Int × Value)):(zF2 ps).length=ps.length*2:=by
 induction ps with
 | nil=>rfl
 | cons p ps ih=>show (Value.bool (ngB p.1) :: p.2 :: zF2 ps).length=_;rw [bX3,bX3,ih,bX3];omega
theorem zX3 (p:Int × Value) (ps:List (Int × Value)):zF2 (p :: ps)=.bool (ngB p.1) :: p.2 :: zF2 ps:=rfl
theorem yO:∀ (ps:List (Int × Value)) (i:Nat) (p:Int × Value),((zF2 ps).set (i*2) (.bool (ngB p.1))).set (i*2+1) p.2=zF2 (ps.set i p)
  | [],i,p=>by simp [zF2]
  | q :: ps, 0, p => by
    rw [zA2,zX3,zX3];simp
  | q :: ps, i + 1, p => by
    have ih:=yO ps i p;rw [zA1,zX3,zX3,<- ih,show (i+1)*2=i*2+1+1 from by omega];simp
theorem jO5 {k:IntKind} {ps:List (Int × Value)} (h4:∀ p∈ps,∃ A m c,p.2=.slice A m c):∀ c∈(zF2 ps).toArray,∀ n,c ≠ .int k n:=by
 intro c hc n;obtain ⟨p,hp,hc⟩:=List.mem_flatMap.1 (List.mem_toArray.1 hc);obtain ⟨A,m,d,e1⟩:=h4 p hp;simp only [e1,List.mem_cons,List.not_mem_nil,or_false] at hc;rcases hc with rfl|rfl<;>simp
theorem zK.keep {w w':World} {g n:Nat} {zs:List Int} {k:IntKind} {v:Value} {l:List Nat} (h:zK w g n zs) (hg:w.grownBy w' (some g)) (hs:IsS w k v l):IsS w' k v l:=by
 obtain ⟨ps,_,_,h3,h4,_⟩:=h;exact flow.off hs h3 (jO5 h4) hg
theorem zK.places {w:World} {g n i:Nat} {zs:List Int} (h:zK w g n zs) (hi:i<n):∃ x y,w.cell? ⟨g,0+i*2,none⟩=some x/\w.cell? ⟨g,0+i*2+1,none⟩=some y/\w.frozen? ⟨g,0+i*2,none⟩=false/\w.frozen? ⟨g,0+i*2+1,none⟩=false:=by
 obtain ⟨ps,h1,h2,h3,h4,h5⟩:=h;obtain ⟨f0,f1⟩:=qL9 ps i _ (zA3 (by omega));rw [bY5];exact ⟨_,_,by rw [h3.cell,bW8];exact f0,by rw [h3.cell,bW8];exact f1,h3.frozen _,h3.frozen _⟩
theorem zK.set2 {w:World} {g n:Nat} {zs:List Int} {z:Int} {u:Value} (h:zK w g n zs) (hi:zs.length<n) (hu:IsS w .u64 u (digs 4294967296 z.natAbs)) :
  w.grownBy ((w.setCell ⟨g,0+zs.length*2,none⟩ (.bool (ngB z))).setCell ⟨g,0+zs.length*2+1,none⟩ u) (some g)/\zK ((w.setCell ⟨g,0+zs.length*2,none⟩ (.bool (ngB z))).setCell ⟨g,0+zs.length*2+1,none⟩ u) g n (zs ++ [z]):=by
 have hg:w.grownBy ((w.setCell ⟨g,0+zs.length*2,none⟩ (.bool (ngB z))).setCell ⟨g,0+zs.length*2+1,none⟩ u) (some g):=(zF4 w g (0+zs.length*2) _).andThen (zF4 _ g (0+zs.length*2+1) _) (fun j e => .inr e);have keep:=fun {k v l} => h.keep (k:=k) (v:=v) (l:=l) hg;obtain ⟨ps,h1,h2,h3,h4,h5⟩:=h;refine ⟨hg,ps.set zs.length (z,u),by rw [zB2];exact h1,by simp;omega,?_,fun p hp => ?_,fun j x hx => ?_⟩
 ·have h6:=zT4 (zT4 h3 (i:=0+zs.length*2) (.bool (ngB z))) (i:=0+zs.length*2+1) u
  have e:(((zF2 ps).toArray).setIfInBounds (0+zs.length*2) (.bool (ngB z))).setIfInBounds (0+zs.length*2+1) u=(zF2 (ps.set zs.length (z,u))).toArray:=by
   rw [<- yO ps zs.length (z,u),bY5];simp
  rw [e] at h6;exact h6
 ·rcases bW3 hp with hp | rfl
  ·exact h4 p hp
  ·obtain ⟨A,c,e1,_⟩:=hu;exact ⟨_,_,_,e1⟩
 ·by_cases hj:j=zs.length
  ·subst hj;rw [List.getElem?_concat_length] at hx;injection hx with hx;subst hx;exact ⟨_,bQ3 (by omega),rfl,keep hu⟩
  ·have hl:=(zA4.1 hx).1;rw [zA8,List.length_singleton] at hl;rw [zB0 (by omega)] at hx;obtain ⟨p,k1,k2,k3⟩:=h5 j x hx;exact ⟨p,by rw [bW1 (fun e=>hj e.symm)];exact k1,k2,keep k3⟩
theorem zK.sl {w:World} {g n:Nat} {zs:List Int} (h:zK w g n zs) (hn:zs.length=n) (hm:n<=1000000000):SlZ .u64 4294967296 w (.slice (some ⟨g,0,none⟩) n n) zs:=by
 obtain ⟨ps,h1,h2,h3,h4,h5⟩:=h;refine ⟨some ⟨g,0,none⟩,n,by rw [hn],by omega,by unfold maxLen;omega,fun i z hz => ?_⟩;obtain ⟨p,k1,rfl,k3⟩:=h5 i z hz;obtain ⟨f0,f1⟩:=qL9 ps i p k1;refine ⟨g,0,p.2,rfl,?_,?_,k3⟩
 ·rw [bY5,h3.cell,bW8];exact f0
 ·rw [bY5,h3.cell,bW8];exact f1
theorem made2 (n:Nat):(madeCells #[.bool false,.slice none 0 0] (n*2)).toList=zF2 (zB n ((0,.slice none 0 0):Int × Value)):=by
  have key:∀ n j:Nat,(zF2 (zB n ((0,.slice none 0 0):Int × Value)))[j]?=if j<n*2 then some ((#[.bool false,.slice none 0 0]:Array Value)[j % 2]?.getD undef) else none:=by
    intro n
    induction n with
    | zero=>intro j;simp [zF2]
    | succ n ih =>
      intro j;rw [List.replicate_succ,zX3]
      match j with
      | 0=>simp [ngB]
      | 1=>simp;omega
      | j + 2 =>
        rw [List.getElem?_cons_succ,List.getElem?_cons_succ,ih j];have h1:(j+2) % 2=j % 2:=by omega
        rw [h1];by_cases h:j<n*2
        · rw [if_pos h,if_pos (by omega)]
        · rw [if_neg h,if_neg (by omega)]
  apply bX0;intro j;rw [key n j];have h3:j % 2<2:=Nat.mod_lt _ (by omega);by_cases h:j<n*2
  · rw [if_pos h];rcases (by omega:j % 2=0\/j % 2=1) with e | e<;>simp [madeCells,h,e]
  · rw [if_neg h];simp [madeCells,h]
theorem jO6 {w:World} {g n:Nat} (h:Blk w g 42 (zF2 (zB n ((0,.slice none 0 0):Int × Value))).toArray):zK w g n [] :=
 ⟨_,List.length_replicate,Nat.zero_le _,h,fun p hp=>by obtain rfl:=(List.mem_replicate.1 hp).2;exact ⟨_,_,_,rfl⟩,fun i q hq=>by simp at hq⟩
section
variable {P:Program}
theorem yO0 {w:World} {t:TypeId} (ht:P.underlying t=some (.slice 42)) (hI:∃ i,P.info? 42=some i/\i.zero=some (.agg #[.bool false,.slice none 0 0])/\i.size=2/\i.bytes=32) (n:Nat) (hn:n<=1000000000) :
  ∃ w',(Instr.makeSlice t (.int .i64 (n:Int)) (.int .i64 (n:Int))).run P w=.ok (.slice (some ⟨w.heap.size,0,none⟩) n n) w'/\zK w' w.heap.size n []/\Below w.heap.size w w':=by
 obtain ⟨i,hi,hz,hs,hb⟩:=hI;obtain ⟨w',h1,h2,h3⟩:=run_make_full (P:=P) w w.heap.size t 42 i _ 2 ht hi hz hs .i64 .i64 n (by rw [hb];omega) (by unfold maxLen;omega) (zB3 _);refine ⟨w',h1,jO6 ?_,(Below.refl _ w).grown h3 (zB3 _) (fun g hg=>by cases hg)⟩;obtain ⟨hl,h2⟩:=h2;rcases h2 with ⟨h4,_⟩|⟨g,cap,cur,h4,_,h5,_,_,h6,h7⟩
 ·cases h4
 ·injection h4 with h4 _ h8;injection h4 with h4;injection h4 with h4 _ _;subst h4;subst h8;rw [zA7 (by simp [h6])] at h7
  have e:cur=(zF2 (zB n ((0,.slice none 0 0):Int × Value))).toArray:=by
   rw [<- made2];rw [show (Value.agg #[.bool false,.slice none 0 0]).cells = #[.bool false,.slice none 0 0] from rfl] at h7;rw [<- h7]
  rw [<- e];exact h5
end
def SlW (k:IntKind) (B:Nat) (w:World) (v:Value) (t:List (List Int)):Prop:=∃ us:List Value,us.length=t.length/\(∃ A c,v=.slice A us.length c/\us.length<=c/\c<=maxLen /\ ∀ (i:Nat) (u:Value),us[i]?=some u -> ∃ ad,A=some ad/\w.cell? (ad.add i)=some u) /\ ∀ (i:Nat) (u:Value) (r:List Int),us[i]?=some u->t[i]?=some r->SlZ k B w u r
theorem SlW.bQ {k:IntKind} {B:Nat} {w w':World} {v:Value} {t:List (List Int)} (h:SlW k B w v t) (hb:Below w.heap.size w w'):SlW k B w' v t:=by
 obtain ⟨us,hl,⟨A,c,e,h1,h2,h3⟩,h4⟩:=h;refine ⟨us,hl,⟨A,c,e,h1,h2,fun i u hu => ?_⟩,fun i u r hu hr=>(h4 i u r hu hr).bQ hb⟩;obtain ⟨ad,ha,hc⟩:=h3 i u hu;exact ⟨ad,ha,(hb.cell (bQ0 w _ hc)).trans hc⟩
theorem SlW.shape {k:IntKind} {B:Nat} {w:World} {v:Value} {t:List (List Int)} (h:SlW k B w v t):∃ A c,v=.slice A t.length c/\t.length<=c/\c<=maxLen:=by
 obtain ⟨us,hl,⟨A,c,e,h1,h2,_⟩,_⟩:=h;rw [hl] at e h1;exact ⟨A,c,e,h1,h2⟩
theorem SlW.at_ {k:IntKind} {B:Nat} {w:World} {A:Option Addr} {n c i:Nat} {t:List (List Int)} {r:List Int} (h:SlW k B w (.slice A n c) t) (hr:t[i]?=some r):∃ ad Ar cr,A=some ad/\i<n/\w.cell? (ad.add i)=some (.slice Ar r.length cr)/\SlZ k B w (.slice Ar r.length cr) r:=by
 obtain ⟨us,hl,⟨A',c',e,h1,h2,h3⟩,h4⟩:=h;injection e with e1 e2 e3;subst e1;subst e2;subst e3;have hi:=(zA4.1 hr).1;obtain ⟨u,hu⟩:∃ u,us[i]?=some u:=⟨_,zA3 (by omega)⟩;obtain ⟨ad,ha,hc⟩:=h3 i u hu;have hs:=h4 i u r hu hr;obtain ⟨Ar,cr,rfl,_⟩:=hs.shape;exact ⟨ad,Ar,cr,ha,by omega,hc,hs⟩
theorem SlW.place {k:IntKind} {B:Nat} {w:World} {A:Option Addr} {n c:Nat} {t:List (List Int)} (h:SlW k B w (.slice A n c) t) (hne:t≠[]):∃ ad,A=some ad:=by
  cases t with
  | nil=>exact absurd rfl hne
  | cons r t =>
    obtain ⟨ad,_,_,e,_⟩:=h.at_ (i:=0) (r:=r) rfl;exact ⟨ad,e⟩
theorem SlW.at2 {k:IntKind} {B:Nat} {w:World} {ad:Addr} {n c i:Nat} {t:List (List Int)} {r:List Int} (h:SlW k B w (.slice (some ad) n c) t) (hr:t[i]?=some r):∃ Ar cr,i<n/\w.cell? (ad.add i)=some (.slice Ar r.length cr)/\SlZ k B w (.slice Ar r.length cr) r:=by
 obtain ⟨ad',Ar,cr,hA,h1,h2,h3⟩:=h.at_ hr;injection hA with hA;subst hA;exact ⟨Ar,cr,h1,h2,h3⟩
theorem zG0.keepZ {w w':World} {g:Nat} {TS:TypeId} {us:List Value} {k:IntKind} {B:Nat} {v:Value} {r:List Int} (h:zG0 w g TS us) (hg:w.grownBy w' (some g)) (hs:SlZ k B w v r):SlZ k B w' v r:=by
 obtain ⟨A,c,e,h2,h3,h4⟩:=hs;refine ⟨A,c,e,h2,h3,fun i z hz => ?_⟩;obtain ⟨g',o,u,e2,c0,c1,s⟩:=h4 i z hz
 have hne:some g'≠some g:=by
  intro e3;injection e3 with e3;subst e3;rw [h.1.cell,bW8] at c0;obtain ⟨A',m,d,e4⟩:=h.2 _ (zA5 c0);cases e4
 exact ⟨g',o,u,e2,hg.cell c0 hne,hg.cell c1 hne,h.keep hg s⟩
def zE (k:IntKind) (B:Nat) (w:World) (g:Nat) (TS:TypeId) (us:List Value) (t:List (List Int)):Prop:=zG0 w g TS us/\us.length=t.length /\ ∀ (i:Nat) (u:Value) (r:List Int),us[i]?=some u->t[i]?=some r->SlZ k B w u r
theorem zE.bQ {k:IntKind} {B:Nat} {w w':World} {g:Nat} {TS:TypeId} {us:List Value} {t:List (List Int)} (h:zE k B w g TS us t) (hb:Below w.heap.size w w'):zE k B w' g TS us t:=⟨h.1.bQ hb,h.2.1,fun i u r hu hr=>(h.2.2 i u r hu hr).bQ hb⟩
theorem zE.drew {k:IntKind} {B:Nat} {w:World} {g:Nat} {TS:TypeId} {us:List Value} {t:List (List Int)} (h:zE k B w g TS us t):zE k B w.drew g TS us t:=h.bQ (Below.refl _ w).drew
theorem zE.lt {k:IntKind} {B:Nat} {w:World} {g:Nat} {TS:TypeId} {us:List Value} {t:List (List Int)} (h:zE k B w g TS us t):g<w.heap.size:=h.1.lt
theorem zE.put {k:IntKind} {B:Nat} {w w':World} {g i:Nat} {TS:TypeId} {us:List Value} {t:List (List Int)} {u:Value} {r:List Int} (h:zE k B w g TS us t) (hg:w.grownBy w' (some g)) (hB:w'.heap[g]?=some (.cells (us.toArray.setIfInBounds i u) TS (0,0))) (hu:SlZ k B w u r):zE k B w' g TS (us.set i u) (t.set i r):=by
 obtain ⟨A,c,eu,_⟩:=hu.shape;refine ⟨h.1.put hB ⟨_,_,_,eu⟩,by rw [zB2,zB2];exact h.2.1,fun j x y hx hy => ?_⟩;by_cases hj:i=j
 ·subst hj;have hi:i<us.length:=by have:=(zA4.1 hx).1;rwa [zB2] at this
  rw [bQ3 hi] at hx;rw [bQ3 (by rw [<- h.2.1];exact hi)] at hy;injection hx with hx;injection hy with hy;subst hx;subst hy;exact h.1.keepZ hg hu
 ·rw [bW1 hj] at hx hy;exact h.1.keepZ hg (h.2.2 j x y hx hy)
theorem zE.stored {k:IntKind} {B:Nat} {w:World} {g:Nat} {TS:TypeId} {us:List Value} {t:List (List Int)} (h:zE k B w g TS us t) (i:Nat) {u:Value} {r:List Int} (hu:SlZ k B w u r):zE k B (w.setCell ⟨g,i,none⟩ u) g TS (us.set i u) (t.set i r):=h.put (zF4 w g i u) (heap_setCell h.1.1) hu
theorem zE.at_ {k:IntKind} {B:Nat} {w:World} {g:Nat} {TS:TypeId} {us:List Value} {T:List (List Int)} (h:zE k B w g TS us T) {i:Nat} {r:List Int} (hr:T[i]?=some r):∃ Ar cr,us[i]?=some (.slice Ar r.length cr)/\w.cell? ⟨g,i,none⟩=some (.slice Ar r.length cr)/\SlZ k B w (.slice Ar r.length cr) r:=by
 have hi:=(zA4.1 hr).1;obtain ⟨u,hu⟩:∃ u,us[i]?=some u:=⟨_,zA3 (by rw [h.2.1];exact hi)⟩;have hs:=h.2.2 i u r hu hr;obtain ⟨Ar,cr,rfl,_⟩:=hs.shape;have hc:=h.1.cell hu;rw [zS] at hc;exact ⟨Ar,cr,hu,hc,hs⟩
theorem zE.sub {k:IntKind} {B:Nat} {w:World} {g:Nat} {TS:TypeId} {us:List Value} {T:List (List Int)} (h:zE k B w g TS us T) {o m c:Nat} (hm:o+m<=T.length) (hc:m<=c) (hx:c<=maxLen):SlW k B w (.slice (some ⟨g,o,none⟩) m c) ((T.drop o).take m):=by
 have hl:((us.drop o).take m).length=m:=by rw [bQ7,bX2,h.2.1];omega
 have hl2:((T.drop o).take m).length=m:=by rw [bQ7,bX2];omega
 refine ⟨(us.drop o).take m,by rw [hl,hl2],⟨some ⟨g,o,none⟩,c,by rw [hl],by omega,hx,fun i u hu=>⟨_,rfl,?_⟩⟩,fun i u r hu hr => ?_⟩
 ·have hi:=(zA4.1 hu).1;rw [List.getElem?_take_of_lt (by omega),bW9] at hu;have hc:=h.1.cell hu;rw [zS] at hc;rw [qW8];exact hc
 ·have hi:=(zA4.1 hu).1;rw [List.getElem?_take_of_lt (by omega),bW9] at hu hr;exact h.2.2 _ u r hu hr
def zC5 (T:List (List Int)) (i j:Nat):Int:=(T.getD i []).getD j 0
theorem yO1 {T:List (List Int)} {i j:Nat} {r:List Int} {z:Int} (hr:T[i]?=some r) (hz:r[j]?=some z):zC5 T i j=z:=by
 unfold zC5;rw [zA6,zA6,hr];show (r[j]?).getD 0=z
 rw [hz];rfl
def zG4 (T:List (List Int)):Nat:=(T.getD 0 []).length
def qD4 (T:List (List Int)):Prop:=T.length<=100 /\ ∀ r∈T,r.length=zG4 T/\r.length<=100
theorem yO2 {P:Program} {t e:TypeId} (hu:P.underlying t=some (.slice e)) (hs:(P.info? e).map (·.size)=some 2) {g o n c:Nat} (hk:0<n) (w:World):(Instr.indexAt t (.slice (some ⟨g,o,none⟩) n c) (.int .i64 0)).run P w=.ok (.pointer (some ⟨g,o,none⟩)) w:=by
 have h:=zX2 hu hs (g:=g) (o:=o) (c:=c) hk w;rw [show o+0*2=o by omega] at h;exact h
theorem qX6 (z:Int):(zJ4 z 0=0) ↔ z=0:=by
 unfold zJ4
 split
 ·constructor<;>intro h<;>omega
 ·split<;>constructor<;>intro h<;>omega
def jO7 (L:List (List Int)) (w:World) (e:Ending) (w':World):Prop:=∃ k:Nat,e=.returned (.int .i64 (k:Int))/\k<=L.length/\(∀ i,i<k->zC5 L i 0=0)/\(k<L.length->zC5 L k 0≠0)/\Below w.heap.size w w'
theorem jO8 (a0:Value) (L:List (List Int)) (w:World) (h0:SlW .u64 4294967296 w a0 L) (hl:∀ r∈L,0<r.length):Calls prog 77 #[a0] w (jO7 L w):=by
 have st0:=h0;obtain ⟨A0,c0,rfl,hc0,hm0⟩:=h0.shape;unfold maxLen at hm0;have HL:=hQ9 hl;clear hl
 go_enter func77,ntmps77
 go_wp2
 go_loopw [6] (fun v6 wr => ∃ k:Nat,k<=L.length/\Hid (∀ i,i<k->zC5 L i 0=0)/\Below w.heap.size w wr/\v6=.int .i64 (k:Int)) (fun v6 _=>L.length-(intOf v6).toNat)
 case atStart=>exact ⟨0,by omega,(by show ∀ i,_;intro i hi;omega),Below.refl _ _,rfl⟩
 case round =>
  obtain ⟨k,hk,HZ,bb,rfl⟩:=hrel;by_cases hlt:k<L.length
  ·obtain ⟨r,hr⟩:∃ r,L[k]?=some r:=⟨_,zA3 hlt⟩;have hal:=HL.out r (zA5 hr);obtain ⟨q,hq⟩:∃ q,r[0]?=some q:=⟨_,zA3 hal⟩;have he:Hid (zC5 L k 0=q):=yO1 hr hq;obtain ⟨ad,rfl⟩:=st0.place (List.length_pos_iff.1 (by omega));obtain ⟨Ar,cr,hik,ecr,sr⟩:=(st0.bQ bb).at2 hr;obtain ⟨gr,or,u,rfl,hia,k0,k1,su⟩:=sr.at_ hq;rw [show or+0*2=or by omega] at k0 k1;obtain ⟨Au,cu,rfl,_⟩:=id su;have hix:=fun w=>yO2 (P:=prog) underlying83 (by kernel_rfl) (g:=gr) (o:=or) (c:=cr) hia w;have kq:IsZ wr (.agg #[.bool (ngB q),.slice Au (digs 4294967296 q.natAbs).length cu]) q:=⟨_,rfl,su⟩;obtain ⟨t,ht⟩:∃ t,t=zJ4 q 0:=⟨_,rfl⟩;have hz:t=0 ↔ q=0:=by rw [ht];exact qX6 q
   have HT:=hQ9 ht;clear hr hq ht sr;go_wp2_with fail
   refine (qC2 _ q t _ kq HT.out).mono ?_;rintro e w4 ⟨rfl,b4⟩;have bb4:=bb.trans (b4.mono bb.size);by_cases hq0:q=0
   ·obtain rfl:t=0:=hz.2 hq0
    have HZ2:Hid (∀ i,i<k+1->zC5 L i 0=0):=by
     show ∀ i,_
     intro i hi;by_cases e:i=k
     ·subst e;rw [he.out];exact hq0
     ·exact HZ.out i (by omega)
    clear hz hq0 kq k0 k1;go_wp2;go_roundw;case rel=>exact ⟨k+1,by omega,HZ2,bb4,by go_num⟩
    case measure=>simp [intOf];omega
   ·have hz1:(t != 0)=true:=by rw [bne_iff_ne];exact fun e=>hq0 (hz.1 e)
    have hz2:¬ t=0:=fun e=>hq0 (hz.1 e);have HN:Hid (zC5 L k 0≠0):=by show _≠_;rw [he.out];exact hq0
    clear hz hq0 kq k0 k1;go_wp2;go_ret;exact ⟨k,rfl,by omega,HZ.out,fun _=>HN.out,bb4⟩
  ·obtain rfl:k=L.length:=by omega
   go_wp2;go_ret;exact ⟨_,rfl,zB3 _,HZ.out,fun h=>by omega,bb⟩
theorem jO9 {T:List (List Int)} {k:Nat} {r:List Int} (h:∀ x∈T.take k,x.length=zG4 T/\x.length<=100) (hr:T[k]?=some r) (h1:r.length=zG4 T) (h2:r.length<=100):∀ x∈T.take (k+1),x.length=zG4 T/\x.length<=100:=by
 intro x hx;rw [bQ9,hr] at hx;rcases List.mem_append.1 hx with hx | hx
 ·exact h x hx
 ·obtain rfl:x=r:=by simpa using hx
  exact ⟨h1,h2⟩
theorem yO3 (a0:Value) (T:List (List Int)) (w:World) (h0:SlW .u64 4294967296 w a0 T):Calls prog 43 #[a0] w (fun e w'=>(qD4 T/\zE1 (.bool true) w e w')\/(¬ qD4 T/\zE1 (.bool false) w e w')):=by
 have st0:=h0;obtain ⟨A0,c0,rfl,hc0,hm0⟩:=h0.shape;unfold maxLen at hm0
 go_enter func43,ntmps43
 by_cases h1:100<T.length
 ·have h1':(100:Int)<((T.length:Nat):Int):=by omega
  go_wp2;go_ret;exact .inr ⟨fun h=>by have:=h.1;omega,rfl,Below.refl _ _⟩
 ·have h1':¬ (100:Int)<((T.length:Nat):Int):=by omega
  go_wp2
  go_loopw [9] (fun v9 wr => ∃ k:Nat,k<=T.length/\Hid (∀ x∈T.take k,x.length=zG4 T/\x.length<=100)/\Below w.heap.size w wr/\v9=.int .i64 (k:Int)) (fun v9 _=>T.length-(intOf v9).toNat)
  case atStart=>exact ⟨0,by omega,(by show ∀ x∈_,_;intro x hx;simp at hx),Below.refl _ _,rfl⟩
  case round =>
   obtain ⟨k,hk,HE,bb,rfl⟩:=hrel;by_cases hlt:k<T.length
   ·obtain ⟨r,hr⟩:∃ r,T[k]?=some r:=⟨_,zA3 hlt⟩;obtain ⟨r0,hr0⟩:∃ r0,T[0]?=some r0:=⟨_,zA3 (by omega)⟩;have HW:Hid (zG4 T=r0.length):=by show _=_;unfold zG4;rw [zA6,hr0];rfl
    have HR:=hQ9 hr;obtain ⟨ad,rfl⟩:=st0.place (List.length_pos_iff.1 (by omega));obtain ⟨Ar,cr,hik,ecr,-⟩:=(st0.bQ bb).at2 hr;obtain ⟨A1,c1,hi0,ec0,-⟩:=(st0.bQ bb).at2 hr0;have ec0':wr.cell? ad=some (.slice A1 r0.length c1):=by rw [<- ec0];congr 1
    clear hr hr0 ec0;by_cases e1:r.length=r0.length
    ·by_cases e2:100<r.length
     ·have g1:(((r.length:Nat):Int) != ((r0.length:Nat):Int))=false:=by rw [bne_eq_false_iff_eq];omega
      have g2:(100:Int)<((r.length:Nat):Int):=by omega
      have HN:Hid (¬ qD4 T):=fun h=>by have:=(h.2 r (zA5 HR.out)).2;omega
      go_upto_region 6 with (fail)
      go_quiet (fail)
      go_wp2;go_ret;exact .inr ⟨HN.out,rfl,zP0 bb _⟩
     ·have g1:(((r.length:Nat):Int) != ((r0.length:Nat):Int))=false:=by rw [bne_eq_false_iff_eq];omega
      have g2:¬ (100:Int)<((r.length:Nat):Int):=by omega
      have HE2:Hid (∀ x∈T.take (k+1),x.length=zG4 T/\x.length<=100):=jO9 HE.out HR.out (by rw [HW.out];exact e1) (by omega);go_upto_region 6 with (fail)
      go_quiet (fail)
      go_wp2;go_roundw;case rel=>exact ⟨k+1,by omega,HE2,zP0 bb _,by go_num⟩
      case measure=>simp [intOf];omega
    ·have g1:(((r.length:Nat):Int) != ((r0.length:Nat):Int))=true:=by rw [bne_iff_ne];omega
     have HN:Hid (¬ qD4 T):=fun h=>by have:=(h.2 r (zA5 HR.out)).1;have:=HW.out;omega
     go_upto_region 6 with (fail)
     go_quiet (fail)
     go_wp2;go_ret;exact .inr ⟨HN.out,rfl,zP0 bb _⟩
   ·obtain rfl:k=T.length:=by omega
    go_wp2;go_ret;exact .inl ⟨⟨by omega,by have:=HE.out;rwa [bX1] at this⟩,rfl,bb⟩
def zX4 (T:List (List Int)):Prop:=T.length<=100 /\ ∀ r∈T,r.length=T.length
theorem qP5 (T:List (List Int)):zX4 T ↔ qD4 T/\(T.length=0\/zG4 T=T.length):=by
 constructor
 ·intro h;by_cases h0:T.length=0
  ·obtain rfl:=List.length_eq_zero_iff.1 h0;exact ⟨⟨by simp,fun r hr=>by cases hr⟩,.inl rfl⟩
  ·have hw:zG4 T=T.length:=by
    unfold zG4;have e:T[0]?=some (T[0]'(by omega)):=zA3 (by omega);rw [zA6,e];exact h.2 _ (zA5 e)
   exact ⟨⟨h.1,fun r hr=>⟨by rw [hw];exact h.2 r hr,by rw [h.2 r hr];exact h.1⟩⟩,.inr hw⟩
 ·rintro ⟨h1,h2⟩;refine ⟨h1.1,fun r hr => ?_⟩;rcases h2 with h2 | h2
  ·obtain rfl:=List.length_eq_zero_iff.1 h2;cases hr
  ·rw [(h1.2 r hr).1,h2]
theorem jP (a0:Value) (T:List (List Int)) (w:World) (h0:SlW .u64 4294967296 w a0 T):Calls prog 42 #[a0] w (fun e w'=>(zX4 T/\zE1 (.bool true) w e w')\/(¬ zX4 T/\zE1 (.bool false) w e w')):=by
 have st0:=h0;obtain ⟨A0,c0,rfl,hc0,hm0⟩:=h0.shape;unfold maxLen at hm0
 go_enter func42,ntmps42;go_wp2_with fail
 refine (yO3 _ T _ st0).mono ?_;rintro e w2 (⟨hE,rfl,b2⟩|⟨hE,rfl,b2⟩)
 ·have HE:=hQ9 hE;clear hE;by_cases hn:T.length=0
  ·have hn':(((T.length:Nat):Int) == 0)=true:=by rw [beq_iff_eq];omega
   have hn2:((T.length:Nat):Int)=0:=by omega
   have HS:Hid (zX4 T):=(qP5 T).2 ⟨HE.out,.inl hn⟩;go_wp2;go_ret;exact .inl ⟨HS.out,rfl,b2⟩
  ·obtain ⟨r0,hr0⟩:∃ r0,T[0]?=some r0:=⟨_,zA3 (by omega)⟩;have hn':(((T.length:Nat):Int) == 0)=false:=by rw [beq_eq_false_iff_ne];omega
   have hn2:¬ ((T.length:Nat):Int)=0:=by omega
   have HW:Hid (zG4 T=r0.length):=by show _=_;unfold zG4;rw [zA6,hr0];rfl
   obtain ⟨ad,rfl⟩:=st0.place (List.length_pos_iff.1 (by omega));obtain ⟨A1,c1,hi0,ec0,-⟩:=(st0.bQ b2).at2 hr0;have ec0':w2.cell? ad=some (.slice A1 r0.length c1):=by rw [<- ec0];congr 1
   clear hr0 ec0;by_cases hs:r0.length=T.length
   ·have g1:(((r0.length:Nat):Int) == ((T.length:Nat):Int))=true:=by rw [beq_iff_eq];omega
    have HS:Hid (zX4 T):=(qP5 T).2 ⟨HE.out,.inr (by rw [HW.out];exact hs)⟩;go_wp2;go_ret;exact .inl ⟨HS.out,by simp [g1],b2⟩
   ·have g1:(((r0.length:Nat):Int) == ((T.length:Nat):Int))=false:=by rw [beq_eq_false_iff_ne];omega
    have HS:Hid (¬ zX4 T):=fun h=>by
     rcases ((qP5 T).1 h).2 with h | h
     ·exact hn h
     ·exact hs (by rw [<- HW.out];exact h)
    go_wp2;go_ret;exact .inr ⟨HS.out,by simp [g1],b2⟩
 ·have HS:Hid (¬ zX4 T):=fun h=>hE ((qP5 T).1 h).1;clear hE;go_wp2;go_ret;exact .inr ⟨HS.out,rfl,b2⟩
theorem qP6 {P:Program} {t:TypeId} {g o:Nat} {x y:Value} {d:TypeDesc} {w:World} (hu:P.underlying t=some d) (hd:d.isRow=true) (hi:(P.info? t).map (·.size)=some 2) (h0:w.cell? ⟨g,o,none⟩=some x) (h1:w.cell? ⟨g,o+1,none⟩=some y):(Instr.loadAt t (.pointer (some ⟨g,o,none⟩))).run P w=.ok (.agg #[x,y]) w :=
 run_loadAt_mid w g o t [x,y] d (fun j v hj=>by
  match j,hj with
  | 0,hj=>simp at hj;subst hj;exact h0
  | 1,hj=>simp at hj;subst hj;exact h1
  | j+2,hj=>simp at hj) hu hd hi
theorem yO4 {P:Program} {t e:TypeId} (hu:P.underlying t=some (.slice e)) (hs:(P.info? e).map (·.size)=some 2) {g n c k:Nat} (hk:k<n) (w:World):(Instr.indexAt t (.slice (some ⟨g,0,none⟩) n c) (.int .i64 (k:Int))).run P w=.ok (.pointer (some ⟨g,k*2,none⟩)) w:=by
 have h:=zX2 (P:=P) hu hs (g:=g) (o:=0) (c:=c) hk w;rw [bY5] at h;exact h
theorem no_ints2 {k:IntKind} {b:Bool} {A:Option Addr} {n c:Nat}:∀ x∈(#[.bool b,.slice A n c]:Array Value),∀ m,x ≠ .int k m:=by
 intro x hx m;have:x=.bool b\/x=.slice A n c:=by simpa using hx
 rcases this with rfl|rfl<;>simp
def RetRI (zs:List Int) (w:World) (e:Ending) (w':World):Prop:=∃ g,e=.returned (.slice (some ⟨g,0,none⟩) zs.length zs.length)/\zK w' g zs.length zs/\w.heap.size<=g/\Below w.heap.size w w'
def Crs (p q zs:List Int) (D:Int):Prop:=∀ j x,zs[j]?=some x->p.getD (j+1) 0*q.getD 0 0-p.getD 0 0*q.getD (j+1) 0=x*D
theorem qP7 {p:List Int} {j:Nat} {x:Int} (h:p[j]?=some x):p.getD j 0=x:=by rw [zA6,h];rfl
theorem jP0 (a0 a1 a2:Value) (p q zs:List Int) (D:Int) (m:Nat) (w:World) (h0:SlZ .u64 4294967296 w a0 p) (h1:SlZ .u64 4294967296 w a1 q) (h2:IsZ w a2 D) (hl:p.length=m+1/\q.length=m+1/\zs.length=m/\m<=1000) (hc:Hid (D≠0/\(∀ z∈p,zC2 z<=5000)/\(∀ z∈q,zC2 z<=5000)/\zC2 D<=5000/\Crs p q zs D)) :
  Calls prog 78 #[a0,a1,a2] w (RetRI zs w):=by
 obtain ⟨hp,hq,hz,hm⟩:=hl;have sp:=h0;have sq:=h1;obtain ⟨A0,c0,rfl,hc0,hm0⟩:=h0.shape;obtain ⟨A1,c1,rfl,hc1,hm1⟩:=h1.shape;obtain ⟨u2,rfl,s2⟩:=h2;obtain ⟨A2,c2,rfl,_⟩:=id s2;rw [hp] at sp hc0 |-;rw [hq] at sq hc1 |-;have HZ:=hQ9 hz;have HP:=hQ9 (zA hp hq);clear h0 h1 hp hq hz hm0 hm1;obtain ⟨mk,hmk⟩:=Classical.axiomOfChoice (fun w=>yO0 (P:=prog) (w:=w) underlying83 whl.info_int m (by omega));have hmk1:=fun w=>(hmk w).1;have HMK:=hQ9 (fun w=>(hmk w).2);clear hmk;have ba:=zC9 (w:=w) (zB3 _) (.cells #[.bool (ngB D),.slice A2 (digs 4294967296 D.natAbs).length c2] 42);have B2:=Blk.new w 42 #[.bool (ngB D),.slice A2 (digs 4294967296 D.natAbs).length c2];have t2:=s2.bQ ba
 go_enter func78,ntmps78
 go_upto_region 1 with (fail)
 obtain ⟨wx,hwx⟩:∃ wx,wx=w.alloc (.cells #[.bool (ngB D),.slice A2 (digs 4294967296 D.natAbs).length c2] 42):=⟨_,rfl⟩;rw [<- hwx] at ba B2 t2 |-;clear hwx;have hB2:=B2.lt;obtain ⟨rm,bm⟩:=HMK.out wx;have hgr:wx.heap.size<(mk wx).heap.size:=rm.lt;have bb0:=bm;have hgw:w.heap.size<=wx.heap.size:=ba.size;have HBA:=hQ9 ba;clear ba bm;go_wp2
 go_loopw [16] (fun v16 wr => ∃ k:Nat,k<=m/\zK wr wx.heap.size m (zs.take k)/\Hid (Below wx.heap.size wx wr)/\v16=.int .i64 (k:Int)) (fun v16 _=>m-(intOf v16).toNat)
 case atStart=>exact ⟨0,by omega,rm,bb0,rfl⟩
 case round =>
  clear rm bb0;obtain ⟨k,hk,rk,HB,rfl⟩:=hrel;obtain ⟨wi,hwi⟩:∃ wi,wi=wr:=⟨_,rfl⟩;subst hwi;by_cases hlt:k<m
  ·have hzl:=HZ.out;obtain ⟨z,hz⟩:∃ z,zs[k]?=some z:=⟨_,zA3 (by omega)⟩;obtain ⟨x0,hx0⟩:∃ x,p[0]?=some x:=⟨_,zA3 (by have:=HP.out;omega)⟩;obtain ⟨x1,hx1⟩:∃ x,p[k+1]?=some x:=⟨_,zA3 (by have:=HP.out;omega)⟩;obtain ⟨y0,hy0⟩:∃ x,q[0]?=some x:=⟨_,zA3 (by have:=HP.out;omega)⟩;obtain ⟨y1,hy1⟩:∃ x,q[k+1]?=some x:=⟨_,zA3 (by have:=HP.out;omega)⟩
   have HX:Hid (x1*y0-x0*y1=z*D):=by
    have h:=hc.out.2.2.2.2 k z hz;rw [qP7 hx0,qP7 hx1,qP7 hy0,qP7 hy1] at h;exact h
   have HT:Hid (zs.take (k+1)=zs.take k ++ [z]):=by show _=_;rw [bQ9,hz];rfl
   have HTL:Hid ((zs.take k).length=k):=by show _=_;rw [bQ7];omega
   have l0:=hc.out.2.1 x0 (zA5 hx0);have l1:=hc.out.2.1 x1 (zA5 hx1);have l2:=hc.out.2.2.1 y0 (zA5 hy0);have l3:=hc.out.2.2.1 y1 (zA5 hy1);have hBw:Below w.heap.size w wi:=HBA.out.trans (HB.out.mono HBA.out.size);obtain ⟨g0,o0,rfl,-⟩:=sp.place (fun e=>by rw [e] at hx0;simp at hx0);obtain ⟨g1,o1,rfl,-⟩:=sq.place (fun e=>by rw [e] at hy0;simp at hy0);obtain ⟨v0,i0,p00,p01,e0⟩:=(sp.bQ hBw).at2 hx0;obtain ⟨v1,i1,p10,p11,e1⟩:=(sp.bQ hBw).at2 hx1;obtain ⟨v2,i2,p20,p21,e2⟩:=(sq.bQ hBw).at2 hy0;obtain ⟨v3,i3,p30,p31,e3⟩:=(sq.bQ hBw).at2 hy1;rw [show o0+0*2=o0 by omega] at p00 p01;rw [show o1+0*2=o1 by omega] at p20 p21;obtain ⟨Av0,cv0,rfl,_⟩:=id e0;obtain ⟨Av1,cv1,rfl,_⟩:=id e1;obtain ⟨Av2,cv2,rfl,_⟩:=id e2;obtain ⟨Av3,cv3,rfl,_⟩:=id e3;have CX:∀ w a b,IsZ w a x1->IsZ w b y0->Calls prog 82 #[a,b] w (zE9 (x1*y0) w):=fun w a b h1 h2=>zZ4 a b x1 y0 _ w h1 h2 (by omega) (by omega) rfl;have CY:∀ w a b,IsZ w a x0->IsZ w b y1->Calls prog 82 #[a,b] w (zE9 (x0*y1) w):=fun w a b h1 h2=>zZ4 a b x0 y1 _ w h1 h2 (by omega) (by omega) rfl;have m1:=zQ8 l1 l2;have m2:=zQ8 l0 l3;have CS:∀ w a b,IsZ w a (x1*y0)->IsZ w b (x0*y1)->Calls prog 111 #[a,b] w (zE9 (x1*y0-x0*y1) w):=fun w a b h1 h2=>jA9 a _ b _ w h1 h2 (by omega) (by omega);have m3:=qW m1 m2;have CE:∀ w a b,IsZ w a (x1*y0-x0*y1)->IsZ w b D->Calls prog 101 #[a,b] w (qG1 z 0 w):=fun w a b h1 h2=>yG6 a _ b _ z w h1 h2 (by omega) (by have:=hc.out.2.2.2.1;omega) hc.out.1 HX.out;obtain ⟨X,hX⟩:∃ X,X=x1*y0:=⟨_,rfl⟩;obtain ⟨Y,hY⟩:∃ Y,Y=x0*y1:=⟨_,rfl⟩;rw [<- hX] at CX CS CE;rw [<- hY] at CY CS CE;obtain ⟨Z,hZ⟩:∃ Z,Z=X-Y:=⟨_,rfl⟩;rw [<- hZ] at CS CE;have kx0:IsZ wi (.agg #[.bool (ngB x0),.slice Av0 (digs 4294967296 x0.natAbs).length cv0]) x0:=⟨_,rfl,e0⟩;have kx1:IsZ wi (.agg #[.bool (ngB x1),.slice Av1 (digs 4294967296 x1.natAbs).length cv1]) x1:=⟨_,rfl,e1⟩;have ky0:IsZ wi (.agg #[.bool (ngB y0),.slice Av2 (digs 4294967296 y0.natAbs).length cv2]) y0:=⟨_,rfl,e2⟩;have ky1:IsZ wi (.agg #[.bool (ngB y1),.slice Av3 (digs 4294967296 y1.natAbs).length cv3]) y1:=⟨_,rfl,e3⟩;have hk1:k+1<m+1:=by omega
   have hm0:0<m+1:=by omega
   have hkn:k+1<=9223372036854775807:=by omega
   clear hz hx0 hx1 hy0 hy1 hX hY hZ l0 l1 l2 l3 m1 m2 m3 e0 e1 e2 e3 hzl hBw;go_upto_region 5 with (fail)
   go_cut [9] from 19 to 37 (fun s9 wx' => ∃ (g9:Nat) (u9:Value),s9=.pointer (some ⟨g9,0,none⟩)/\wi.heap.size<=g9/\Blk wx' g9 42 #[.bool (ngB Z),u9]/\IsS wx' .u64 u9 (digs 4294967296 Z.natAbs)/\Hid (Below wi.heap.size wi wx'))
   case first =>
    refine flow 20 [Pd.eq (.slice (some ⟨g0,o0,none⟩) (m+1) c0),Pd.eq (.int .i64 (k:Int)),Pd.eq (.int .i64 ((k+1:Nat):Int)),Pd.eq (.pointer (some ⟨g0,o0+(k+1)*2,none⟩)),Pd.eq (.agg #[.bool (ngB x1),.slice Av1 (digs 4294967296 x1.natAbs).length cv1]),Pd.eq (.slice (some ⟨g1,o1,none⟩) (m+1) c1),Pd.eq (.pointer (some ⟨g1,o1+0*2,none⟩)),Pd.eq (.agg #[.bool (ngB y0),.slice Av2 (digs 4294967296 y0.natAbs).length cv2]),pz X wi.heap.size,Pd.eq (.slice (some ⟨g0,o0,none⟩) (m+1) c0),Pd.eq (.pointer (some ⟨g0,o0+0*2,none⟩)),Pd.eq (.agg #[.bool (ngB x0),.slice Av0 (digs 4294967296 x0.natAbs).length cv0]),Pd.eq (.slice (some ⟨g1,o1,none⟩) (m+1) c1),Pd.eq (.int .i64 (k:Int)),Pd.eq (.int .i64 ((k+1:Nat):Int)),Pd.eq (.pointer (some ⟨g1,o1+(k+1)*2,none⟩)),Pd.eq (.agg #[.bool (ngB y1),.slice Av3 (digs 4294967296 y1.natAbs).length cv3]),pz Y wi.heap.size,pz Z wi.heap.size,pn 42 #[.bool false,.slice none 0 0] wi.heap.size] (by kernel_rfl) (by kernel_rfl) ?ob1 ?done1
    case ob1 =>
     refine zA (zC0 rfl (zB5 rfl) (zB7 rfl rfl) (fun _ _ h=>h)) ?_;refine zA (zC0 rfl (zB5 rfl) (zB7 rfl rfl) (fun _ _ h=>h)) ?_;refine zA (zG3 rfl (zB5 rfl) (zB6 (j:=1) (by kernel_rfl) rfl rfl) (zG2 _) (fun _ _ _ hx hy=>⟨_,by rw [hx,hy];exact yJ1 _ _ k 1 hkn _,rfl⟩)) ?_;refine zA (zH8 rfl (zB5 rfl) (zB6 (j:=0) (by kernel_rfl) rfl rfl) (zB6 (j:=2) (by kernel_rfl) rfl rfl) (fun _ _ _ hx hy=>⟨_,by rw [hx,hy];exact zX2 underlying83 (by kernel_rfl) hk1 _,rfl⟩)) ?_;refine zA (zC1 rfl (zB5 rfl) (zB6 (j:=3) (by kernel_rfl) rfl rfl) (fun w2 hb=>qP6 underlying42 rfl (by kernel_rfl) ((hb.cell (bQ0 wi _ p10)).trans p10) ((hb.cell (bQ0 wi _ p11)).trans p11)) (fun _ _=>rfl)) ?_;refine zA (zC0 rfl (zB5 rfl) (zB7 rfl rfl) (fun _ _ h=>h)) ?_;refine zA (zH8 rfl (zB5 rfl) (zB6 (j:=5) (by kernel_rfl) rfl rfl) (zG2 _) (fun _ _ _ hx hy=>⟨_,by rw [hx,hy];exact zX2 (k:=0) underlying83 (by kernel_rfl) hm0 _,rfl⟩)) ?_;refine zA (zC1 rfl (zB5 rfl) (zB6 (j:=6) (by kernel_rfl) rfl rfl) (fun w2 hb=>qP6 underlying42 rfl (by kernel_rfl) ((hb.cell (bQ0 wi _ p20)).trans p20) ((hb.cell (bQ0 wi _ p21)).trans p21)) (fun _ _=>rfl)) ?_;refine zA (zD8 rfl func82 (by kernel_rfl) (zB5 rfl) (zB6 (j:=4) (by kernel_rfl) rfl rfl) (zB6 (j:=7) (by kernel_rfl) rfl rfl) (fun w2 u0 u1 hb h0 h1=>by obtain rfl:=h0;obtain rfl:=h1;exact (CX w2 _ _ (kx1.drew.bQ hb) (ky0.drew.bQ hb)).mono fun e w3 h=>zE9.pd h hb.size)) ?_;refine zA (zC0 rfl (zB5 rfl) (zB7 rfl rfl) (fun _ _ h=>h)) ?_;refine zA (zH8 rfl (zB5 rfl) (zB6 (j:=9) (by kernel_rfl) rfl rfl) (zG2 _) (fun _ _ _ hx hy=>⟨_,by rw [hx,hy];exact zX2 (k:=0) underlying83 (by kernel_rfl) hm0 _,rfl⟩)) ?_;refine zA (zC1 rfl (zB5 rfl) (zB6 (j:=10) (by kernel_rfl) rfl rfl) (fun w2 hb=>qP6 underlying42 rfl (by kernel_rfl) ((hb.cell (bQ0 wi _ p00)).trans p00) ((hb.cell (bQ0 wi _ p01)).trans p01)) (fun _ _=>rfl)) ?_;refine zA (zC0 rfl (zB5 rfl) (zB7 rfl rfl) (fun _ _ h=>h)) ?_;refine zA (zC0 rfl (zB5 rfl) (zB7 rfl rfl) (fun _ _ h=>h)) ?_;refine zA (zG3 rfl (zB5 rfl) (zB6 (j:=13) (by kernel_rfl) rfl rfl) (zG2 _) (fun _ _ _ hx hy=>⟨_,by rw [hx,hy];exact yJ1 _ _ k 1 hkn _,rfl⟩)) ?_;refine zA (zH8 rfl (zB5 rfl) (zB6 (j:=12) (by kernel_rfl) rfl rfl) (zB6 (j:=14) (by kernel_rfl) rfl rfl) (fun _ _ _ hx hy=>⟨_,by rw [hx,hy];exact zX2 underlying83 (by kernel_rfl) hk1 _,rfl⟩)) ?_;refine zA (zC1 rfl (zB5 rfl) (zB6 (j:=15) (by kernel_rfl) rfl rfl) (fun w2 hb=>qP6 underlying42 rfl (by kernel_rfl) ((hb.cell (bQ0 wi _ p30)).trans p30) ((hb.cell (bQ0 wi _ p31)).trans p31)) (fun _ _=>rfl)) ?_;refine zA (zD8 rfl func82 (by kernel_rfl) (zB5 rfl) (zB6 (j:=11) (by kernel_rfl) rfl rfl) (zB6 (j:=16) (by kernel_rfl) rfl rfl) (fun w2 u0 u1 hb h0 h1=>by obtain rfl:=h0;obtain rfl:=h1;exact (CY w2 _ _ (kx0.drew.bQ hb) (ky1.drew.bQ hb)).mono fun e w3 h=>zE9.pd h hb.size)) ?_;refine zA (zD8 rfl func111 (by kernel_rfl) (zB5 rfl) (zB6 (j:=8) (by kernel_rfl) rfl rfl) (zB6 (j:=17) (by kernel_rfl) rfl rfl) (fun w2 u0 u1 hb h0 h1=>(CS w2 _ _ h0.1 h1.1).mono fun e w3 h=>zE9.pd h hb.size)) ?_;refine zA (zM9 (z:=.agg #[.bool false,.slice none 0 0]) rfl rfl (fun _=>by kernel_rfl) (fun _ _ hB h=>⟨_,rfl,hB,h⟩)) ?_
     trivial
    case done1 =>
     refine fun w7 hb7 v0 h0 v1 h1 v2 h2 v3 h3 v4 h4 v5 h5 v6 h6 v7 h7 v8 h8 v9 h9 v10 h10 v11 h11 v12 h12 v13 h13 v14 h14 v15 h15 v16 h16 v17 h17 v18 h18 v19 h19 d9 b hbf => ?_;obtain rfl:=h0;obtain rfl:=h1;obtain rfl:=h2;obtain rfl:=h3;obtain rfl:=h4;obtain rfl:=h5;obtain rfl:=h6;obtain rfl:=h7;obtain rfl:=h9;obtain rfl:=h10;obtain rfl:=h11;obtain rfl:=h12;obtain rfl:=h13;obtain rfl:=h14;obtain rfl:=h15;obtain rfl:=h16;obtain ⟨g9,rfl,hg9,B9⟩:=h19;obtain ⟨k18,f18⟩:=h18;simp only [Act.put,zA0,zA2,zA1] at hbf;subst hbf;have bw7:Below wi.heap.size wi w7:=(Below.refl wi.heap.size wi).trans (hb7.mono (zB3 _));obtain ⟨u8,rfl,s8⟩:=k18;obtain ⟨A8,c8,rfl,_⟩:=id s8;refine zL8 (i:=20) (by kernel_rfl) rfl rfl rfl rfl rfl rfl (cells:=[.bool (ngB Z),.slice A8 (digs 4294967296 Z.natAbs).length c8]) rfl B9 rfl (by kernel_rfl) (zJ1 rfl rfl) fun w10 hg10 BN => ?_;have s10:=flow.off s8 B9 no_ints2 hg10;have bw10:=bw7.grown hg10 bw7.size (fun k e=>by injection e with e;omega);have HC:=hQ9 (zA bw10 s10);clear s8 B9 bw7 bw10 s10 h8 h17 f18 CX CY CS CE kx0 kx1 ky0 ky1 p00 p01 p10 p11 p20 p21 p30 p31;refine zJ0 (by kernel_rfl) ?_;go_wp2
     go_meet
     exact ⟨g9,_,rfl,hg9,BN,HC.out.2,HC.out.1⟩
   case rest =>
    obtain ⟨g9,u9,rfl,hg9,B9,s9,HB9⟩:=hcut;obtain ⟨w7,hw7⟩:∃ w7,w7=wc:=⟨_,rfl⟩;subst hw7;obtain ⟨A9,c9,rfl,_⟩:=id s9;have rk7:=rk.bQ HB9.out;have HB7:Hid (Below wx.heap.size wx w7):=HB.out.trans (HB9.out.mono HB.out.size);have B27:=B2.bQ HB7.out;have t27:=t2.bQ HB7.out;obtain ⟨V0,V1,F0,F1⟩:=Blk.two B9;obtain ⟨U0,U1,G0,G1⟩:=Blk.two B27;have hix:=fun w=>yO4 (P:=prog) underlying83 (by kernel_rfl) (g:=wx.heap.size) (c:=m) hlt w;clear B9 B27 HB HB9 CX CY CS kx0 kx1 ky0 ky1 p00 p01 p10 p11 p20 p21 p30 p31 rk
    go_wp2_with fail
    refine (CE _ _ _ ⟨_,rfl,s9⟩ ⟨_,rfl,t27⟩).mono ?_;rintro e w8 ⟨v8,rfl,k8,-,b8⟩;obtain ⟨u8,rfl,s8⟩:=k8;obtain ⟨A8,c8,rfl,_⟩:=id s8;have rk8:=rk7.bQ b8;obtain ⟨X8,Y8,P0,P1,Q0,Q1⟩:=rk8.places hlt;obtain ⟨G8,R8⟩:=rk8.set2 (by rw [HTL.out];exact hlt) s8;rw [HTL.out] at G8 R8;rw [<- HT.out] at R8;rw [bY5] at P0 P1 Q0 Q1 G8 R8;have h8:=HB7.out.trans (b8.mono HB7.out.size);have h9:=h8.grown G8 h8.size (fun g e=>by injection e with e;omega);have HB8:=hQ9 h9;clear h8 h9;clear rk7 rk8 G8 HB7 V0 V1 F0 F1 U0 U1 G0 G1 s9 t27 s8 b8 CE;go_wp2;go_roundw;case rel=>exact ⟨k+1,by omega,R8,HB8,by go_num⟩
    case measure=>simp [intOf];omega
  ·obtain rfl:k=m:=by omega
   have hzt:zs.take k=zs:=zA7 (by rw [HZ.out];exact zB3 _);rw [hzt] at rk;go_wp2;go_ret;exact ⟨_,by rw [HZ.out];rfl,by rw [HZ.out];exact rk,hgw,HBA.out.trans (HB.out.mono HBA.out.size)⟩
def shI (T:List (List Int)) (n L:Nat):Prop:=T.length=n /\ ∀ r∈T,r.length=L
theorem zV4 {T:List (List Int)} {n L i:Nat} (h:shI T n L) (hi:i<n):∃ r,T[i]?=some r/\r.length=L:=by
 have e:T[i]?=some (T[i]'(by rw [h.1];exact hi)):=zA3 _;exact ⟨_,e,h.2 _ (zA5 e)⟩
theorem zK0 {T:List (List Int)} {i:Nat} {r:List Int} (hr:T[i]?=some r) (j:Nat):zC5 T i j=r.getD j 0:=by
 have e:T.getD i []=r:=by rw [zA6,hr];rfl
 unfold zC5;rw [e]
def BrT (n C k:Nat) (a:Nat->Nat->Int) (T:List (List Int)) (d:Int):Prop:=BrQ n C k a (fun i j=>(zC5 T i (j-k):Rat)) (d:Rat)
theorem BrQ.congr {n C k:Nat} {a:Nat->Nat->Int} {R R':Nat->Nat->Rat} {d:Rat} (h:BrQ n C k a R d) (he:∀ i j,i<n->k<=j->j<C->R i j=R' i j):BrQ n C k a R' d :=
 ⟨h.le, h.wide, h.ne, h.det, fun i j hi hj hC => by
  have hk:=h.le;rw [h.rel i j hi hj hC,zE4 (g:=fun c=>(a i c:Rat)*R' c j) (fun c hc=>by rw [he c j (by omega) hj hC])]
  split
  ·rw [he i j hi hj hC]
  ·rfl⟩
theorem BrT.start {n C:Nat} {T:List (List Int)} (h:n<=C):BrT n C 0 (zC5 T) T 1:=(BrQ.start (zC5 T) h).congr fun i j _ _ _=>rfl
def zN1 (p q:List Int) (D:Int):List Int:=(List.range (p.length-1)).map fun j=>(p.getD (j+1) 0*q.getD 0 0-p.getD 0 0*q.getD (j+1) 0) / D
theorem qX7 (p q:List Int) (D:Int):(zN1 p q D).length=p.length-1:=by unfold zN1;rw [zA9,List.length_range]
theorem yO5 {p q:List Int} {D:Int} {j:Nat} (hj:j<p.length-1):(zN1 p q D)[j]?=some ((p.getD (j+1) 0*q.getD 0 0-p.getD 0 0*q.getD (j+1) 0) / D):=by
 unfold zN1;rw [zB1,List.getElem?_range hj];rfl
def zS2 (T:List (List Int)) (k:Nat) (q:List Int) (D:Int):List (List Int):=(List.range T.length).map fun i=>if i=k then q else zN1 (T.getD i []) q D
theorem qA3 (T:List (List Int)) (k:Nat) (q:List Int) (D:Int):(zS2 T k q D).length=T.length:=by unfold zS2;rw [zA9,List.length_range]
theorem qJ1 {T:List (List Int)} {k i:Nat} {q r:List Int} {D:Int} (hr:T[i]?=some r):(zS2 T k q D)[i]?=some (if i=k then q else zN1 r q D):=by
 unfold zS2;rw [zB1,List.getElem?_range (zA4.1 hr).1];show some (if i=k then q else zN1 (T.getD i []) q D)=_
 rw [zA6,hr];rfl
def zF7 (T N:List (List Int)) (i:Nat):List (List Int):=N.take i ++ T.drop i
theorem qA4 (T N:List (List Int)):zF7 T N 0=T:=by simp [zF7]
theorem qA5 {T N:List (List Int)} (h:N.length=T.length):zF7 T N T.length=N:=by
 unfold zF7;rw [List.drop_eq_nil_of_le (zB3 _),List.append_nil,zA7 (by omega)]
theorem zX5 {T N:List (List Int)} {i:Nat} (h:N.length=T.length) (hi:i<=T.length):(zF7 T N i)[i]?=T[i]?:=by
 unfold zF7;have hl:(N.take i).length=i:=by rw [bQ7];omega
 rw [bW0 (by omega),hl,Nat.sub_self,bW9,Nat.add_zero]
theorem jP1 {T N:List (List Int)} {i:Nat} (h:N.length=T.length) (hi:i<=T.length):(zF7 T N i).length=T.length:=by
 unfold zF7;rw [zA8,bQ7,bX2];omega
theorem zX6 {T N:List (List Int)} {i:Nat} {r:List Int} (h:N.length=T.length) (hr:N[i]?=some r):(zF7 T N i).set i r=zF7 T N (i+1):=by
 have hi:=(zA4.1 hr).1;unfold zF7;have hl:(N.take i).length=i:=by rw [bQ7];omega
 rw [List.set_append_right _ _ (by omega),hl,Nat.sub_self,List.drop_eq_getElem_cons (show i<T.length by omega),zA2,bQ9,hr];simp
theorem jP2 {T N:List (List Int)} {i:Nat} {r:List Int} (h:N.length=T.length) (hr:N[i]?=some r) (hT:T[i]?=some r):zF7 T N (i+1)=zF7 T N i:=by
 rw [<- zX6 h hr];refine bX0 fun j => ?_
 by_cases e:j=i
 ·subst e;have hi:=(zA4.1 hT).1;rw [bQ3 (by rw [jP1 h (by omega)];exact hi),zX5 h (by omega),hT]
 ·rw [bW1 (fun h=>e h.symm)]
theorem jP3 {x y z:Int} (hy:y≠0) (h:(x:Rat)*(y:Rat)⁻¹ = (z:Rat)):x=z*y/\x / y=z:=by
 have hy':(y:Rat)≠0:=by rw [show (0:Rat)=((0:Int):Rat) by rfl];exact fun e=>hy (Rat.intCast_inj.1 e)
 have h1:=Rat.mul_inv_cancel _ hy';have h2:(x:Rat)=((z*y:Int):Rat):=by rw [Rat.intCast_mul];grind
 have h3:=Rat.intCast_inj.1 h2;exact ⟨h3,by rw [h3];exact Int.mul_ediv_cancel z hy⟩
theorem rat0 {z:Int} (h:z≠0):(z:Rat)≠0:=fun e=>h (Rat.intCast_inj.1 (by rw [e];rfl))
theorem BrT.ne {n C k:Nat} {a:Nat->Nat->Int} {T:List (List Int)} {d:Int} (h:BrT n C k a T d):d≠0:=fun e=>BrQ.ne h (by rw [e];rfl)
section
variable {n C k:Nat} {a:Nat->Nat->Int} {T:List (List Int)} {d:Int} {q:List Int}
theorem BrT.stepQ (h:BrT n C k a T d) (hk:k<n) (hq:T[k]?=some q) (hp:q.getD 0 0≠0):BrQ n C (k+1) a (stepQ k (fun i j=>(zC5 T i (j-k):Rat)) (d:Rat)) ((q.getD 0 0:Int):Rat):=by
 have e:((zC5 T k (k-k):Int):Rat)=((q.getD 0 0:Int):Rat):=by rw [zK0 hq,Nat.sub_self]
 have h1:=BrQ.step h hk (by show ((zC5 T k (k-k):Int):Rat)≠0;rw [e];exact rat0 hp);rw [<- e];exact h1
theorem BrT.num (h:BrT n C k a T d) (hk:k<n) (hq:T[k]?=some q) (hp:q.getD 0 0≠0) {i j:Nat} {r:List Int} (hi:i<n) (hr:T[i]?=some r) (hik:i≠k) (hj:j+1<C-k) :
  r.getD (j+1) 0*q.getD 0 0-r.getD 0 0*q.getD (j+1) 0=((r.getD (j+1) 0*q.getD 0 0-r.getD 0 0*q.getD (j+1) 0) / d)*d/\rat.stepQ k (fun i j=>(zC5 T i (j-k):Rat)) (d:Rat) i (j+1+k)=(((r.getD (j+1) 0*q.getD 0 0-r.getD 0 0*q.getD (j+1) 0) / d:Int):Rat):=by
 obtain ⟨z,hz⟩:=(h.stepQ hk hq hp).int hi (j:=j+1+k) (by omega) (by omega)
 have e:rat.stepQ k (fun i j=>(zC5 T i (j-k):Rat)) (d:Rat) i (j+1+k)=((r.getD (j+1) 0*q.getD 0 0-r.getD 0 0*q.getD (j+1) 0:Int):Rat)*(d:Rat)⁻¹:=by
  unfold rat.stepQ;rw [if_neg hik];show (((zC5 T i (j+1+k-k):Int):Rat)*((zC5 T k (k-k):Int):Rat)-((zC5 T i (k-k):Int):Rat)*((zC5 T k (j+1+k-k):Int):Rat))*(d:Rat)⁻¹ = _
  rw [zK0 hr,zK0 hr,zK0 hq,zK0 hq,Nat.sub_self,Nat.add_sub_cancel,Rat.intCast_sub,Rat.intCast_mul,Rat.intCast_mul]
 have h2:=jP3 h.ne (e.symm.trans hz);exact ⟨by rw [h2.2];exact h2.1,by rw [hz,h2.2]⟩
theorem BrT.crs (h:BrT n C k a T d) (hs:shI T n (C-k)) (hk:k<n) (hq:T[k]?=some q) (hp:q.getD 0 0≠0) {i:Nat} {r:List Int} (hr:T[i]?=some r) (hik:i≠k):Crs r q (zN1 r q d) d:=by
 intro j x hx;have hi:i<n:=by rw [<- hs.1];exact (zA4.1 hr).1
 have hrl:=hs.2 r (zA5 hr);have hj:=(zA4.1 hx).1;rw [qX7] at hj;rw [yO5 hj] at hx;injection hx with hx;rw [<- hx];exact (h.num hk hq hp hi hr hik (by omega)).1
theorem next_sh (hs:shI T n (C-k)) (hq:T[k]?=some q):shI ((zS2 T k q d).set k (q.drop 1)) n (C-(k+1)):=by
 refine ⟨by rw [zB2,qA3,hs.1],fun r hr => ?_⟩;have hql:=hs.2 q (zA5 hq);obtain ⟨i,hi⟩:=List.mem_iff_getElem?.1 hr;have hil:=(zA4.1 hi).1;rw [zB2,qA3] at hil;by_cases e:k=i
 ·subst e;rw [bQ3 (by rw [qA3];exact hil)] at hi;injection hi with hi;rw [<- hi,bX2];omega
 ·rw [bW1 e,qJ1 (zA3 hil),if_neg (fun h=>e h.symm)] at hi;injection hi with hi;rw [<- hi,qX7,hs.2 _ (zA5 (zA3 hil))];omega
theorem BrT.next (h:BrT n C k a T d) (hs:shI T n (C-k)) (hk:k<n) (hq:T[k]?=some q) (hp:q.getD 0 0≠0):BrT n C (k+1) a ((zS2 T k q d).set k (q.drop 1)) (q.getD 0 0):=by
 refine (h.stepQ hk hq hp).congr fun i j hi hj hC => ?_
 show _=((zC5 ((zS2 T k q d).set k (q.drop 1)) i (j-(k+1)):Int):Rat)
 by_cases e:i=k
 ·subst e;have h1:((zS2 T i q d).set i (q.drop 1))[i]?=some (q.drop 1):=bQ3 (by rw [qA3,hs.1];exact hi);rw [zK0 h1];unfold rat.stepQ;rw [if_pos rfl];show ((zC5 T i (j-i):Int):Rat)=_
  rw [zK0 hq,zA6,zA6,bW9,show 1+(j-(i+1))=j-i by omega]
 ·obtain ⟨r,hr,hrl⟩:=zV4 hs hi
  have h1:((zS2 T k q d).set k (q.drop 1))[i]?=some (zN1 r q d):=by
   rw [bW1 (fun h=>e h.symm),qJ1 hr,if_neg e]
  obtain ⟨m,rfl⟩:∃ m,j=m+1+k:=⟨j-1-k,by omega⟩
  have hz:(zN1 r q d).getD m 0=(r.getD (m+1) 0*q.getD 0 0-r.getD 0 0*q.getD (m+1) 0) / d:=by
   rw [zA6,yO5 (by omega)];rfl
  rw [zK0 h1,(h.num hk hq hp hi hr e (j:=m) (by omega)).2,show m+1+k-(k+1)=m by omega,hz]
theorem BrT.swap (h:BrT n C k a T d) {f:Nat} (hl:T.length=n) (hkf:k<f) (hf:f<n) {rk rf:List Int} (hrk:T[k]?=some rk) (hrf:T[f]?=some rf):BrT n C k (fun i=>if i=k then a f else if i=f then a k else a i) ((T.set k rf).set f rk) d:=by
 refine (BrQ.swap h (Nat.le_of_lt hkf) hf).congr fun i j hi hj hC => ?_;unfold zD4;by_cases e1:i=k
 ·subst e1;have h1:((T.set i rf).set f rk)[i]?=some rf:=by rw [bW1 (by omega),bQ3 (by omega)]
  rw [if_pos rfl,zK0 h1];show ((zC5 T f (j-i):Int):Rat)=_
  rw [zK0 hrf]
 ·by_cases e2:i=f
  ·subst e2;have h1:((T.set k rf).set i rk)[i]?=some rk:=bQ3 (by rw [zB2];omega);rw [if_neg e1,if_pos rfl,zK0 h1];show ((zC5 T k (j-k):Int):Rat)=_
   rw [zK0 hrk]
  ·have h1:((T.set k rf).set f rk)[i]?=T[i]?:=by rw [bW1 (fun h=>e2 h.symm),bW1 (fun h=>e1 h.symm)]
   rw [if_neg e1,if_neg e2];unfold zC5;rw [zA6 (l:=(T.set k rf).set f rk),h1,<- zA6]
theorem BrT.none (h:BrT n C k a T d) (hk:k<n) (h0:∀ i,k<=i->i<n->zC5 T i 0=0):zC8 n (qF a)=0 :=
 BrQ.none h hk fun i h1 h2=>by
  show ((zC5 T i (k-k):Int):Rat)=0
  rw [Nat.sub_self,h0 i h1 h2];rfl
end
structure Prm (n C:Nat) (a0 a:Nat->Nat->Int) (s:Rat):Prop where
 one:s=1\/s = -1
 fn:∀ f,RowFn n C f->f (qF a0)=s*f (qF a)
 all:∀ P:(Nat->Int)->Prop,(∀ i,i<n->P (a i)) -> ∀ i,i<n->P (a0 i)
theorem Prm.refl (n C:Nat) (a:Nat->Nat->Int):Prm n C a a 1:=⟨.inl rfl,fun f _=>by grind,fun P h=>h⟩
theorem Prm.swap {n C k f:Nat} {a0 a:Nat->Nat->Int} {s:Rat} (h:Prm n C a0 a s) (hk:k<n) (hf:f<n) (hkf:k≠f):Prm n C a0 (fun i=>if i=k then a f else if i=f then a k else a i) (-s):=by
 refine ⟨?_,fun F hF => ?_,fun P hP=>h.all P fun i hi => ?_⟩
 ·rcases h.one with e | e<;>rw [e]
  ·exact .inr rfl
  ·exact .inl (by grind)
 ·have e:F (qF fun i=>if i=k then a f else if i=f then a k else a i)=F (zD4 (qF a) k f):=hF.congr _ _ fun i j _ _=>by
   unfold zD4 qF;by_cases e1:i=k
   ·simp only [if_pos e1]
   ·by_cases e2:i=f
    ·simp only [if_neg e1,if_pos e2]
    ·simp only [if_neg e1,if_neg e2]
  rw [h.fn F hF,e,hF.swap (qF a) hk hf hkf];grind
 ·by_cases e1:i=k
  ·have:=hP f hf
   simp only [if_neg (show ¬ f=k from fun h=>hkf h.symm),if_true] at this;rw [e1];exact this
  ·by_cases e2:i=f
   ·have:=hP k hk
    simp only [if_true] at this;rw [e2];exact this
   ·have:=hP i hi
    simp only [if_neg e1,if_neg e2] at this;exact this
theorem RowFn.wide {n C:Nat} {f:(Nat->Nat->Rat)->Rat} (h:RowFn n n f) (hC:n<=C):RowFn n C f:=⟨fun M M' he=>h.congr M M' fun i j hi hj=>he i j hi (by omega),h.scale,h.add⟩
def zH1 (T:List (List Int)) (S:Nat):Prop:=∀ r∈T,∀ z∈r,zC2 z<=S
theorem jP4 {p q:List Int} {D:Int} {S:Nat} (hD:D≠0) (hC:Crs p q (zN1 p q D) D) (hp:∀ z∈p,zC2 z<=S) (hq:∀ z∈q,zC2 z<=S):∀ z∈zN1 p q D,zC2 z<=2*S+1:=by
 intro z hz;obtain ⟨j,hj⟩:=List.mem_iff_getElem?.1 hz;have h1:=hC j z hj
 have g:∀ (l:List Int) (i:Nat),(∀ z∈l,zC2 z<=S)->zC2 (l.getD i 0)<=S:=fun l i h=>by
  rw [zA6]
  cases e:l[i]? with
  | none=>show zC2 0<=S;unfold zC2;rw [Int.natAbs_zero,zJ];exact Nat.zero_le _
  | some x=>exact h x (zA5 e)
 have m1:=zQ8 (g p (j+1) hp) (g q 0 hq);have m2:=zQ8 (g p 0 hp) (g q (j+1) hq);have m3:=qW m1 m2;rw [h1] at m3
 have h2:z.natAbs<=(z*D).natAbs:=by
  rw [Int.natAbs_mul];exact Nat.le_mul_of_pos_right _ (by omega)
 have h3:zC2 z<=zC2 (z*D):=zG1 (by omega) h2;omega
theorem SlZ.off {k:IntKind} {B:Nat} {w w':World} {v:Value} {zs:List Int} {g:Nat} {e:TypeId} {cs:Array Value} (h:SlZ k B w v zs) (hB:w.heap[g]?=some (.cells cs e (0,0))) (hno:∀ c∈cs,∀ n,c ≠ .int k n) (hg:w.grownBy w' (some g)) (hne:v.ownBlock≠some g):SlZ k B w' v zs:=by
 obtain ⟨A,c,rfl,h2,h3,h4⟩:=h;refine ⟨A,c,rfl,h2,h3,fun i z hz => ?_⟩;obtain ⟨g',o,u,rfl,c0,c1,s⟩:=h4 i z hz;have hne':some g'≠some g:=fun e=>hne (by simpa [Value.ownBlock] using e);exact ⟨g',o,u,rfl,hg.cell c0 hne',hg.cell c1 hne',flow.off s hB hno hg⟩
theorem zE.offZ {w w':World} {g gx:Nat} {TS t:TypeId} {us:List Value} {T:List (List Int)} {a b:Value} (h:zE .u64 4294967296 w g TS us T) (hB:Blk w gx t #[a,b]) (hno:∀ x∈(#[a,b]:Array Value),∀ n,x ≠ .int .u64 n) (hne:TS≠t) (hg:w.grownBy w' (some gx)) (hoff:∀ u∈us,u.ownBlock≠some gx):zE .u64 4294967296 w' g TS us T:=by
 have hgx:g≠gx:=fun e=>by
  have h1:=h.1.1;unfold Blk at h1 hB;rw [e,hB] at h1;injection h1 with h1;injection h1 with _ h1;exact hne h1.symm
 exact ⟨h.1.grown hg (fun e=>hgx (by injection e with e;exact e.symm)),h.2.1,fun i u r hu hr=>(h.2.2 i u r hu hr).off hB hno hg (hoff u (zA5 hu))⟩
theorem SlZ.cut1 {w:World} {g o n c:Nat} {A:Option Addr} {zs:List Int} (h:SlZ .u64 4294967296 w (.slice (some ⟨g,o,none⟩) n c) zs) (hn:1<=zs.length) (hA:A=if c=1 then some ⟨g,o,none⟩ else some ⟨g,o+2,none⟩):SlZ .u64 4294967296 w (.slice A (n-1) (c-1)) (zs.drop 1):=by
 obtain ⟨A0,c0,e,h1,h2⟩:=h.shape;injection e with e1 e2 e3;subst e3;by_cases hc:c=1
 ·rw [if_pos hc] at hA;have hz:zs.drop 1=[]:=List.drop_eq_nil_of_le (by omega);rw [hz,show n-1=0 by omega];exact qJ0 _ _ _ (by omega)
 ·rw [if_neg hc] at hA;rw [hA];exact h.drop hn
theorem zT7 {w:World} {g:Nat} {t:TypeId} {a b:Value} (h:Blk w g t #[a,b]) (x y:Value):Blk ((w.setCell ⟨g,0,none⟩ x).setCell ⟨g,1,none⟩ y) g t #[x,y]:=zT4 (zT4 h x) y
theorem zX7 (w:World) (g:Nat) (x y:Value):w.grownBy ((w.setCell ⟨g,0,none⟩ x).setCell ⟨g,1,none⟩ y) (some g):=(zF4 w g 0 x).trans (zF4 _ g 1 y)
def zR1 (w:World) (g:Nat):Prop:=∃ cs,w.heap[g]?=some (.cells cs 42 (0,0))
theorem zR1.lt {w:World} {g:Nat} (h:zR1 w g):g<w.heap.size:=by
 obtain ⟨cs,h⟩:=h;exact (Array.getElem?_eq_some_iff.1 h).1
theorem zR1.frozen {w:World} {g:Nat} (h:zR1 w g) (o:Nat):w.frozen? ⟨g,o,none⟩=false:=by
 obtain ⟨cs,h⟩:=h;exact Blk.frozen (t:=42) (cs:=cs) h o
theorem zK.bk {w:World} {g n:Nat} {zs:List Int} (h:zK w g n zs):zR1 w g:=by
 obtain ⟨ps,_,_,h3,_⟩:=h;exact ⟨_,h3⟩
def Kp (w w':World):Prop:=w.heap.size<=w'.heap.size /\ ∀ g,zR1 w g->zR1 w' g
theorem Kp.trans {a b c:World} (h:Kp a b) (k:Kp b c):Kp a c:=⟨zB4 h.1 k.1,fun g hg=>k.2 g (h.2 g hg)⟩
theorem zO0 {w w':World} (hb:Below w.heap.size w w'):Kp w w':=⟨hb.size,fun g hg=>by
 obtain ⟨cs,h⟩:=hg;exact ⟨cs,Blk.bQ (t:=42) (cs:=cs) h hb⟩⟩
theorem zS3 (w:World) (g o:Nat) (x:Value):Kp w (w.setCell ⟨g,o,none⟩ x):=⟨(zF4 w g o x).size,fun g' hg=>by
 obtain ⟨cs,h⟩:=hg;by_cases e:g'=g
 ·subst e;exact ⟨_,heap_setCell h⟩
 ·exact ⟨cs,Blk.grown (t:=42) (cs:=cs) h (zF4 w g o x) e⟩⟩
theorem yO6 (w:World) (g:Nat) (x y:Value):Kp w ((w.setCell ⟨g,0,none⟩ x).setCell ⟨g,1,none⟩ y):=(zS3 w g 0 x).trans (zS3 _ g 1 y)
def Apt (w:World) (B:Nat) (us:List Value):Prop:=(∀ u∈us,∀ g,u.ownBlock=some g->B<=g/\zR1 w g) /\ ∀ (i j:Nat) (u v:Value),i≠j->us[i]?=some u->us[j]?=some v -> ∀ g,u.ownBlock=some g->v.ownBlock≠some g
theorem Apt.grow {w w':World} {B:Nat} {us:List Value} (h:Apt w B us) (hk:Kp w w'):Apt w' B us:=⟨fun u hu g e=>⟨(h.1 u hu g e).1,hk.2 g (h.1 u hu g e).2⟩,h.2⟩
theorem Apt.set {w:World} {B k:Nat} {us:List Value} {x:Value} (h:Apt w B us) (hx:∀ g,x.ownBlock=some g->B<=g/\zR1 w g) (hn:∀ (j:Nat) (v:Value),j≠k->us[j]?=some v -> ∀ g,x.ownBlock=some g->v.ownBlock≠some g):Apt w B (us.set k x):=by
 refine ⟨fun u hu g e => ?_,fun i j u v hij hu hv g e => ?_⟩
 ·rcases bW3 hu with hu | rfl
  ·exact h.1 u hu g e
  ·exact hx g e
 ·by_cases hi:k=i
  ·subst hi;have hk:=(zA4.1 hu).1;rw [zB2] at hk;rw [bQ3 hk] at hu;injection hu with hu;subst hu;rw [bW1 hij] at hv;exact hn j v (fun e=>hij e.symm) hv g e
  ·rw [bW1 hi] at hu;by_cases hj:k=j
   ·subst hj;have hk:=(zA4.1 hv).1;rw [zB2] at hk;rw [bQ3 hk] at hv;injection hv with hv;subst hv;exact fun e2=>hn i u (fun e=>hi e.symm) hu g e2 e
   ·rw [bW1 hj] at hv;exact h.2 i j u v hij hu hv g e
theorem Apt.newR {w:World} {B k:Nat} {us:List Value} {w0:World} {x:Value} (h0:Apt w0 B us) (hk:Kp w0 w) (hB:B<=w0.heap.size) (hx:∀ g,x.ownBlock=some g->w0.heap.size<=g/\zR1 w g):Apt w B (us.set k x):=by
 refine (h0.grow hk).set (fun g e=>⟨zB4 hB (hx g e).1,(hx g e).2⟩) (fun j v hj hv g e e2 => ?_);have h1:=(h0.1 v (zA5 hv) g e2).2.lt;have h2:=(hx g e).1;omega
theorem Apt.new {w:World} {B k gn n c:Nat} {us:List Value} {w0:World} (h0:Apt w0 B us) (hk:Kp w0 w) (hs:w0.heap.size<=gn) (hB:B<=w0.heap.size) (hg:zR1 w gn):Apt w B (us.set k (.slice (some ⟨gn,0,none⟩) n c)) :=
 h0.newR hk hB fun g e=>by
  obtain rfl:gn=g:=by simpa [Value.ownBlock] using e
  exact ⟨hs,hg⟩
theorem Apt.cut {w:World} {B k:Nat} {us:List Value} {x u:Value} (h:Apt w B us) (hu:us[k]?=some u) (hx:∀ g,x.ownBlock=some g->u.ownBlock=some g):Apt w B (us.set k x) :=
 h.set (fun g e=>h.1 u (zA5 hu) g (hx g e)) (fun j v hj hv g e=>h.2 k j u v (fun e=>hj e.symm) hu hv g (hx g e))
theorem Apt.swap {w:World} {B k f:Nat} {us:List Value} {x y:Value} (h:Apt w B us) (hkf:k≠f) (hk:us[k]?=some x) (hf:us[f]?=some y):Apt w B ((us.set k y).set f x):=by
 have hkl:=(zA4.1 hk).1;have hfl:=(zA4.1 hf).1
 have at_:∀ i:Nat,((us.set k y).set f x)[i]?=if i=f then some x else if i=k then some y else us[i]?:=fun i=>by
  by_cases e1:i=f
  ·subst e1;rw [if_pos rfl,bQ3 (by rw [zB2];exact hfl)]
  ·rw [if_neg e1,bW1 (fun e=>e1 e.symm)];by_cases e2:i=k
   ·subst e2;rw [if_pos rfl,bQ3 hkl]
   ·rw [if_neg e2,bW1 (fun e=>e2 e.symm)]
 have src:∀ (i:Nat) (u:Value),((us.set k y).set f x)[i]?=some u->us[if i=f then k else if i=k then f else i]?=some u:=fun i u hu=>by
  rw [at_] at hu;by_cases e1:i=f
  ·rw [if_pos e1] at hu |-;rw [hk];exact hu
  ·rw [if_neg e1] at hu |-;by_cases e2:i=k
   ·rw [if_pos e2] at hu |-;rw [hf];exact hu
   ·rw [if_neg e2] at hu |-;exact hu
 refine ⟨fun u hu g e => ?_,fun i j u v hij hu hv g e => ?_⟩
 ·obtain ⟨i,hi⟩:=List.mem_iff_getElem?.1 hu;exact h.1 u (zA5 (src i u hi)) g e
 ·refine h.2 _ _ u v ?_ (src i u hu) (src j v hv) g e;intro e2
  split at e2<;>split at e2<;>(try split at e2)<;>(try split at e2)<;>omega
def RetWay (g n C:Nat) (us0:List Value) (T0:List (List Int)) (w:World) (e:Ending) (w':World):Prop:=w.grownBy w' (some g)/\((∃ us T d neg v a,e=.returned (.tuple #[v,.bool neg])/\IsZ w' v d/\zE .u64 4294967296 w' g 83 us T/\shI T n (C-n)/\zH1 T 5000/\zC2 d<=5000/\BrT n C n a T d/\Prm n C (zC5 T0) a (if neg=true then -1 else 1) /\ ∀ B,B<=w.heap.size->Apt w B us0->Apt w' B us)\/(∃ v,e=.returned (.tuple #[v,.bool false])/\IsZ w' v 0/\zC8 n (qF (zC5 T0))=0))
theorem jP5 {n C k S:Nat} {a:Nat->Nat->Int} {T:List (List Int)} {d:Int} {q:List Int} (h:BrT n C k a T d) (hs:shI T n (C-k)) (hk:k<n) (hq:T[k]?=some q) (hp:q.getD 0 0≠0) (hl:zH1 T S):zH1 ((zS2 T k q d).set k (q.drop 1)) (2*S+1):=by
 intro r hr;have hql:=hl q (zA5 hq);obtain ⟨i,hi⟩:=List.mem_iff_getElem?.1 hr;have hil:=(zA4.1 hi).1;rw [zB2,qA3] at hil;by_cases e:k=i
 ·subst e;rw [bQ3 (by rw [qA3];exact hil)] at hi;injection hi with hi;intro z hz;rw [<- hi] at hz;exact zB4 (hql z (List.mem_of_mem_drop hz)) (by omega)
 ·have hT:T[i]?=some T[i]:=zA3 hil;rw [bW1 e,qJ1 hT,if_neg (fun h=>e h.symm)] at hi;injection hi with hi;rw [<- hi];exact jP4 h.ne (h.crs hs hk hq hp hT (fun h=>e h.symm)) (hl _ (zA5 hT)) hql
theorem yO7 {S k n:Nat} (hk:k<=n) (h:(S+1)*2^n<=5001):(S+1)*2^k<=5001:=zB4 (bY _ (bX9 (by omega) hk)) h
theorem yO8:zC2 1<=1:=zG7 (by omega) (by decide)
theorem jP6 (g n C S:Nat) (us:List Value) (T0:List (List Int)) (w:World) (h:zE .u64 4294967296 w g 83 us T0) (hc:Hid (shI T0 n C/\n<=C/\n<=100/\C<=200/\zH1 T0 S/\(S+1)*2^n<=5001)) :
    Calls prog 45 #[.slice (some ⟨g,0,none⟩) n n] w (RetWay g n C us T0 w):=by
  have hn100:=hc.out.2.2.1;have hnC:=hc.out.2.1;obtain ⟨O,hO⟩:∃ O:Int,O=1:=⟨_,rfl⟩;have CO:∀ w,Calls prog 35 #[.int .i64 1] w (zE9 O w):=fun w=>by rw [hO];exact qG7 1 w (by omega) (by omega)
  obtain ⟨Z,hZ⟩:∃ Z:Int,Z=0:=⟨_,rfl⟩;have CZ:∀ w,Calls prog 35 #[.int .i64 0] w (zE9 Z w):=fun w=>by rw [hZ];exact qG7 0 w (by omega) (by omega)
  have HO:=hQ9 hO;have HZ:=hQ9 hZ;clear hO hZ
  go_enter func45,ntmps45;go_wp2_with fail
  refine (CO _).mono ?_;rintro e w2 ⟨v2,rfl,k2,-,b2⟩;obtain ⟨u2,rfl,s2⟩:=k2;obtain ⟨A2,c2,rfl,_⟩:=id s2;have ba:=zC9 (w:=w) (zB3 _) (.cells #[.bool false,.slice none 0 0] 42);have hs1:(w.alloc (.cells #[.bool false,.slice none 0 0] 42)).heap.size=w.heap.size+1:=by first | rfl | exact Array.size_push _
  have BR0:=(Blk.new w 42 #[.bool false,.slice none 0 0]).bQ b2;have ba2:=zC9 (w:=w2) (zB3 _) (.cells #[.bool (ngB O),.slice A2 (digs 4294967296 O.natAbs).length c2] 42);have BP0:=Blk.new w2 42 #[.bool (ngB O),.slice A2 (digs 4294967296 O.natAbs).length c2];have hgP:w.heap.size<w2.heap.size:=by have:=b2.size;omega
  have hglt:g<w.heap.size:=h.lt;have bb2:=ba.trans (b2.mono ba.size);have TS0:=(h.bQ bb2).bQ ba2;have HA0:=hQ9 (fun (B:Nat) (hB:B<=w.heap.size) (h:Apt w B us)=>h.grow ((zO0 bb2).trans (zO0 ba2)));have HG0:Hid (w.grownBy _ (some g)):=qW7 (bb2.trans (ba2.mono bb2.size)) (some g);have s20:=s2.bQ ba2;have BR1:=BR0.bQ ba2
  have HD0:Hid (BrT n C 0 (zC5 T0) T0 O/\shI T0 n (C-0)/\zH1 T0 ((S+1)*2^0-1)/\zC2 O<=5000):=by
    refine ⟨?_,hc.out.1,?_,?_⟩
    · rw [HO.out];exact BrT.start hc.out.2.1
    · rw [show (S+1)*2^0-1=S by simp];exact hc.out.2.2.2.2.1
    · rw [HO.out];exact zB4 yO8 (by omega)
  have HP0:Hid (Prm n C (zC5 T0) (zC5 T0) (if false=true then -1 else 1)):=Prm.refl n C _
  have HO0:Hid (zM1 us (fun x=>x=w.heap.size\/x=w2.heap.size)):=by
    show zM1 _ _
    intro u hu x hx hG;obtain ⟨i,hi⟩:=List.mem_iff_getElem?.1 hu;have hin:=(zA4.1 hi).1;rw [h.2.1,hc.out.1.1] at hin;obtain ⟨r,hr,hrl⟩:=zV4 hc.out.1 hin;have hsl:=h.2.2 i u r hi hr;obtain ⟨A',c',rfl,_,_⟩:=hsl.shape;obtain ⟨g',o',rfl,hlt⟩:=hsl.place (List.length_pos_iff.1 (by omega));have e1:g'=x:=by simpa [Value.ownBlock] using hx
    rcases hG with e2 | e2<;>omega
  clear ba b2 ba2 bb2 s2 BR0 hs1;go_wp2
  go_loopw [5,13] (fun v5 v13 wr => ∃ (k:Nat) (T:List (List Int)) (us':List Value) (a:Nat->Nat->Int) (d:Int) (u:Value) (neg:Bool),k<=n/\Hid (BrT n C k a T d/\shI T n (C-k)/\zH1 T ((S+1)*2^k-1)/\zC2 d<=5000)/\zE .u64 4294967296 wr g 83 us' T/\Blk wr w2.heap.size 42 #[.bool (ngB d),u]/\IsS wr .u64 u (digs 4294967296 d.natAbs)/\Blk wr w.heap.size 42 #[.bool false,.slice none 0 0]/\Hid (Prm n C (zC5 T0) a (if neg=true then -1 else 1))/\Hid (w.grownBy wr (some g))/\Hid (zM1 us' (fun x=>x=w.heap.size\/x=w2.heap.size))/\Hid (∀ B,B<=w.heap.size->Apt w B us->Apt wr B us')/\v5=.bool neg/\v13=.int .i64 (k:Int)) (fun _ v13 _=>n-(intOf v13).toNat)
  case atStart=>exact ⟨0,T0,us,zC5 T0,O,_,false,by omega,HD0,TS0,BP0,s20,BR1,HP0,HG0,HO0,HA0,rfl,rfl⟩
  case round =>
    clear TS0 BP0 s20 BR1 HG0 HD0 HO0 HP0 HA0 CO HO;obtain ⟨k,T,us',a,d,u,neg,hk,HD,TS,BP,su,BR,HP,HG,HOF,HAP,rfl,rfl⟩:=hrel;obtain ⟨Au,cu,rfl,_⟩:=id su;by_cases hlt:k<n
    · have hTl:T.length=n:=HD.out.2.1.1;have SL:=TS.sub (o:=k) (m:=n-k) (c:=n-k) (by omega) (zB3 _) (by unfold maxLen;omega)
      go_wp2_with fail
      refine (jO8 _ _ _ SL (fun r hr=>by rw [HD.out.2.1.2 r (List.mem_of_mem_drop (List.mem_of_mem_take hr))];omega)).mono ?_;rintro e w4 ⟨f,rfl,hf,hz,hnz,b4⟩;have hLl:((T.drop k).take (n-k)).length=n-k:=by rw [bQ7,bX2];omega
      have hent:∀ i,i<n-k->zC5 ((T.drop k).take (n-k)) i 0=zC5 T (k+i) 0:=fun i hi=>by
        have e:((T.drop k).take (n-k)).getD i []=T.getD (k+i) []:=by rw [zA6,List.getElem?_take_of_lt hi,bW9,zA6]
        unfold zC5;rw [e]
      rw [hLl] at hf hnz;have TS4:=TS.bQ b4;have BP4:=BP.bQ b4;have su4:=su.bQ b4;have BR4:=BR.bQ b4;have HG4:Hid (w.grownBy w4 (some g)):=zJ9 HG.out b4;have HAP4:=hQ9 (fun (B:Nat) (hB:B<=w.heap.size) (h:Apt w B us)=>(HAP.out B hB h).grow (zO0 b4));clear TS BP su BR HG SL;by_cases hfl:f<n-k
      · have hne:zC5 T (k+f) 0≠0:=by rw [<- hent f hfl];exact hnz hfl
        have HNE:=hQ9 hne;clear hz hnz hent hne hLl
        go_upto_if 29 with (fail)
        have hb25:((k:Int)+(f:Int) == (n:Int))=false:=by rw [beq_eq_false_iff_ne];omega
        obtain ⟨B29,hB⟩:∃ B,B=decide ((k:Int)<(k:Int)+(f:Int)):=⟨_,rfl⟩;rw [hb25,<- hB];have HB:=hQ9 hB;clear hb25 hB
        go_cut [5] from 30 to 45 (fun s5 wx => ∃ (us2:List Value) (T2:List (List Int)) (a2:Nat->Nat->Int) (neg2:Bool),s5=.bool neg2/\zE .u64 4294967296 wx g 83 us2 T2/\Hid (BrT n C k a2 T2 d/\shI T2 n (C-k)/\zH1 T2 ((S+1)*2^k-1)/\zC2 d<=5000)/\Hid (zC5 T2 k 0≠0)/\Hid (Prm n C (zC5 T0) a2 (if neg2=true then -1 else 1))/\Hid (zM1 us2 (fun x=>x=w.heap.size\/x=w2.heap.size))/\Blk wx w2.heap.size 42 #[.bool (ngB d),.slice Au (digs 4294967296 d.natAbs).length cu]/\IsS wx .u64 (.slice Au (digs 4294967296 d.natAbs).length cu) (digs 4294967296 d.natAbs)/\Blk wx w.heap.size 42 #[.bool false,.slice none 0 0]/\Hid (w.grownBy wx (some g))/\Hid (∀ B,B<=w.heap.size->Apt w B us->Apt wx B us2))
        case first =>
          by_cases hf0:f=0
          · subst hf0;have hb:B29=false:=by rw [HB.out];exact decide_eq_false (by omega)
            subst hb;have HN0:Hid (zC5 T k 0≠0):=by have:=HNE.out;rwa [Nat.add_zero] at this
            go_wp2_with fail
            go_meet
            exact ⟨us',T,a,neg,rfl,TS4,HD,HN0,HP,HOF,BP4,su4,BR4,HG4,HAP4⟩
          · have hb:B29=true:=by rw [HB.out];exact decide_eq_true (by omega)
            subst hb;obtain ⟨rk,hrk,hrkl⟩:=zV4 HD.out.2.1 (show k<n by omega);obtain ⟨rf,hrf,hrfl⟩:=zV4 HD.out.2.1 (show k+f<n by omega);obtain ⟨Ak,ck,huk,eck,srk⟩:=TS4.at_ hrk;obtain ⟨Af,cf,huf,ecf,srf⟩:=TS4.at_ hrf;have fk:=TS4.1.1.frozen k;have ff:=TS4.1.1.frozen (k+f);have hpos:0<n-k:=by omega
            have HD2:Hid (BrT n C k (fun i=>if i=k then a (k+f) else if i=k+f then a k else a i) ((T.set k rf).set (k+f) rk) d/\shI ((T.set k rf).set (k+f) rk) n (C-k)/\zH1 ((T.set k rf).set (k+f) rk) ((S+1)*2^k-1)/\zC2 d<=5000):=by
              refine ⟨BrT.swap HD.out.1 HD.out.2.1.1 (by omega) (by omega) hrk hrf,⟨by rw [zB2,zB2];exact HD.out.2.1.1,fun r hr => ?_⟩,fun r hr => ?_,HD.out.2.2.2⟩
              · rcases bW3 hr with hr | rfl
                · rcases bW3 hr with hr | rfl
                  · exact HD.out.2.1.2 r hr
                  · exact hrfl
                · exact hrkl
              · rcases bW3 hr with hr | rfl
                · rcases bW3 hr with hr | rfl
                  · exact HD.out.2.2.1 r hr
                  · exact HD.out.2.2.1 _ (zA5 hrf)
                · exact HD.out.2.2.1 _ (zA5 hrk)
            have HN2:Hid (zC5 ((T.set k rf).set (k+f) rk) k 0≠0):=by
              have h1:((T.set k rf).set (k+f) rk)[k]?=some rf:=by rw [bW1 (by omega),bQ3 (by rw [HD.out.2.1.1];omega)]
              show _≠_
              rw [zK0 h1,<- zK0 hrf];exact HNE.out
            have HP2:Hid (Prm n C (zC5 T0) (fun i=>if i=k then a (k+f) else if i=k+f then a k else a i) (if (!neg)=true then -1 else 1)):=by
              have h1:=HP.out.swap (k:=k) (f:=k+f) (by omega) (by omega) (by omega);have e:(if (!neg)=true then (-1:Rat) else 1) = -(if neg=true then -1 else 1):=by cases neg<;>decide
              show Prm _ _ _ _ _
              rw [e];exact h1
            clear hrkl hrfl;go_upto_region 9 with (fail);go_region
            all_goals
              have TS5:=TS4.stored k srf;have srk5:=TS4.1.keepZ (zF4 w4 g k (.slice Af rf.length cf)) srk;have TS6:=TS5.stored (k+f) srk5;have G8:=zJ9 ((zF4 w4 g k (.slice Af rf.length cf)).trans (zF4 _ g (k+f) (.slice Ak rk.length ck))) (Below.refl _ ((w4.setCell ⟨g,k,none⟩ (.slice Af rf.length cf)).setCell ⟨g,k+f,none⟩ (.slice Ak rk.length ck))).drew;have TS8:=TS6.bQ (Below.refl _ _).drew;have HO8:Hid (zM1 ((us'.set k (.slice Af rf.length cf)).set (k+f) (.slice Ak rk.length ck)) (fun x=>x=w.heap.size\/x=w2.heap.size)):=(HOF.out.set (fun x hx=>HOF.out _ (zA5 huf) x hx) k).set (fun x hx=>HOF.out _ (zA5 huk) x hx) (k+f);have BP8:=Blk.grown BP4 G8 (by omega);have BR8:=Blk.grown BR4 G8 (by omega);have su8:=TS4.1.keep G8 su4;have HG8:=hQ9 (HG4.out.trans G8);have HA8:=hQ9 (fun (B:Nat) (hB:B<=w.heap.size) (h:Apt w B us)=>((HAP4.out B hB h).swap (show k≠k+f by omega) huk huf).grow ((zS3 w4 g k (.slice Af rf.length cf)).trans ((zS3 _ g (k+f) (.slice Ak rk.length ck)).trans (zO0 (Below.refl _ _).drew))));clear TS5 TS6 srk5 G8 TS4 BP4 BR4 su4 HG4 srk srf eck ecf fk ff;go_wp2
              go_meet
              exact ⟨_,_,_,_,rfl,TS8,HD2,HN2,HP2,HO8,BP8,su8,BR8,HG8.out,HA8.out⟩
        case rest =>
          obtain ⟨us2,T2,a2,neg2,rfl,TS5,HD5,HNE5,HP5,HO5,BP5,su5,BR5,HG5,HA5⟩:=hcut;obtain ⟨w5,hw5⟩:∃ w5,w5=wc:=⟨_,rfl⟩;subst hw5;clear TS4 BP4 su4 BR4 HG4 HOF HB HD HP HNE HAP HAP4 hTl;obtain ⟨q,hq,hql⟩:=zV4 HD5.out.2.1 hlt;obtain ⟨Aq,cq,huq,ecq,sq⟩:=TS5.at_ hq;obtain ⟨gq,oq,rfl,hgq⟩:=sq.place (List.length_pos_iff.1 (by omega));have hq0:q.getD 0 0≠0:=by have:=HNE5.out;rwa [zK0 hq] at this
          obtain ⟨m,hm⟩:∃ m,C-k=m+1:=⟨C-k-1,by omega⟩;have HM:=hQ9 hm;obtain ⟨N,hN⟩:∃ N,N=zS2 T2 k q d:=⟨_,rfl⟩;have HNL:Hid (N.length=T2.length/\T2.length=n):=⟨by rw [hN];exact qA3 _ _ _ _,HD5.out.2.1.1⟩;have HNK:Hid (N[k]?=some q/\T2[k]?=some q):=⟨by rw [hN,qJ1 hq,if_pos rfl],hq⟩
          have HNI:Hid (∀ i r,T2[i]?=some r->i≠k->N[i]?=some (zN1 r q d)/\Crs r q (zN1 r q d) d/\r.length=m+1):=by
            show ∀ i r,_
            intro i r hr hik;exact ⟨by rw [hN,qJ1 hr,if_neg hik],BrT.crs HD5.out.1 HD5.out.2.1 hlt hq hq0 hr hik,by rw [HD5.out.2.1.2 r (zA5 hr)];exact hm⟩
          have HNX:Hid (BrT n C (k+1) a2 (N.set k (q.drop 1)) (q.getD 0 0)/\shI (N.set k (q.drop 1)) n (C-(k+1))/\zH1 (N.set k (q.drop 1)) ((S+1)*2^(k+1)-1)/\zC2 (q.getD 0 0)<=5000):=by
            have h1:=jP5 HD5.out.1 HD5.out.2.1 hlt hq hq0 HD5.out.2.2.1;have h3:=yO7 (k:=k) (by omega) hc.out.2.2.2.2.2;have h4:1<=(S+1)*2^k:=Nat.mul_pos (by omega) (Nat.two_pow_pos k)
            have h2:2*((S+1)*2^k-1)+1=(S+1)*2^(k+1)-1:=by
              have:(S+1)*2^(k+1)=2*((S+1)*2^k):=by rw [Nat.pow_succ];simp [bY0,Nat.mul_left_comm]
              omega
            rw [h2] at h1;rw [hN];refine ⟨BrT.next HD5.out.1 HD5.out.2.1 hlt hq hq0,next_sh HD5.out.2.1 hq,h1,?_⟩
            have e:q[0]?=some (q.getD 0 0):=by
              rw [zA3 (show 0<q.length by omega),zA6,zA3 (show 0<q.length by omega)];rfl
            exact zB4 (HD5.out.2.2.1 q (zA5 hq) _ (zA5 e)) (by omega)
          have HLQ:Hid (∀ r∈T2,∀ z∈r,zC2 z<=5000):=by
            have h3:=yO7 (k:=k) (by omega) hc.out.2.2.2.2.2;exact fun r hr z hz=>zB4 (HD5.out.2.2.1 r hr z hz) (by omega)
          have HDN:=hQ9 (zA (BrT.ne HD5.out.1) HD5.out.2.2.2);have HQL:Hid (q.length=m+1/\m<=1000):=⟨by rw [hql];exact hm,by have:=hc.out.2.2.2.1;omega⟩;have hOQ:=HO5.out _ (zA5 huq);have HOQ:=hQ9 hOQ;have HU0:=hQ9 huq;have TM0:zE .u64 4294967296 w5 g 83 us2 (zF7 T2 N 0):=by rw [qA4];exact TS5
          clear hq hm hN hq0 hql huq HNE5 hOQ;have HTB:=hQ9 TS5.1;have hgs:g≠w2.heap.size:=by omega
          go_wp2
          go_loopw [52] (fun v52 wr => ∃ (i:Nat) (us3:List Value),i<=n/\zE .u64 4294967296 wr g 83 us3 (zF7 T2 N i)/\Hid (w5.grownBy wr (some g))/\Hid (zM1 us3 (fun x=>x=w.heap.size\/x=w2.heap.size))/\Hid (us3[k]?=some (.slice (some ⟨gq,oq,none⟩) q.length cq))/\Hid (∀ B,B<=w.heap.size->Apt w B us->Apt wr B us3)/\v52=.int .i64 (i:Int)) (fun v52 _=>n-(intOf v52).toNat)
          case atStart=>exact ⟨0,us2,by omega,TM0,qO8 _ _,HO5,HU0,HA5,rfl⟩
          case round =>
            clear TM0 ecq;obtain ⟨i,us3,hi,TM,HGi,HOi,HUi,HAi,rfl⟩:=hrel;obtain ⟨wi,hwi⟩:∃ wi,wi=wr:=⟨_,rfl⟩;subst hwi;by_cases hin:i<n
            · by_cases hik:i=k
              · have hneq:((i:Int) != (k:Int))=false:=by rw [bne_eq_false_iff_eq];omega
                have TM2:zE .u64 4294967296 wi g 83 us3 (zF7 T2 N (i+1)):=by
                  rw [jP2 HNL.out.1 (by rw [hik];exact HNK.out.1) (by rw [hik];exact HNK.out.2)];exact TM
                clear hik TM;go_wp2;go_roundw;case rel=>exact ⟨i+1,us3,by omega,TM2,HGi,HOi,HUi,HAi,by go_num⟩
                case measure=>simp [intOf];omega
              · have hneq:((i:Int) != (k:Int))=true:=by rw [bne_iff_ne];omega
                obtain ⟨r,hr,-⟩:=zV4 HD5.out.2.1 hin;have hr2:(zF7 T2 N i)[i]?=some r:=by rw [zX5 HNL.out.1 (by rw [HNL.out.2];omega)];exact hr
                have HIK:=hQ9 hik;have HR:=hQ9 (zA hr (zA hr2 (HNI.out i r hr hik)));have bd:=(Below.refl wi.heap.size wi).drew;have TMd:=TM.bQ bd;obtain ⟨Ar,cr,hur,ecr,srd⟩:=TMd.at_ hr2;have sqd:=(HTB.out.keepZ HGi.out sq).bQ bd;have BPd:=(Blk.grown BP5 HGi.out (fun e=>hgs e.symm)).bQ bd;have sud:=(HTB.out.keep HGi.out su5).bQ bd;obtain ⟨V0,V1,F0,F1⟩:=Blk.two BPd;have HGd:Hid (w5.grownBy wi.drew (some g)):=zJ9 HGi.out bd;have HC:Hid (d≠0/\(∀ z∈r,zC2 z<=5000)/\(∀ z∈q,zC2 z<=5000)/\zC2 d<=5000/\Crs r q (zN1 r q d) d):=⟨HDN.out.1,HLQ.out r (zA5 hr),HLQ.out q (zA5 HNK.out.2),HDN.out.2,HR.out.2.2.2.1⟩;obtain ⟨zs,hzs⟩:∃ zs,zs=zN1 r q d:=⟨_,rfl⟩;rw [<- hzs] at HC HR;have hzl:zs.length=m:=by rw [hzs,qX7,HR.out.2.2.2.2];omega
                have HLL:Hid (r.length=m+1/\q.length=m+1/\zs.length=m/\m<=1000):=⟨HR.out.2.2.2.2,HQL.out.1,hzl,HQL.out.2⟩;have HSET:Hid ((zF7 T2 N i).set i zs=zF7 T2 N (i+1)):=zX6 HNL.out.1 HR.out.2.2.1;have fi:=TMd.1.1.frozen i;clear hik hr hr2 hzs hzl TM HGi;go_upto_region 16 with (fail)
                go_region_law (go_simp;go_at_call 78;refine (jP0 _ _ _ r q zs d m _ (by exact srd) (by exact sqd) ⟨_,rfl,sud⟩ HLL.out HC).mono ?_;rintro e w6 ⟨gn,rfl,RN,hgn,b6⟩;have sR:=RN.sl rfl (by have:=HLL.out;omega);have TM6:=TMd.bQ b6;obtain ⟨A6',c6',hu6,ec6,-⟩:=TM6.at_ HR.out.2.1;have f6:=TM6.1.1.frozen i)
                all_goals
                  have TM7:=TM6.stored i sR;rw [HSET.out] at TM7;have HG7:=hQ9 ((zJ9 HGd.out b6).trans (zF4 w6 g i (.slice (some ⟨gn,0,none⟩) zs.length zs.length)));have hlt2:=BPd.lt;have HU7:Hid ((us3.set i (.slice (some ⟨gn,0,none⟩) zs.length zs.length))[k]?=some (.slice (some ⟨gq,oq,none⟩) q.length cq)):=by show _=_;rw [bW1 HIK.out];exact HUi.out
                  have HA7:=hQ9 (fun (B:Nat) (hB:B<=w.heap.size) (h:Apt w B us)=>Apt.new (w:=w6.setCell ⟨g,i,none⟩ (.slice (some ⟨gn,0,none⟩) zs.length zs.length)) (k:=i) (n:=zs.length) (c:=zs.length) ((HAi.out B hB h).grow (w':=wi.drew) (zO0 bd)) ((zO0 b6).trans (zS3 w6 g i _)) hgn (zB4 hB (zB4 HG5.out.size HGd.out.size)) ((zS3 w6 g i _).2 gn RN.bk))
                  have HO7:=hQ9 (HOi.out.set (u:=.slice (some ⟨gn,0,none⟩) zs.length zs.length) (fun x hx hG=>by
                    have e1:gn=x:=by simpa [Value.ownBlock] using hx
                    rcases hG with e2 | e2<;>omega) i)
                  clear TM6 sR RN TMd BPd srd sqd sud V0 V1 F0 F1 ecr ec6 f6 fi HGd HOi bd b6;go_wp2;go_roundw;case rel=>exact ⟨i+1,_,by omega,TM7,HG7,HO7,HU7,HA7,by go_num⟩
                  case measure=>simp [intOf];omega
            · have TMn:zE .u64 4294967296 wi g 83 us3 N:=by
                have h1:=qA5 HNL.out.1;rw [HNL.out.2] at h1;rw [show i=n by omega,h1] at TM;exact TM
              have sqn:=HTB.out.keepZ HGi.out sq;have BPn:=Blk.grown BP5 HGi.out (fun e=>hgs e.symm);have sun:=HTB.out.keep HGi.out su5;have BRn:=Blk.grown BR5 HGi.out (show w.heap.size≠g by omega);have hql1:1<=q.length:=by have:=HQL.out.1;omega
              obtain ⟨Q0,hQ0⟩:∃ Q0,Q0=q.getD 0 0:=⟨_,rfl⟩
              have hq0:q[0]?=some Q0:=by
                rw [hQ0,zA3 (show 0<q.length by omega),zA6,zA3 (show 0<q.length by omega)];rfl
              rw [<- hQ0] at HNX;obtain ⟨u0,hi0,p0,p1,e0⟩:=sqn.at2 hq0;rw [show oq+0*2=oq by omega] at p0 p1;obtain ⟨Au0,cu0,rfl,_⟩:=id e0;obtain ⟨A1,hA1⟩:∃ A1:Option Addr,A1=if cq=1 then some ⟨gq,oq,none⟩ else some ⟨gq,oq+2,none⟩:=⟨_,rfl⟩
              have sV:=sqn.cut1 hql1 hA1;obtain ⟨rN,hrN⟩:∃ rN,N[k]?=some rN:=⟨_,HNK.out.1⟩;obtain ⟨AN,cN,huN,ecN,-⟩:=TMn.at_ hrN;have fN:=TMn.1.1.frozen k;have hcq:q.length<=cq:=by obtain ⟨A',c',e,h1,h2⟩:=sqn.shape;injection e with _ _ e;omega
              have hix:=fun w=>yO2 (P:=prog) underlying83 (by kernel_rfl) (g:=gq) (o:=oq) (c:=cq) hi0 w;obtain ⟨V0,V1,F0,F1⟩:=Blk.two BPn;have HQ0:=hQ9 (zA hQ0 hq0);have HA1:=hQ9 hA1;clear hQ0 hq0 hA1;go_upto_region 18 with (fail);go_region
              all_goals
                rw [<- HA1.out];have G1:=zF4 wi g k (.slice A1 (q.length-1) (cq-1));have TM1:=TMn.stored k sV;have e1:=TMn.1.keep G1 e0;have BP1:=Blk.grown BPn G1 (fun e=>hgs e.symm)
                have HO1:=hQ9 (HOi.out.set (u:=.slice A1 (q.length-1) (cq-1)) (fun x hx=>HOQ.out x (by
                  rw [HA1.out] at hx
                  split at hx<;>simpa [Value.ownBlock] using hx)) k)
                have G2:=zX7 (wi.setCell ⟨g,k,none⟩ (.slice A1 (q.length-1) (cq-1))) w2.heap.size (.bool (ngB Q0)) (.slice Au0 (digs 4294967296 Q0.natAbs).length cu0);have TM2:=TM1.offZ BP1 no_ints2 (by decide) G2 (fun u hu e=>HO1.out u hu _ e (.inr rfl));have BP2:=zT7 BP1 (.bool (ngB Q0)) (.slice Au0 (digs 4294967296 Q0.natAbs).length cu0);have e2:=flow.off e1 BP1 no_ints2 G2;have BR2:=Blk.grown (Blk.grown BRn G1 (show w.heap.size≠g by omega)) G2 (by omega);have TMf:=TM2.drew;have BPf:Blk _ _ _ _:=BP2.drew;have ef:=e2.drew;have BRf:Blk _ _ _ _:=BR2.drew
                have HAf:=hQ9 (fun (B:Nat) (hB:B<=w.heap.size) (h:Apt w B us)=>((HAi.out B hB h).cut (x:=.slice A1 (q.length-1) (cq-1)) HUi.out (fun x hx=>by
                  rw [HA1.out] at hx
                  split at hx<;>simpa [Value.ownBlock] using hx)).grow ((zS3 wi g k (.slice A1 (q.length-1) (cq-1))).trans (yO6 _ w2.heap.size (.bool (ngB Q0)) (.slice Au0 (digs 4294967296 Q0.natAbs).length cu0))))
                have HGf:=hQ9 (zJ9 (zV3 ((HG5.out.trans HGi.out).trans G1) G2 (Nat.le_of_lt hgP)) (Below.drew (Below.refl _ _)));clear G1 TM1 e1 BP1 G2 TM2 BP2 e2 BR2 TMn sqn BPn sun BRn e0 sV ecN fN V0 V1 F0 F1 p0 p1 hix TM HGi HOi sq TS5 BP5 su5 BR5 HG5;go_wp2;go_roundw;case rel=>exact ⟨k+1,_,_,a2,Q0,_,neg2,by omega,HNX,TMf,BPf,ef,BRf,HP5,HGf,HO1,HAf,rfl,by go_num⟩
                case measure=>simp [intOf];omega
      · have hfe:f=n-k:=by omega
        have HDET:Hid (zC8 n (qF (zC5 T0))=0):=by
          have h1:=BrT.none HD.out.1 hlt fun i h1 h2=>by
            have h3:=hent (i-k) (by omega);rw [show k+(i-k)=i by omega] at h3;rw [<- h3];exact hz _ (by omega)
          have h2:=HP.out.fn _ ((zT2 n).wide hnC);show _=_
          rw [h2,h1];grind
        clear hz hnz hent hLl;have hb25:((k:Int)+(f:Int) == (n:Int))=true:=by rw [beq_iff_eq];omega
        have hb26:(k:Int)+(f:Int)=(n:Int):=by omega
        go_wp2_with fail
        refine (CZ _).mono ?_;rintro e w6 ⟨v6,rfl,k6,-,b6⟩;obtain ⟨u6,rfl,s6⟩:=k6;obtain ⟨A6,c6,rfl,_⟩:=id s6;have BR6:=BR4.bQ b6;obtain ⟨V0,V1,F0,F1⟩:=Blk.two BR6;have G8:=zX7 w6 w.heap.size (.bool (ngB Z)) (.slice A6 (digs 4294967296 Z.natAbs).length c6);have s8:=flow.off s6 BR6 no_ints2 G8;have HG8:=hQ9 (zV3 (zJ9 HG4.out b6) G8 (zB3 _));have B8:=zT7 BR6 (.bool (ngB Z)) (.slice A6 (digs 4294967296 Z.natAbs).length c6);obtain ⟨C0,C1,-,-⟩:=Blk.two B8;clear G8 TS4 BP4 su4 BR4 HG4 s6 BR6 b6 B8;go_wp2;refine bodyPost_ret (v:=.tuple #[.agg #[.bool (ngB Z),.slice A6 (digs 4294967296 Z.natAbs).length c6],.bool false]) (by simp [results,results45,go_sem,C0,C1]) rfl ?_;exact ⟨HG8.out,.inr ⟨_,rfl,by rw [<- HZ.out];exact ⟨_,rfl,s8⟩,HDET.out⟩⟩
    · obtain rfl:k=n:=by omega
      obtain ⟨V0,V1,F0,F1⟩:=Blk.two BP;obtain ⟨U0,U1,G0,G1⟩:=Blk.two BR;have G8:=zX7 wr w.heap.size (.bool (ngB d)) (.slice Au (digs 4294967296 d.natAbs).length cu);have s8:=flow.off su BR no_ints2 G8;have TS8:=TS.offZ BR no_ints2 (by decide) G8 (fun u hu e=>HOF.out u hu _ e (.inl rfl));have HG8:=hQ9 (zV3 HG.out G8 (zB3 _));have HAZ:=hQ9 (fun (B:Nat) (hB:B<=w.heap.size) (h:Apt w B us)=>(HAP.out B hB h).grow (yO6 wr w.heap.size (.bool (ngB d)) (.slice Au (digs 4294967296 d.natAbs).length cu)))
      have HLI:Hid (zH1 T 5000):=by
        have h3:=hc.out.2.2.2.2.2;exact fun r hr z hz=>zB4 (HD.out.2.2.1 r hr z hz) (by omega)
      have B8:=zT7 BR (.bool (ngB d)) (.slice Au (digs 4294967296 d.natAbs).length cu);obtain ⟨C0,C1,-,-⟩:=Blk.two B8;clear G8 TS BP su BR HG B8;go_wp2;refine bodyPost_ret (v:=.tuple #[.agg #[.bool (ngB d),.slice Au (digs 4294967296 d.natAbs).length cu],.bool neg]) (by simp [results,results45,go_sem,C0,C1]) rfl ?_;exact ⟨HG8.out,.inl ⟨us',T,d,neg,_,a,rfl,⟨_,rfl,s8⟩,TS8,HD.out.2.1,HLI.out,HD.out.2.2.2,HD.out.1,HP.out,HAZ.out⟩⟩
def sgn (b:Bool) (x:Int):Int:=if b=true then -x else x
theorem sgn_sg (b:Bool) (x:Int):sg (!(ngB x == b)) x.natAbs=sgn b x:=by
 cases b
 ·have e:(!(ngB x == false))=ngB x:=by cases ngB x<;>rfl
  rw [e];exact zW1 x
 ·have e:(!(ngB x == true)) = !(ngB x):=by cases ngB x<;>rfl
  rw [e];exact qT3 x
theorem yO9 (b0:Bool) (a0:Value) (x:Int) (w:World) (h0:IsZ w a0 x) (hl:zC2 x<=100000) :
  Calls prog 47 #[.bool b0,a0] w (zE9 (sgn b0 x) w):=by
 obtain ⟨u0,rfl,s0⟩:=h0;obtain ⟨A0,c0,rfl,_⟩:=id s0;obtain ⟨X,hX⟩:∃ X,X=sgn b0 x:=⟨_,rfl⟩;rw [<- hX];have HZ:Hid (sg (!(ngB x == b0)) x.natAbs=X):=by show _=_;rw [hX];exact sgn_sg b0 x
 have HL:Hid ((digs 4294967296 x.natAbs).length<=1000000):=by show _<=_;unfold zC2 at hl;omega
 clear hX
 go_enter func47,ntmps47
 go_upto_region 1 with (fail)
 obtain ⟨wx,hwx,bb,B0,B1,hsz⟩:=zK3 w 42 42 #[.bool (ngB x),.slice A0 (digs 4294967296 (x).natAbs).length c0] #[.bool false,.slice none 0 0];rw [hwx];clear hwx;have k0s:=s0.bQ bb;have hszb:=bb.size;refine zC6 7 [Pd.eq (.pointer (some ⟨w.heap.size,0,none⟩)),Pd.eq (.bool (ngB x)),Pd.eq (.bool b0),Pd.eq (.bool (!(ngB x == b0))),Pd.eq (.pointer (some ⟨w.heap.size,1,none⟩)),Pd.eq (.slice A0 (digs 4294967296 (x).natAbs).length c0),pz X wx.heap.size] (by kernel_rfl) ?ob1 ?done1
 case ob1 =>
  refine zA (zC4 rfl (zB5 rfl) (zB7 rfl rfl) (fun _=>by kernel_rfl) (fun _=>rfl)) ?_;refine zA (zC1 rfl (zB5 rfl) (zB6 (j:=0) (by kernel_rfl) rfl rfl) (fun w2 hb=>zD underlying4 rfl ((B0.bQ hb).cell 0)) (fun _ _=>rfl)) ?_;refine zA (zC0 rfl (zB5 rfl) (zB7 rfl rfl) (fun _ _ h=>h)) ?_;refine zA (zG3 rfl (zB5 rfl) (zB6 (j:=1) (by kernel_rfl) rfl rfl) (zB6 (j:=2) (by kernel_rfl) rfl rfl) (fun _ _ _ hx hy=>⟨_,by rw [hx,hy];exact qS7 _ _ _ _ underlying4 _,rfl⟩)) ?_;refine zA (zC4 rfl (zB5 rfl) (zB7 rfl rfl) (fun _=>by kernel_rfl) (fun _=>rfl)) ?_;refine zA (zC1 rfl (zB5 rfl) (zB6 (j:=4) (by kernel_rfl) rfl rfl) (fun w2 hb=>zD underlying40 rfl ((B0.bQ hb).cell 1)) (fun _ _=>rfl)) ?_;refine zA (zD8 rfl func79 (by kernel_rfl) (zB5 rfl) (zB6 (j:=3) (by kernel_rfl) rfl rfl) (zB6 (j:=5) (by kernel_rfl) rfl rfl) (fun w2 u0 u1 hb h0 h1=>by obtain rfl:=h0;obtain rfl:=h1;exact (whl.made_any _ _ _ X _ (k0s.bQ hb) HL.out HZ.out.symm).mono fun e w3 h=>zE9.pd h hb.size)) ?_
  trivial
 case done1 =>
  refine fun w1 hb1 v0 h0 v1 h1 v2 h2 v3 h3 v4 h4 v5 h5 v6 h6 b hbf => ?_;obtain rfl:=h0;obtain rfl:=h1;obtain rfl:=h2;obtain rfl:=h3;obtain rfl:=h4;obtain rfl:=h5;obtain ⟨q5,f5⟩:=h6;simp only [Act.put,zA0,zA2,zA1] at hbf;subst hbf;obtain ⟨u5,rfl,q5⟩:=q5;obtain ⟨A9,c9,rfl,_⟩:=id q5;have B9:=B1.bQ hb1;refine zG5 (i:=7) rfl rfl rfl rfl rfl rfl (cells:=[.bool (ngB X),.slice A9 (digs 4294967296 X.natAbs).length c9]) rfl B9 rfl (by kernel_rfl) (zJ1 rfl rfl) fun w9 hg9 BB9 => ?_;have k9:=flow.off q5 B9 no_ints2 hg9;have f9:=(f5 _ _ rfl).mono (show w.heap.size<=wx.heap.size from bb.size);have bb9:=((bb.trans (hb1.mono bb.size)).trans ((Below.refl _ _).grown hg9 (zB4 bb.size hb1.size) (fun g hg=>by injection hg with hg;omega)));obtain ⟨c0,c1,_,_⟩:=Blk.two BB9;refine zC7 ?_;go_wp2;exact bodyPost_ret (v:=.agg #[.bool (ngB X),.slice A9 (digs 4294967296 X.natAbs).length c9]) (by simp [results,results47,go_sem,c0,c1]) rfl ⟨_,rfl,zG k9 rfl rfl,zM3 f9,bb9⟩
theorem yP:∃ i,prog.info? 83=some i/\i.zero=some (.slice none 0 0)/\i.size=1/\i.bytes=24:=info_parts (P:=prog) (e:=83) (z:=.slice none 0 0) (size:=1) (bytes:=24) (by kernel_rfl)
theorem yP0 {b:Bool} {x:Int} {m:Nat} (h:zC2 x<=m):zC2 (sgn b x)<=m:=by
 unfold sgn
 split
 ·exact yG8 h
 ·exact h
end rat
end Go.Proofs.YtbfflcpmagjlnaaGreat
