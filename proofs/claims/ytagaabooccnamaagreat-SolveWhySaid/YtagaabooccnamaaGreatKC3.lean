/- Mathematics of the greatest common divisor, by what is left and by halving. Condition: as each says. -/
import Derived.Test.YtagaabooccnamaaGreatKC2
import Derived.Deep.LoopGhost
import Derived.Lib.SmallJoins
import Derived.ProofKit
import Derived.OpenShut
import Derived.Deep.SlicePairs
import Derived.Deep.Slices
open Go.Proofs.Tryz
open Go.Lib renaming hid -> hQ9
set_option linter.unusedVariables false
set_option linter.unusedSimpArgs false
set_option maxRecDepth 100000
set_option maxHeartbeats 6400000
open And renaming intro -> zA
open List renaming setIfInBounds_toArray -> zA0, set_cons_succ -> zA1, set_cons_zero -> zA2, getElem?_eq_getElem -> zA3, getElem?_eq_some_iff -> zA4, mem_of_getElem? -> zA5, getD_eq_getElem?_getD -> zA6, take_of_length_le -> zA7, length_append -> zA8, length_map -> zA9, replicate -> zB, getElem?_append_left -> zB0
open Nat renaming le_refl -> zB1, le_trans -> zB2
open Go.World renaming block_lt_of_cell? -> bQ0
open Classical renaming byContradiction -> bQ1
open List renaming getElem?_set_self -> bQ3, length_set -> bQ5, length_take -> bQ7, getElem?_map -> bQ8, take_add_one -> bQ9, getElem?_append_right -> bW0, getElem?_eq_none -> bW4, ext_getElem? -> bX0, length_cons -> bX3, map_toArray -> bX7
open Nat renaming mul_assoc -> bX8, pow_le_pow_right -> bX9, mul_le_mul_left -> bY, mul_comm -> bY0, pow_succ -> bY1, lt_of_lt_of_le -> bY2, eq_zero_or_pos -> bY3, zero_add -> bY5
namespace Go.Proofs.YtagaabooccnamaaGreat
namespace num
theorem gcd_mod (x y:Nat):Nat.gcd y (x % y)=Nat.gcd x y:=by
 rw [Nat.gcd_comm x y,Nat.gcd_rec y x,Nat.gcd_comm]
def odp (x:Nat):Nat:=x / 2^tz x
theorem zU2 {x:Nat} (h:0<x):x=2^tz x*odp x/\odp x % 2=1:=by
  induction x using Nat.strongRecOn with
  | ind x ih =>
    by_cases h1:x % 2=1
    · unfold odp;rw [qY0 h1];simp [h1]
    · have h2:x % 2=0:=by omega
      obtain ⟨e,o⟩:=ih (x / 2) (by omega) (by omega)
      have e2:odp x=odp (x / 2):=by
        unfold odp;rw [qD (by omega) h2,bY1,bY0,<- Nat.div_div_eq_div_mul]
      refine ⟨?_,by rw [e2];exact o⟩;rw [e2,qD (by omega) h2,bY1,Nat.mul_right_comm,<- e];omega
theorem odp_pos {x:Nat} (h:0<x):0<odp x:=by have:=(zU2 h).2;omega
theorem odp_le (x:Nat):odp x<=x:=Nat.div_le_self _ _
theorem yV8 {x:Nat} (h:0<x) (h2:x % 2=0):2*odp x<=x:=by
 obtain ⟨e,o⟩:=zU2 h;have ht:tz x=(tz x-1)+1:=by rw [qD (by omega) h2];omega
 rw [ht,bY1] at e
 have:=Nat.pow_pos (n:=tz x-1) (show 0<2 by omega)
 have h3:1*(2*odp x)<=2^(tz x-1)*(2*odp x):=Nat.mul_le_mul_right _ this;rw [<- bX8] at h3;rw [<- bX8,Nat.one_mul] at h3;omega
theorem cop2 {o:Nat} (h:o % 2=1) (k:Nat):Nat.Coprime (2^k) o:=by
 refine Nat.Coprime.pow_left k ?_;show Nat.gcd 2 o=1
 rw [Nat.gcd_rec,h];rfl
theorem gcd_odp {x y:Nat} (hx:0<x) (hy:y % 2=1):Nat.gcd (odp x) y=Nat.gcd x y:=by
 have e:=(zU2 hx).1;have h:=Nat.Coprime.gcd_mul_left_cancel (odp x) (cop2 hy (tz x));rw [<- e] at h;exact h.symm
theorem yD7 (i j p q:Nat) (hp:p % 2=1) (hij:i<=j):Nat.gcd (2^i*p) (2^j*q)=2^i*Nat.gcd p q:=by
 have e:2^j*q=2^i*(2^(j-i)*q):=by rw [<- bX8,<- Nat.pow_add];congr 2;omega
 rw [e,Nat.gcd_mul_left,Nat.gcd_comm p,Nat.Coprime.gcd_mul_left_cancel q (cop2 hp (j-i)),Nat.gcd_comm]
theorem yV9 {x y:Nat} (hx:0<x) (hy:0<y):Nat.gcd x y=Nat.gcd (odp x) (odp y)*2^min (tz x) (tz y):=by
 obtain ⟨e1,o1⟩:=zU2 hx;obtain ⟨e2,o2⟩:=zU2 hy;rw [bY0];rcases Nat.le_total (tz x) (tz y) with h | h
 ·rw [Nat.min_eq_left h]
  conv=>lhs;rw [e1,e2]
  exact yD7 _ _ _ _ o1 h
 ·rw [Nat.min_eq_right h,Nat.gcd_comm x y,Nat.gcd_comm (odp x)]
  conv=>lhs;rw [e1,e2]
  exact yD7 _ _ _ _ o2 h
def BG (g x y:Nat):Prop:=x % 2=1/\y % 2=1/\Nat.gcd x y=g
theorem BG.swap {g x y:Nat} (h:BG g x y):BG g y x:=⟨h.2.1,h.1,by rw [Nat.gcd_comm];exact h.2.2⟩
theorem BG.step {g x y:Nat} (h:BG g x y) (hlt:y<x):BG g (odp (x-y)) y/\0<x-y/\odp (x-y)+y<x+y:=by
 obtain ⟨h1,h2,h3⟩:=h;have h0:0<x-y:=by omega
 refine ⟨⟨(zU2 h0).2,h2,?_⟩,h0,?_⟩
 ·rw [gcd_odp h0 h2,Nat.gcd_sub_self_left (by omega),h3]
 ·have:=yV8 h0 (by omega)
  omega
theorem BG.done {g x:Nat} (h:BG g x x):g=x:=by rw [<- h.2.2,Nat.gcd_self]
theorem BG.start {x y:Nat} (hx:0<x) (hy:0<y):BG (Nat.gcd (odp x) (odp y)) (odp x) (odp y):=⟨(zU2 hx).2,(zU2 hy).2,rfl⟩
def zN0 (l:List Nat):Nat:=l.foldl Nat.gcd 0
theorem yW (l:List Nat) (x:Nat):zN0 (l ++ [x])=Nat.gcd (zN0 l) x:=by simp [zN0]
theorem yD8 {x:Nat} (h:0<x):2^tz x<=x:=by
 have e:=(zU2 h).1;have h2:=odp_pos h;have h3:2^tz x*1<=2^tz x*odp x:=bY _ h2;omega
theorem yW0 (x:Nat):x / 4294967296^(tz x / 32) / 2^(tz x % 32)=odp x:=by
 have e:(4294967296:Nat)=2^32:=by decide
 unfold odp;rw [Nat.div_div_eq_div_mul,e,<- Nat.pow_mul,<- Nat.pow_add]
 congr 2;omega
theorem tz_limb {x:Nat} (h:0<x):tz x / 32<(digs 4294967296 x).length:=by
 have h1:=yD8 h;have h2:=zK0 (B:=4294967296) (by omega) x;have e:(4294967296:Nat)=2^32:=by decide
 rw [e,<- Nat.pow_mul] at h2;have h3:2^tz x<2^(32*(digs 4294967296 x).length):=by rw [<- e] at h2;exact Nat.lt_of_le_of_lt h1 h2
 have h4:=(Nat.pow_lt_pow_iff_right (show 1<2 by omega)).1 h3;omega
end num
namespace nat
open Go.RowKit num mem limb
def RetSs (k:IntKind) (l:List Nat) (w:World) (e:Ending) (w':World):Prop:=∃ v,e=.returned v/\IsS w' k v l/\Below w.heap.size w w'
theorem qF4 {B x:Nat} (hB:2<=B) (h:x=0):(digs B x).length<=0:=by rw [h,zI9];simp
theorem qF5 {B x:Nat} (hB:2<=B) (h:0<x):0<(digs B x).length:=by
 rcases bY3 (digs B x).length with h0 | h0
 ·have:=(zX6 hB).1 h0;omega
 ·exact h0
theorem yD9 (v u:Value) (x y:Nat) (w:World) (h:IsS w .i64 v (digs 10000 x)) (h':IsS w .i64 u (digs 10000 y)) (hl:(digs 10000 x).length<=100000) (hl':(digs 10000 y).length<=100000) :
  Calls prog 59 #[v,u] w (RetSs .i64 (digs 10000 (Nat.gcd x y)) w):=by
 go_enter func59,ntmps59
 go_wp2
 go_loopg [0,1] y (fun gk va vb wr => ∃ (p q:Nat),q<=gk/\IsS wr .i64 va (digs 10000 p)/\IsS wr .i64 vb (digs 10000 q)/\(digs 10000 p).length<=100000/\(digs 10000 q).length<=100000/\Hid (Nat.gcd p q=Nat.gcd x y)/\Below w.heap.size w wr)
 case atStart=>exact ⟨x,y,zB1 _,h,h',hl,hl',rfl,Below.refl _ _⟩
 case round =>
  obtain ⟨p,q,hq,hp,hqs,lp,lq,HG,hb⟩:=hrel;obtain ⟨A2,c2,rfl,_⟩:=id hqs;by_cases hq0:q=0
  ·have hz:=qF4 (B:=10000) (by omega) hq0;have HE:Hid (Nat.gcd x y=p):=by have h1:=HG.out;rw [hq0,Nat.gcd_zero_right] at h1;exact h1.symm
   clear hq0;go_wp2;go_ret;exact ⟨_,rfl,by rw [HE.out];exact hp,hb⟩
  ·have hz:=qF5 (B:=10000) (x:=q) (by omega) (by omega);have hml:=dec_mod p q;have hlt:p % q<q:=Nat.mod_lt _ (by omega);have HG2:Hid (Nat.gcd q (p % q)=Nat.gcd x y):=by show _=_;rw [gcd_mod];exact HG.out
   go_wp2_with fail
   refine (qD2 _ _ p q _ hp hqs lp lq (by omega)).mono ?_;rintro e w' ⟨v3,v4,rfl,k3,k4,f3,f4,b4⟩;have hb2:=hb.trans (b4.mono hb.size);go_wp2
   go_roundg (p % q)
   case rel=>exact ⟨q,p % q,zB1 _,hqs.bQ b4,k4,lq,by omega,HG2,hb2⟩
   case measure=>omega
theorem qA9 (v:Value) (x:Nat) (w:World) (h:IsS w .u64 v (digs 4294967296 x)) (hl:(digs 4294967296 x).length<=90000) :
  Calls prog 158 #[v] w (zD1 .u64 (digs 4294967296 x) w):=by
 go_enter func158,ntmps158;go_wp2_with fail
 refine (qK2 _ x _ _ 1 0 _ h (by omega) rfl rfl (by omega) (by omega) x (by omega)).mono ?_;rintro e w1 ⟨v1,rfl,k1,f1,b1⟩;go_wp2;go_ret;exact ⟨_,rfl,k1,f1,b1⟩
theorem digs_up {B:Nat} (hB:2<=B) (q:Nat) {y:Nat} (hy:0<y):digs B (B^q*y)=zB q 0 ++ digs B y:=by
  induction q with
  | zero=>simp
  | succ q ih =>
    have hp:0<B^q*y:=Nat.mul_pos (Nat.pow_pos (by omega)) hy;have e:B^(q+1)*y=B*(B^q*y):=by rw [bY1,bY0 (B^q) B,bX8]
    rw [e,zT2 hB (Nat.mul_pos (by omega) hp),Nat.mul_mod_right,Nat.mul_div_cancel_left _ (by omega),ih,List.replicate_succ,List.cons_append]
theorem qL6 (v:Value) (x:Nat) (w:World) (h:IsS w .u64 v (digs 4294967296 x)) (hl:(digs 4294967296 x).length<=90000) (hx:0<x) (y:Nat) (hy:y=odp x) :
  Calls prog 160 #[v] w (zD1 .u64 (digs 4294967296 y) w):=by
 obtain ⟨t,ht⟩:∃ t,t=tz x:=⟨_,rfl⟩;have hgl:t / 32<(digs 4294967296 x).length:=by rw [ht];exact tz_limb hx
 have HT:=hQ9 ht;have HY:Hid (y=x / 4294967296^(t / 32) / 2^(t % 32)):=by show _=_;rw [hy,ht,yW0]
 have HD:Hid ((digs 4294967296 x).drop (t / 32)=digs 4294967296 (x / 4294967296^(t / 32))):=qR1 (n:=t / 32) (by omega);have hdl:=zG7 (B:=4294967296) (by omega) (Nat.div_le_self x (4294967296^(t / 32)));clear ht hy;obtain ⟨A,c,rfl,hc,hm,hr⟩:=id h;have hm2:=hm;unfold maxLen at hm2;have hs:IsS w .u64 (.slice (A.map fun x=>x.add (t / 32)) ((digs 4294967296 x).length-t / 32) (c-t / 32)) (digs 4294967296 (x / 4294967296^(t / 32))):=by rw [<- HD.out];exact hr.isDrop hc hm (by omega)
 have hcap:t / 32<c:=by omega
 go_enter func160,ntmps160;go_wp2_with fail
 refine (zeros_any _ x t _ h (by omega) HT.out).mono ?_;rintro e w1 ⟨rfl,rfl⟩;go_wp2_with fail
 all_goals
  refine (qZ1 _ (x / 4294967296^(t / 32)) _ (t % 32) _ (by omega) (by first | exact hs | skip) (by omega) (by omega) y HY.out).mono ?_
  rintro e w1 ⟨v1,rfl,k1,f1,b1⟩;go_wp2;go_ret;exact ⟨_,rfl,k1,f1,b1⟩
theorem yW1 (v:Value) (x:Nat) (nI:Int) (n:Nat) (w:World) (hnI:nI=(n:Int)) (h:IsS w .u64 v (digs 4294967296 x)) (hl:(digs 4294967296 x).length<=90000) (hx:0<x) (hn:n<=3000000) (y:Nat) (hy:y=x*2^n) :
  Calls prog 162 #[v,.int .i64 nI] w (zD1 .u64 (digs 4294967296 y) w):=by
 subst hnI;have hz:0<x*2^(n % 32):=Nat.mul_pos hx (Nat.pow_pos (by omega));have hzl:=qR6 (x:=x) (u:=n % 32) (by omega)
 have HE:Hid (digs 4294967296 y=zB (n / 32) 0 ++ digs 4294967296 (x*2^(n % 32))):=by
  show _=_
  rw [<- digs_up (by omega) _ hz,hy,qD7,Nat.mul_left_comm,<- Nat.pow_add]
  congr 3;omega
 clear hy
 go_enter func162,ntmps162;go_wp2_with fail
 refine (shl_ok _ x _ (n % 32) _ (by omega) h (by omega) (by omega) _ rfl).mono ?_;rintro e w1 ⟨v1,rfl,k1,f1,b1⟩;obtain ⟨A1,c1,rfl,hc1,hm1,hr1⟩:=k1
 go_wp2_with (first
  | (at_make;refine zQ0 rfl _ _ rfl zJ5 (n / 32) rfl rfl (by omega) (by omega) (by omega) (zB1 _) ?_;intro w2 hown2 hb2 hz2)
  | (at_builtin;refine zZ8 rfl (.tmp 16) (.tmp 17) rfl zJ5 rfl hown2 rfl (news:=digs 4294967296 (x*2^(n % 32))) rfl (hr1.bQ hb2) (by simp;omega) hb2.size ?_;intro v' w3 hown3 hb3 hg3))
 go_ret;exact ⟨_,rfl,by rw [HE.out];exact hown3.isS,hown3.fresh.mono b1.size,(b1.trans (hb2.mono b1.size)).trans (hb3.mono b1.size)⟩
theorem yW2 {x n:Nat} (h:(digs 4294967296 x).length<=n):x<2^(32*n):=by
 have h2:=zK0 (B:=4294967296) (by omega) x;rw [qD7] at h2;exact bY2 h2 (bX9 (by omega) (by omega))
theorem tz_le {x n:Nat} (hx:0<x) (h:(digs 4294967296 x).length<=n):tz x<=32*n:=by
 have h1:=Nat.lt_of_le_of_lt (yD8 hx) (yW2 h)
 have:=(Nat.pow_lt_pow_iff_right (show 1<2 by omega)).1 h1
 omega
theorem qL7 (x:Nat):(digs 4294967296 (odp x)).length<=(digs 4294967296 x).length:=zG7 (by omega) (odp_le x)
theorem yE (x y:Nat):(digs 4294967296 (x-y)).length<=(digs 4294967296 x).length:=zG7 (by omega) (Nat.sub_le _ _)
theorem qL8 (v u:Value) (x y:Nat) (w:World) (h:IsS w .u64 v (digs 4294967296 x)) (h':IsS w .u64 u (digs 4294967296 y)) (hl:(digs 4294967296 x).length<=90000) (hl':(digs 4294967296 y).length<=90000) (z:Nat) (hz:z=Nat.gcd x y) :
  Calls prog 138 #[v,u] w (zD1 .u64 (digs 4294967296 z) w):=by
 have HZ:=hQ9 hz;clear hz;by_cases hx0:x=0
 ·have hzl:=qF4 (B:=4294967296) (by omega) hx0;have HE:Hid (z=y):=by show _=_;rw [HZ.out,hx0,Nat.gcd_zero_left]
  clear hx0
  go_enter func138,ntmps138;go_wp2_with fail
  refine (qA9 _ x _ h hl).mono ?_;rintro e w1 ⟨v1,rfl,k1,f1,b1⟩;go_wp2_with fail
  refine (qA9 _ y _ (h'.bQ b1) hl').mono ?_;rintro e w2 ⟨v2,rfl,k2,f2,b2⟩;obtain ⟨A1,c1,rfl,_⟩:=id k1;go_wp2;go_ret;exact ⟨_,rfl,by rw [HE.out];exact k2,f2.mono b1.size,b1.trans (b2.mono b1.size)⟩
 ·have hxp:0<x:=by omega
  have hxl:=qF5 (B:=4294967296) (by omega) hxp;have hxl2:(((digs 4294967296 x).length:Int) == 0)=false:=by rw [beq_eq_false_iff_ne];omega
  clear hx0;by_cases hy0:y=0
  ·have hzl:=qF4 (B:=4294967296) (by omega) hy0;have HE:Hid (z=x):=by show _=_;rw [HZ.out,hy0,Nat.gcd_zero_right]
   clear hy0
   go_enter func138,ntmps138;go_wp2_with fail
   refine (qA9 _ x _ h hl).mono ?_;rintro e w1 ⟨v1,rfl,k1,f1,b1⟩;go_wp2_with fail
   refine (qA9 _ y _ (h'.bQ b1) hl').mono ?_;rintro e w2 ⟨v2,rfl,k2,f2,b2⟩;obtain ⟨A1,c1,rfl,_⟩:=id k1;obtain ⟨A2,c2,rfl,_⟩:=id k2;go_wp2;go_ret;exact ⟨_,rfl,by rw [HE.out];exact k1.bQ b2,f1,b1.trans (b2.mono b1.size)⟩
  ·have hyp:0<y:=by omega
   have hyl:=qF5 (B:=4294967296) (by omega) hyp;have hyl2:(((digs 4294967296 y).length:Int) == 0)=false:=by rw [beq_eq_false_iff_ne];omega
   clear hy0;obtain ⟨t,ht⟩:∃ t,t=tz x:=⟨_,rfl⟩;obtain ⟨s,hs⟩:∃ s,s=tz y:=⟨_,rfl⟩;have htl:=tz_le hxp hl;have hsl:=tz_le hyp hl';rw [<- ht] at htl;rw [<- hs] at hsl;obtain ⟨g,hg⟩:∃ g,g=Nat.gcd (odp x) (odp y):=⟨_,rfl⟩;have HG:Hid (z=g*2^min t s):=by show _=_;rw [HZ.out,yV9 hxp hyp,hg,ht,hs]
   obtain ⟨p0,hp0⟩:∃ p,p=odp x:=⟨_,rfl⟩;obtain ⟨q0,hq0⟩:∃ q,q=odp y:=⟨_,rfl⟩;have hpl:=qL7 x;have hql:=qL7 y;have HB:Hid (BG g p0 q0):=by show BG _ _ _;rw [hg,hp0,hq0];exact BG.start hxp hyp
   rw [<- hp0] at hpl;rw [<- hq0] at hql;have HT:=hQ9 ht;have HS:=hQ9 hs;have HP:=hQ9 hp0;have HQ:=hQ9 hq0;rcases (show (s<t/\min t s=s)\/(¬ s<t/\min t s=t) from by omega) with ⟨hst,hm⟩|⟨hst,hm⟩
   all_goals
    rw [hm] at HG;clear ht hs hg hp0 hq0 HZ hm
    go_enter func138,ntmps138;go_wp2_with fail
    refine (qA9 _ x _ h hl).mono ?_;rintro e w1 ⟨v1,rfl,k1,f1,b1⟩;go_wp2_with fail
    refine (qA9 _ y _ (h'.bQ b1) hl').mono ?_;rintro e w2 ⟨v2,rfl,k2,f2,b2⟩;replace k1:=k1.bQ b2;have b3:=b1.trans (b2.mono b1.size);obtain ⟨A1,c1,rfl,_⟩:=id k1;obtain ⟨A2,c2,rfl,_⟩:=id k2;clear h h' b1 b2 f1 f2;go_wp2_with fail
    refine (zeros_any _ x t _ k1 (by omega) HT.out).mono ?_;rintro e w3 ⟨rfl,rfl⟩;go_wp2_with fail
    refine (zeros_any _ y s _ k2 (by omega) HS.out).mono ?_;rintro e w3 ⟨rfl,rfl⟩;go_wp2_with fail
    refine (qL6 _ x _ k1 hl hxp p0 HP.out).mono ?_;rintro e w3 ⟨v3,rfl,k3,f3,b4⟩;have b5:=b3.trans (b4.mono b3.size);go_wp2_with fail
    refine (qL6 _ y _ (k2.bQ b4) hl' hyp q0 HQ.out).mono ?_;rintro e w4 ⟨v4,rfl,k4,f4,b6⟩;have b7:=b5.trans (b6.mono b5.size);replace k3:=k3.bQ b6;clear k1 k2 b3 b4 b5 b6 f3 f4;go_wp2_with fail
    refine (zT5 _ _ p0 q0 (ord p0 q0) _ k3 k4 rfl).mono ?_;rintro e w5 ⟨rfl,b8⟩;have b9:=b7.trans (b8.mono b7.size);replace k3:=k3.bQ b8;replace k4:=k4.bQ b8;clear b7 b8;go_wp2
    go_loopg [0,1,6] (p0+q0) (fun gk va vb vo wr => ∃ (p q:Nat) (o:Int),p+q<=gk/\IsS wr .u64 va (digs 4294967296 p)/\IsS wr .u64 vb (digs 4294967296 q)/\(digs 4294967296 p).length<=90000/\(digs 4294967296 q).length<=90000/\Hid (BG g p q)/\Hid (o=ord p q)/\vo=.int .i64 o/\Below w.heap.size w wr)
    case atStart=>exact ⟨p0,q0,_,zB1 _,k3,k4,by omega,by omega,HB,rfl,rfl,b9⟩
    case round =>
     clear k3 k4 b9;obtain ⟨p,q,o,hpq,kp,kq,lp,lq,HBG,HO,rfl,hb⟩:=hrel;rcases Nat.lt_trichotomy p q with hlt | heq | hlt
     ·obtain rfl:o = -1:=by rw [HO.out];exact zS2 hlt
      clear HO;obtain ⟨hs1,hs2,hs3⟩:=HBG.out.swap.step hlt;have HS1:=hQ9 hs1;have hs4:=yE q p;have hs5:=qL7 (q-p);clear hs1;go_wp2_with fail
      refine (qD8 _ _ q p _ kq kp (by omega) (by omega) (q-p) rfl).mono ?_;rintro e w5 ⟨v5,rfl,k5,f5,b5⟩;go_wp2_with fail
      refine (qL6 _ (q-p) _ k5 (by omega) hs2 (odp (q-p)) rfl).mono ?_;rintro e w6 ⟨v6,rfl,k6,f6,b6⟩;have kp2:=(kp.bQ b5).bQ b6;have b7:=(hb.trans (b5.mono hb.size));have b8:=b7.trans (b6.mono b7.size);go_wp2_with fail
      refine (zT5 _ _ (odp (q-p)) p (ord (odp (q-p)) p) _ k6 kp2 rfl).mono ?_;rintro e w7 ⟨rfl,b9⟩;have b10:=b8.trans (b9.mono b8.size);go_wp2
      go_roundg (odp (q-p)+p)
      case rel=>exact ⟨odp (q-p),p,_,zB1 _,k6.bQ b9,kp2.bQ b9,by omega,by omega,HS1,rfl,rfl,b10⟩
      case measure=>omega
     ·obtain rfl:o=0:=by rw [HO.out,heq];exact qC7 q
      subst heq;have HZ:=(fun m (hh:Hid (z=g*2^m))=>(show Hid (z=p*2^m) from by show _=_;rw [hh.out,HBG.out.done])) _ HG;have hpos:0<p:=by have:=HBG.out.1;omega
      clear HO;go_wp2_with fail
      refine (yW1 _ p _ _ _ rfl kp (by omega) hpos (by omega) z HZ.out).mono ?_;rintro e w5 ⟨v5,rfl,k5,f5,b5⟩;go_wp2;go_ret;exact ⟨_,rfl,k5,f5.mono hb.size,hb.trans (b5.mono hb.size)⟩
     ·obtain rfl:o=1:=by rw [HO.out];exact zT3 hlt
      clear HO;obtain ⟨hs1,hs2,hs3⟩:=HBG.out.step hlt;have HS1:=hQ9 hs1;have hs4:=yE p q;have hs5:=qL7 (p-q);clear hs1;go_wp2_with fail
      refine (qD8 _ _ p q _ kp kq (by omega) (by omega) (p-q) rfl).mono ?_;rintro e w5 ⟨v5,rfl,k5,f5,b5⟩;go_wp2_with fail
      refine (qL6 _ (p-q) _ k5 (by omega) hs2 (odp (p-q)) rfl).mono ?_;rintro e w6 ⟨v6,rfl,k6,f6,b6⟩;have kq2:=(kq.bQ b5).bQ b6;have b7:=(hb.trans (b5.mono hb.size));have b8:=b7.trans (b6.mono b7.size);go_wp2_with fail
      refine (zT5 _ _ (odp (p-q)) q (ord (odp (p-q)) q) _ k6 kq2 rfl).mono ?_;rintro e w7 ⟨rfl,b9⟩;have b10:=b8.trans (b9.mono b8.size);go_wp2
      go_roundg (odp (p-q)+q)
      case rel=>exact ⟨odp (p-q),q,_,zB1 _,k6.bQ b9,kq2.bQ b9,by omega,by omega,HS1,rfl,rfl,b10⟩
      case measure=>omega
theorem gcd_len {x y n:Nat} (hx:(digs 4294967296 x).length<=n) (hy:(digs 4294967296 y).length<=n):(digs 4294967296 (Nat.gcd x y)).length<=n:=by
 rcases bY3 x with h | h
 ·rw [h,Nat.gcd_zero_left];exact hy
 ·exact zB2 (zG7 (by omega) (Nat.gcd_le_left y h)) hx
def Lens (n:Nat) (xs:List Nat):Prop:=∀ x∈xs,(digs 4294967296 x).length<=n
theorem Lens.at {n:Nat} {xs:List Nat} (h:Lens n xs) {k x:Nat} (hk:xs[k]?=some x):(digs 4294967296 x).length<=n:=h x (zA5 hk)
theorem yW3 {xs:List Nat} {k x:Nat} (h:xs[k]?=some x):zN0 (xs.take (k+1))=Nat.gcd (zN0 (xs.take k)) x:=by rw [zX8 h,yW]
theorem qS6 (V:Value) (vs:List Value) (xs:List Nat) (w:World) (hV:IsV w V vs) (hN:qD9 w vs xs) (hl:vs.length<=1000000) (hS:Lens 90000 xs) :
  Calls prog 102 #[V] w (zD1 .u64 (digs 4294967296 (zN0 xs)) w):=by
 obtain ⟨A,c,rfl,hc,hcells⟩:=hV;have HC:=hQ9 hcells;have HN:=hQ9 hN;have HX:Hid (vs.length=xs.length):=hN.1;have HS:=hQ9 hS;clear hcells hN hS
 go_enter func102,ntmps102
 go_wp2
 go_loopw [3,9] (fun vg vi wr => ∃ (k G:Nat),k<=vs.length/\Hid (G=zN0 (xs.take k))/\(digs 4294967296 G).length<=90000/\IsS wr .u64 vg (digs 4294967296 G)/\zE1 w.heap.size vg/\Below w.heap.size w wr/\vi=.int .i64 (k:Int)) (fun _ vi _=>vs.length-(intOf vi).toNat)
 case atStart=>exact ⟨0,0,by omega,rfl,by rw [zI9];simp,by rw [zI9];exact (zQ w w.heap.size _ .u64 (zB1 _)).isS,qJ7 (zB1 _),zC6 (zB1 _) _,rfl⟩
 case round =>
  obtain ⟨k,G,hk,HG,lG,kG,fG,hb,rfl⟩:=hrel;by_cases hp:k<vs.length
  ·obtain ⟨u,x,hu,hx,hv⟩:=HN.out.at_ hp;obtain ⟨ad,rfl,hcell⟩:=HC.out k u hu;have hcell2:=(hb.cell (bQ0 w _ hcell)).trans hcell;have lx:=HS.out.at hx;have hv2:=hv.bQ hb;have hlz:(digs 4294967296 (Nat.gcd G x)).length<=90000:=gcd_len lG lx;obtain ⟨z,hz⟩:∃ z,z=Nat.gcd G x:=⟨_,rfl⟩;rw [<- hz] at hlz;have HT:Hid (z=zN0 (xs.take (k+1))):=by show _=_;rw [yW3 hx,<- HG.out];exact hz
   obtain ⟨t,ht⟩:∃ t,t=ord x G:=⟨_,rfl⟩;have HO:=hQ9 ht;have HZ:=hQ9 hz;obtain ⟨A1,c1,rfl,_⟩:=id hv2;obtain ⟨A2,c2,rfl,_⟩:=id kG;clear hu hx hv hcell hz;by_cases hlt:x<G
   ·have ht0:t<0:=by rw [ht];exact zX7.2 hlt
    clear ht;rcases bY3 x with hx0 | hx0
    ·have hzl:=qF4 (B:=4294967296) (by omega) hx0;clear hx0
     go_wp2_with fail
     refine (zT5 _ _ x G t _ hv2 kG HO.out).mono ?_;rintro e w1 ⟨rfl,b1⟩;go_wp2_with fail
     refine (qL8 _ _ G x _ (kG.bQ b1) (hv2.bQ b1) lG lx z HZ.out).mono ?_;rintro e w2 ⟨v2,rfl,k2,f2,b2⟩;have b3:=hb.trans (b1.mono hb.size);have b4:=b3.trans (b2.mono b3.size);go_wp2;go_roundw;case rel=>exact ⟨k+1,z,by omega,HT,hlz,k2,f2.mono b3.size,b4,by go_num⟩
     case measure=>simp [intOf];omega
    ·have hzl:=qF5 (B:=4294967296) (by omega) hx0;have hml:=yB4 (x:=G) (y:=x) hx0;have HZ2:Hid (z=Nat.gcd (G % x) x):=by show _=_;rw [HZ.out,Nat.gcd_comm G x,Nat.gcd_rec]
     go_wp2_with fail
     refine (zT5 _ _ x G t _ hv2 kG HO.out).mono ?_;rintro e w1 ⟨rfl,b1⟩;have b3:=hb.trans (b1.mono hb.size);replace hv2:=hv2.bQ b1;replace kG:=kG.bQ b1;go_wp2_with fail
     refine (yB6 _ _ G x _ kG hv2 lG lx hx0 (G % x) rfl).mono ?_;rintro e w2 ⟨v2,rfl,k2,f2,b2⟩;have b4:=b3.trans (b2.mono b3.size);go_wp2_with fail
     refine (qL8 _ _ (G % x) x _ k2 (hv2.bQ b2) (by omega) lx z HZ2.out).mono ?_;rintro e w3 ⟨v3,rfl,k3,f3,b5⟩;have b6:=b4.trans (b5.mono b4.size);go_wp2;go_roundw;case rel=>exact ⟨k+1,z,by omega,HT,hlz,k3,f3.mono b4.size,b6,by go_num⟩
     case measure=>simp [intOf];omega
   ·have ht0:¬ t<0:=by rw [ht,zX7];exact hlt
    clear ht;rcases bY3 G with hx0 | hx0
    ·have hzl:=qF4 (B:=4294967296) (by omega) hx0;have HZ2:Hid (z=Nat.gcd x G):=by show _=_;rw [HZ.out,Nat.gcd_comm]
     clear hx0;go_wp2_with fail
     refine (zT5 _ _ x G t _ hv2 kG HO.out).mono ?_;rintro e w1 ⟨rfl,b1⟩;go_wp2_with fail
     refine (qL8 _ _ x G _ (hv2.bQ b1) (kG.bQ b1) lx lG z HZ2.out).mono ?_;rintro e w2 ⟨v2,rfl,k2,f2,b2⟩;have b3:=hb.trans (b1.mono hb.size);have b4:=b3.trans (b2.mono b3.size);go_wp2;go_roundw;case rel=>exact ⟨k+1,z,by omega,HT,hlz,k2,f2.mono b3.size,b4,by go_num⟩
     case measure=>simp [intOf];omega
    ·have hzl:=qF5 (B:=4294967296) (by omega) hx0;have hml:=yB4 (x:=x) (y:=G) hx0;have HZ2:Hid (z=Nat.gcd (x % G) G):=by show _=_;rw [HZ.out,Nat.gcd_rec]
     go_wp2_with fail
     refine (zT5 _ _ x G t _ hv2 kG HO.out).mono ?_;rintro e w1 ⟨rfl,b1⟩;have b3:=hb.trans (b1.mono hb.size);replace hv2:=hv2.bQ b1;replace kG:=kG.bQ b1;go_wp2_with fail
     refine (yB6 _ _ x G _ hv2 kG lx lG hx0 (x % G) rfl).mono ?_;rintro e w2 ⟨v2,rfl,k2,f2,b2⟩;have b4:=b3.trans (b2.mono b3.size);go_wp2_with fail
     refine (qL8 _ _ (x % G) G _ k2 (kG.bQ b2) (by omega) lG z HZ2.out).mono ?_;rintro e w3 ⟨v3,rfl,k3,f3,b5⟩;have b6:=b4.trans (b5.mono b4.size);go_wp2;go_roundw;case rel=>exact ⟨k+1,z,by omega,HT,hlz,k3,f3.mono b4.size,b6,by go_num⟩
     case measure=>simp [intOf];omega
  ·have HE:Hid (G=zN0 xs):=by have h1:=HG.out;rw [zA7 (by have:=HX.out;omega)] at h1;exact h1
   go_wp2;go_ret;exact ⟨_,rfl,by rw [<- HE.out];exact kG,fG,hb⟩
end nat
namespace whl
open Go.RowKit num mem nat txt str flow
def zU3 (b:Bool) (l:List Nat) (most:Nat):Int:=sg b (zY0 l most)
theorem yE0 (b:Bool) (l:List Nat) (most:Nat):zC5 (zU3 b l most)<=most:=by unfold zC5 zU3;rw [zT9];exact qR2 l most
theorem yE1 (b:Bool) (v:Value) (l:List Nat) (mI:Int) (most:Nat) (w:World) (hmI:mI=(most:Int)) (h:IsS w .u64 v l) (hu:Lt 18446744073709551616 l) (hmost:most<=1000000) :
  Calls prog 99 #[.agg #[.bool b,v],.int .i64 mI] w (zF6 (zU3 b l most) w):=by
 obtain ⟨A,c,rfl,_⟩:=id h;have HM:=hQ9 hmI;clear hmI;have hsh:Hid (IsS w .u64 (.slice A l.length c) l):=h
 go_enter func99,ntmps99
 go_upto_region 1 with (fail)
 obtain ⟨wx,hwx,bb,B0,B1,hsz⟩:=zI4 w 60 60 #[.bool b,.slice A l.length c] #[.bool false,.slice none 0 0];rw [hwx];clear hwx;have k0s:=h.bQ bb;obtain ⟨x00,x01,_,_⟩:=Blk.two B0;go_wp2_with fail
 refine (yA4 _ l _ most _ HM.out k0s hu hmost).mono ?_;rintro e w1 ⟨v1,rfl,k1,f1,b1⟩;obtain ⟨A1,c1,rfl,_⟩:=id k1;have B0':=B0.bQ b1;have B1':=B1.bQ b1;have bb1:=bb.trans (b1.mono bb.size);have hs:=b1.size;obtain ⟨x10,x11,z10,z11⟩:=Blk.two B0';obtain ⟨y10,y11,q10,q11⟩:=Blk.two B1';clear x00 x01 B0 B1;obtain ⟨y,hy⟩:∃ y,y=zY0 l most:=⟨_,rfl⟩;have HY:=hQ9 hy.symm;rw [<- hy] at k1 f1 |-;clear hy;by_cases hy0:0<y
 ·have hn:0<(digs 4294967296 y).length:=qE1 hy0;have HE:Hid (ngB (sg b y)=b):=qE7 hy0;have HAb:Hid ((sg b y).natAbs=y):=zT9 b y;have HC:Hid (zU3 b l most=sg b y):=by show _=_;unfold zU3;rw [HY.out]
  cases b
  all_goals
   go_wp2;refine bodyPost_ret (by simp [results,results99,go_sem,y10,y11];rfl) rfl ?_;rw [HC.out];exact zY6 bb1 (by omega) (show w.heap.size+1<wx.heap.size from hsz) (by rw [HAb.out];exact k1) f1 HE.out.symm
 ·obtain rfl:y=0:=by omega
  have HC:Hid (zU3 b l most=sg b 0):=by show _=_;unfold zU3;rw [HY.out]
  have HE:Hid (ngB (sg b 0)=false):=qS0 b;have HAb:Hid ((sg b 0).natAbs=0):=zT9 b 0;have HD:Hid (digs 4294967296 0=[]):=zI9 _;rw [HD.out] at k1 f1 |-;cases b
  all_goals
   go_wp2;refine bodyPost_ret (by simp [results,results99,go_sem,y10,y11];rfl) rfl ?_;rw [HC.out];exact zY6 bb1 (by omega) (show w.heap.size+1<wx.heap.size from hsz) (by rw [HAb.out,HD.out];exact k1) f1 HE.out.symm
theorem exact_q {x y q:Int} (hy:y≠0) (h:x=q*y):x.natAbs % y.natAbs=0/\x.natAbs / y.natAbs=q.natAbs/\sg (!(ngB x == ngB y)) q.natAbs=q:=by
 have e:x.natAbs=q.natAbs*y.natAbs:=by rw [h,Int.natAbs_mul]
 have hp:0<y.natAbs:=by omega
 refine ⟨by rw [e];exact Nat.mul_mod_left _ _,by rw [e];exact Nat.mul_div_cancel _ hp,?_⟩;by_cases hq:q=0
 ·subst hq;cases (!(ngB x == ngB y))<;>rfl
 ·have hx:sg (!(ngB q == ngB y)) (q.natAbs*y.natAbs)=x:=by rw [h];exact qS2 q y
  have hs:ngB x=(!(ngB q == ngB y)):=by rw [<- hx];exact qE7 (Nat.mul_pos (by omega) hp)
  rw [hs];have h1:=zW q
  revert h1
  cases ngB q<;>cases ngB y<;>exact id
theorem yW4 (a0:Value) (x:Int) (a1:Value) (y:Int) (q:Int) (w:World) (h0:IsZ w a0 x) (h1:IsZ w a1 y) (hl:zC5 x<=20000) (hl2:zC5 y<=20000) (hy:y≠0) (hq:x=q*y) :
  Calls prog 148 #[a0,a1] w (qL4 q 0 w):=by
 obtain ⟨u0,rfl,s0⟩:=h0;obtain ⟨A0,c0,rfl,_⟩:=id s0;obtain ⟨u1,rfl,s1⟩:=h1;obtain ⟨A1,c1,rfl,_⟩:=id s1;have HL:Hid ((digs 4294967296 x.natAbs).length<=90000):=zB2 hl (by omega);have HL2:Hid ((digs 4294967296 y.natAbs).length<=90000):=zB2 hl2 (by omega);obtain ⟨hm1,hm2,hm3⟩:=exact_q hy hq;have HY:Hid (0<y.natAbs):=by show 0<_;omega
 have HM1:=hQ9 hm1;have HM2:=hQ9 hm2;have HZ:=hQ9 hm3;clear hm1 hm2 hm3 hy hq
 go_enter func148,ntmps148
 go_upto_region 1 with (fail)
 obtain ⟨wx,hwx,bb,B0,B1,B2,hsz⟩:=zK1 w 60 60 60 #[.bool (ngB x),.slice A0 (digs 4294967296 (x).natAbs).length c0] #[.bool (ngB y),.slice A1 (digs 4294967296 (y).natAbs).length c1] #[.bool false,.slice none 0 0];rw [hwx];clear hwx;have k0s:=s0.bQ bb;have k0:IsZ wx (.agg #[.bool (ngB x),.slice A0 (digs 4294967296 (x).natAbs).length c0]) (x):=zG9 k0s rfl rfl;have k1s:=s1.bQ bb;have k1:IsZ wx (.agg #[.bool (ngB y),.slice A1 (digs 4294967296 (y).natAbs).length c1]) (y):=zG9 k1s rfl rfl;have hszb:=bb.size;have bb0:=bb.size;refine zC3 10 [Pd.eq (.pointer (some ⟨w.heap.size,1,none⟩)),Pd.eq (.slice A0 (digs 4294967296 (x).natAbs).length c0),Pd.eq (.pointer (some ⟨w.heap.size+1,1,none⟩)),Pd.eq (.slice A1 (digs 4294967296 (y).natAbs).length c1),pt .u64 (digs 4294967296 q.natAbs) 0 wx.heap.size,pt .u64 (digs 4294967296 q.natAbs) 0 wx.heap.size,ps .u64 (digs 4294967296 q.natAbs) wx.heap.size,Pd.eq (.int .i64 0),ps .u64 (digs 4294967296 q.natAbs) wx.heap.size,Pd.eq (.int .i64 0)] (by kernel_rfl) ?ob3 ?done3
 case ob3 =>
  refine zA (zB9 rfl (zB3 rfl) (zB5 rfl rfl) (fun _=>by kernel_rfl) (fun _=>rfl)) ?_;refine zA (zB7 rfl (zB3 rfl) (zB4 (j:=0) (by kernel_rfl) rfl rfl) (fun w2 hb=>zC1 underlying50 rfl ((B0.bQ hb).cell 1)) (fun _ _=>rfl)) ?_;refine zA (zB9 rfl (zB3 rfl) (zB5 rfl rfl) (fun _=>by kernel_rfl) (fun _=>rfl)) ?_;refine zA (zB7 rfl (zB3 rfl) (zB4 (j:=2) (by kernel_rfl) rfl rfl) (fun w2 hb=>zC1 underlying50 rfl ((B1.bQ hb).cell 1)) (fun _ _=>rfl)) ?_;refine zA (zC7 rfl func55 (by kernel_rfl) (zB3 rfl) (zB4 (j:=1) (by kernel_rfl) rfl rfl) (zB4 (j:=3) (by kernel_rfl) rfl rfl) (fun w2 u0 u1 hb h0 h1=>by obtain rfl:=h0;obtain rfl:=h1;exact (qA2 _ _ _ _ _ (k0s.bQ hb) (k1s.bQ hb) HL.out HL2.out HY.out _ HM1.out HM2.out.symm).mono fun e w3 h=>zO.pd h hb.size)) ?_;refine zA (zB8 rfl (zB3 rfl) (zB4 (j:=4) (by kernel_rfl) rfl rfl) (fun _ _ h=>h)) ?_;refine zA (zF9 rfl (zB3 rfl) (zB4 (j:=5) (by kernel_rfl) rfl rfl) (fun w2 u hu=>by obtain ⟨v,rfl,q1,q2⟩:=hu;exact ⟨v,rfl,q1,q2⟩)) ?_;refine zA (zF9 rfl (zB3 rfl) (zB4 (j:=5) (by kernel_rfl) rfl rfl) (fun w2 u hu=>by obtain ⟨v,rfl,q1,q2⟩:=hu;exact ⟨_,rfl,rfl⟩)) ?_;refine zA (zD6 rfl (zB3 rfl) (zB4 (j:=6) (by kernel_rfl) rfl rfl) (fun _ _ h=>h)) ?_;refine zA (zD6 rfl (zB3 rfl) (zB4 (j:=7) (by kernel_rfl) rfl rfl) (fun _ _ h=>h)) ?_
  trivial
 case done3 =>
  refine fun w1 hb1 v0 h0 v1 h1 v2 h2 v3 h3 v4 h4 v5 h5 v6 h6 v7 h7 v8 h8 v9 h9 b hbf => ?_;obtain rfl:=h0;obtain rfl:=h1;obtain rfl:=h2;obtain rfl:=h3;obtain rfl:=h7;obtain rfl:=h9;clear h4;clear h5;obtain ⟨q6,f6⟩:=h6;obtain ⟨q8,f8⟩:=h8;simp only [Act.put,zA0,zA2,zA1] at hbf;subst hbf;obtain ⟨A6,c6,rfl,_⟩:=id q8;have kq:=q8;have kqf:=f8;replace B0:=B0.bQ hb1;replace B1:=B1.bQ hb1;replace B2:=B2.bQ hb1;replace k0s:=k0s.bQ hb1;replace k1s:=k1s.bQ hb1;replace k0:=k0.bQ hb1;replace k1:=k1.bQ hb1;replace bb:=bb.trans (hb1.mono bb.size);have hszb:=bb.size;obtain ⟨x00,x01,y00,y01⟩:=Blk.two B0;obtain ⟨x10,x11,y10,y11⟩:=Blk.two B1;obtain ⟨x20,x21,y20,y21⟩:=Blk.two B2;refine zC4 ?_;go_upto_region 4 with (fail);refine zC3 7 [Pd.eq (.pointer (some ⟨w.heap.size,0,none⟩)),Pd.eq (.bool (ngB x)),Pd.eq (.pointer (some ⟨w.heap.size+1,0,none⟩)),Pd.eq (.bool (ngB y)),Pd.eq (.bool (!((ngB x) == (ngB y)))),Pd.eq (.slice A6 (digs 4294967296 q.natAbs).length c6),pz (q) wx.heap.size] (by kernel_rfl) ?ob4 ?done4
  case ob4 =>
   refine zA (zB9 rfl (zB3 rfl) (zB5 rfl rfl) (fun _=>by kernel_rfl) (fun _=>rfl)) ?_;refine zA (zB7 rfl (zB3 rfl) (zB4 (j:=0) (by kernel_rfl) rfl rfl) (fun w2 hb=>zC1 underlying4 rfl ((B0.bQ hb).cell 0)) (fun _ _=>rfl)) ?_;refine zA (zB9 rfl (zB3 rfl) (zB5 rfl rfl) (fun _=>by kernel_rfl) (fun _=>rfl)) ?_;refine zA (zB7 rfl (zB3 rfl) (zB4 (j:=2) (by kernel_rfl) rfl rfl) (fun w2 hb=>zC1 underlying4 rfl ((B1.bQ hb).cell 0)) (fun _ _=>rfl)) ?_;refine zA (zE6 rfl (zB3 rfl) (zB4 (j:=1) (by kernel_rfl) rfl rfl) (zB4 (j:=3) (by kernel_rfl) rfl rfl) (fun _ _ _ hx hy=>⟨.bool (!((ngB x) == (ngB y))),by rw [hx,hy];exact qL1 _ _ _ _ underlying4 _,rfl⟩)) ?_;refine zA (zB8 rfl (zB3 rfl) (zB5 rfl rfl) (fun _ _ h=>h)) ?_;refine zA (zC7 rfl func105 (by kernel_rfl) (zB3 rfl) (zB4 (j:=4) (by kernel_rfl) rfl rfl) (zB4 (j:=5) (by kernel_rfl) rfl rfl) (fun w2 u0 u1 hb h0 h1=>by obtain rfl:=h0;obtain rfl:=h1;exact qF2 _ _ _ (q) _ (kq.bQ hb) kqf HZ.out)) ?_
   trivial
  case done4 =>
   refine fun w2 hb2 v0 h0 v1 h1 v2 h2 v3 h3 v4 h4 v5 h5 v6 h6 b hbf => ?_;obtain rfl:=h0;obtain rfl:=h1;obtain rfl:=h2;obtain rfl:=h3;obtain rfl:=h4;obtain rfl:=h5;obtain ⟨q6,f6⟩:=h6;simp only [Act.put,zA0,zA2,zA1] at hbf;subst hbf;obtain ⟨u6,rfl,q6⟩:=q6;obtain ⟨A9,c9,rfl,_⟩:=id q6;have B9:=B2.bQ hb2;refine zH0 (i:=7) rfl rfl rfl rfl rfl rfl (cells:=[.bool (ngB (q)),.slice A9 (digs 4294967296 (q).natAbs).length c9]) rfl B9 rfl (by kernel_rfl) (zG8 rfl rfl) fun w9 hg9 BB9 => ?_;have k9:=off q6 B9 no_ints2 hg9;have f9:=(f6 _ _ rfl).mono bb0;have bb9:=((bb.trans (hb2.mono bb.size)).trans ((Below.refl _ _).grown hg9 (zB2 bb.size hb2.size) (fun g hg=>by injection hg with hg;omega)));obtain ⟨c0,c1,_,_⟩:=Blk.two BB9;refine zQ4 (i:=8) (.int .i64 0) rfl rfl rfl rfl rfl fun b hbf => ?_;simp only [Act.put,zA0,zA2,zA1] at hbf;subst hbf;refine zC4 ?_;go_wp2;exact bodyPost_ret (v:=.tuple #[.agg #[.bool (ngB (q)),.slice A9 (digs 4294967296 (q).natAbs).length c9],.int .i64 0]) (by simp [results,results148,go_sem,c0,c1]) rfl ⟨_,rfl,zG9 k9 rfl rfl,zL7 f9,bb9⟩
theorem qL9 (n:Int) (w:World) (h1 : -9223372036854775808<=n) (h2:n<=9223372036854775807) :
  Calls prog 82 #[.int .i64 n] w (zF6 n w):=by
 by_cases hn:n<0
 ·have HW:Hid (IntKind.u64.wrap (-IntKind.u64.wrap n)=((n.natAbs:Nat):Int)):=by
   show _=_
   rw [IntKind.wrap_u64,IntKind.wrap_u64];omega
  have HB:Hid (IntKind.u64.wrap (-IntKind.u64.wrap n)<=18446744073709551615):=by
   show _<=_
   rw [HW.out];omega
  have HZ:Hid (sg true n.natAbs=n):=by show _=_;rw [zV8];omega
  go_enter func82,ntmps82;go_wp2_with fail
  refine (qD5 _ n.natAbs _ HW.out HB.out).mono ?_;rintro e w1 ⟨v1,rfl,k1,f1,b1⟩;obtain ⟨A1,C1,rfl,_⟩:=id k1;go_wp2_with fail
  refine (qF2 true _ n.natAbs n _ k1 f1 HZ.out).mono ?_;rintro e w2 ⟨v2,rfl,⟨⟨u2,rfl,k2⟩,f2⟩,b2⟩;obtain ⟨A2,C2,rfl,_⟩:=id k2;have B2:=((Blk.new w 60 #[.bool false,.slice none 0 0]).bQ b1).bQ b2;obtain ⟨c0,c1,g0,g1⟩:=B2.two;have bb1:=(zC6 (zB1 w.heap.size) (.cells #[.bool false,.slice none 0 0] 60)).trans (b1.mono (by simp));have bb2:=bb1.trans (b2.mono bb1.size);go_wp2;exact bodyPost_ret (v:=.agg #[.bool (ngB n),.slice A2 (digs 4294967296 n.natAbs).length C2]) (by simp [results,results82,go_sem,c0,c1]) rfl (zY6 bb2 (zB1 _) (by simp) k2 (f2 _ _ rfl) rfl)
 ·have HW:Hid (n=((n.natAbs:Nat):Int)):=by show _=_;omega
  have HZ:Hid (sg false n.natAbs=n):=by show _=_;rw [zV9];omega
  have hn0:0<=n:=by omega
  go_enter func82,ntmps82;go_wp2_with fail
  refine (qD5 _ n.natAbs _ HW.out (by omega)).mono ?_;rintro e w1 ⟨v1,rfl,k1,f1,b1⟩;obtain ⟨A1,C1,rfl,_⟩:=id k1;go_wp2_with fail
  refine (qF2 false _ n.natAbs n _ k1 f1 HZ.out).mono ?_;rintro e w2 ⟨v2,rfl,⟨⟨u2,rfl,k2⟩,f2⟩,b2⟩;obtain ⟨A2,C2,rfl,_⟩:=id k2;have B2:=((Blk.new w 60 #[.bool false,.slice none 0 0]).bQ b1).bQ b2;obtain ⟨c0,c1,g0,g1⟩:=B2.two;have bb1:=(zC6 (zB1 w.heap.size) (.cells #[.bool false,.slice none 0 0] 60)).trans (b1.mono (by simp));have bb2:=bb1.trans (b2.mono bb1.size);go_wp2;exact bodyPost_ret (v:=.agg #[.bool (ngB n),.slice A2 (digs 4294967296 n.natAbs).length C2]) (by simp [results,results82,go_sem,c0,c1]) rfl (zY6 bb2 (zB1 _) (by simp) k2 (f2 _ _ rfl) rfl)
end whl
namespace whl
open Go.RowKit Go.ChangeShapes Go.WideShapes Go.ChangeAt Go.Joins Go.Deep num mem nat txt str flow
theorem yE2 {H:Type} {enc:TypeId × Value->H} {P:Program} {W:World} {t e:TypeId} {n:Nat} {v:Value} {y:DataW H × List MemPlace} (ht:P.underlying t=some (.slice e)) (he:P.underlying e=some (.int .u64)) (hc:P.cellsOf e=1)
  (h:DataW.trod enc P W 0 (fun _=>true) true n t [v]=some y):∃ l:List Nat,IsS W .u64 v l/\Lt 18446744073709551616 l:=by
 rcases open_ints ht he hc h with ⟨hcs,hx⟩|⟨a,len,cap,zs,hcs,_,hl,hm,hz,hx,hcell,hwz⟩
 ·injection hcs with hcs _;subst hcs;exact ⟨[],qJ4 _ _,Lt.nil _⟩
 ·injection hcs with hcs _;subst hcs;simp only [if_true] at hz;have hlen:((zs.take len).map Int.toNat).length=len:=by simp;omega
  refine ⟨(zs.take len).map Int.toNat,⟨some a,cap,by rw [hlen],by rw [hlen];exact hl,hm,?_⟩,?_⟩
  ·intro i d hd;have hi:i<len:=by rw [<- hlen];exact (zA4.1 hd).1
   have hi2:i<zs.length:=by omega
   refine ⟨a,rfl,?_⟩;rw [hcell i hi2];have hb:=yA3 (hwz _ (List.getElem_mem hi2))
   have hd2:d=(zs[i]).toNat:=by
    rw [bQ8,List.getElem?_take_of_lt hi,zA3 hi2] at hd;simpa using hd.symm
   rw [zA6,zA3 hi2,hd2];simp only [Option.getD_some];rw [Int.toNat_of_nonneg hb.1]
  ·intro d hd;obtain ⟨z,hz1,rfl⟩:=List.mem_map.1 hd;have hb:=yA3 (hwz z (List.mem_of_mem_take hz1));omega
theorem yE3 {x y:Int} {m n:Nat} (h:zC5 x<=m) (h':zC5 y<=n):zC5 (x+y)<=m+n+1:=by have:=yV1 x y;omega
theorem zU4 {x y:Int} {m n:Nat} (h:zC5 x<=m) (h':zC5 y<=n):zC5 (x*y)<=m+n:=by have:=qA4 x y;omega
def pn (t:TypeId) (cells:Array Value) (B:Nat):Pd:=⟨fun w v => ∃ g,v=.pointer (some ⟨g,0,none⟩)/\B<=g/\Blk w g t cells,fun h hb=>by obtain ⟨g,e,h1,h2⟩:=h;exact ⟨g,e,h1,h2.bQ hb⟩⟩
def pze (x:Int) (n:Int) (B:Nat):Pd:=⟨fun w t => ∃ v,t=.tuple #[v,.int .i64 n]/\IsZ w v x/\zQ5 B v,fun h hb=>by obtain ⟨v,e,h1,h2⟩:=h;exact ⟨v,e,h1.bQ hb,h2⟩⟩
theorem qL4.pd {x:Int} {n:Int} {w:World} {e:Ending} {w':World} {B:Nat} (h:qL4 x n w e w') (hB:B<=w.heap.size):zH9 (pze x n B) w e w':=by
 obtain ⟨v,rfl,h1,h2,h3⟩:=h;exact ⟨_,rfl,⟨v,rfl,h1,h2.mono hB⟩,h3⟩
end whl
namespace flow
open Go.RowKit num mem
def qF6 (L:List Oper) (q n:Nat) (o:Oper):Bool :=
 (List.range n).all fun i=>i == q || (zR3 o).contains i || (List.range n).any fun k=>decide (i<k) && (!(k == q) && ((L[k]?).map fun x=>(zR3 x).contains i).getD false)
theorem yW5 {L:List Oper} {q:Nat} {o:Oper} {ms:List (Option Value)} (hlen:ms.length=L.length) (h:qF6 L q L.length o=true) (hdone:∀ e∈o.after,Region.binds .any e=true -> ∃ v,ms[e.on]?=some (some v))
    (hdc:∀ (j:Nat) (x:Oper) (v:Value),L[j]?=some x->ms[j]?=some (some v) -> ∀ e∈x.after,Region.binds .any e=true -> ∃ v,ms[e.on]?=some (some v)):∀ i,i<L.length->i≠q -> ∃ v,ms[i]?=some (some v):=by
  unfold qF6 at h
  have key:∀ k i,i+k=L.length->i<L.length->i≠q -> ∃ v,ms[i]?=some (some v):=by
    intro k
    induction k using Nat.strongRecOn with
    | ind k ih =>
      intro i hik hi hiq;have h1:=List.all_eq_true.1 h i (by simp [hi]);rw [Bool.or_eq_true,Bool.or_eq_true] at h1;rcases h1 with (h1 | h1)|h1
      · exact absurd (by simpa using h1) hiq
      · obtain ⟨e,he,hb,rfl⟩:=zY3.1 (by simpa using h1);exact hdone e he hb
      · obtain ⟨m,hm,h2⟩:=List.any_eq_true.1 h1;rw [Bool.and_eq_true,Bool.and_eq_true] at h2;have hm2:m<L.length:=by simpa using hm
        have him:i<m:=by simpa using h2.1
        have hmq:m≠q:=by simpa using h2.2.1
        obtain ⟨v,hv⟩:=ih (L.length-m) (by omega) m (by omega) hm2 hmq;have h3:=h2.2.2;rw [zA3 hm2] at h3;obtain ⟨e,he,hb,rfl⟩:=zY3.1 (by simpa using h3);exact hdc m _ v (zA3 hm2) hv e he hb
  intro i hi hiq;exact key (L.length-i) i (by omega) hi hiq
def zU5 (n m q:Nat):Array Bool:=((zB n true).set q false ++ zB m false).toArray
theorem lst_but {L:List Oper} {q m:Nat} {ms:List (Option Value)} (hlen:ms.length=L.length) (hbut:∀ i,i<L.length->i≠q -> ∃ v,ms[i]?=some (some v)) (hmq:ms[q]?=some none):lst ms m=zU5 L.length m q:=by
 unfold lst zU5
 congr 2
 refine List.ext_getElem (by simp [hlen]) fun i h1 h2 => ?_;have h3:i<ms.length:=by simpa using h1
 rw [List.getElem_map,List.getElem_set];by_cases e:q=i
 ·subst e;rw [if_pos rfl];rw [zA3 h3] at hmq;rw [Option.some.inj hmq];rfl
 ·rw [if_neg e];obtain ⟨v,hv⟩:=hbut i (by omega) (fun h=>e h.symm);rw [zA3 h3] at hv;rw [Option.some.inj hv];simp
theorem yW6 {P:Program} {Q:Exit->Act->World->Prop} {ops:Array Oper} {L L2:List Oper} {Φ : List Pd} {w0:World} {a0:Act} (hop:ops.toList=L ++ L2) (hd:zL2 L=true) (hback:zQ3 0 L=true) {q:Nat} {oq:Oper} (hq:L[q]?=some oq) (hcov:(L2.all fun o=>zV4 L L.length o || qF6 L q L.length o)=true) (hsel:Region.noSelect ops=true) (hfree:Region.free .any ops (zU5 L.length L2.length q) q=true) (hrdy:(Region.ready .any ops (zU5 L.length L2.length q)).contains q=true) (hQ:∀ c a w v,Q (.panic c) (a.put oq.dst v) w->Q (.panic c) a w)
    (late:∀ ms w,St L Φ w0 oq ms w -> ∃ v,Yields P ops oq v (zD5 a0 L ms)/\(ph Φ q).p w v) (hA:isA oq=false)
    (ob:Obs P Q ops L Φ w0 a0 0 L)
    (done:∀ ms w,(∀ i,i<L.length -> ∃ v,ms[i]?=some (some v))->Inv L Φ w0 ms w->wpAny P .any ops Q L2.length (lst ms L2.length) (zD5 a0 L ms) w) :
    ∀ (k:Nat) (ms:List (Option Value)) (w:World),(ms.filter Option.isNone).length=k->Inv L Φ w0 ms w->wpAny P .any ops Q (k+L2.length) (lst ms L2.length) (zD5 a0 L ms) w:=by
  have hsz:ops.size=L.length+L2.length:=by
    have:=congrArg List.length hop
    simpa using this
  have hat:∀ i,ops[i]?=(L ++ L2)[i]?:=fun i=>by rw [<- hop,Array.getElem?_toList]
  intro k
  induction k with
  | zero =>
    intro ms w hk hI;rw [bY5];refine done ms w (fun i hi => ?_) hI;have hi2:i<ms.length:=by rw [hI.len];exact hi
    rcases hm:ms[i] with _ | v
    · exfalso;have h1:ms[i]∈ms.filter Option.isNone:=List.mem_filter.2 ⟨List.getElem_mem hi2,by rw [hm];rfl⟩;rw [List.length_eq_zero_iff.1 hk] at h1;simp at h1
    · exact ⟨v,by rw [zA3 hi2,hm]⟩
  | succ k ih =>
    intro ms w hk hI
    -- some operation of L has not come up
    have hnot:¬ ∀ i,i<L.length -> ∃ v,ms[i]?=some (some v):=by
      intro hall
      have h0:ms.filter Option.isNone=[]:=by
        rw [List.filter_eq_nil_iff];intro m hm;obtain ⟨i,hi,rfl⟩:=List.mem_iff_getElem.1 hm;obtain ⟨v,hv⟩:=hall i (by rw [<- hI.len];exact hi);rw [zA3 hi] at hv;rw [Option.some.inj hv];simp
      rw [h0] at hk;simp at hk
    -- the least one that has not may come up
    have least:∀ n i,i<=n->i<L.length->Region.ready .any ops (lst ms L2.length)=[] -> ∃ v,ms[i]?=some (some v):=by
      intro n
      induction n with
      | zero =>
        intro i hin hi hr;obtain rfl:i=0:=by omega
        have hi2:0<ms.length:=by rw [hI.len];exact hi
        rcases hm:ms[0] with _ | v
        · exfalso
          have:0∈Region.ready .any ops (lst ms L2.length):=by
            rw [mem_ready];refine ⟨by rw [zS5 hi2,hm];rfl,L[0],by rw [hat,zB0 hi,zA3 hi],?_⟩;intro e he hb
            have:=zY4 L 0 0 _ hback (zA3 hi) e he hb
            omega
          rw [hr] at this;simp at this
        · exact ⟨v,by rw [zA3 hi2,hm]⟩
      | succ n ihn =>
        intro i hin hi hr;have hi2:i<ms.length:=by rw [hI.len];exact hi
        rcases hm:ms[i] with _ | v
        · exfalso
          have:i∈Region.ready .any ops (lst ms L2.length):=by
            rw [mem_ready];refine ⟨by rw [zS5 hi2,hm];rfl,L[i],by rw [hat,zB0 hi,zA3 hi],?_⟩;intro e he hb;have h1:=zY4 L 0 i _ hback (zA3 hi) e he hb;have h3:e.on<ms.length:=by rw [hI.len];omega
            obtain ⟨v,hv⟩:=ihn e.on (by omega) (by omega) hr;rw [zS5 h3];rw [zA3 h3] at hv;rw [Option.some.inj hv];rfl
          rw [hr] at this;simp at this
        · exact ⟨v,by rw [zA3 hi2,hm]⟩
    have hcnt:∀ (i:Nat) (v:Value),ms[i]?=some none->((ms.set i (some v)).filter Option.isNone).length=k:=by
      intro i v hmi
      have key:∀ (l:List (Option Value)) (i:Nat),l[i]?=some none->((l.set i (some v)).filter Option.isNone).length+1=(l.filter Option.isNone).length:=by
        intro l
        induction l with
        | nil=>intro i h;simp at h
        | cons m l ihl =>
          intro i h
          cases i with
          | zero =>
            obtain rfl:m=none:=by simpa using h
            simp
          | succ i =>
            have:=ihl i (by simpa using h)
            rw [zA1,List.filter_cons,List.filter_cons]
            split
            · simp only [bX3];omega
            · exact this
      have:=key ms i hmi
      omega
    have hqL:q<L.length:=(zA4.1 hq).1;by_cases hbut:∀ i,i<L.length->i≠q -> ∃ v,ms[i]?=some (some v)
    · have hq2:q<ms.length:=by rw [hI.len];exact hqL
      have hmq:ms[q]?=some none:=by
        rw [zA3 hq2];rcases hm:ms[q] with _ | v
        · rfl
        · exact absurd (fun i hi=>by
            by_cases e:i=q
            · subst e;exact ⟨v,by rw [zA3 hq2,hm]⟩
            · exact hbut i hi e) hnot
      have hdq:∀ e∈oq.after,Region.binds .any e=true -> ∃ v,ms[e.on]?=some (some v):=by
        intro e he hb
        have:=zY4 L 0 q _ hback hq e he hb
        exact hbut e.on (by omega) (by omega)
      obtain ⟨v,hy,hp⟩:=late ms w ⟨hI.len,hI.bQ,hI.ty,hdq⟩;have el:lst ms L2.length=zU5 L.length L2.length q:=lst_but hI.len hbut hmq;have hoq:ops[q]?=some oq:=by rw [hat,zB0 hqL];exact hq
      have hnext:=ih (ms.set q (some v)) w (hcnt q v hmq) (hI.step hq hmq hdq (Below.refl _ _) hp (fun h=>by rw [hA] at h;cases h));rw [<- qE2 v hq2,<- zT8 v L ms a0 q oq hd hq hmq] at hnext;rw [show k+1+L2.length=(k+L2.length)+1 from by omega];exact wpAny_take hoq hsel (by rw [el];exact hfree) (by rw [el];exact hrdy) (fun c a w h=>hQ c a w v h) hy hnext
    rw [show k+1+L2.length=(k+L2.length)+1 from by omega];refine ⟨fun hr=>absurd (fun i hi=>least i i (zB1 _) hi hr) hnot,fun i hi => ?_⟩;obtain ⟨h1,o,ho,haft⟩:=mem_ready.1 hi
    have hdeps:∀ e∈o.after,Region.binds .any e=true -> ∃ v,ms[e.on]?=some (some v):=by
      intro e he hb;have h2:=haft e he hb;by_cases h3:e.on<ms.length
      · rw [zS5 h3] at h2;obtain ⟨v,hv⟩:=Option.isSome_iff_exists.1 h2;exact ⟨v,by rw [zA3 h3,hv]⟩
      · rw [yB9 (by omega)] at h2;cases h2
    by_cases hiL:i<L.length
    · have hi2:i<ms.length:=by rw [hI.len];exact hiL
      rw [zS5 hi2] at h1
      have hmi:ms[i]?=some none:=by
        rw [zA3 hi2];rcases hm:ms[i] with _ | v
        · rfl
        · rw [hm] at h1;cases h1
      have hoL:L[i]?=some o:=by rw [hat,zB0 hiL] at ho;exact ho
      have hob:=ob.at_ L 0 i o hoL;rw [bY5] at hob;have hst:=hob ms w ⟨hI.len,hI.bQ,hI.ty,hdeps⟩
      have hcount:∀ v:Value,((ms.set i (some v)).filter Option.isNone).length=k:=by
        intro v
        have key:∀ (l:List (Option Value)) (i:Nat),l[i]?=some none->((l.set i (some v)).filter Option.isNone).length+1=(l.filter Option.isNone).length:=by
          intro l
          induction l with
          | nil=>intro i h;simp at h
          | cons m l ihl =>
            intro i h
            cases i with
            | zero =>
              obtain rfl:m=none:=by simpa using h
              simp
            | succ i =>
              have:=ihl i (by simpa using h)
              rw [zA1,List.filter_cons,List.filter_cons]
              split
              · simp only [bX3];omega
              · exact this
        have:=key ms i hmi
        omega
      unfold wpOp;rw [ho];simp only [];by_cases hw:Region.wanted o (yielded ops (zD5 a0 L ms).tmps)=true
      · rw [if_pos hw] at hst |-;refine .inl (Oper.wp_mono ?_ hst);rintro a' w' ⟨v,rfl,hb,hv,ha⟩;rw [qE2 v hi2,zT8 v L ms a0 i o hd hoL hmi];exact ih _ w' (hcount v) (hI.step hoL hmi hdeps hb hv ha)
      · rw [if_neg hw] at hst |-;rw [qE2 undef hi2,zT8 undef L ms a0 i o hd hoL hmi];exact ih _ w (hcount undef) (hI.step hoL hmi hdeps (Below.refl _ _) hst.1 (fun h=>by rw [hst.2] at h;cases h))
    · exfalso
      have ho2:o∈L2:=by
        rw [hat,bW0 (by omega)] at ho;exact zA5 ho
      have hc:=List.all_eq_true.1 hcov o ho2;rcases Bool.or_eq_true _ _ ▸ hc with hc | hc
      · exact hnot (yB8 hI.len hc hdeps hI.dc)
      · exact hbut (yW5 hI.len hc hdeps hI.dc)
theorem yW7 {P:Program} {Q:Exit->Act->World->Prop} {ops:Array Oper} (n:Nat) (Φ : List Pd) {w:World} {a0:Act}
  (h1:zL2 (ops.toList.take n)=true) (h2:zQ3 0 (ops.toList.take n)=true) {q:Nat} {oq:Oper} (hq:(ops.toList.take n)[q]?=some oq) (h3:((ops.toList.drop n).all fun o=>zV4 (ops.toList.take n) (ops.toList.take n).length o || qF6 (ops.toList.take n) q (ops.toList.take n).length o)=true) (h4:Region.noSelect ops=true) (h5:Region.free .any ops (zU5 (ops.toList.take n).length (ops.toList.drop n).length q) q=true) (h6:(Region.ready .any ops (zU5 (ops.toList.take n).length (ops.toList.drop n).length q)).contains q=true) (hQ:∀ c a w v,Q (.panic c) (a.put oq.dst v) w->Q (.panic c) a w)
  (late:∀ ms w1,St (ops.toList.take n) Φ w oq ms w1 -> ∃ v,Yields P ops oq v (zD5 a0 (ops.toList.take n) ms)/\(ph Φ q).p w1 v) (hA:isA oq=false)
  (ob:Obs P Q ops (ops.toList.take n) Φ w a0 0 (ops.toList.take n))
  (done:∀ w',Below w.heap.size w w'->zV5 (fun a w'=>wpAny P .any ops Q (ops.toList.drop n).length (zB (ops.toList.take n).length true ++ zB (ops.toList.drop n).length false).toArray a w') Φ w' 0 (ops.toList.take n) [] a0):wpAny P .any ops Q ops.size (Array.replicate ops.size false) a0 w:=by
 have hop:ops.toList=ops.toList.take n ++ ops.toList.drop n:=(List.take_append_drop n _).symm
 generalize ops.toList.take n=L at *
 generalize ops.toList.drop n=L2 at *
 have hsz:ops.size=L.length+L2.length:=by
  have:=congrArg List.length hop
  simpa using this
 have none_:∀ (i:Nat) (v:Value),¬ (zB L.length (none:Option Value))[i]?=some (some v):=by
  intro i v h;rw [List.getElem?_replicate] at h
  split at h<;>cases h
 have hI0:Inv L Φ w (zB L.length none) w:=⟨by simp,Below.refl _ _,fun i v h=>absurd h (none_ i v),fun j x v _ h=>absurd h (none_ j v),fun i j oi oj u v _ _ _ _ _ h _=>absurd h (none_ i u),fun i oi u _ _ h=>absurd h (none_ i u)⟩
 have hmain:=yW6 (P:=P) (Q:=Q) (ops:=ops) (L:=L) (L2:=L2) (Φ:=Φ) (w0:=w) (a0:=a0) hop h1 h2 hq h3 h4 h5 h6 hQ late hA ob (fun ms w' hall hI=>by
  rw [yC0 L2.length hI.len hall]
  have:=qE3 (K:=fun a w'=>wpAny P .any ops Q L2.length (zB L.length true ++ zB L2.length false).toArray a w') hI hall L 0 a0 [] (by simp) (by omega) (by simp) (done w' hI.bQ)
  simpa using this) L.length (zB L.length none) w (by simp) hI0
 rw [qL,yC,<- hsz] at hmain;exact hmain
theorem flowl {P:Program} {Q:Exit->Act->World->Prop} {id:Nat} {ops:Array Oper} (n:Nat) (Φ : List Pd) {w:World} {a0:Act} (hm:P.follows .mixedOrders=true)
  (q:Nat) {oq:Oper} (hq:(ops.toList.take n)[q]?=some oq) (hB:(zL2 (ops.toList.take n) && zQ3 0 (ops.toList.take n) && (ops.toList.drop n).all (fun o=>zV4 (ops.toList.take n) (ops.toList.take n).length o || qF6 (ops.toList.take n) q (ops.toList.take n).length o) && Region.noSelect ops && Region.free .any ops (zU5 (ops.toList.take n).length (ops.toList.drop n).length q) q && (Region.ready .any ops (zU5 (ops.toList.take n).length (ops.toList.drop n).length q)).contains q && !isA oq)=true) (hQ:∀ c a w v,Q (.panic c) (a.put oq.dst v) w->Q (.panic c) a w)
  (late:∀ ms w1,St (ops.toList.take n) Φ w.drew oq ms w1 -> ∃ v,Yields P ops oq v (zD5 a0 (ops.toList.take n) ms)/\(ph Φ q).p w1 v)
  (ob:Obs P Q ops (ops.toList.take n) Φ w.drew a0 0 (ops.toList.take n))
  (done:∀ w',Below w.heap.size w w'->zV5 (fun a w'=>wpAny P .any ops Q (ops.toList.drop n).length (zB (ops.toList.take n).length true ++ zB (ops.toList.drop n).length false).toArray a w') Φ w' 0 (ops.toList.take n) [] a0):(Code.region id ops true).wp P Q a0 w:=by
 simp only [Bool.and_eq_true] at hB;obtain ⟨⟨⟨⟨⟨⟨h1,h2⟩,h3⟩,h4⟩,h5⟩,h6⟩,hA⟩:=hB;have hA:isA oq=false:=by simpa using hA
 exact wp_region_any hm (yW7 n Φ (w:=w.drew) h1 h2 hq h3 h4 h5 h6 hQ late hA ob fun w' hb=>done w' ((Below.refl _ w).drew.trans hb))
theorem yW8 {P:Program} {ops:Array Oper} {L:List Oper} {Φ : List Pd} {w0:World} {a0:Act} {o:Oper} {G:Pd} {x:Operand} {k:Nat} {F:World->Value->Prop} (hop:o.op=.extract x k) (hg:o.guard=none) (hx:Ev L Φ w0 a0 o x F)
  (hr:∀ w u,F w u -> ∃ v,(∀ w,(Instr.extract u k).run P w=.ok v w)/\G.p w v):∀ ms w1,St L Φ w0 o ms w1 -> ∃ v,Yields P ops o v (zD5 a0 L ms)/\G.p w1 v:=by
 intro ms w1 hS;obtain ⟨v,h1,h2⟩:=hr w1 _ (hx ms w1 hS);refine ⟨v,.inl ⟨by unfold Region.wanted;rw [hg],fun w => ?_⟩,h2⟩;unfold execOp;simp only [hop];rw [Sem.run_bind,h1];rfl
section
variable {P:Program} {Q:Exit->Act->World->Prop} {ops:Array Oper} {L:List Oper} {Φ : List Pd} {w0:World} {a0:Act} {i:Nat} {o:Oper}
theorem zK2 {t:TypeId} {k l:Nat} {x y:Operand} {F G:World->Value->Prop} (hop:o.op=.build t #[(k,x),(l,y)]) (hw:Wt ops L Φ w0 a0 o true) (hx:Ev L Φ w0 a0 o x F) (hy:Ev L Φ w0 a0 o y G)
  (hr:∀ w u u',Below w0.heap.size w0 w->F w u->G w u' -> ∃ v,(Instr.build t #[(k,u),(l,u')]).run P w=.ok v w/\(ph Φ i).p w v):Ob P Q ops L Φ w0 a0 i o :=
 zO1 hw (by unfold isA;rw [hop]) fun ms w hS=>by
  obtain ⟨v,h1,h2⟩:=hr w _ _ hS.bQ (hx ms w hS) (hy ms w hS);exact ⟨v,by unfold execOp;simp only [hop,Sem.run_bind,bX7,List.map_cons,List.map_nil,h1];rfl,h2⟩
end
end flow
namespace whl
open Go.RowKit num mem nat txt str flow
theorem zK4 (w:World) (t1:TypeId) (x:Array Value):∃ wx,w.alloc (.cells x t1)=wx/\Below w.heap.size w wx/\Blk wx w.heap.size t1 x/\w.heap.size<wx.heap.size:=⟨_,rfl,zC6 (zB1 _) _,Blk.new w t1 x,by simp⟩
end whl
namespace nat
open Go.RowKit num mem
end nat
namespace whl
open Go.RowKit num mem nat txt str flow
section
variable {P:Program}
end
def hi (ps:List (Int × Value)):List (Int × Value):=ps.filter fun p => !ngB p.1
def lo (ps:List (Int × Value)):List (Int × Value):=ps.filter fun p=>ngB p.1
end whl
namespace whl
open Go.RowKit Go.ChangeShapes Go.WideShapes Go.ChangeAt Go.Joins Go.Deep num mem nat txt str flow
def zF (ps:List (Int × Value)):List Value:=ps.flatMap fun p=>[.bool (ngB p.1),p.2]
theorem qM:∀ (ps:List (Int × Value)) (i:Nat) (p:Int × Value),ps[i]?=some p->(zF ps)[i*2]?=some (.bool (ngB p.1))/\(zF ps)[i*2+1]?=some p.2
  | [],i,p,h=>by simp at h
  | q :: ps, 0, p, h => by
    obtain rfl:q=p:=by simpa using h
    exact ⟨rfl,rfl⟩
  | q :: ps, i + 1, p, h => by
    have ih:=qM ps i p (by simpa using h);have e:zF (q :: ps)=.bool (ngB q.1) :: q.2 :: zF ps:=rfl;rw [e,show (i+1)*2=i*2+1+1 from by omega];simpa using ih
theorem info_int:∃ i,prog.info? 60=some i/\i.zero=some (.agg #[.bool false,.slice none 0 0])/\i.size=2/\i.bytes=32:=info_parts (P:=prog) (e:=60) (z:=.agg #[.bool false,.slice none 0 0]) (size:=2) (bytes:=32) (by kernel_rfl)
theorem Blk.other {w w':World} {g:Nat} {t:TypeId} {cs:Array Value} {row:Option Nat} (h:Blk w g t cs) (hg:w.grownBy w' row) (hne:row≠some g):Blk w' g t cs:=(hg.block g h.lt (fun e=>hne e.symm)).trans h
theorem dig32 {x:Nat} (h:x<=9223372036854775808):(digs 4294967296 x).length<=2:=zG5 (by omega) (Nat.lt_of_le_of_lt h (by decide))
end whl
namespace rat
open Go.RowKit num mem nat txt str flow whl
def psn (k:IntKind) (l:List Nat):Pd:=⟨fun w v=>IsS w k v l,fun h hb=>h.bQ hb⟩
theorem IsQ.drew {w:World} {v:Value} {q:Rat} (h:IsQ w v q):IsQ w.drew v q:=by
 obtain ⟨u,t,e,h1,h2⟩:=h;exact ⟨u,t,e,h1.drew,h2.drew⟩
theorem IsP.drew {w:World} {v:Value} {q:Rat} (h:IsP w v q):IsP w.drew v q:=by
 obtain ⟨u,t,e,h1,h2⟩:=h;exact ⟨u,t,e,h1.drew,h2.drew⟩
theorem qM0 (a0:Value) (z:Int) (a1:Value) (d:Nat) (w:World) (h0:IsR w a0 z) (h1:IsS w .i64 a1 (digs 10000 d)) (hd:d≠0) (hl:zC5 z<=30000) (hl2:(digs 4294967296 d).length<=30000) :
    Calls prog 97 #[a0,a1] w (zN (mkRat z d) w):=by
  have HL:Hid ((digs 10000 z.natAbs).length<=100000):=zB2 (qA5 z) (by omega);have HL2:Hid ((digs 10000 d).length<=100000):=zB2 (zY1 d) (by omega);obtain ⟨G,hG⟩:∃ G,G=Nat.gcd z.natAbs d:=⟨_,rfl⟩;obtain ⟨X,hX⟩:∃ X,X=z.natAbs / G:=⟨_,rfl⟩;obtain ⟨Y,hY⟩:∃ Y,Y=d / G:=⟨_,rfl⟩;have hGp:0<G:=by rw [hG];exact Nat.gcd_pos_of_pos_right _ (by omega)
  have HGl:Hid ((digs 10000 G).length<=100000):=zB2 (zG7 (by omega) (by rw [hG];exact Nat.le_of_dvd (by omega) (Nat.gcd_dvd_right _ _))) HL2.out;have HQN:Hid ((mkRat z d).num.natAbs=X):=by show _=_;rw [hX,hG];exact yD1 z hd
  have HQD:Hid ((mkRat z d).den=Y):=by show _=_;rw [hY,hG];exact zW0 z hd
  have HQS:=hQ9 (mk_neg z hd);have HXp:z<0->0<X:=by intro hz;rw [hX];exact Nat.div_pos (Nat.le_of_dvd (by omega) (by rw [hG];exact Nat.gcd_dvd_left _ _)) hGp
  have HG:=hQ9 hG.symm;have HX:=hQ9 hX.symm;have HY:=hQ9 hY.symm;clear hG hX hY;rcases hs0:ngB z with _ | _
  · obtain ⟨u0, rfl, s0⟩ := h0;obtain ⟨A0,c0,rfl,_⟩:=id s0;have s1:=h1;obtain ⟨A1,c1,rfl,_⟩:=id s1
    go_enter func97,ntmps97
    go_upto_region 1 with (fail)
    obtain ⟨wx,hwx,bb,B0,BR0,hsz⟩:=zI4 w 63 65 #[.bool false,.slice A0 (digs 10000 (z).natAbs).length c0] #[.bool false,.slice none 0 0,.slice none 0 0];rw [hwx];clear hwx;have k0s:=s0.bQ bb;have k0:IsR wx (.agg #[.bool false,.slice A0 (digs 10000 (z).natAbs).length c0]) (z):=zH3 k0s rfl hs0.symm;have k1:=s1.bQ bb;have hsz0:=bb.size;have sB:=bb.size;refine zC3 5 [Pd.eq (.pointer (some ⟨w.heap.size,1,none⟩)),Pd.eq (.slice A0 (digs 10000 (z).natAbs).length c0),Pd.eq (.slice A1 (digs 10000 d).length c1),psn .i64 (digs 10000 G),psn .i64 (digs 10000 G)] (by kernel_rfl) ?ob1 ?done1
    case ob1 =>
      refine zA (zB9 rfl (zB3 rfl) (zB5 rfl rfl) (fun _=>by kernel_rfl) (fun _=>rfl)) ?_;refine zA (zB7 rfl (zB3 rfl) (zB4 (j:=0) (by kernel_rfl) rfl rfl) (fun w2 hb=>zC1 underlying53 rfl ((B0.bQ hb).cell 1)) (fun _ _=>rfl)) ?_;refine zA (zB8 rfl (zB3 rfl) (zB5 rfl rfl) (fun _ _ h=>h)) ?_;refine zA (zC7 rfl func59 (by kernel_rfl) (zB3 rfl) (zB4 (j:=1) (by kernel_rfl) rfl rfl) (zB4 (j:=2) (by kernel_rfl) rfl rfl) (fun w2 u0 u1 hb h0 h1=>by obtain rfl:=h0;obtain rfl:=h1;exact (HG.out ▸ yD9 _ _ _ _ _ (k0s.bQ hb) (k1.bQ hb) HL.out HL2.out).mono fun e w3 h=>h)) ?_;refine zA (zD6 rfl (zB3 rfl) (zB4 (j:=3) (by kernel_rfl) rfl rfl) (fun _ _ h=>h)) ?_
      trivial
    case done1 =>
      refine fun w11 hb11 v0 h0 v1 h1 v2 h2 v3 h3 v4 h4 b hbf => ?_;obtain rfl:=h0;obtain rfl:=h1;obtain rfl:=h2;have q3:=h3;have q4:=h4;simp only [Act.put,zA0,zA2,zA1] at hbf;subst hbf;replace B0:=B0.bQ hb11;replace k0s:=k0s.bQ hb11;replace k0:=k0.bQ hb11;replace BR0:=BR0.bQ hb11;replace k1:=k1.bQ hb11;replace bb:=bb.trans (hb11.mono bb.size);have hsz11:=bb.size;refine zC4 ?_;obtain ⟨A5,c5,rfl,_⟩:=id q4;have kg:=q4;have sB:=bb.size;go_upto_region 2 with (fail);refine zC3 9 [Pd.eq (.pointer (some ⟨w.heap.size,1,none⟩)),Pd.eq (.slice A0 (digs 10000 (z).natAbs).length c0),Pd.eq (.slice A5 (digs 10000 G).length c5),pt2 .i64 (digs 10000 X) (digs 10000 (z.natAbs % G)) w11.heap.size,pt2 .i64 (digs 10000 X) (digs 10000 (z.natAbs % G)) w11.heap.size,ps .i64 (digs 10000 X) w11.heap.size,ps .i64 (digs 10000 (z.natAbs % G)) w11.heap.size,ps .i64 (digs 10000 X) w11.heap.size,ps .i64 (digs 10000 (z.natAbs % G)) w11.heap.size] (by kernel_rfl) ?ob2 ?done2
      case ob2 =>
        refine zA (zB9 rfl (zB3 rfl) (zB5 rfl rfl) (fun _=>by kernel_rfl) (fun _=>rfl)) ?_;refine zA (zB7 rfl (zB3 rfl) (zB4 (j:=0) (by kernel_rfl) rfl rfl) (fun w2 hb=>zC1 underlying53 rfl ((B0.bQ hb).cell 1)) (fun _ _=>rfl)) ?_;refine zA (zB8 rfl (zB3 rfl) (zB5 rfl rfl) (fun _ _ h=>h)) ?_;refine zA (zC7 rfl func58 (by kernel_rfl) (zB3 rfl) (zB4 (j:=1) (by kernel_rfl) rfl rfl) (zB4 (j:=2) (by kernel_rfl) rfl rfl) (fun w2 u0 u1 hb h0 h1=>by obtain rfl:=h0;obtain rfl:=h1;exact (HX.out ▸ qD2 _ _ z.natAbs G _ (k0s.bQ hb) (kg.bQ hb) HL.out HGl.out hGp).mono fun e w3 h=>zT4.pd h hb.size)) ?_;refine zA (zB8 rfl (zB3 rfl) (zB4 (j:=3) (by kernel_rfl) rfl rfl) (fun _ _ h=>h)) ?_;refine zA (zF9 rfl (zB3 rfl) (zB4 (j:=4) (by kernel_rfl) rfl rfl) (fun w2 u hu=>by obtain ⟨v,u,rfl,q1,q2,q3,q4⟩:=hu;exact ⟨v,rfl,q1,q3⟩)) ?_;refine zA (zF9 rfl (zB3 rfl) (zB4 (j:=4) (by kernel_rfl) rfl rfl) (fun w2 u hu=>by obtain ⟨v,u,rfl,q1,q2,q3,q4⟩:=hu;exact ⟨u,rfl,q2,q4⟩)) ?_;refine zA (zD6 rfl (zB3 rfl) (zB4 (j:=5) (by kernel_rfl) rfl rfl) (fun _ _ h=>h)) ?_;refine zA (zD6 rfl (zB3 rfl) (zB4 (j:=6) (by kernel_rfl) rfl rfl) (fun _ _ h=>h)) ?_
        trivial
      case done2 =>
        refine fun w12 hb12 v0 h0 v1 h1 v2 h2 v3 h3 v4 h4 v5 h5 v6 h6 v7 h7 v8 h8 b hbf => ?_;obtain rfl:=h0;obtain rfl:=h1;obtain rfl:=h2;clear h3;clear h4;obtain ⟨q5,f5⟩:=h5;obtain ⟨q6,f6⟩:=h6;obtain ⟨q7,f7⟩:=h7;obtain ⟨q8,f8⟩:=h8;simp only [Act.put,zA0,zA2,zA1] at hbf;subst hbf;replace B0:=B0.bQ hb12;replace k0s:=k0s.bQ hb12;replace k0:=k0.bQ hb12;replace BR0:=BR0.bQ hb12;replace k1:=k1.bQ hb12;replace kg:=kg.bQ hb12;replace bb:=bb.trans (hb12.mono bb.size);have hsz12:=bb.size;have s_5:=sB;have s_6:=sB;have s_7:=sB;have s_8:=sB;refine zC4 ?_;obtain ⟨A6,c6,rfl,_⟩:=id q7;have kx:=q7;have kxf:=f7;have kxz_:=s_7;have sB:=bb.size;go_upto_region 3 with (fail);refine zC3 8 [Pd.eq (.slice A1 (digs 10000 d).length c1),Pd.eq (.slice A5 (digs 10000 G).length c5),pt2 .i64 (digs 10000 Y) (digs 10000 (d % G)) w12.heap.size,pt2 .i64 (digs 10000 Y) (digs 10000 (d % G)) w12.heap.size,ps .i64 (digs 10000 Y) w12.heap.size,ps .i64 (digs 10000 (d % G)) w12.heap.size,ps .i64 (digs 10000 Y) w12.heap.size,ps .i64 (digs 10000 (d % G)) w12.heap.size] (by kernel_rfl) ?ob3 ?done3
        case ob3 =>
          refine zA (zB8 rfl (zB3 rfl) (zB5 rfl rfl) (fun _ _ h=>h)) ?_;refine zA (zB8 rfl (zB3 rfl) (zB5 rfl rfl) (fun _ _ h=>h)) ?_;refine zA (zC7 rfl func58 (by kernel_rfl) (zB3 rfl) (zB4 (j:=0) (by kernel_rfl) rfl rfl) (zB4 (j:=1) (by kernel_rfl) rfl rfl) (fun w2 u0 u1 hb h0 h1=>by obtain rfl:=h0;obtain rfl:=h1;exact (HY.out ▸ qD2 _ _ d G _ (k1.bQ hb) (kg.bQ hb) HL2.out HGl.out hGp).mono fun e w3 h=>zT4.pd h hb.size)) ?_;refine zA (zB8 rfl (zB3 rfl) (zB4 (j:=2) (by kernel_rfl) rfl rfl) (fun _ _ h=>h)) ?_;refine zA (zF9 rfl (zB3 rfl) (zB4 (j:=3) (by kernel_rfl) rfl rfl) (fun w2 u hu=>by obtain ⟨v,u,rfl,q1,q2,q3,q4⟩:=hu;exact ⟨v,rfl,q1,q3⟩)) ?_;refine zA (zF9 rfl (zB3 rfl) (zB4 (j:=3) (by kernel_rfl) rfl rfl) (fun w2 u hu=>by obtain ⟨v,u,rfl,q1,q2,q3,q4⟩:=hu;exact ⟨u,rfl,q2,q4⟩)) ?_;refine zA (zD6 rfl (zB3 rfl) (zB4 (j:=4) (by kernel_rfl) rfl rfl) (fun _ _ h=>h)) ?_;refine zA (zD6 rfl (zB3 rfl) (zB4 (j:=5) (by kernel_rfl) rfl rfl) (fun _ _ h=>h)) ?_
          trivial
        case done3 =>
          refine fun w13 hb13 v0 h0 v1 h1 v2 h2 v3 h3 v4 h4 v5 h5 v6 h6 v7 h7 b hbf => ?_;obtain rfl:=h0;obtain rfl:=h1;clear h2;clear h3;obtain ⟨q4,f4⟩:=h4;obtain ⟨q5,f5⟩:=h5;obtain ⟨q6,f6⟩:=h6;obtain ⟨q7,f7⟩:=h7;simp only [Act.put,zA0,zA2,zA1] at hbf;subst hbf;replace B0:=B0.bQ hb13;replace k0s:=k0s.bQ hb13;replace k0:=k0.bQ hb13;replace BR0:=BR0.bQ hb13;replace k1:=k1.bQ hb13;replace kg:=kg.bQ hb13;replace kx:=kx.bQ hb13;replace bb:=bb.trans (hb13.mono bb.size);have hsz13:=bb.size;have s_4:=sB;have s_5:=sB;have s_6:=sB;have s_7:=sB;refine zC4 ?_;obtain ⟨A8,c8,rfl,_⟩:=id q6;have ky:=q6;have kyf:=f6;have kyz_:=s_6;have sB:=bb.size;go_upto_region 4 with (fail);refine zC3 11 [Pd.eq (.pointer (some ⟨w.heap.size,0,none⟩)),Pd.eq (.bool false),Pd.eq (.bool false),Pd.any,Pd.any,Pd.any,Pd.eq (.bool false),Pd.eq (.slice A6 (digs 10000 X).length c6),Pd.eq (.agg #[.bool false,.slice A6 (digs 10000 X).length c6]),Pd.eq (.slice A8 (digs 10000 Y).length c8),Pd.eq (.agg #[.bool false,.slice A6 (digs 10000 X).length c6,.slice A8 (digs 10000 Y).length c8])] (by kernel_rfl) ?ob4 ?done4
          case ob4 =>
            refine zA (zB9 rfl (zB3 rfl) (zB5 rfl rfl) (fun _=>by kernel_rfl) (fun _=>rfl)) ?_;refine zA (zB7 rfl (zB3 rfl) (zB4 (j:=0) (by kernel_rfl) rfl rfl) (fun w2 hb=>zC1 underlying4 rfl ((B0.bQ hb).cell 0)) (fun _ _=>rfl)) ?_;refine zA (zB8 rfl (zB3 rfl) (zB4 (j:=1) (by kernel_rfl) rfl rfl) (fun _ _ h=>h)) ?_;refine zA (zJ6 (zD8 (c:=false) (b:=true) (g:=2) rfl (by kernel_rfl) rfl rfl rfl (by exact fun _ _ h=>h)) (fun _=>trivial) rfl) ?_;refine zA (zJ6 (zD8 (c:=false) (b:=true) (g:=2) rfl (by kernel_rfl) rfl rfl rfl (by exact fun _ _ h=>h)) (fun _=>trivial) rfl) ?_;refine zA (zJ6 (zD8 (c:=false) (b:=true) (g:=2) rfl (by kernel_rfl) rfl rfl rfl (by exact fun _ _ h=>h)) (fun _=>trivial) rfl) ?_;refine zA (zO2 (b:=false) rfl (zB3 rfl) (zB4 (j:=2) (by kernel_rfl) rfl rfl) (zF8 _) (fun _ _ h=>h)) ?_;refine zA (zB8 rfl (zB3 rfl) (zB5 rfl rfl) (fun _ _ h=>h)) ?_;refine zA (zK2 rfl (zB3 rfl) (zB4 (j:=6) (by kernel_rfl) rfl rfl) (zB4 (j:=7) (by kernel_rfl) rfl rfl) (fun w2 u v hb hu hv=>by obtain rfl:=hu;obtain rfl:=hv;exact ⟨.agg #[.bool false,.slice A6 (digs 10000 X).length c6],by kernel_rfl,rfl⟩)) ?_;refine zA (zB8 rfl (zB3 rfl) (zB5 rfl rfl) (fun _ _ h=>h)) ?_;refine zA (zK2 rfl (zB3 rfl) (zB4 (j:=8) (by kernel_rfl) rfl rfl) (zB4 (j:=9) (by kernel_rfl) rfl rfl) (fun w2 u v hb hu hv=>by obtain rfl:=hu;obtain rfl:=hv;exact ⟨.agg #[.bool false,.slice A6 (digs 10000 X).length c6,.slice A8 (digs 10000 Y).length c8],by kernel_rfl,rfl⟩)) ?_
            trivial
          case done4 =>
            refine fun w14 hb14 v0 h0 v1 h1 v2 h2 v3 h3 v4 h4 v5 h5 v6 h6 v7 h7 v8 h8 v9 h9 v10 h10 b hbf => ?_;obtain rfl:=h0;obtain rfl:=h1;obtain rfl:=h2;obtain rfl:=h6;obtain rfl:=h7;obtain rfl:=h8;obtain rfl:=h9;obtain rfl:=h10;clear h3;clear h4;clear h5;simp only [Act.put,zA0,zA2,zA1] at hbf;subst hbf;replace B0:=B0.bQ hb14;replace k0s:=k0s.bQ hb14;replace k0:=k0.bQ hb14;replace BR0:=BR0.bQ hb14;replace k1:=k1.bQ hb14;replace kg:=kg.bQ hb14;replace kx:=kx.bQ hb14;replace ky:=ky.bQ hb14;replace bb:=bb.trans (hb14.mono bb.size);have hsz14:=bb.size;refine zH0 (i:=11) rfl rfl rfl rfl rfl rfl (cells:=[.bool false,.slice A6 (digs 10000 X).length c6,.slice A8 (digs 10000 Y).length c8]) rfl BR0 rfl (by kernel_rfl) (zH rfl rfl rfl) fun w9 hg9 B9 => ?_;have k9:=off kx BR0 zC9 hg9;have d9:=off ky BR0 zC9 hg9;have bb9:=bb.trans ((Below.refl _ _).grown hg9 bb.size (fun g hg=>by injection hg with hg;omega));obtain ⟨C0,C1,C2,_,_,_⟩:=three B9;refine zC4 ?_;go_wp2;exact bodyPost_ret (v:=.agg #[.bool false,.slice A6 (digs 10000 X).length c6,.slice A8 (digs 10000 Y).length c8]) (by simp [results,results97,go_sem,C0,C1,C2]) rfl ⟨_,rfl,qS1 k9 d9 (by rw [HQS.out,hs0]) HQN.out HQD.out,zL4 (kxf.mono kxz_) (kyf.mono kyz_),bb9⟩
  · obtain ⟨u0, rfl, s0⟩ := h0;obtain ⟨A0,c0,rfl,_⟩:=id s0;have s1:=h1;obtain ⟨A1,c1,rfl,_⟩:=id s1
    go_enter func97,ntmps97
    go_upto_region 1 with (fail)
    obtain ⟨wx,hwx,bb,B0,BR0,hsz⟩:=zI4 w 63 65 #[.bool true,.slice A0 (digs 10000 (z).natAbs).length c0] #[.bool false,.slice none 0 0,.slice none 0 0];rw [hwx];clear hwx;have k0s:=s0.bQ bb;have k0:IsR wx (.agg #[.bool true,.slice A0 (digs 10000 (z).natAbs).length c0]) (z):=zH3 k0s rfl hs0.symm;have k1:=s1.bQ bb;have hsz0:=bb.size;have sB:=bb.size;refine zC3 5 [Pd.eq (.pointer (some ⟨w.heap.size,1,none⟩)),Pd.eq (.slice A0 (digs 10000 (z).natAbs).length c0),Pd.eq (.slice A1 (digs 10000 d).length c1),psn .i64 (digs 10000 G),psn .i64 (digs 10000 G)] (by kernel_rfl) ?ob5 ?done5
    case ob5 =>
      refine zA (zB9 rfl (zB3 rfl) (zB5 rfl rfl) (fun _=>by kernel_rfl) (fun _=>rfl)) ?_;refine zA (zB7 rfl (zB3 rfl) (zB4 (j:=0) (by kernel_rfl) rfl rfl) (fun w2 hb=>zC1 underlying53 rfl ((B0.bQ hb).cell 1)) (fun _ _=>rfl)) ?_;refine zA (zB8 rfl (zB3 rfl) (zB5 rfl rfl) (fun _ _ h=>h)) ?_;refine zA (zC7 rfl func59 (by kernel_rfl) (zB3 rfl) (zB4 (j:=1) (by kernel_rfl) rfl rfl) (zB4 (j:=2) (by kernel_rfl) rfl rfl) (fun w2 u0 u1 hb h0 h1=>by obtain rfl:=h0;obtain rfl:=h1;exact (HG.out ▸ yD9 _ _ _ _ _ (k0s.bQ hb) (k1.bQ hb) HL.out HL2.out).mono fun e w3 h=>h)) ?_;refine zA (zD6 rfl (zB3 rfl) (zB4 (j:=3) (by kernel_rfl) rfl rfl) (fun _ _ h=>h)) ?_
      trivial
    case done5 =>
      refine fun w11 hb11 v0 h0 v1 h1 v2 h2 v3 h3 v4 h4 b hbf => ?_;obtain rfl:=h0;obtain rfl:=h1;obtain rfl:=h2;have q3:=h3;have q4:=h4;simp only [Act.put,zA0,zA2,zA1] at hbf;subst hbf;replace B0:=B0.bQ hb11;replace k0s:=k0s.bQ hb11;replace k0:=k0.bQ hb11;replace BR0:=BR0.bQ hb11;replace k1:=k1.bQ hb11;replace bb:=bb.trans (hb11.mono bb.size);have hsz11:=bb.size;refine zC4 ?_;obtain ⟨A5,c5,rfl,_⟩:=id q4;have kg:=q4;have sB:=bb.size;go_upto_region 2 with (fail);refine zC3 9 [Pd.eq (.pointer (some ⟨w.heap.size,1,none⟩)),Pd.eq (.slice A0 (digs 10000 (z).natAbs).length c0),Pd.eq (.slice A5 (digs 10000 G).length c5),pt2 .i64 (digs 10000 X) (digs 10000 (z.natAbs % G)) w11.heap.size,pt2 .i64 (digs 10000 X) (digs 10000 (z.natAbs % G)) w11.heap.size,ps .i64 (digs 10000 X) w11.heap.size,ps .i64 (digs 10000 (z.natAbs % G)) w11.heap.size,ps .i64 (digs 10000 X) w11.heap.size,ps .i64 (digs 10000 (z.natAbs % G)) w11.heap.size] (by kernel_rfl) ?ob6 ?done6
      case ob6 =>
        refine zA (zB9 rfl (zB3 rfl) (zB5 rfl rfl) (fun _=>by kernel_rfl) (fun _=>rfl)) ?_;refine zA (zB7 rfl (zB3 rfl) (zB4 (j:=0) (by kernel_rfl) rfl rfl) (fun w2 hb=>zC1 underlying53 rfl ((B0.bQ hb).cell 1)) (fun _ _=>rfl)) ?_;refine zA (zB8 rfl (zB3 rfl) (zB5 rfl rfl) (fun _ _ h=>h)) ?_;refine zA (zC7 rfl func58 (by kernel_rfl) (zB3 rfl) (zB4 (j:=1) (by kernel_rfl) rfl rfl) (zB4 (j:=2) (by kernel_rfl) rfl rfl) (fun w2 u0 u1 hb h0 h1=>by obtain rfl:=h0;obtain rfl:=h1;exact (HX.out ▸ qD2 _ _ z.natAbs G _ (k0s.bQ hb) (kg.bQ hb) HL.out HGl.out hGp).mono fun e w3 h=>zT4.pd h hb.size)) ?_;refine zA (zB8 rfl (zB3 rfl) (zB4 (j:=3) (by kernel_rfl) rfl rfl) (fun _ _ h=>h)) ?_;refine zA (zF9 rfl (zB3 rfl) (zB4 (j:=4) (by kernel_rfl) rfl rfl) (fun w2 u hu=>by obtain ⟨v,u,rfl,q1,q2,q3,q4⟩:=hu;exact ⟨v,rfl,q1,q3⟩)) ?_;refine zA (zF9 rfl (zB3 rfl) (zB4 (j:=4) (by kernel_rfl) rfl rfl) (fun w2 u hu=>by obtain ⟨v,u,rfl,q1,q2,q3,q4⟩:=hu;exact ⟨u,rfl,q2,q4⟩)) ?_;refine zA (zD6 rfl (zB3 rfl) (zB4 (j:=5) (by kernel_rfl) rfl rfl) (fun _ _ h=>h)) ?_;refine zA (zD6 rfl (zB3 rfl) (zB4 (j:=6) (by kernel_rfl) rfl rfl) (fun _ _ h=>h)) ?_
        trivial
      case done6 =>
        refine fun w12 hb12 v0 h0 v1 h1 v2 h2 v3 h3 v4 h4 v5 h5 v6 h6 v7 h7 v8 h8 b hbf => ?_;obtain rfl:=h0;obtain rfl:=h1;obtain rfl:=h2;clear h3;clear h4;obtain ⟨q5,f5⟩:=h5;obtain ⟨q6,f6⟩:=h6;obtain ⟨q7,f7⟩:=h7;obtain ⟨q8,f8⟩:=h8;simp only [Act.put,zA0,zA2,zA1] at hbf;subst hbf;replace B0:=B0.bQ hb12;replace k0s:=k0s.bQ hb12;replace k0:=k0.bQ hb12;replace BR0:=BR0.bQ hb12;replace k1:=k1.bQ hb12;replace kg:=kg.bQ hb12;replace bb:=bb.trans (hb12.mono bb.size);have hsz12:=bb.size;have s_5:=sB;have s_6:=sB;have s_7:=sB;have s_8:=sB;refine zC4 ?_;obtain ⟨A6,c6,rfl,_⟩:=id q7;have kx:=q7;have kxf:=f7;have kxz_:=s_7;have sB:=bb.size;go_upto_region 3 with (fail);refine zC3 8 [Pd.eq (.slice A1 (digs 10000 d).length c1),Pd.eq (.slice A5 (digs 10000 G).length c5),pt2 .i64 (digs 10000 Y) (digs 10000 (d % G)) w12.heap.size,pt2 .i64 (digs 10000 Y) (digs 10000 (d % G)) w12.heap.size,ps .i64 (digs 10000 Y) w12.heap.size,ps .i64 (digs 10000 (d % G)) w12.heap.size,ps .i64 (digs 10000 Y) w12.heap.size,ps .i64 (digs 10000 (d % G)) w12.heap.size] (by kernel_rfl) ?ob7 ?done7
        case ob7 =>
          refine zA (zB8 rfl (zB3 rfl) (zB5 rfl rfl) (fun _ _ h=>h)) ?_;refine zA (zB8 rfl (zB3 rfl) (zB5 rfl rfl) (fun _ _ h=>h)) ?_;refine zA (zC7 rfl func58 (by kernel_rfl) (zB3 rfl) (zB4 (j:=0) (by kernel_rfl) rfl rfl) (zB4 (j:=1) (by kernel_rfl) rfl rfl) (fun w2 u0 u1 hb h0 h1=>by obtain rfl:=h0;obtain rfl:=h1;exact (HY.out ▸ qD2 _ _ d G _ (k1.bQ hb) (kg.bQ hb) HL2.out HGl.out hGp).mono fun e w3 h=>zT4.pd h hb.size)) ?_;refine zA (zB8 rfl (zB3 rfl) (zB4 (j:=2) (by kernel_rfl) rfl rfl) (fun _ _ h=>h)) ?_;refine zA (zF9 rfl (zB3 rfl) (zB4 (j:=3) (by kernel_rfl) rfl rfl) (fun w2 u hu=>by obtain ⟨v,u,rfl,q1,q2,q3,q4⟩:=hu;exact ⟨v,rfl,q1,q3⟩)) ?_;refine zA (zF9 rfl (zB3 rfl) (zB4 (j:=3) (by kernel_rfl) rfl rfl) (fun w2 u hu=>by obtain ⟨v,u,rfl,q1,q2,q3,q4⟩:=hu;exact ⟨u,rfl,q2,q4⟩)) ?_;refine zA (zD6 rfl (zB3 rfl) (zB4 (j:=4) (by kernel_rfl) rfl rfl) (fun _ _ h=>h)) ?_;refine zA (zD6 rfl (zB3 rfl) (zB4 (j:=5) (by kernel_rfl) rfl rfl) (fun _ _ h=>h)) ?_
          trivial
        case done7 =>
          refine fun w13 hb13 v0 h0 v1 h1 v2 h2 v3 h3 v4 h4 v5 h5 v6 h6 v7 h7 b hbf => ?_;obtain rfl:=h0;obtain rfl:=h1;clear h2;clear h3;obtain ⟨q4,f4⟩:=h4;obtain ⟨q5,f5⟩:=h5;obtain ⟨q6,f6⟩:=h6;obtain ⟨q7,f7⟩:=h7;simp only [Act.put,zA0,zA2,zA1] at hbf;subst hbf;replace B0:=B0.bQ hb13;replace k0s:=k0s.bQ hb13;replace k0:=k0.bQ hb13;replace BR0:=BR0.bQ hb13;replace k1:=k1.bQ hb13;replace kg:=kg.bQ hb13;replace kx:=kx.bQ hb13;replace bb:=bb.trans (hb13.mono bb.size);have hsz13:=bb.size;have s_4:=sB;have s_5:=sB;have s_6:=sB;have s_7:=sB;refine zC4 ?_;obtain ⟨A8,c8,rfl,_⟩:=id q6;have ky:=q6;have kyf:=f6;have kyz_:=s_6;have HXl:Hid (decide ((0:Int)<(((digs 10000 X).length:Nat):Int))=true):=by show _=_;have:=(zX6 (B:=10000) (by omega) (x:=X)).1;have:=HXp (zO3 hs0);exact decide_eq_true (by omega)
          have sB:=bb.size;go_upto_region 4 with (fail);refine zC3 11 [Pd.eq (.pointer (some ⟨w.heap.size,0,none⟩)),Pd.eq (.bool true),Pd.eq (.bool true),Pd.eq (.slice A6 (digs 10000 X).length c6),Pd.eq (.int .i64 (((digs 10000 X).length:Nat):Int)),Pd.eq (.bool true),Pd.eq (.bool true),Pd.eq (.slice A6 (digs 10000 X).length c6),Pd.eq (.agg #[.bool true,.slice A6 (digs 10000 X).length c6]),Pd.eq (.slice A8 (digs 10000 Y).length c8),Pd.eq (.agg #[.bool true,.slice A6 (digs 10000 X).length c6,.slice A8 (digs 10000 Y).length c8])] (by kernel_rfl) ?ob8 ?done8
          case ob8 =>
            refine zA (zB9 rfl (zB3 rfl) (zB5 rfl rfl) (fun _=>by kernel_rfl) (fun _=>rfl)) ?_;refine zA (zB7 rfl (zB3 rfl) (zB4 (j:=0) (by kernel_rfl) rfl rfl) (fun w2 hb=>zC1 underlying4 rfl ((B0.bQ hb).cell 0)) (fun _ _=>rfl)) ?_;refine zA (zB8 rfl (zB3 rfl) (zB4 (j:=1) (by kernel_rfl) rfl rfl) (fun _ _ h=>h)) ?_;refine zA (zB8 rfl (zD8 (c:=true) (b:=true) (g:=2) rfl (by kernel_rfl) rfl rfl rfl (by exact fun _ _ h=>h)) (zB5 rfl rfl) (fun _ _ h=>h)) ?_;refine zA (zJ rfl (zD8 (c:=true) (b:=true) (g:=2) rfl (by kernel_rfl) rfl rfl rfl (by exact fun _ _ h=>h)) (zB4 (j:=3) (by kernel_rfl) rfl rfl) (fun _ _ hx=>⟨_,by rw [hx];exact zJ0 underlying53 _ _ _ _,rfl⟩)) ?_;refine zA (zE6 rfl (zD8 (c:=true) (b:=true) (g:=2) rfl (by kernel_rfl) rfl rfl rfl (by exact fun _ _ h=>h)) (zB4 (j:=4) (by kernel_rfl) rfl rfl) (zF8 _) (fun _ _ _ hx hy=>⟨.bool true,by rw [hx,hy,yC5,HXl.out],rfl⟩)) ?_;refine zA (zO2 (b:=true) rfl (zB3 rfl) (zB4 (j:=2) (by kernel_rfl) rfl rfl) (zB4 (j:=5) (by kernel_rfl) rfl rfl) (fun _ _ h=>h)) ?_;refine zA (zB8 rfl (zB3 rfl) (zB5 rfl rfl) (fun _ _ h=>h)) ?_;refine zA (zK2 rfl (zB3 rfl) (zB4 (j:=6) (by kernel_rfl) rfl rfl) (zB4 (j:=7) (by kernel_rfl) rfl rfl) (fun w2 u v hb hu hv=>by obtain rfl:=hu;obtain rfl:=hv;exact ⟨.agg #[.bool true,.slice A6 (digs 10000 X).length c6],by kernel_rfl,rfl⟩)) ?_;refine zA (zB8 rfl (zB3 rfl) (zB5 rfl rfl) (fun _ _ h=>h)) ?_;refine zA (zK2 rfl (zB3 rfl) (zB4 (j:=8) (by kernel_rfl) rfl rfl) (zB4 (j:=9) (by kernel_rfl) rfl rfl) (fun w2 u v hb hu hv=>by obtain rfl:=hu;obtain rfl:=hv;exact ⟨.agg #[.bool true,.slice A6 (digs 10000 X).length c6,.slice A8 (digs 10000 Y).length c8],by kernel_rfl,rfl⟩)) ?_
            trivial
          case done8 =>
            refine fun w14 hb14 v0 h0 v1 h1 v2 h2 v3 h3 v4 h4 v5 h5 v6 h6 v7 h7 v8 h8 v9 h9 v10 h10 b hbf => ?_;obtain rfl:=h0;obtain rfl:=h1;obtain rfl:=h2;obtain rfl:=h3;obtain rfl:=h4;obtain rfl:=h5;obtain rfl:=h6;obtain rfl:=h7;obtain rfl:=h8;obtain rfl:=h9;obtain rfl:=h10;simp only [Act.put,zA0,zA2,zA1] at hbf;subst hbf;replace B0:=B0.bQ hb14;replace k0s:=k0s.bQ hb14;replace k0:=k0.bQ hb14;replace BR0:=BR0.bQ hb14;replace k1:=k1.bQ hb14;replace kg:=kg.bQ hb14;replace kx:=kx.bQ hb14;replace ky:=ky.bQ hb14;replace bb:=bb.trans (hb14.mono bb.size);have hsz14:=bb.size;refine zH0 (i:=11) rfl rfl rfl rfl rfl rfl (cells:=[.bool true,.slice A6 (digs 10000 X).length c6,.slice A8 (digs 10000 Y).length c8]) rfl BR0 rfl (by kernel_rfl) (zH rfl rfl rfl) fun w9 hg9 B9 => ?_;have k9:=off kx BR0 zC9 hg9;have d9:=off ky BR0 zC9 hg9;have bb9:=bb.trans ((Below.refl _ _).grown hg9 bb.size (fun g hg=>by injection hg with hg;omega));obtain ⟨C0,C1,C2,_,_,_⟩:=three B9;refine zC4 ?_;go_wp2;exact bodyPost_ret (v:=.agg #[.bool true,.slice A6 (digs 10000 X).length c6,.slice A8 (digs 10000 Y).length c8]) (by simp [results,results97,go_sem,C0,C1,C2]) rfl ⟨_,rfl,qS1 k9 d9 (by rw [HQS.out,hs0]) HQN.out HQD.out,zL4 (kxf.mono kxz_) (kyf.mono kyz_),bb9⟩
theorem yE4 (a0:Value) (q:Rat) (w:World) (h0:IsP w a0 q) (hl:zC2 q 30000) :
  Calls prog 88 #[a0] w (RetQ q w):=by
 obtain ⟨u0,t0,rfl,s0,r0⟩:=h0;obtain ⟨A0,c0,rfl,_⟩:=id s0;obtain ⟨D0,e0,rfl,_⟩:=id r0
 go_enter func88,ntmps88
 go_upto_region 1 with (fail)
 obtain ⟨wx,hwx,bb,B0,BR0,hsz⟩:=zI4 w 65 83 #[.bool (ngB (q).num),.slice A0 (digs 10000 (q).num.natAbs).length c0,.slice D0 (digs 10000 (q).den).length e0] #[.bool false,.slice none 0 0,.slice none 0 0];rw [hwx];clear hwx;have k0s:=s0.bQ bb;have k0d:=r0.bQ bb;have k0z:IsR wx (.agg #[.bool (ngB (q).num),.slice A0 (digs 10000 (q).num.natAbs).length c0]) (q).num:=⟨_,rfl,k0s⟩;have k0:IsP wx (.agg #[.bool (ngB (q).num),.slice A0 (digs 10000 (q).num.natAbs).length c0,.slice D0 (digs 10000 (q).den).length e0]) (q):=⟨_,_,rfl,k0s,k0d⟩;have hsz0:=bb.size;have sB:=bb.size;refine flow 7 [Pd.eq (.pointer (some ⟨w.heap.size,0,none⟩)),Pd.eq (.agg #[.bool (ngB (q).num),.slice A0 (digs 10000 (q).num.natAbs).length c0]),pz ((q).num) wx.heap.size,Pd.eq (.pointer (some ⟨w.heap.size,2,none⟩)),Pd.eq (.slice D0 (digs 10000 (q).den).length e0),ps .u64 (digs 4294967296 (q).den) wx.heap.size,pq (q) wx.heap.size] (by kernel_rfl) (by kernel_rfl) ?ob10 ?done10
 case ob10 =>
  refine zA (zB9 rfl (zB3 rfl) (zB5 rfl rfl) (fun _=>by kernel_rfl) (fun _=>rfl)) ?_;refine zA (zB7 rfl (zB3 rfl) (zB4 (j:=0) (by kernel_rfl) rfl rfl) (fun w2 hb=>zP underlying63 rfl (by kernel_rfl) (B0.drew.bQ hb) rfl) (fun _ _=>rfl)) ?_;refine zA (zE7 rfl func25 (by kernel_rfl) (zB3 rfl) (zB4 (j:=1) (by kernel_rfl) rfl rfl) (fun w2 u0 hb h0=>by obtain rfl:=h0;exact (yV5 _ _ _ (k0z.drew.bQ hb) (zB2 hl.1 (by decide))).mono fun e w3 h=>zF6.pd h hb.size)) ?_;refine zA (zB9 rfl (zB3 rfl) (zB5 rfl rfl) (fun _=>by kernel_rfl) (fun _=>rfl)) ?_;refine zA (zB7 rfl (zB3 rfl) (zB4 (j:=3) (by kernel_rfl) rfl rfl) (fun w2 hb=>zC1 underlying53 rfl ((B0.drew.bQ hb).cell 2)) (fun _ _=>rfl)) ?_;refine zA (zE7 rfl func23 (by kernel_rfl) (zB3 rfl) (zB4 (j:=4) (by kernel_rfl) rfl rfl) (fun w2 u0 hb h0=>by obtain rfl:=h0;exact (qY6 _ _ _ (k0d.drew.bQ hb) (zB2 (zY1 _) (by have:=hl.2;omega)) (zB2 hl.2 (by decide))).mono fun e w3 h=>zD1.pd h hb.size)) ?_;refine zA (zK2 rfl (zB3 rfl) (zB4 (j:=2) (by kernel_rfl) rfl rfl) (zB4 (j:=5) (by kernel_rfl) rfl rfl) (fun w2 u v hb hu hv=>by obtain ⟨u7,rfl,hu7⟩:=hu.1;obtain ⟨A7,c7,rfl,_⟩:=id hu7;obtain ⟨A8,c8,rfl,_⟩:=id hv.1;exact ⟨.agg #[.bool (ngB (q).num),.slice A7 (digs 4294967296 (q).num.natAbs).length c7,.slice A8 (digs 4294967296 (q).den).length c8],by kernel_rfl,⟨⟨_,_,rfl,hu7,hv.1⟩,zL4 (hu.2 _ _ rfl) hv.2⟩⟩)) ?_
  trivial
 case done10 =>
  refine fun w11 hb11 v0 h0 v1 h1 v2 h2 v3 h3 v4 h4 v5 h5 v6 h6 b hbf => ?_;obtain rfl:=h0;obtain rfl:=h1;obtain rfl:=h3;obtain rfl:=h4;obtain ⟨q2,f2⟩:=h2;obtain ⟨q5,f5⟩:=h5;obtain ⟨q6,f6⟩:=h6;simp only [Act.put,zA0,zA2,zA1] at hbf;subst hbf;replace B0:=B0.bQ hb11;replace k0s:=k0s.bQ hb11;replace k0d:=k0d.bQ hb11;replace k0z:=k0z.bQ hb11;replace k0:=k0.bQ hb11;replace BR0:=BR0.bQ hb11;replace bb:=bb.trans (hb11.mono bb.size);have hsz11:=bb.size;have s_2:=sB;have s_5:=sB;have s_6:=sB;obtain ⟨u6,t6,rfl,q6,d6⟩:=q6;obtain ⟨A9,c9,rfl,_⟩:=id q6;obtain ⟨D9,e9,rfl,_⟩:=id d6;refine zH7 (i:=7) (by kernel_rfl) rfl rfl rfl rfl rfl rfl (cells:=[.bool (ngB (q).num),.slice A9 (digs 4294967296 (q).num.natAbs).length c9,.slice D9 (digs 4294967296 (q).den).length e9]) rfl BR0 rfl (by kernel_rfl) (zH rfl rfl rfl) fun w9 hg9 B9 => ?_;have k9:=off q6 BR0 zC9 hg9;have d9:=off d6 BR0 zC9 hg9;have f9:=f6.mono (show w.heap.size<=_ from s_6);have bb9:=bb.trans ((Below.refl _ _).grown hg9 bb.size (fun g hg=>by injection hg with hg;omega));obtain ⟨C0,C1,C2,_,_,_⟩:=three B9;refine zG (by kernel_rfl) ?_;go_wp2;exact bodyPost_ret (v:=.agg #[.bool (ngB (q).num),.slice A9 (digs 4294967296 (q).num.natAbs).length c9,.slice D9 (digs 4294967296 (q).den).length e9]) (by simp [results,results88,go_sem,C0,C1,C2]) rfl ⟨_,rfl,⟨_,_,rfl,k9,d9⟩,f9,bb9⟩
theorem yW9 (a0:Value) (q:Rat) (w:World) (h0:IsP w a0 q)  :
  Calls prog 151 #[a0] w (qA8 (-q) w):=by
 obtain ⟨u0,t0,rfl,s0,r0⟩:=h0;obtain ⟨A0,c0,rfl,_⟩:=id s0;obtain ⟨D0,e0,rfl,_⟩:=id r0;have HN:Hid (-q.num=(-q).num):=(zW2 q).1.symm;have HD:Hid (q.den=(-q).den):=(zW2 q).2.symm
 go_enter func151,ntmps151
 go_upto_region 1 with (fail)
 obtain ⟨wx,hwx,bb,B0,BR0,hsz⟩:=zI4 w 65 65 #[.bool (ngB (q).num),.slice A0 (digs 10000 (q).num.natAbs).length c0,.slice D0 (digs 10000 (q).den).length e0] #[.bool false,.slice none 0 0,.slice none 0 0];rw [hwx];clear hwx;have k0s:=s0.bQ bb;have k0d:=r0.bQ bb;have k0z:IsR wx (.agg #[.bool (ngB (q).num),.slice A0 (digs 10000 (q).num.natAbs).length c0]) (q).num:=⟨_,rfl,k0s⟩;have k0:IsP wx (.agg #[.bool (ngB (q).num),.slice A0 (digs 10000 (q).num.natAbs).length c0,.slice D0 (digs 10000 (q).den).length e0]) (q):=⟨_,_,rfl,k0s,k0d⟩;have hsz0:=bb.size;have sB:=bb.size;refine flow 6 [Pd.eq (.pointer (some ⟨w.heap.size,0,none⟩)),Pd.eq (.agg #[.bool (ngB (q).num),.slice A0 (digs 10000 (q).num.natAbs).length c0]),pr ((-q).num),Pd.eq (.pointer (some ⟨w.heap.size,2,none⟩)),Pd.eq (.slice D0 (digs 10000 (q).den).length e0),pp (-q)] (by kernel_rfl) (by kernel_rfl) ?ob11 ?done11
 case ob11 =>
  refine zA (zB9 rfl (zB3 rfl) (zB5 rfl rfl) (fun _=>by kernel_rfl) (fun _=>rfl)) ?_;refine zA (zB7 rfl (zB3 rfl) (zB4 (j:=0) (by kernel_rfl) rfl rfl) (fun w2 hb=>zP underlying63 rfl (by kernel_rfl) (B0.drew.bQ hb) rfl) (fun _ _=>rfl)) ?_;refine zA (zE7 rfl func178 (by kernel_rfl) (zB3 rfl) (zB4 (j:=1) (by kernel_rfl) rfl rfl) (fun w2 u0 hb h0=>by obtain rfl:=h0;exact (HN.out ▸ yV4 _ _ _ (k0z.drew.bQ hb)).mono fun e w3 h=>zR4.pd h)) ?_;refine zA (zB9 rfl (zB3 rfl) (zB5 rfl rfl) (fun _=>by kernel_rfl) (fun _=>rfl)) ?_;refine zA (zB7 rfl (zB3 rfl) (zB4 (j:=3) (by kernel_rfl) rfl rfl) (fun w2 hb=>zC1 underlying53 rfl ((B0.drew.bQ hb).cell 2)) (fun _ _=>rfl)) ?_;refine zA (zK2 rfl (zB3 rfl) (zB4 (j:=2) (by kernel_rfl) rfl rfl) (zB4 (j:=4) (by kernel_rfl) rfl rfl) (fun w2 u v hb hu hv=>by obtain ⟨u7,rfl,hu7⟩:=hu;obtain ⟨A7,c7,rfl,_⟩:=id hu7;obtain rfl:=hv;exact ⟨.agg #[.bool (ngB (-q).num),.slice A7 (digs 10000 (-q).num.natAbs).length c7,.slice D0 (digs 10000 (q).den).length e0],by kernel_rfl,⟨_,_,rfl,hu7,(k0d.drew.bQ hb)⟩⟩)) ?_
  trivial
 case done11 =>
  refine fun w11 hb11 v0 h0 v1 h1 v2 h2 v3 h3 v4 h4 v5 h5 b hbf => ?_;obtain rfl:=h0;obtain rfl:=h1;obtain rfl:=h3;obtain rfl:=h4;have q2:=h2;have q5:=h5;simp only [Act.put,zA0,zA2,zA1] at hbf;subst hbf;replace B0:=B0.bQ hb11;replace k0s:=k0s.bQ hb11;replace k0d:=k0d.bQ hb11;replace k0z:=k0z.bQ hb11;replace k0:=k0.bQ hb11;replace BR0:=BR0.bQ hb11;replace bb:=bb.trans (hb11.mono bb.size);have hsz11:=bb.size;obtain ⟨u5,t5,rfl,q5,d5⟩:=q5;obtain ⟨A9,c9,rfl,_⟩:=id q5;obtain ⟨D9,e9,rfl,_⟩:=id d5;refine zH7 (i:=6) (by kernel_rfl) rfl rfl rfl rfl rfl rfl (cells:=[.bool (ngB (-q).num),.slice A9 (digs 10000 (-q).num.natAbs).length c9,.slice D9 (digs 10000 (-q).den).length e9]) rfl BR0 rfl (by kernel_rfl) (zH rfl rfl rfl) fun w9 hg9 B9 => ?_;have k9:=off q5 BR0 zC9 hg9;have d9:=off d5 BR0 zC9 hg9;have bb9:=bb.trans ((Below.refl _ _).grown hg9 bb.size (fun g hg=>by injection hg with hg;omega));obtain ⟨C0,C1,C2,_,_,_⟩:=three B9;refine zG (by kernel_rfl) ?_;go_wp2;exact bodyPost_ret (v:=.agg #[.bool (ngB (-q).num),.slice A9 (digs 10000 (-q).num.natAbs).length c9,.slice D9 (digs 10000 (-q).den).length e9]) (by simp [results,results151,go_sem,C0,C1,C2]) rfl ⟨_,rfl,⟨_,_,rfl,k9,d9⟩,bb9⟩
theorem yE5 (a0:Value) (x:Rat) (a1:Value) (y:Rat) (w:World) (h0:IsP w a0 x) (h1:IsP w a1 y) (hl:zC2 x 10000) (hl2:zC2 y 10000) :
  Calls prog 62 #[a0,a1] w (zN (x*y) w):=by
 obtain ⟨u0,t0,rfl,s0,r0⟩:=h0;obtain ⟨A0,c0,rfl,_⟩:=id s0;obtain ⟨D0,e0,rfl,_⟩:=id r0;obtain ⟨u1,t1,rfl,s1,r1⟩:=h1;obtain ⟨A1,c1,rfl,_⟩:=id s1;obtain ⟨D1,e1,rfl,_⟩:=id r1;have HM:Hid (mkRat (x.num*y.num) (x.den*y.den)=x*y):=(Rat.mul_def' x y).symm;have HLZ:Hid (zC5 (x.num*y.num)<=30000):=zB2 (zU4 hl.1 hl2.1) (by decide);have HLD:Hid ((digs 4294967296 (x.den*y.den)).length<=30000):=by show _<=_;have:=zT6 x.den y.den;have h1:=hl.2;have h2:=hl2.2;omega
 go_enter func62,ntmps62
 go_upto_region 1 with (fail)
 obtain ⟨wx,hwx,bb,B0,B1,BR0,hsz⟩:=zK1 w 65 65 65 #[.bool (ngB (x).num),.slice A0 (digs 10000 (x).num.natAbs).length c0,.slice D0 (digs 10000 (x).den).length e0] #[.bool (ngB (y).num),.slice A1 (digs 10000 (y).num.natAbs).length c1,.slice D1 (digs 10000 (y).den).length e1] #[.bool false,.slice none 0 0,.slice none 0 0];rw [hwx];clear hwx;have k0s:=s0.bQ bb;have k0d:=r0.bQ bb;have k0z:IsR wx (.agg #[.bool (ngB (x).num),.slice A0 (digs 10000 (x).num.natAbs).length c0]) (x).num:=⟨_,rfl,k0s⟩;have k0:IsP wx (.agg #[.bool (ngB (x).num),.slice A0 (digs 10000 (x).num.natAbs).length c0,.slice D0 (digs 10000 (x).den).length e0]) (x):=⟨_,_,rfl,k0s,k0d⟩;have k1s:=s1.bQ bb;have k1d:=r1.bQ bb;have k1z:IsR wx (.agg #[.bool (ngB (y).num),.slice A1 (digs 10000 (y).num.natAbs).length c1]) (y).num:=⟨_,rfl,k1s⟩;have k1:IsP wx (.agg #[.bool (ngB (y).num),.slice A1 (digs 10000 (y).num.natAbs).length c1,.slice D1 (digs 10000 (y).den).length e1]) (y):=⟨_,_,rfl,k1s,k1d⟩;have hsz0:=bb.size;have sB:=bb.size;refine flow 11 [Pd.eq (.pointer (some ⟨w.heap.size,0,none⟩)),Pd.eq (.agg #[.bool (ngB (x).num),.slice A0 (digs 10000 (x).num.natAbs).length c0]),Pd.eq (.pointer (some ⟨w.heap.size+1,0,none⟩)),Pd.eq (.agg #[.bool (ngB (y).num),.slice A1 (digs 10000 (y).num.natAbs).length c1]),pr ((x.num*y.num)),Pd.eq (.pointer (some ⟨w.heap.size,2,none⟩)),Pd.eq (.slice D0 (digs 10000 (x).den).length e0),Pd.eq (.pointer (some ⟨w.heap.size+1,2,none⟩)),Pd.eq (.slice D1 (digs 10000 (y).den).length e1),ps .i64 (digs 10000 (x.den*y.den)) wx.heap.size,ppf (x*y) wx.heap.size] (by kernel_rfl) (by kernel_rfl) ?ob12 ?done12
 case ob12 =>
  refine zA (zB9 rfl (zB3 rfl) (zB5 rfl rfl) (fun _=>by kernel_rfl) (fun _=>rfl)) ?_;refine zA (zB7 rfl (zB3 rfl) (zB4 (j:=0) (by kernel_rfl) rfl rfl) (fun w2 hb=>zP underlying63 rfl (by kernel_rfl) (B0.drew.bQ hb) rfl) (fun _ _=>rfl)) ?_;refine zA (zB9 rfl (zB3 rfl) (zB5 rfl rfl) (fun _=>by kernel_rfl) (fun _=>rfl)) ?_;refine zA (zB7 rfl (zB3 rfl) (zB4 (j:=2) (by kernel_rfl) rfl rfl) (fun w2 hb=>zP underlying63 rfl (by kernel_rfl) (B1.drew.bQ hb) rfl) (fun _ _=>rfl)) ?_;refine zA (zC7 rfl func110 (by kernel_rfl) (zB3 rfl) (zB4 (j:=1) (by kernel_rfl) rfl rfl) (zB4 (j:=3) (by kernel_rfl) rfl rfl) (fun w2 u0 u1 hb h0 h1=>by obtain rfl:=h0;obtain rfl:=h1;exact (qS4 _ _ _ _ _ (k0z.drew.bQ hb) (k1z.drew.bQ hb) (zB2 hl.1 (by decide)) (zB2 hl2.1 (by decide))).mono fun e w3 h=>zR4.pd h)) ?_;refine zA (zB9 rfl (zB3 rfl) (zB5 rfl rfl) (fun _=>by kernel_rfl) (fun _=>rfl)) ?_;refine zA (zB7 rfl (zB3 rfl) (zB4 (j:=5) (by kernel_rfl) rfl rfl) (fun w2 hb=>zC1 underlying53 rfl ((B0.drew.bQ hb).cell 2)) (fun _ _=>rfl)) ?_;refine zA (zB9 rfl (zB3 rfl) (zB5 rfl rfl) (fun _=>by kernel_rfl) (fun _=>rfl)) ?_;refine zA (zB7 rfl (zB3 rfl) (zB4 (j:=7) (by kernel_rfl) rfl rfl) (fun w2 hb=>zC1 underlying53 rfl ((B1.drew.bQ hb).cell 2)) (fun _ _=>rfl)) ?_;refine zA (zC7 rfl func60 (by kernel_rfl) (zB3 rfl) (zB4 (j:=6) (by kernel_rfl) rfl rfl) (zB4 (j:=8) (by kernel_rfl) rfl rfl) (fun w2 u0 u1 hb h0 h1=>by obtain rfl:=h0;obtain rfl:=h1;exact (qQ4 _ _ x.den y.den _ (k0d.drew.bQ hb) (k1d.drew.bQ hb) (zB2 (zY1 _) (by have:=hl.2;omega)) (zB2 (zY1 _) (by have:=hl2.2;omega))).mono fun e w3 h=>zD1.pd h hb.size)) ?_;refine zA (zC7 rfl func97 (by kernel_rfl) (zB3 rfl) (zB4 (j:=4) (by kernel_rfl) rfl rfl) (zB4 (j:=9) (by kernel_rfl) rfl rfl) (fun w2 u0 u1 hb h0 h1=>by exact (HM.out ▸ qM0 _ (x.num*y.num) _ (x.den*y.den) _ h0 h1.1 (Nat.mul_ne_zero x.den_nz y.den_nz) HLZ.out HLD.out).mono fun e w3 h=>zN.pdf h hb.size)) ?_
  trivial
 case done12 =>
  refine fun w11 hb11 v0 h0 v1 h1 v2 h2 v3 h3 v4 h4 v5 h5 v6 h6 v7 h7 v8 h8 v9 h9 v10 h10 b hbf => ?_;obtain rfl:=h0;obtain rfl:=h1;obtain rfl:=h2;obtain rfl:=h3;obtain rfl:=h5;obtain rfl:=h6;obtain rfl:=h7;obtain rfl:=h8;have q4:=h4;obtain ⟨q9,f9⟩:=h9;obtain ⟨q10,f10⟩:=h10;simp only [Act.put,zA0,zA2,zA1] at hbf;subst hbf;replace B0:=B0.bQ hb11;replace k0s:=k0s.bQ hb11;replace k0d:=k0d.bQ hb11;replace k0z:=k0z.bQ hb11;replace k0:=k0.bQ hb11;replace B1:=B1.bQ hb11;replace k1s:=k1s.bQ hb11;replace k1d:=k1d.bQ hb11;replace k1z:=k1z.bQ hb11;replace k1:=k1.bQ hb11;replace BR0:=BR0.bQ hb11;replace bb:=bb.trans (hb11.mono bb.size);have hsz11:=bb.size;have s_9:=sB;have s_10:=sB;obtain ⟨u10,t10,rfl,q10,d10⟩:=q10;obtain ⟨A9,c9,rfl,_⟩:=id q10;obtain ⟨D9,e9,rfl,_⟩:=id d10;refine zH7 (i:=11) (by kernel_rfl) rfl rfl rfl rfl rfl rfl (cells:=[.bool (ngB (x*y).num),.slice A9 (digs 10000 (x*y).num.natAbs).length c9,.slice D9 (digs 10000 (x*y).den).length e9]) rfl BR0 rfl (by kernel_rfl) (zH rfl rfl rfl) fun w9 hg9 B9 => ?_;have k9:=off q10 BR0 zC9 hg9;have d9:=off d10 BR0 zC9 hg9;have f9:=f10.mono (show w.heap.size<=_ from s_10);have bb9:=bb.trans ((Below.refl _ _).grown hg9 bb.size (fun g hg=>by injection hg with hg;omega));obtain ⟨C0,C1,C2,_,_,_⟩:=three B9;refine zG (by kernel_rfl) ?_;go_wp2;exact bodyPost_ret (v:=.agg #[.bool (ngB (x*y).num),.slice A9 (digs 10000 (x*y).num.natAbs).length c9,.slice D9 (digs 10000 (x*y).den).length e9]) (by simp [results,results62,go_sem,C0,C1,C2]) rfl ⟨_,rfl,⟨_,_,rfl,k9,d9⟩,f9,bb9⟩
theorem yX (a0:Value) (q:Rat) (w:World) (h0:IsP w a0 q) (hq:q≠0) :
  Calls prog 85 #[a0] w (qA8 q⁻¹ w):=by
 have HN:=hQ9 (zW1 hq).1;have HD:=hQ9 (zW1 hq).2;obtain ⟨u0,t0,rfl,s0,r0⟩:=h0;obtain ⟨A0,c0,rfl,_⟩:=id s0;obtain ⟨D0,e0,rfl,_⟩:=id r0
 go_enter func85,ntmps85
 go_upto_region 1 with (fail)
 obtain ⟨wx,hwx,bb,B0,BR0,hsz⟩:=zI4 w 65 65 #[.bool (ngB (q).num),.slice A0 (digs 10000 (q).num.natAbs).length c0,.slice D0 (digs 10000 (q).den).length e0] #[.bool false,.slice none 0 0,.slice none 0 0];rw [hwx];clear hwx;have k0s:=s0.bQ bb;have k0d:=r0.bQ bb;have k0z:IsR wx (.agg #[.bool (ngB (q).num),.slice A0 (digs 10000 (q).num.natAbs).length c0]) (q).num:=⟨_,rfl,k0s⟩;have k0:IsP wx (.agg #[.bool (ngB (q).num),.slice A0 (digs 10000 (q).num.natAbs).length c0,.slice D0 (digs 10000 (q).den).length e0]) (q):=⟨_,_,rfl,k0s,k0d⟩;have hsz0:=bb.size;have sB:=bb.size;refine zC3 10 [Pd.eq (.pointer (some ⟨w.heap.size,0,none⟩)),Pd.eq (.pointer (some ⟨w.heap.size,0,none⟩)),Pd.eq (.bool (ngB (q).num)),Pd.eq (.pointer (some ⟨w.heap.size,2,none⟩)),Pd.eq (.slice D0 (digs 10000 (q).den).length e0),Pd.eq (.agg #[.bool (ngB (q).num),.slice D0 (digs 10000 (q).den).length e0]),Pd.eq (.pointer (some ⟨w.heap.size,0,none⟩)),Pd.eq (.pointer (some ⟨w.heap.size,1,none⟩)),Pd.eq (.slice A0 (digs 10000 (q).num.natAbs).length c0),Pd.eq (.agg #[.bool (ngB (q).num),.slice D0 (digs 10000 (q).den).length e0,.slice A0 (digs 10000 (q).num.natAbs).length c0])] (by kernel_rfl) ?ob13 ?done13
 case ob13 =>
  refine zA (zB9 rfl (zB3 rfl) (zB5 rfl rfl) (fun _=>by kernel_rfl) (fun _=>rfl)) ?_;refine zA (zB9 rfl (zB3 rfl) (zB4 (j:=0) (by kernel_rfl) rfl rfl) (fun _=>by kernel_rfl) (fun _=>rfl)) ?_;refine zA (zB7 rfl (zB3 rfl) (zB4 (j:=1) (by kernel_rfl) rfl rfl) (fun w2 hb=>zC1 underlying4 rfl ((B0.bQ hb).cell 0)) (fun _ _=>rfl)) ?_;refine zA (zB9 rfl (zB3 rfl) (zB5 rfl rfl) (fun _=>by kernel_rfl) (fun _=>rfl)) ?_;refine zA (zB7 rfl (zB3 rfl) (zB4 (j:=3) (by kernel_rfl) rfl rfl) (fun w2 hb=>zC1 underlying53 rfl ((B0.bQ hb).cell 2)) (fun _ _=>rfl)) ?_;refine zA (zK2 rfl (zB3 rfl) (zB4 (j:=2) (by kernel_rfl) rfl rfl) (zB4 (j:=4) (by kernel_rfl) rfl rfl) (fun w2 u v hb hu hv=>by obtain rfl:=hu;obtain rfl:=hv;exact ⟨.agg #[.bool (ngB (q).num),.slice D0 (digs 10000 (q).den).length e0],by kernel_rfl,rfl⟩)) ?_;refine zA (zB9 rfl (zB3 rfl) (zB5 rfl rfl) (fun _=>by kernel_rfl) (fun _=>rfl)) ?_;refine zA (zB9 rfl (zB3 rfl) (zB4 (j:=6) (by kernel_rfl) rfl rfl) (fun _=>by kernel_rfl) (fun _=>rfl)) ?_;refine zA (zB7 rfl (zB3 rfl) (zB4 (j:=7) (by kernel_rfl) rfl rfl) (fun w2 hb=>zC1 underlying53 rfl ((B0.bQ hb).cell 1)) (fun _ _=>rfl)) ?_;refine zA (zK2 rfl (zB3 rfl) (zB4 (j:=5) (by kernel_rfl) rfl rfl) (zB4 (j:=8) (by kernel_rfl) rfl rfl) (fun w2 u v hb hu hv=>by obtain rfl:=hu;obtain rfl:=hv;exact ⟨.agg #[.bool (ngB (q).num),.slice D0 (digs 10000 (q).den).length e0,.slice A0 (digs 10000 (q).num.natAbs).length c0],by kernel_rfl,rfl⟩)) ?_
  trivial
 case done13 =>
  refine fun w11 hb11 v0 h0 v1 h1 v2 h2 v3 h3 v4 h4 v5 h5 v6 h6 v7 h7 v8 h8 v9 h9 b hbf => ?_;obtain rfl:=h0;obtain rfl:=h1;obtain rfl:=h2;obtain rfl:=h3;obtain rfl:=h4;obtain rfl:=h5;obtain rfl:=h6;obtain rfl:=h7;obtain rfl:=h8;obtain rfl:=h9;simp only [Act.put,zA0,zA2,zA1] at hbf;subst hbf;replace B0:=B0.bQ hb11;replace k0s:=k0s.bQ hb11;replace k0d:=k0d.bQ hb11;replace k0z:=k0z.bQ hb11;replace k0:=k0.bQ hb11;replace BR0:=BR0.bQ hb11;replace bb:=bb.trans (hb11.mono bb.size);have hsz11:=bb.size;refine zH0 (i:=10) rfl rfl rfl rfl rfl rfl (cells:=[.bool (ngB (q).num),.slice D0 (digs 10000 (q).den).length e0,.slice A0 (digs 10000 (q).num.natAbs).length c0]) rfl BR0 rfl (by kernel_rfl) (zH rfl rfl rfl) fun w9 hg9 B9 => ?_;have k9:=off k0s BR0 zC9 hg9;have d9:=off k0d BR0 zC9 hg9;have bb9:=bb.trans ((Below.refl _ _).grown hg9 bb.size (fun g hg=>by injection hg with hg;omega));obtain ⟨C0,C1,C2,_,_,_⟩:=three B9;refine zC4 ?_;go_wp2;exact bodyPost_ret (v:=.agg #[.bool (ngB (q).num),.slice D0 (digs 10000 (q).den).length e0,.slice A0 (digs 10000 (q).num.natAbs).length c0]) (by simp [results,results85,go_sem,C0,C1,C2]) rfl ⟨_,rfl,qS1 d9 k9 (by rw [HN.out,qE7 (den_pos q)]) (by rw [HN.out,zT9]) HD.out,bb9⟩
theorem yE6 (a0:Value) (q:Rat) (b:Bool) (w:World) (h0:IsP w a0 q) (hb:b=decide (q=0)) :
  Calls prog 83 #[a0] w (zD3 (.bool b) w):=by
 have HB:Hid (((((digs 10000 q.num.natAbs).length:Nat):Int) == 0)=b):=by
  show _=_
  have h1:=zX6 (B:=10000) (by omega) (x:=q.num.natAbs);rw [hb,Bool.eq_iff_iff,beq_iff_eq,decide_eq_true_eq,<- Rat.num_eq_zero];omega
 clear hb;obtain ⟨u0,t0,rfl,s0,r0⟩:=h0;obtain ⟨A0,c0,rfl,_⟩:=id s0;obtain ⟨D0,e0,rfl,_⟩:=id r0
 go_enter func83,ntmps83
 go_upto_region 1 with (fail)
 obtain ⟨wx,hwx,bb,B0,hsz⟩:=zK4 w 65 #[.bool (ngB (q).num),.slice A0 (digs 10000 (q).num.natAbs).length c0,.slice D0 (digs 10000 (q).den).length e0];rw [hwx];clear hwx;have k0s:=s0.bQ bb;have k0d:=r0.bQ bb;have k0z:IsR wx (.agg #[.bool (ngB (q).num),.slice A0 (digs 10000 (q).num.natAbs).length c0]) (q).num:=⟨_,rfl,k0s⟩;have k0:IsP wx (.agg #[.bool (ngB (q).num),.slice A0 (digs 10000 (q).num.natAbs).length c0,.slice D0 (digs 10000 (q).den).length e0]) (q):=⟨_,_,rfl,k0s,k0d⟩;have hsz0:=bb.size;have sB:=bb.size;refine zC3 6 [Pd.eq (.pointer (some ⟨w.heap.size,0,none⟩)),Pd.eq (.pointer (some ⟨w.heap.size,1,none⟩)),Pd.eq (.slice A0 (digs 10000 (q).num.natAbs).length c0),Pd.eq (.int .i64 (((digs 10000 (q).num.natAbs).length:Nat):Int)),Pd.eq (.bool b),Pd.eq (.bool b)] (by kernel_rfl) ?ob15 ?done15
 case ob15 =>
  refine zA (zB9 rfl (zB3 rfl) (zB5 rfl rfl) (fun _=>by kernel_rfl) (fun _=>rfl)) ?_;refine zA (zB9 rfl (zB3 rfl) (zB4 (j:=0) (by kernel_rfl) rfl rfl) (fun _=>by kernel_rfl) (fun _=>rfl)) ?_;refine zA (zB7 rfl (zB3 rfl) (zB4 (j:=1) (by kernel_rfl) rfl rfl) (fun w2 hb=>zC1 underlying53 rfl ((B0.bQ hb).cell 1)) (fun _ _=>rfl)) ?_;refine zA (zJ rfl (zB3 rfl) (zB4 (j:=2) (by kernel_rfl) rfl rfl) (fun _ _ hx=>⟨_,by rw [hx];exact zJ0 underlying53 _ _ _ _,rfl⟩)) ?_;refine zA (zE6 rfl (zB3 rfl) (zB4 (j:=3) (by kernel_rfl) rfl rfl) (zF8 _) (fun _ _ _ hx hy=>⟨.bool b,by rw [hx,hy,zM9,HB.out],rfl⟩)) ?_;refine zA (zD6 rfl (zB3 rfl) (zB4 (j:=4) (by kernel_rfl) rfl rfl) (fun _ _ h=>h)) ?_
  trivial
 case done15 =>
  refine fun w11 hb11 v0 h0 v1 h1 v2 h2 v3 h3 v4 h4 v5 h5 b hbf => ?_;obtain rfl:=h0;obtain rfl:=h1;obtain rfl:=h2;obtain rfl:=h3;obtain rfl:=h4;obtain rfl:=h5;simp only [Act.put,zA0,zA2,zA1] at hbf;subst hbf;replace B0:=B0.bQ hb11;replace k0s:=k0s.bQ hb11;replace k0d:=k0d.bQ hb11;replace k0z:=k0z.bQ hb11;replace k0:=k0.bQ hb11;replace bb:=bb.trans (hb11.mono bb.size);have hsz11:=bb.size;refine zC4 ?_;go_wp2;go_ret;exact ⟨rfl,bb⟩
theorem yX0 (a0:Value) (x:Rat) (a1:Value) (y:Rat) (w:World) (h0:IsP w a0 x) (h1:IsP w a1 y) (hl:zC2 x 5000) (hl2:zC2 y 5000) :
  Calls prog 150 #[a0,a1] w (zN (x+y) w):=by
 obtain ⟨u0,t0,rfl,s0,r0⟩:=h0;obtain ⟨A0,c0,rfl,_⟩:=id s0;obtain ⟨D0,e0,rfl,_⟩:=id r0;obtain ⟨u1,t1,rfl,s1,r1⟩:=h1;obtain ⟨A1,c1,rfl,_⟩:=id s1;obtain ⟨D1,e1,rfl,_⟩:=id r1;have HA:Hid (mkRat (x.num*y.den+y.num*x.den) (x.den*y.den)=x+y):=(Rat.add_def' x y).symm;have lx1:=hl.1;have lx2:zC5 ((x.den:Nat):Int)<=5000:=by rw [zL8];exact hl.2
 have ly1:=hl2.1;have ly2:zC5 ((y.den:Nat):Int)<=5000:=by rw [zL8];exact hl2.2
 have lp:zC5 (x.num*((y.den:Nat):Int))<=10000:=zU4 lx1 ly2;have lq:zC5 (y.num*((x.den:Nat):Int))<=10000:=zU4 ly1 lx2;have HLZ:Hid (zC5 (x.num*((y.den:Nat):Int)+y.num*((x.den:Nat):Int))<=30000):=zB2 (yE3 lp lq) (by decide);have HLD:Hid ((digs 4294967296 (x.den*y.den)).length<=30000):=by show _<=_;have:=zT6 x.den y.den;have h1:=hl.2;have h2:=hl2.2;omega
 go_enter func150,ntmps150
 go_upto_region 1 with (fail)
 obtain ⟨wx,hwx,bb,B0,B1,BR0,hsz⟩:=zK1 w 65 65 65 #[.bool (ngB (x).num),.slice A0 (digs 10000 (x).num.natAbs).length c0,.slice D0 (digs 10000 (x).den).length e0] #[.bool (ngB (y).num),.slice A1 (digs 10000 (y).num.natAbs).length c1,.slice D1 (digs 10000 (y).den).length e1] #[.bool false,.slice none 0 0,.slice none 0 0];rw [hwx];clear hwx;have k0s:=s0.bQ bb;have k0d:=r0.bQ bb;have k0z:IsR wx (.agg #[.bool (ngB (x).num),.slice A0 (digs 10000 (x).num.natAbs).length c0]) (x).num:=⟨_,rfl,k0s⟩;have k0:IsP wx (.agg #[.bool (ngB (x).num),.slice A0 (digs 10000 (x).num.natAbs).length c0,.slice D0 (digs 10000 (x).den).length e0]) (x):=⟨_,_,rfl,k0s,k0d⟩;have k1s:=s1.bQ bb;have k1d:=r1.bQ bb;have k1z:IsR wx (.agg #[.bool (ngB (y).num),.slice A1 (digs 10000 (y).num.natAbs).length c1]) (y).num:=⟨_,rfl,k1s⟩;have k1:IsP wx (.agg #[.bool (ngB (y).num),.slice A1 (digs 10000 (y).num.natAbs).length c1,.slice D1 (digs 10000 (y).den).length e1]) (y):=⟨_,_,rfl,k1s,k1d⟩;have hsz0:=bb.size;have sB:=bb.size;have lt10_2:=Blk.lt B0;have lt10_3:=Blk.lt B1;have lt10_4:=Blk.lt BR0;refine flow 14 [Pd.eq (.pointer (some ⟨w.heap.size,0,none⟩)),Pd.eq (.agg #[.bool (ngB (x).num),.slice A0 (digs 10000 (x).num.natAbs).length c0]),Pd.eq (.pointer (some ⟨w.heap.size+1,2,none⟩)),Pd.eq (.slice D1 (digs 10000 (y).den).length e1),pr (((y.den:Nat):Int)),pr ((x.num*((y.den:Nat):Int))),Pd.eq (.pointer (some ⟨w.heap.size+1,0,none⟩)),Pd.eq (.agg #[.bool (ngB (y).num),.slice A1 (digs 10000 (y).num.natAbs).length c1]),Pd.eq (.pointer (some ⟨w.heap.size,2,none⟩)),Pd.eq (.slice D0 (digs 10000 (x).den).length e0),pr (((x.den:Nat):Int)),pr ((y.num*((x.den:Nat):Int))),pn 63 #[.bool false,.slice none 0 0] wx.heap.size,pn 63 #[.bool false,.slice none 0 0] wx.heap.size] (by kernel_rfl) (by kernel_rfl) ?ob1 ?done1
 case ob1 =>
  refine zA (zB9 rfl (zB3 rfl) (zB5 rfl rfl) (fun _=>by kernel_rfl) (fun _=>rfl)) ?_;refine zA (zB7 rfl (zB3 rfl) (zB4 (j:=0) (by kernel_rfl) rfl rfl) (fun w2 hb=>zP underlying63 rfl (by kernel_rfl) (B0.drew.bQ hb) rfl) (fun _ _=>rfl)) ?_;refine zA (zB9 rfl (zB3 rfl) (zB5 rfl rfl) (fun _=>by kernel_rfl) (fun _=>rfl)) ?_;refine zA (zB7 rfl (zB3 rfl) (zB4 (j:=2) (by kernel_rfl) rfl rfl) (fun w2 hb=>zC1 underlying53 rfl ((B1.drew.bQ hb).cell 2)) (fun _ _=>rfl)) ?_;refine zA (qS5 rfl (zB3 rfl) (zB4 (j:=3) (by kernel_rfl) rfl rfl) (fun w2 u hb hu=>by obtain rfl:=hu;exact ⟨.agg #[.bool false,.slice D1 (digs 10000 (y).den).length e1],by kernel_rfl,zH3 (k1d.drew.bQ hb) (Int.natAbs_natCast _) (qE6 (by omega)).symm⟩)) ?_;refine zA (zC7 rfl func110 (by kernel_rfl) (zB3 rfl) (zB4 (j:=1) (by kernel_rfl) rfl rfl) (zB4 (j:=4) (by kernel_rfl) rfl rfl) (fun w2 u0 u1 hb h0 h1=>by obtain rfl:=h0;exact (qS4 _ _ _ _ _ (k0z.drew.bQ hb) h1 (zB2 lx1 (by decide)) (zB2 ly2 (by decide))).mono fun e w3 h=>zR4.pd h)) ?_;refine zA (zB9 rfl (zB3 rfl) (zB5 rfl rfl) (fun _=>by kernel_rfl) (fun _=>rfl)) ?_;refine zA (zB7 rfl (zB3 rfl) (zB4 (j:=6) (by kernel_rfl) rfl rfl) (fun w2 hb=>zP underlying63 rfl (by kernel_rfl) (B1.drew.bQ hb) rfl) (fun _ _=>rfl)) ?_;refine zA (zB9 rfl (zB3 rfl) (zB5 rfl rfl) (fun _=>by kernel_rfl) (fun _=>rfl)) ?_;refine zA (zB7 rfl (zB3 rfl) (zB4 (j:=8) (by kernel_rfl) rfl rfl) (fun w2 hb=>zC1 underlying53 rfl ((B0.drew.bQ hb).cell 2)) (fun _ _=>rfl)) ?_;refine zA (qS5 rfl (zB3 rfl) (zB4 (j:=9) (by kernel_rfl) rfl rfl) (fun w2 u hb hu=>by obtain rfl:=hu;exact ⟨.agg #[.bool false,.slice D0 (digs 10000 (x).den).length e0],by kernel_rfl,zH3 (k0d.drew.bQ hb) (Int.natAbs_natCast _) (qE6 (by omega)).symm⟩)) ?_;refine zA (zC7 rfl func110 (by kernel_rfl) (zB3 rfl) (zB4 (j:=7) (by kernel_rfl) rfl rfl) (zB4 (j:=10) (by kernel_rfl) rfl rfl) (fun w2 u0 u1 hb h0 h1=>by obtain rfl:=h0;exact (qS4 _ _ _ _ _ (k1z.drew.bQ hb) h1 (zB2 ly1 (by decide)) (zB2 lx2 (by decide))).mono fun e w3 h=>zR4.pd h)) ?_;refine zA (zL3 (z:=.agg #[.bool false,.slice none 0 0]) rfl rfl (fun _=>by kernel_rfl) (fun _ _ hB h=>⟨_,rfl,hB,h⟩)) ?_;refine zA (zL3 (z:=.agg #[.bool false,.slice none 0 0]) rfl rfl (fun _=>by kernel_rfl) (fun _ _ hB h=>⟨_,rfl,hB,h⟩)) ?_
  trivial
 case done1 =>
  refine fun w11 hb11 v0 h0 v1 h1 v2 h2 v3 h3 v4 h4 v5 h5 v6 h6 v7 h7 v8 h8 v9 h9 v10 h10 v11 h11 v12 h12 d12 v13 h13 d13 b hbf => ?_;obtain rfl:=h0;obtain rfl:=h1;obtain rfl:=h2;obtain rfl:=h3;obtain rfl:=h6;obtain rfl:=h7;obtain rfl:=h8;obtain rfl:=h9;have q4:=h4;have q5:=h5;have q10:=h10;have q11:=h11;obtain ⟨g1_12,rfl,hg12,B12⟩:=h12;obtain ⟨g1_13,rfl,hg13,B13⟩:=h13;simp only [Act.put,zA0,zA2,zA1] at hbf;subst hbf;replace B0:=B0.bQ hb11;replace k0s:=k0s.bQ hb11;replace k0d:=k0d.bQ hb11;replace k0z:=k0z.bQ hb11;replace k0:=k0.bQ hb11;replace B1:=B1.bQ hb11;replace k1s:=k1s.bQ hb11;replace k1d:=k1d.bQ hb11;replace k1z:=k1z.bQ hb11;replace k1:=k1.bQ hb11;replace BR0:=BR0.bQ hb11;replace bb:=bb.trans (hb11.mono bb.size);have hsz11:=bb.size;have BA5:=B12;have BA6:=B13;have hne12_13:g1_12≠g1_13:=fun e=>d13 (.pointer (some ⟨g1_12,0,none⟩)) (by simp) (by rw [e]);obtain ⟨u5,rfl,q5⟩:=q5;obtain ⟨A5,c5,rfl,_⟩:=id q5;obtain ⟨u11,rfl,q11⟩:=q11;obtain ⟨A6,c6,rfl,_⟩:=id q11;refine zH7 (i:=14) (by kernel_rfl) rfl rfl rfl rfl rfl rfl (cells:=[.bool (ngB (x.num*((y.den:Nat):Int))),.slice A5 (digs 10000 ((x.num*((y.den:Nat):Int))).natAbs).length c5]) rfl BA5 rfl (by kernel_rfl) (zG8 rfl rfl) fun w12 hg12 BN12 => ?_;replace q11:=off q11 BA5 no_ints2 hg12;replace q5:=off q5 BA5 no_ints2 hg12;replace k0s:=off k0s BA5 no_ints2 hg12;replace k0d:=off k0d BA5 no_ints2 hg12;replace k0z:IsR w12 (.agg #[.bool (ngB (x).num),.slice A0 (digs 10000 (x).num.natAbs).length c0]) ((x).num):=⟨_,rfl,k0s⟩;replace k0:IsP w12 (.agg #[.bool (ngB (x).num),.slice A0 (digs 10000 (x).num.natAbs).length c0,.slice D0 (digs 10000 (x).den).length e0]) (x):=⟨_,_,rfl,k0s,k0d⟩;replace B0:=B0.grown hg12 (by omega);replace k1s:=off k1s BA5 no_ints2 hg12;replace k1d:=off k1d BA5 no_ints2 hg12;replace k1z:IsR w12 (.agg #[.bool (ngB (y).num),.slice A1 (digs 10000 (y).num.natAbs).length c1]) ((y).num):=⟨_,rfl,k1s⟩;replace k1:IsP w12 (.agg #[.bool (ngB (y).num),.slice A1 (digs 10000 (y).num.natAbs).length c1,.slice D1 (digs 10000 (y).den).length e1]) (y):=⟨_,_,rfl,k1s,k1d⟩;replace B1:=B1.grown hg12 (by omega);replace BR0:=BR0.grown hg12 (by omega);replace BA6:=BA6.grown hg12 (by omega);replace bb:=bb.trans ((Below.refl _ _).grown hg12 bb.size (fun g hg=>by injection hg with hg;omega));have hsz12:=bb.size;have B5:Blk w12 (g1_12) _ _:=BN12;have k5s:=q5;have k5:IsR w12 (.agg #[.bool (ngB (x.num*((y.den:Nat):Int))),.slice A5 (digs 10000 ((x.num*((y.den:Nat):Int))).natAbs).length c5]) ((x.num*((y.den:Nat):Int))):=⟨_,rfl,k5s⟩;refine zH7 (i:=15) (by kernel_rfl) rfl rfl rfl rfl rfl rfl (cells:=[.bool (ngB (y.num*((x.den:Nat):Int))),.slice A6 (digs 10000 ((y.num*((x.den:Nat):Int))).natAbs).length c6]) rfl BA6 rfl (by kernel_rfl) (zG8 rfl rfl) fun w13 hg13 BN13 => ?_;replace q11:=off q11 BA6 no_ints2 hg13;replace k0s:=off k0s BA6 no_ints2 hg13;replace k0d:=off k0d BA6 no_ints2 hg13;replace k0z:IsR w13 (.agg #[.bool (ngB (x).num),.slice A0 (digs 10000 (x).num.natAbs).length c0]) ((x).num):=⟨_,rfl,k0s⟩;replace k0:IsP w13 (.agg #[.bool (ngB (x).num),.slice A0 (digs 10000 (x).num.natAbs).length c0,.slice D0 (digs 10000 (x).den).length e0]) (x):=⟨_,_,rfl,k0s,k0d⟩;replace B0:=B0.grown hg13 (by omega);replace k1s:=off k1s BA6 no_ints2 hg13;replace k1d:=off k1d BA6 no_ints2 hg13;replace k1z:IsR w13 (.agg #[.bool (ngB (y).num),.slice A1 (digs 10000 (y).num.natAbs).length c1]) ((y).num):=⟨_,rfl,k1s⟩;replace k1:IsP w13 (.agg #[.bool (ngB (y).num),.slice A1 (digs 10000 (y).num.natAbs).length c1,.slice D1 (digs 10000 (y).den).length e1]) (y):=⟨_,_,rfl,k1s,k1d⟩;replace B1:=B1.grown hg13 (by omega);replace BR0:=BR0.grown hg13 (by omega);replace k5s:=off k5s BA6 no_ints2 hg13;replace k5:IsR w13 (.agg #[.bool (ngB (x.num*((y.den:Nat):Int))),.slice A5 (digs 10000 ((x.num*((y.den:Nat):Int))).natAbs).length c5]) ((x.num*((y.den:Nat):Int))):=⟨_,rfl,k5s⟩;replace B5:=B5.grown hg13 (by omega);replace bb:=bb.trans ((Below.refl _ _).grown hg13 bb.size (fun g hg=>by injection hg with hg;omega));have hsz13:=bb.size;have B6:Blk w13 (g1_13) _ _:=BN13;have k6s:=q11;have k6:IsR w13 (.agg #[.bool (ngB (y.num*((x.den:Nat):Int))),.slice A6 (digs 10000 ((y.num*((x.den:Nat):Int))).natAbs).length c6]) ((y.num*((x.den:Nat):Int))):=⟨_,rfl,k6s⟩;refine zG (by kernel_rfl) ?_;have sB:=bb.size;go_upto_region 2 with (fail);refine flow 9 [Pd.eq (.agg #[.bool (ngB (x.num*((y.den:Nat):Int))),.slice A5 (digs 10000 ((x.num*((y.den:Nat):Int))).natAbs).length c5]),Pd.eq (.agg #[.bool (ngB (y.num*((x.den:Nat):Int))),.slice A6 (digs 10000 ((y.num*((x.den:Nat):Int))).natAbs).length c6]),pr (((x.num*((y.den:Nat):Int))+(y.num*((x.den:Nat):Int)))),Pd.eq (.pointer (some ⟨w.heap.size,2,none⟩)),Pd.eq (.slice D0 (digs 10000 (x).den).length e0),Pd.eq (.pointer (some ⟨w.heap.size+1,2,none⟩)),Pd.eq (.slice D1 (digs 10000 (y).den).length e1),ps .i64 (digs 10000 (x.den*y.den)) w13.heap.size,ppf (x+y) w13.heap.size] (by kernel_rfl) (by kernel_rfl) ?ob2 ?done2
  case ob2 =>
   refine zA (zB7 rfl (zB3 rfl) (zB5 rfl rfl) (fun w2 hb=>zF0 underlying63 rfl (by kernel_rfl) (B5.drew.bQ hb)) (fun _ _=>rfl)) ?_;refine zA (zB7 rfl (zB3 rfl) (zB5 rfl rfl) (fun w2 hb=>zF0 underlying63 rfl (by kernel_rfl) (B6.drew.bQ hb)) (fun _ _=>rfl)) ?_;refine zA (zC7 rfl func177 (by kernel_rfl) (zB3 rfl) (zB4 (j:=0) (by kernel_rfl) rfl rfl) (zB4 (j:=1) (by kernel_rfl) rfl rfl) (fun w2 u0 u1 hb h0 h1=>by obtain rfl:=h0;obtain rfl:=h1;exact (yV7 _ _ _ _ _ (k5.drew.bQ hb) (k6.drew.bQ hb) (zB2 lp (by decide)) (zB2 lq (by decide))).mono fun e w3 h=>zR4.pd h)) ?_;refine zA (zB9 rfl (zB3 rfl) (zB5 rfl rfl) (fun _=>by kernel_rfl) (fun _=>rfl)) ?_;refine zA (zB7 rfl (zB3 rfl) (zB4 (j:=3) (by kernel_rfl) rfl rfl) (fun w2 hb=>zC1 underlying53 rfl ((B0.drew.bQ hb).cell 2)) (fun _ _=>rfl)) ?_;refine zA (zB9 rfl (zB3 rfl) (zB5 rfl rfl) (fun _=>by kernel_rfl) (fun _=>rfl)) ?_;refine zA (zB7 rfl (zB3 rfl) (zB4 (j:=5) (by kernel_rfl) rfl rfl) (fun w2 hb=>zC1 underlying53 rfl ((B1.drew.bQ hb).cell 2)) (fun _ _=>rfl)) ?_;refine zA (zC7 rfl func60 (by kernel_rfl) (zB3 rfl) (zB4 (j:=4) (by kernel_rfl) rfl rfl) (zB4 (j:=6) (by kernel_rfl) rfl rfl) (fun w2 u0 u1 hb h0 h1=>by obtain rfl:=h0;obtain rfl:=h1;exact (qQ4 _ _ x.den y.den _ (k0d.drew.bQ hb) (k1d.drew.bQ hb) (zB2 (zY1 _) (by have:=hl.2;omega)) (zB2 (zY1 _) (by have:=hl2.2;omega))).mono fun e w3 h=>zD1.pd h hb.size)) ?_;refine zA (zC7 rfl func97 (by kernel_rfl) (zB3 rfl) (zB4 (j:=2) (by kernel_rfl) rfl rfl) (zB4 (j:=7) (by kernel_rfl) rfl rfl) (fun w2 u0 u1 hb h0 h1=>by exact (HA.out ▸ qM0 _ _ _ (x.den*y.den) _ h0 h1.1 (Nat.mul_ne_zero x.den_nz y.den_nz) HLZ.out HLD.out).mono fun e w3 h=>zN.pdf h hb.size)) ?_
   trivial
  case done2 =>
   refine fun w14 hb14 v0 h0 v1 h1 v2 h2 v3 h3 v4 h4 v5 h5 v6 h6 v7 h7 v8 h8 b hbf => ?_;obtain rfl:=h0;obtain rfl:=h1;obtain rfl:=h3;obtain rfl:=h4;obtain rfl:=h5;obtain rfl:=h6;have q2:=h2;obtain ⟨q7,f7⟩:=h7;obtain ⟨q8,f8⟩:=h8;simp only [Act.put,zA0,zA2,zA1] at hbf;subst hbf;replace B0:=B0.bQ hb14;replace k0s:=k0s.bQ hb14;replace k0d:=k0d.bQ hb14;replace k0z:=k0z.bQ hb14;replace k0:=k0.bQ hb14;replace B1:=B1.bQ hb14;replace k1s:=k1s.bQ hb14;replace k1d:=k1d.bQ hb14;replace k1z:=k1z.bQ hb14;replace k1:=k1.bQ hb14;replace BR0:=BR0.bQ hb14;replace B5:=B5.bQ hb14;replace k5s:=k5s.bQ hb14;replace k5:=k5.bQ hb14;replace B6:=B6.bQ hb14;replace k6s:=k6s.bQ hb14;replace k6:=k6.bQ hb14;replace bb:=bb.trans (hb14.mono bb.size);have hsz14:=bb.size;have s_7:=sB;have s_8:=sB;obtain ⟨u8,t8,rfl,q8,d8⟩:=q8;obtain ⟨A9,c9,rfl,_⟩:=id q8;obtain ⟨D9,e9,rfl,_⟩:=id d8;refine zH7 (i:=9) (by kernel_rfl) rfl rfl rfl rfl rfl rfl (cells:=[.bool (ngB (x+y).num),.slice A9 (digs 10000 (x+y).num.natAbs).length c9,.slice D9 (digs 10000 (x+y).den).length e9]) rfl BR0 rfl (by kernel_rfl) (zH rfl rfl rfl) fun w9 hg9 B9 => ?_;have k9:=off q8 BR0 zC9 hg9;have d9:=off d8 BR0 zC9 hg9;have f9:=f8.mono (show w.heap.size<=_ from s_8);have bb9:=bb.trans ((Below.refl _ _).grown hg9 bb.size (fun g hg=>by injection hg with hg;omega));obtain ⟨C0,C1,C2,_,_,_⟩:=three B9;refine zG (by kernel_rfl) ?_;go_wp2;exact bodyPost_ret (v:=.agg #[.bool (ngB (x+y).num),.slice A9 (digs 10000 (x+y).num.natAbs).length c9,.slice D9 (digs 10000 (x+y).den).length e9]) (by simp [results,results150,go_sem,C0,C1,C2]) rfl ⟨_,rfl,⟨_,_,rfl,k9,d9⟩,f9,bb9⟩
theorem yX1 (a0:Value) (x:Rat) (a1:Value) (y:Rat) (w:World) (h0:IsP w a0 x) (h1:IsP w a1 y) (hl:zC2 x 5000) (hl2:zC2 y 5000) :
  Calls prog 124 #[a0,a1] w (zN (x-y) w):=by
 obtain ⟨u0,t0,rfl,s0,r0⟩:=h0;obtain ⟨A0,c0,rfl,_⟩:=id s0;obtain ⟨D0,e0,rfl,_⟩:=id r0;obtain ⟨u1,t1,rfl,s1,r1⟩:=h1;obtain ⟨A1,c1,rfl,_⟩:=id s1;obtain ⟨D1,e1,rfl,_⟩:=id r1;have HS:Hid (x + -y=x-y):=(Rat.sub_eq_add_neg x y).symm
 go_enter func124,ntmps124
 go_upto_region 1 with (fail)
 obtain ⟨wx,hwx,bb,B0,B1,BR0,hsz⟩:=zK1 w 65 65 65 #[.bool (ngB (x).num),.slice A0 (digs 10000 (x).num.natAbs).length c0,.slice D0 (digs 10000 (x).den).length e0] #[.bool (ngB (y).num),.slice A1 (digs 10000 (y).num.natAbs).length c1,.slice D1 (digs 10000 (y).den).length e1] #[.bool false,.slice none 0 0,.slice none 0 0];rw [hwx];clear hwx;have k0s:=s0.bQ bb;have k0d:=r0.bQ bb;have k0z:IsR wx (.agg #[.bool (ngB (x).num),.slice A0 (digs 10000 (x).num.natAbs).length c0]) (x).num:=⟨_,rfl,k0s⟩;have k0:IsP wx (.agg #[.bool (ngB (x).num),.slice A0 (digs 10000 (x).num.natAbs).length c0,.slice D0 (digs 10000 (x).den).length e0]) (x):=⟨_,_,rfl,k0s,k0d⟩;have k1s:=s1.bQ bb;have k1d:=r1.bQ bb;have k1z:IsR wx (.agg #[.bool (ngB (y).num),.slice A1 (digs 10000 (y).num.natAbs).length c1]) (y).num:=⟨_,rfl,k1s⟩;have k1:IsP wx (.agg #[.bool (ngB (y).num),.slice A1 (digs 10000 (y).num.natAbs).length c1,.slice D1 (digs 10000 (y).den).length e1]) (y):=⟨_,_,rfl,k1s,k1d⟩;have hsz0:=bb.size;have sB:=bb.size;refine flow 4 [Pd.eq (.agg #[.bool (ngB (x).num),.slice A0 (digs 10000 (x).num.natAbs).length c0,.slice D0 (digs 10000 (x).den).length e0]),Pd.eq (.agg #[.bool (ngB (y).num),.slice A1 (digs 10000 (y).num.natAbs).length c1,.slice D1 (digs 10000 (y).den).length e1]),pp (-y),ppf (x-y) wx.heap.size] (by kernel_rfl) (by kernel_rfl) ?ob3 ?done3
 case ob3 =>
  refine zA (zB7 rfl (zB3 rfl) (zB5 rfl rfl) (fun w2 hb=>zF0 underlying65 rfl (by kernel_rfl) (B0.drew.bQ hb)) (fun _ _=>rfl)) ?_;refine zA (zB7 rfl (zB3 rfl) (zB5 rfl rfl) (fun w2 hb=>zF0 underlying65 rfl (by kernel_rfl) (B1.drew.bQ hb)) (fun _ _=>rfl)) ?_;refine zA (zE7 rfl func151 (by kernel_rfl) (zB3 rfl) (zB4 (j:=1) (by kernel_rfl) rfl rfl) (fun w2 u0 hb h0=>by obtain rfl:=h0;exact (yW9 _ _ _ (k1.drew.bQ hb)).mono fun e w3 h=>qA8.pd h)) ?_;refine zA (zC7 rfl func150 (by kernel_rfl) (zB3 rfl) (zB4 (j:=0) (by kernel_rfl) rfl rfl) (zB4 (j:=2) (by kernel_rfl) rfl rfl) (fun w2 u0 u1 hb h0 h1=>by obtain rfl:=h0;exact (HS.out ▸ yX0 _ x _ (-y) _ (k0.drew.bQ hb) h1 hl (qL5 hl2)).mono fun e w3 h=>zN.pdf h hb.size)) ?_
  trivial
 case done3 =>
  refine fun w11 hb11 v0 h0 v1 h1 v2 h2 v3 h3 b hbf => ?_;obtain rfl:=h0;obtain rfl:=h1;have q2:=h2;obtain ⟨q3,f3⟩:=h3;simp only [Act.put,zA0,zA2,zA1] at hbf;subst hbf;replace B0:=B0.bQ hb11;replace k0s:=k0s.bQ hb11;replace k0d:=k0d.bQ hb11;replace k0z:=k0z.bQ hb11;replace k0:=k0.bQ hb11;replace B1:=B1.bQ hb11;replace k1s:=k1s.bQ hb11;replace k1d:=k1d.bQ hb11;replace k1z:=k1z.bQ hb11;replace k1:=k1.bQ hb11;replace BR0:=BR0.bQ hb11;replace bb:=bb.trans (hb11.mono bb.size);have hsz11:=bb.size;have s_3:=sB;obtain ⟨u3,t3,rfl,q3,d3⟩:=q3;obtain ⟨A9,c9,rfl,_⟩:=id q3;obtain ⟨D9,e9,rfl,_⟩:=id d3;refine zH7 (i:=4) (by kernel_rfl) rfl rfl rfl rfl rfl rfl (cells:=[.bool (ngB (x-y).num),.slice A9 (digs 10000 (x-y).num.natAbs).length c9,.slice D9 (digs 10000 (x-y).den).length e9]) rfl BR0 rfl (by kernel_rfl) (zH rfl rfl rfl) fun w9 hg9 B9 => ?_;have k9:=off q3 BR0 zC9 hg9;have d9:=off d3 BR0 zC9 hg9;have f9:=f3.mono (show w.heap.size<=_ from s_3);have bb9:=bb.trans ((Below.refl _ _).grown hg9 bb.size (fun g hg=>by injection hg with hg;omega));obtain ⟨C0,C1,C2,_,_,_⟩:=three B9;refine zG (by kernel_rfl) ?_;go_wp2;exact bodyPost_ret (v:=.agg #[.bool (ngB (x-y).num),.slice A9 (digs 10000 (x-y).num.natAbs).length c9,.slice D9 (digs 10000 (x-y).den).length e9]) (by simp [results,results124,go_sem,C0,C1,C2]) rfl ⟨_,rfl,⟨_,_,rfl,k9,d9⟩,f9,bb9⟩
end rat
namespace flow
open Go.RowKit num mem
section
variable {P:Program} {Q:Exit->Act->World->Prop} {ops:Array Oper} {o:Oper}
theorem yX2 {L:List Oper} {Φ : List Pd} {w0:World} {a0:Act} {i:Nat} {t:TypeId} {x:Operand} {k:Nat} {F:World->Value->Prop} (hop:o.op=.field t x k) (hw:Wt ops L Φ w0 a0 o true) (hx:Ev L Φ w0 a0 o x F) (hr:∀ w u,F w u -> ∃ v,(Instr.field t u k).run P w=.ok v w/\(ph Φ i).p w v):Ob P Q ops L Φ w0 a0 i o :=
 zO1 hw (by unfold isA;rw [hop]) fun ms w hS=>by
  obtain ⟨v,h1,h2⟩:=hr w _ (hx ms w hS);exact ⟨v,by unfold execOp;simp only [hop,Sem.run_bind,h1];rfl,h2⟩
end
end flow
namespace flow
open Go.RowKit num mem nat txt str
section
variable {P:Program} {Q:Exit->Act->World->Prop} {ops:Array Oper} {o:Oper}
end
section
variable {P:Program} {Q:Exit->Act->World->Prop} {ops:Array Oper} {L:List Oper} {Φ : List Pd} {w0:World} {a0:Act} {i:Nat} {o:Oper}
theorem zI {t:TypeId} {x y:Operand} {F G:World->Value->Prop} (hop:o.op=.indexAddr t x y) (hw:Wt ops L Φ w0 a0 o true) (hx:Ev L Φ w0 a0 o x F) (hy:Ev L Φ w0 a0 o y G)
  (hr:∀ w u v,F w u->G w v -> ∃ r,(Instr.indexAt t u v).run P w=.ok r w/\(ph Φ i).p w r):Ob P Q ops L Φ w0 a0 i o :=
 zO1 hw (by unfold isA;rw [hop]) fun ms w hS=>by
  obtain ⟨v,h1,h2⟩:=hr w _ _ (hx ms w hS) (hy ms w hS);exact ⟨v,by unfold execOp;simp only [hop,Sem.run_bind,h1];rfl,h2⟩
end
end flow
namespace rat
open Go.RowKit num mem nat txt str flow whl
theorem yE7 {x y m:Nat} (hx:(digs 4294967296 x).length<=m) (hy:(digs 4294967296 y).length<=m):(digs 4294967296 (x+y)).length<=m+1:=by
 have h1:=bY2 (zK0 (B:=4294967296) (by omega) x) (bX9 (by omega) hx);have h2:=bY2 (zK0 (B:=4294967296) (by omega) y) (bX9 (by omega) hy);refine zG5 (by omega) ?_;rw [bY1];omega
theorem yX3 {x y:Int} {m:Nat} (hx:zC5 x<=m) (hy:zC5 y<=m):zC5 (x+y)<=m+1 :=
 zB2 (zG7 (by omega) (show (x+y).natAbs<=x.natAbs+y.natAbs by omega)) (yE7 hx hy)
theorem yX4 {x y:Rat} {m n:Nat} (h:zC2 x m) (h':zC2 y n):zC2 (x+y) (m+n+1):=by
 rw [Rat.add_def'];have e1:=qA4 x.num y.den;have e2:=qA4 y.num x.den;have e4:=qA4 x.den y.den;have h1:=h.1;have h2:=h.2;have h3:=h'.1;have h4:=h'.2;rw [zL8] at e1 e2;rw [zL8,zL8,<- Int.natCast_mul,zL8] at e4;have e3:=yX3 (x:=x.num*y.den) (y:=y.num*x.den) (m:=m+n) (by omega) (by omega);exact zU (Nat.mul_ne_zero x.den_nz y.den_nz) e3 (by omega)
abbrev Elt:=Rat × Value × Value
def IsE (k:IntKind) (B:Nat) (w:World) (p:Elt):Prop:=IsS w k p.2.1 (digs B p.1.num.natAbs)/\IsS w k p.2.2 (digs B p.1.den)
theorem IsE.bQ {k:IntKind} {B:Nat} {w w':World} {p:Elt} (h:IsE k B w p) (hb:Below w.heap.size w w'):IsE k B w' p:=⟨h.1.bQ hb,h.2.bQ hb⟩
def zK5 (p:Elt):List Value:=[.bool (ngB p.1.num),p.2.1,p.2.2]
def zF3 (ps:List Elt):List Value:=ps.flatMap zK5
theorem yX5 (ps:List Elt) (p:Elt):zF3 (ps ++ [p])=zF3 ps ++ zK5 p:=by simp [zF3]
theorem qM1:∀ (ps:List Elt) (i:Nat) (p:Elt),ps[i]?=some p->(zF3 ps)[i*3]?=some (.bool (ngB p.1.num))/\(zF3 ps)[i*3+1]?=some p.2.1/\(zF3 ps)[i*3+2]?=some p.2.2
  | [],i,p,h=>by simp at h
  | q :: ps, 0, p, h => by
    obtain rfl:q=p:=by simpa using h
    exact ⟨rfl,rfl,rfl⟩
  | q :: ps, i + 1, p, h => by
    have ih:=qM1 ps i p (by simpa using h);have e:zF3 (q :: ps)=.bool (ngB q.1.num) :: q.2.1 :: q.2.2 :: zF3 ps:=rfl;rw [e,show (i+1)*3=i*3+1+1+1 from by omega];simpa using ih
def zN1 (w:World) (v:Value) (ps:List Elt):Prop:=∃ A c,v=.slice A ps.length c/\ps.length<=c/\c<=maxLen /\ ∀ i p,ps[i]?=some p -> ∃ g o,A=some ⟨g,o,none⟩/\w.cell? ⟨g,o+i*3,none⟩=some (.bool (ngB p.1.num))/\w.cell? ⟨g,o+i*3+1,none⟩=some p.2.1/\w.cell? ⟨g,o+i*3+2,none⟩=some p.2.2
theorem zN1.bQ {w w':World} {v:Value} {ps:List Elt} (h:zN1 w v ps) (hb:Below w.heap.size w w'):zN1 w' v ps:=by
 obtain ⟨A,c,e,h1,h2,h3⟩:=h;refine ⟨A,c,e,h1,h2,fun i p hp => ?_⟩;obtain ⟨g,o,e2,c0,c1,c2⟩:=h3 i p hp;exact ⟨g,o,e2,(hb.cell (bQ0 w _ c0)).trans c0,(hb.cell (bQ0 w _ c1)).trans c1,(hb.cell (bQ0 w _ c2)).trans c2⟩
def SlF (k:IntKind) (B:Nat) (w:World) (v:Value) (qs:List Rat):Prop:=∃ ps:List Elt,ps.map (·.1)=qs/\zN1 w v ps /\ ∀ p∈ps,IsE k B w p
theorem SlF.bQ {k:IntKind} {B:Nat} {w w':World} {v:Value} {qs:List Rat} (h:SlF k B w v qs) (hb:Below w.heap.size w w'):SlF k B w' v qs:=by
 obtain ⟨ps,e,h1,h2⟩:=h;exact ⟨ps,e,h1.bQ hb,fun p hp=>(h2 p hp).bQ hb⟩
theorem SlF.shape {k:IntKind} {B:Nat} {w:World} {v:Value} {qs:List Rat} (h:SlF k B w v qs):∃ A c,v=.slice A qs.length c/\qs.length<=c/\c<=maxLen:=by
 obtain ⟨ps,rfl,⟨A,c,e,h1,h2,_⟩,_⟩:=h;rw [zA9];exact ⟨A,c,e,h1,h2⟩
theorem SlF.at_ {k:IntKind} {B:Nat} {w:World} {A:Option Addr} {n c:Nat} {qs:List Rat} {i:Nat} {q:Rat} (h:SlF k B w (.slice A n c) qs) (hq:qs[i]?=some q):∃ g o u t,A=some ⟨g,o,none⟩/\i<n/\w.cell? ⟨g,o+i*3,none⟩=some (.bool (ngB q.num))/\w.cell? ⟨g,o+i*3+1,none⟩=some u/\w.cell? ⟨g,o+i*3+2,none⟩=some t/\IsS w k u (digs B q.num.natAbs)/\IsS w k t (digs B q.den):=by
  obtain ⟨ps,rfl,⟨A',c',e,h1,h2,h3⟩,h4⟩:=h;injection e with e1 e2 e3;subst e1;subst e2;subst e3;rw [bQ8] at hq
  cases hp:ps[i]? with
  | none=>rw [hp] at hq;cases hq
  | some p =>
    rw [hp] at hq;obtain rfl:p.1=q:=by simpa using hq
    obtain ⟨g,o,e4,c0,c1,c2⟩:=h3 i p hp;have h5:=h4 p (zA5 hp);exact ⟨g,o,p.2.1,p.2.2,e4,(zA4.1 hp).1,c0,c1,c2,h5.1,h5.2⟩
theorem zG6 {P:Program} {t e:TypeId} (hu:P.underlying t=some (.slice e)) (hs:(P.info? e).map (·.size)=some 3) {g o n c k:Nat} (hk:k<n) (w:World):(Instr.indexAt t (.slice (some ⟨g,o,none⟩) n c) (.int .i64 (k:Int))).run P w=.ok (.pointer (some ⟨g,o+k*3,none⟩)) w:=by
  cases hq:P.info? e with
  | none=>simp [hq] at hs
  | some inf =>
    have hsz:inf.size=3:=by simpa [hq] using hs
    simp [Instr.indexAt,asIntOf,go_sem,run_underlying hu,sizeOf,typeInfo,hq,hsz,hk]
theorem zM1 {P:Program} {t:TypeId} {g o:Nat} {x y z:Value} {d:TypeDesc} {w:World} (hu:P.underlying t=some d) (hd:d.isRow=true) (hi:(P.info? t).map (·.size)=some 3) (h0:w.cell? ⟨g,o,none⟩=some x) (h1:w.cell? ⟨g,o+1,none⟩=some y) (h2:w.cell? ⟨g,o+2,none⟩=some z):(Instr.loadAt t (.pointer (some ⟨g,o,none⟩))).run P w=.ok (.agg #[x,y,z]) w :=
 run_loadAt_mid w g o t [x,y,z] d (fun j v hj=>by
  match j,hj with
  | 0,hj=>simp at hj;subst hj;exact h0
  | 1,hj=>simp at hj;subst hj;exact h1
  | 2,hj=>simp at hj;subst hj;exact h2
  | j+3,hj=>simp at hj) hu hd hi
def zD0 (T:TypeId) (w:World) (base:Nat) (v:Value) (ps:List Elt):Prop:=w.ownsRow base T 3 v ps.length (zF3 ps)
theorem zD0.bQ {T:TypeId} {w w':World} {base:Nat} {v:Value} {ps:List Elt} (h:zD0 T w base v ps) (hb:Below w.heap.size w w'):zD0 T w' base v ps :=
 World.ownsRow.kept (row:=none) h ⟨hb.os,hb.tape,hb.output,hb.size,fun i hi _=>hb.block i hi⟩ (by cases hv:v.ownBlock<;>simp)
theorem zD0.other {T:TypeId} {w w':World} {base:Nat} {v:Value} {ps:List Elt} {row:Option Nat} (h:zD0 T w base v ps) (hg:w.grownBy w' row) (hne:∀ g,v.ownBlock=some g->row≠some g):zD0 T w' base v ps :=
 World.ownsRow.kept (row:=row) h hg (by
  cases hv:v.ownBlock with
  | none=>exact .inl rfl
  | some g=>exact .inr fun e=>hne g hv e.symm)
theorem zD0.under {T:TypeId} {w:World} {base:Nat} {v:Value} {ps:List Elt} (h:zD0 T w base v ps):∀ g,v.ownBlock=some g->g<w.heap.size:=fun g hg=>(World.ownsRow.lt h g hg).2
theorem zD0.base_le {T:TypeId} {w:World} {base:Nat} {v:Value} {ps:List Elt} (h:zD0 T w base v ps):∀ g,v.ownBlock=some g->base<=g:=fun g hg=>(World.ownsRow.lt h g hg).1
theorem zD0.isVF {T:TypeId} {w:World} {base:Nat} {v:Value} {ps:List Elt} (h:zD0 T w base v ps):zN1 w v ps:=by
 rcases h.2 with ⟨rfl,h0⟩|⟨g,cap,cur,rfl,_,hg,hn,hm,_,_⟩
 ·obtain rfl:ps=[]:=List.length_eq_zero_iff.1 h0;exact ⟨none,0,rfl,by simp,by unfold maxLen;omega,fun i u hu=>by simp at hu⟩
 ·refine ⟨_,cap,rfl,hn,hm,fun i p hp=>⟨g,0,rfl,?_⟩⟩
  have e:∀ j,(⟨g,0,none⟩:Addr).add j=⟨g,0+j,none⟩:=by
   intro j;unfold Addr.add;by_cases h:j=0
   ·simp [h]
   ·simp [h]
  obtain ⟨f0,f1,f2⟩:=qM1 ps i p hp;have k0:=World.ownsRow.cells h (g:=g) rfl _ _ f0;have k1:=World.ownsRow.cells h (g:=g) rfl _ _ f1;have k2:=World.ownsRow.cells h (g:=g) rfl _ _ f2;rw [e] at k0 k1 k2;exact ⟨k0,by rw [Nat.add_assoc];exact k1,by rw [Nat.add_assoc];exact k2⟩
theorem qF7 (T:TypeId) (w:World) (base:Nat) (hb:base<=w.heap.size):zD0 T (w.alloc (.cells #[] T)) base (.slice (some ⟨w.heap.size,0,none⟩) 0 0) []:=by
 have h:=World.ownsRow_lit (e:=T) (size:=3) w #[] 0 hb (by simp) (by simp);simpa [zD0,zF3] using h
theorem qS7 (T:TypeId) (w:World) (base:Nat):zD0 T w base (.slice none 0 0) []:=World.ownsRow_nil w base T 3
def zG3 (k:IntKind) (B:Nat) (w:World) (v:Value) (ps:List Elt):Prop:=∀ p∈ps,IsE k B w p/\Far v p.2.1/\Far v p.2.2
theorem zG3.nil (k:IntKind) (B:Nat) (w:World) (v:Value):zG3 k B w v []:=fun p hp=>by cases hp
theorem zG3.bQ {k:IntKind} {B:Nat} {w w':World} {v:Value} {ps:List Elt} (h:zG3 k B w v ps) (hb:Below w.heap.size w w'):zG3 k B w' v ps:=fun p hp=>⟨(h p hp).1.bQ hb,(h p hp).2⟩
theorem zG3.snoc {k:IntKind} {B:Nat} {w w':World} {v v':Value} {ps:List Elt} {p:Elt} (h:zG3 k B w v ps) (hk:qK3 w w' v v') (hp:IsE k B w p) (f1:Far v p.2.1) (f2:Far v p.2.2):zG3 k B w' v' (ps ++ [p]):=by
 intro r hr;rcases List.mem_append.1 hr with hr | hr
 ·obtain ⟨⟨a1,a2⟩,b1,b2⟩:=h r hr;have x1:=hk _ _ _ a1 b1;have x2:=hk _ _ _ a2 b2;exact ⟨⟨x1.1,x2.1⟩,x1.2,x2.2⟩
 ·obtain rfl:=List.mem_singleton.1 hr;have x1:=hk _ _ _ hp.1 f1;have x2:=hk _ _ _ hp.2 f2;exact ⟨⟨x1.1,x2.1⟩,x1.2,x2.2⟩
theorem zD0.sl {T:TypeId} {k:IntKind} {B:Nat} {w:World} {base:Nat} {v:Value} {ps:List Elt} (h:zD0 T w base v ps) (hf:zG3 k B w v ps):SlF k B w v (ps.map (·.1)):=⟨ps,rfl,h.isVF,fun p hp=>(hf p hp).1⟩
section
variable {P:Program}
end
theorem zQ6:∃ i,prog.info? 83=some i/\i.zero=some (.agg #[.bool false,.slice none 0 0,.slice none 0 0])/\i.size=3/\i.bytes=56:=info_parts (P:=prog) (e:=83) (z:=.agg #[.bool false,.slice none 0 0,.slice none 0 0]) (size:=3) (bytes:=56) (by kernel_rfl)
theorem zY7:∃ i,prog.info? 65=some i/\i.zero=some (.agg #[.bool false,.slice none 0 0,.slice none 0 0])/\i.size=3/\i.bytes=56:=info_parts (P:=prog) (e:=65) (z:=.agg #[.bool false,.slice none 0 0,.slice none 0 0]) (size:=3) (bytes:=56) (by kernel_rfl)
def zK3 (d:Nat):Nat:=if d=0 then 1 else d
theorem qM2 (d:Nat):zK3 d≠0:=by unfold zK3;split<;>omega
theorem yE8 {d m:Nat} (h:(digs 4294967296 d).length<=m) (hm:1<=m):(digs 4294967296 (zK3 d)).length<=m:=by
 unfold zK3
 split
 ·exact zB2 (zG5 (k:=1) (by omega) (by omega)) hm
 ·exact h
def qF8 (b:Bool) (l m:List Nat) (most:Nat):Rat:=mkRat (zU3 b l most) (zK3 (zY0 m most))
theorem yX6 (b:Bool) (l m:List Nat) {most:Nat} (hm:1<=most):zC2 (qF8 b l m most) most:=zU (qM2 _) (yE0 _ _ _) (yE8 (qR2 _ _) hm)
theorem yX7 (b:Bool) (v u:Value) (l m:List Nat) (mI:Int) (most:Nat) (w:World) (hmI:mI=(most:Int)) (h0:IsS w .u64 v l) (u0:Lt 18446744073709551616 l) (h1:IsS w .u64 u m) (u1:Lt 18446744073709551616 m) (hmost:most<=1000) (hm1:1<=most) :
  Calls prog 51 #[.agg #[.bool b,v,u],.int .i64 mI] w (RetQ (qF8 b l m most) w):=by
 obtain ⟨A0,c0,rfl,_⟩:=id h0;obtain ⟨D0,e0,rfl,_⟩:=id h1;have HM:=hQ9 hmI;clear hmI;obtain ⟨y,hy⟩:∃ y,y=zY0 m most:=⟨_,rfl⟩;have my:(digs 4294967296 y).length<=most:=by rw [hy];exact qR2 _ _
 have HY:=hQ9 hy.symm;obtain ⟨x,hx⟩:∃ x,x=zU3 b l most:=⟨_,rfl⟩;have lx:zC5 x<=most:=by rw [hx];exact yE0 _ _ _
 have HX:=hQ9 hx.symm;have HQ:Hid (qF8 b l m most=mkRat x (zK3 y)):=by show _=_;unfold qF8;rw [hx,hy]
 clear hx hy
 go_enter func51,ntmps51
 go_upto_region 1 with (fail)
 obtain ⟨wx,hwx,bb,B0,B1,hsz⟩:=zI4 w 83 83 #[.bool b,.slice A0 l.length c0,.slice D0 m.length e0] #[.bool false,.slice none 0 0,.slice none 0 0];rw [hwx];clear hwx;have k0s:=h0.bQ bb;have k0d:=h1.bQ bb;obtain ⟨x00,x01,x02,_,_,_⟩:=three B0;have hs0:=bb.size;go_wp2_with fail
 refine (HY.out ▸ yA4 _ m _ most _ HM.out k0d u1 (zB2 hmost (by decide))).mono ?_;rintro e w1 ⟨v1,rfl,k1,f1,b1⟩;obtain ⟨A1,c1,rfl,_⟩:=id k1;replace B0:=B0.bQ b1;replace B1:=B1.bQ b1;replace k0s:=k0s.bQ b1;replace bb:=bb.trans (b1.mono bb.size);have hs1:=bb.size;clear x00 x01 x02 k0d;have HL1:Hid (zC5 x<=30000):=zB2 lx (by omega);have HL2:Hid ((digs 4294967296 (zK3 y)).length<=30000):=zB2 (yE8 my (by omega)) (by omega);have HLQ:Hid (zC2 (mkRat x (zK3 y)) 30000):=zU (qM2 y) HL1.out HL2.out;by_cases hy0:y=0
 ·have HZ:Hid ((digs 4294967296 y).length=0):=by show _=_;rw [hy0,zI9];rfl
  have HO:Hid (digs 4294967296 (zK3 y)=[1]):=by show _=_;rw [hy0];exact digs_one 1 (by omega) (by omega)
  have hz0:(digs 4294967296 y).length=0:=HZ.out;clear hy0;have bA:=zC6 (zB1 w1.heap.size) (.cells #[.int .u64 1] 98);have k1o:=(qY5 w1 w1.heap.size 98 .u64 (show (1:Int)=((1:Nat):Int) from rfl) (zB1 _)).isS;rw [<- HO.out] at k1o;replace k0s:=k0s.bQ bA;obtain ⟨x10,x11,x12,_,_,_⟩:=three (B0.bQ bA);replace B1:=B1.bQ bA;replace bb:=bb.trans (bA.mono bb.size);have hs2:=bb.size;clear k1 f1;go_wp2_with fail
  refine (HX.out ▸ yE1 b _ l _ most _ HM.out k0s u0 (zB2 hmost (by decide))).mono ?_;rintro e w2 ⟨v2,rfl,k2,f2,b2⟩;replace B1:=B1.bQ b2;replace k1o:=k1o.bQ b2;replace bb:=bb.trans (b2.mono bb.size);have hs3:=bb.size;go_wp2_with fail
  refine (yD6 _ x _ k2 HL1.out).mono ?_;rintro e w3 ⟨v3,rfl,k3,b3⟩;replace B1:=B1.bQ b3;replace k1o:=k1o.bQ b3;replace bb:=bb.trans (b3.mono bb.size);have hs4:=bb.size;go_wp2_with fail
  refine (qD0 _ (zK3 y) _ k1o (zB2 HL2.out (by decide))).mono ?_;rintro e w4 ⟨v4,rfl,k4,f4,b4⟩;replace B1:=B1.bQ b4;replace k3:=k3.bQ b4;replace bb:=bb.trans (b4.mono bb.size);have hs5:=bb.size;go_wp2_with fail
  refine (qM0 _ x _ (zK3 y) _ k3 k4 (qM2 y) HL1.out HL2.out).mono ?_;rintro e w5 ⟨v5,rfl,k5,f5,b5⟩;replace B1:=B1.bQ b5;replace bb:=bb.trans (b5.mono bb.size);have hs6:=bb.size;have hg5:=B1.lt;go_wp2_with fail
  refine (yE4 _ _ _ k5 HLQ.out).mono ?_;rintro e w6 ⟨v6,rfl,⟨u6,t6,rfl,k6,d6⟩,f6,b6⟩;obtain ⟨A6,c6,rfl,_⟩:=id k6;obtain ⟨D6,e6,rfl,_⟩:=id d6;replace B1:=B1.bQ b6;replace bb:=bb.trans (b6.mono bb.size);obtain ⟨y0,y1,y2,z0,z1,z2⟩:=three B1;go_wp2;exact bodyPost_ret (v:=.agg #[.bool (ngB (mkRat x (zK3 y)).num),.slice A6 (digs 4294967296 (mkRat x (zK3 y)).num.natAbs).length c6,.slice D6 (digs 4294967296 (mkRat x (zK3 y)).den).length e6]) (by simp [results,results51,go_sem,y0,y1,y2]) rfl (by rw [HQ.out];exact endQ bb (by omega) hg5 k6 d6 f6)
 ·have HZ:0<(digs 4294967296 y).length:=qE1 (by omega);have HO:Hid (zK3 y=y):=if_neg hy0;clear hy0;obtain ⟨x10,x11,x12,_,_,_⟩:=three B0;have k1o:IsS w1 .u64 (.slice A1 (digs 4294967296 y).length c1) (digs 4294967296 (zK3 y)):=by rw [HO.out];exact k1
  go_wp2_with fail
  refine (HX.out ▸ yE1 b _ l _ most _ HM.out k0s u0 (zB2 hmost (by decide))).mono ?_;rintro e w2 ⟨v2,rfl,k2,f2,b2⟩;replace B1:=B1.bQ b2;replace k1o:=k1o.bQ b2;replace bb:=bb.trans (b2.mono bb.size);have hs3:=bb.size;go_wp2_with fail
  refine (yD6 _ x _ k2 HL1.out).mono ?_;rintro e w3 ⟨v3,rfl,k3,b3⟩;replace B1:=B1.bQ b3;replace k1o:=k1o.bQ b3;replace bb:=bb.trans (b3.mono bb.size);have hs4:=bb.size;go_wp2_with fail
  refine (qD0 _ (zK3 y) _ k1o (zB2 HL2.out (by decide))).mono ?_;rintro e w4 ⟨v4,rfl,k4,f4,b4⟩;replace B1:=B1.bQ b4;replace k3:=k3.bQ b4;replace bb:=bb.trans (b4.mono bb.size);have hs5:=bb.size;go_wp2_with fail
  refine (qM0 _ x _ (zK3 y) _ k3 k4 (qM2 y) HL1.out HL2.out).mono ?_;rintro e w5 ⟨v5,rfl,k5,f5,b5⟩;replace B1:=B1.bQ b5;replace bb:=bb.trans (b5.mono bb.size);have hs6:=bb.size;have hg5:=B1.lt;go_wp2_with fail
  refine (yE4 _ _ _ k5 HLQ.out).mono ?_;rintro e w6 ⟨v6,rfl,⟨u6,t6,rfl,k6,d6⟩,f6,b6⟩;obtain ⟨A6,c6,rfl,_⟩:=id k6;obtain ⟨D6,e6,rfl,_⟩:=id d6;replace B1:=B1.bQ b6;replace bb:=bb.trans (b6.mono bb.size);obtain ⟨y0,y1,y2,z0,z1,z2⟩:=three B1;go_wp2;exact bodyPost_ret (v:=.agg #[.bool (ngB (mkRat x (zK3 y)).num),.slice A6 (digs 4294967296 (mkRat x (zK3 y)).num.natAbs).length c6,.slice D6 (digs 4294967296 (mkRat x (zK3 y)).den).length e6]) (by simp [results,results51,go_sem,y0,y1,y2]) rfl (by rw [HQ.out];exact endQ bb (by omega) hg5 k6 d6 f6)
theorem qM3 (z:Int) {d:Nat} (hd:d≠0):(mkRat z d).num=z / ((z.natAbs.gcd d:Nat):Int):=by
 rw [Rat.num_mkRat,if_neg hd,Nat.gcd_comm]
theorem qS8 (z:Int) {d:Nat} (hd:d≠0):z=(mkRat z d).num*((z.natAbs.gcd d:Nat):Int):=by
 rw [qM3 z hd,Int.ediv_mul_cancel (Int.ofNat_dvd_left.2 (Nat.gcd_dvd_left _ _))]
theorem yE9 (z:Int) {d:Nat} (hd:d≠0):d=(mkRat z d).den*(z.natAbs.gcd d):=by
 rw [zW0 z hd,Nat.div_mul_cancel (Nat.gcd_dvd_right _ _)]
theorem yX8 {q:Rat} {n:Int} {d:Nat} (hd:d≠0) (h:q=mkRat n d) (hc:Nat.gcd n.natAbs d=1):q.num=n/\q.den=d:=by
 subst h
 constructor
 ·rw [qM3 n hd,hc];exact Int.ediv_one n
 ·rw [zW0 n hd,hc,Nat.div_one]
theorem yX9 (x y:Rat):(x*y).num=(mkRat x.num y.den).num*(mkRat y.num x.den).num/\(x*y).den=(mkRat y.num x.den).den*(mkRat x.num y.den).den:=by
 have e1:=qS8 x.num y.den_nz;have e2:=yE9 x.num y.den_nz;have e3:=qS8 y.num x.den_nz;have e4:=yE9 y.num x.den_nz;have r1:=(mkRat x.num y.den).reduced;have r2:=(mkRat y.num x.den).reduced;have n1:=(mkRat x.num y.den).den_nz;have n2:=(mkRat y.num x.den).den_nz;have x1:=x.reduced;have y1:=y.reduced;refine yX8 (Nat.mul_ne_zero n2 n1) ?_ ?_
 ·rw [bY0,<- Rat.mkRat_mul_mkRat,Rat.mkRat_self,Rat.mkRat_self,Rat.mkRat_mul_mkRat,bY0 y.den,Rat.mul_def']
 ·have d1:(mkRat x.num y.den).num.natAbs∣x.num.natAbs:=Int.natAbs_dvd_natAbs.2 ⟨_,e1⟩;have d2:(mkRat y.num x.den).den∣x.den:=⟨_,e4⟩;have d3:(mkRat y.num x.den).num.natAbs∣y.num.natAbs:=Int.natAbs_dvd_natAbs.2 ⟨_,e3⟩;have d4:(mkRat x.num y.den).den∣y.den:=⟨_,e2⟩;rw [Int.natAbs_mul];have c1:Nat.Coprime (mkRat x.num y.den).num.natAbs (mkRat y.num x.den).den:=Nat.Coprime.coprime_dvd_left d1 (Nat.Coprime.coprime_dvd_right d2 x1);have c2:Nat.Coprime (mkRat y.num x.den).num.natAbs (mkRat x.num y.den).den:=Nat.Coprime.coprime_dvd_left d3 (Nat.Coprime.coprime_dvd_right d4 y1);exact (Nat.Coprime.mul_right c1 r1).mul_left (Nat.Coprime.mul_right r2 c2)
theorem yY (x y:Rat) {g a b:Nat} (hg:g=x.den.gcd y.den) (ha:a=x.den / g) (hb:b=y.den / g):(x+y).num=(mkRat (x.num*(b:Int)+y.num*(a:Int)) g).num/\(x+y).den=a*b*(mkRat (x.num*(b:Int)+y.num*(a:Int)) g).den:=by
 have gp:0<g:=by rw [hg];exact Nat.gcd_pos_of_pos_left _ x.den_pos
 have haux:=Rat.add.aux x y hg ha hb;have e1:x.den=a*g:=by rw [ha,Nat.div_mul_cancel (by rw [hg];exact Nat.gcd_dvd_left _ _)]
 have e2:y.den=b*g:=by rw [hb,Nat.div_mul_cancel (by rw [hg];exact Nat.gcd_dvd_right _ _)]
 obtain ⟨S,hS⟩:∃ S,S=x.num*(b:Int)+y.num*(a:Int):=⟨_,rfl⟩;rw [<- hS];have haux:S.natAbs.gcd g=S.natAbs.gcd (a*y.den):=by rw [hS];exact haux
 have e3:x+y=mkRat S (a*y.den):=by
  rw [Rat.add_def',show x.num*(y.den:Int)+y.num*(x.den:Int)=S*(g:Int) by rw [hS,e1,e2,Int.natCast_mul,Int.natCast_mul,Int.add_mul,Int.mul_assoc,Int.mul_assoc],show x.den*y.den=a*y.den*g by rw [e1];rw [bX8,bY0 g,<- bX8],Rat.mkRat_mul_right (by omega)]
 have ne:a*y.den≠0:=Nat.mul_ne_zero (fun e=>x.den_nz (by rw [e1,e,Nat.zero_mul])) y.den_nz;rw [e3]
 constructor
 ·rw [qM3 S ne,qM3 S (by omega),haux]
 ·rw [zW0 S ne,zW0 S (by omega),<- haux,e2,<- bX8,Nat.mul_div_assoc _ (Nat.gcd_dvd_right _ _)]
theorem yY0 (n:Int) (d:Nat) (hd:d≠0):mkRat (-n) d = -mkRat n d:=Rat.neg_mkRat n d |>.symm
theorem yY1 {x y:Rat} : x=y ↔ x.num=y.num/\x.den=y.den:=⟨fun h=>by rw [h];exact ⟨rfl,rfl⟩,fun h=>Rat.ext h.1 h.2⟩
def zW4 (z:Int) (d:Nat) (w:World) (e:Ending) (w':World):Prop:=∃ v u,e=.returned (.tuple #[v,u])/\IsZ w' v z/\IsS w' .u64 u (digs 4294967296 d)/\zQ5 w.heap.size v/\zE1 w.heap.size u/\Below w.heap.size w w'
def pzs (z:Int) (d:Nat) (B:Nat):Pd:=⟨fun w t => ∃ v u,t=.tuple #[v,u]/\IsZ w v z/\IsS w .u64 u (digs 4294967296 d)/\zQ5 B v/\zE1 B u,fun h hb=>by obtain ⟨v,u,e,h1,h2,h3,h4⟩:=h;exact ⟨v,u,e,h1.bQ hb,h2.bQ hb,h3,h4⟩⟩
theorem zW4.pd {z:Int} {d:Nat} {w:World} {e:Ending} {w':World} {B:Nat} (h:zW4 z d w e w') (hB:B<=w.heap.size):zH9 (pzs z d B) w e w':=by
 obtain ⟨v,u,h1,h2,h3,h4,h5,h6⟩:=h;exact ⟨_,h1,⟨v,u,rfl,h2,h3,h4.mono hB,h5.mono hB⟩,h6⟩
def zU6 (q:Rat) (n:Int) (w:World) (e:Ending) (w':World):Prop:=∃ v,e=.returned (.tuple #[v,.int .i64 n])/\IsQ w' v q/\zR5 w.heap.size v/\Below w.heap.size w w'
def pqf (q:Rat) (n:Int) (B:Nat):Pd:=⟨fun w t => ∃ v,t=.tuple #[v,.int .i64 n]/\IsQ w v q/\zR5 B v,fun h hb=>by obtain ⟨v,e,h1,h2⟩:=h;exact ⟨v,e,h1.bQ hb,h2⟩⟩
theorem zU6.pd {q:Rat} {n:Int} {w:World} {e:Ending} {w':World} {B:Nat} (h:zU6 q n w e w') (hB:B<=w.heap.size):zH9 (pqf q n B) w e w':=by
 obtain ⟨v,h1,h2,h3,h4⟩:=h;exact ⟨_,h1,⟨v,rfl,h2,h3.mono hB⟩,h4⟩
theorem zU6.e {q:Rat} {n:Int} {w:World} {e:Ending} {w':World} (h:zU6 q n w e w'):zU1 q n w e w':=by
 obtain ⟨v,h1,h2,_,h4⟩:=h;exact ⟨v,h1,h2,h4⟩
theorem zF6.to {x y:Int} {w:World} {e:Ending} {w':World} (h:zF6 x w e w') (k:x=y):zF6 y w e w':=k ▸ h
theorem zD1.to {l m:List Nat} {w:World} {e:Ending} {w':World} (h:zD1 .u64 l w e w') (k:l=m):zD1 .u64 m w e w':=k ▸ h
theorem RetQ.to {x y:Rat} {w:World} {e:Ending} {w':World} (h:RetQ x w e w') (k:x=y):RetQ y w e w':=k ▸ h
def pbq (b:Bool) (S:Value) (l:List Nat) (B:Nat):Pd:=⟨fun w v => ∃ A c,v=.agg #[.bool b,S,.slice A l.length c]/\IsS w .u64 (.slice A l.length c) l/\zE1 B (.slice A l.length c),fun h hb=>by obtain ⟨A,c,e,h1,h2⟩:=h;exact ⟨A,c,e,h1.bQ hb,h2⟩⟩
theorem yY2 (a0:Value) (x:Nat) (w:World) (h0:IsS w .u64 a0 (digs 4294967296 x)) :
  Calls prog 149 #[a0] w (zD3 (.agg #[.bool false,a0]) w):=by
 have s0:=h0;obtain ⟨A0,c0,rfl,_⟩:=id s0
 go_enter func149,ntmps149
 go_upto_region 1 with (fail)
 obtain ⟨wx,hwx,bb,BR0,hsz⟩:=zK4 w 60 #[.bool false,.slice none 0 0];rw [hwx];clear hwx;have k0:=s0.bQ bb;have hsz0:=bb.size;have sB:=bb.size;refine zC3 2 [Pd.eq (.slice A0 (digs 4294967296 x).length c0),Pd.eq (.agg #[.bool false,.slice A0 (digs 4294967296 x).length c0])] (by kernel_rfl) ?ob1 ?done1
 case ob1 =>
  refine zA (zB8 rfl (zB3 rfl) (zB5 rfl rfl) (fun _ _ h=>h)) ?_;refine zA (qS5 rfl (zB3 rfl) (zB4 (j:=0) (by kernel_rfl) rfl rfl) (fun w2 u hb hu=>by obtain rfl:=hu;exact ⟨.agg #[.bool false,.slice A0 (digs 4294967296 x).length c0],by kernel_rfl,rfl⟩)) ?_
  trivial
 case done1 =>
  refine fun w1 hb1 v0 h0 v1 h1 b hbf => ?_;obtain rfl:=h0;obtain rfl:=h1;simp only [Act.put,zA0,zA2,zA1] at hbf;subst hbf;replace BR0:=BR0.bQ hb1;replace k0:=k0.bQ hb1;replace bb:=bb.trans (hb1.mono bb.size);have hsz1:=bb.size;refine zH0 (i:=2) rfl rfl rfl rfl rfl rfl (cells:=[.bool false,.slice A0 (digs 4294967296 x).length c0]) rfl BR0 rfl (by kernel_rfl) (zG8 rfl rfl) fun w9 hg9 B9 => ?_;have bb9:=bb.trans ((Below.refl _ _).grown hg9 bb.size (fun g hg=>by injection hg with hg;omega));obtain ⟨C0,C1,_,_⟩:=Blk.two B9;refine zC4 ?_;go_wp2;exact bodyPost_ret (v:=.agg #[.bool false,.slice A0 (digs 4294967296 x).length c0]) (by simp [results,results149,go_sem,C0,C1]) rfl ⟨rfl,bb9⟩
theorem qF9 (a0:Value) (x:Nat) (w:World) (h0:IsS w .u64 a0 (digs 4294967296 x)):Calls prog 149 #[a0] w (zH9 (pi ((x:Nat):Int)) w) :=
 (yY2 a0 x w h0).mono fun e w' h=>⟨_,h.1,zG9 (h0.bQ h.2) (Int.natAbs_natCast _) (qE6 (by omega)).symm,h.2⟩
theorem qS9 (a0:Value) (x:Nat) (a1:Value) (y:Nat) (w:World) (h0:IsS w .u64 a0 (digs 4294967296 x)) (h1:IsS w .u64 a1 (digs 4294967296 y)) (hl:(digs 4294967296 x).length<=100000) (hl2:(digs 4294967296 y).length<=100000) :
  Calls prog 152 #[a0,a1] w (zD1 .u64 (digs 4294967296 (x*y)) w):=by
 have s0:=h0;obtain ⟨A0,c0,rfl,_⟩:=id s0;have s1:=h1;obtain ⟨A1,c1,rfl,_⟩:=id s1;have bb:Below w.heap.size w w:=Below.refl _ _;have HM:Hid (((x*y:Nat):Int)=((x:Nat):Int)*((y:Nat):Int)):=Int.natCast_mul x y;have HL1:Hid (zC5 ((x:Nat):Int)<=100000):=by show _<=_;rw [zL8];omega
 have HL2:Hid (zC5 ((y:Nat):Int)<=100000):=by show _<=_;rw [zL8];omega
 go_enter func152,ntmps152
 go_upto_region 1 with (fail)
 have k0:=s0.bQ bb;have k1:=s1.bQ bb;have hsz0:=bb.size;have sB:=bb.size;refine zC3 7 [Pd.eq (.slice A0 (digs 4294967296 x).length c0),pi (((x:Nat):Int)),Pd.eq (.slice A1 (digs 4294967296 y).length c1),pi (((y:Nat):Int)),pz (((x*y:Nat):Int)) w.heap.size,ps .u64 (digs 4294967296 (x*y)) w.heap.size,ps .u64 (digs 4294967296 (x*y)) w.heap.size] (by kernel_rfl) ?ob2 ?done2
 case ob2 =>
  refine zA (zB8 rfl (zB3 rfl) (zB5 rfl rfl) (fun _ _ h=>h)) ?_;refine zA (zE7 rfl func149 (by kernel_rfl) (zB3 rfl) (zB4 (j:=0) (by kernel_rfl) rfl rfl) (fun w2 u0 hb h0=>by obtain rfl:=h0;exact qF9 _ (x) _ (k0.bQ hb))) ?_;refine zA (zB8 rfl (zB3 rfl) (zB5 rfl rfl) (fun _ _ h=>h)) ?_;refine zA (zE7 rfl func149 (by kernel_rfl) (zB3 rfl) (zB4 (j:=2) (by kernel_rfl) rfl rfl) (fun w2 u0 hb h0=>by obtain rfl:=h0;exact qF9 _ (y) _ (k1.bQ hb))) ?_;refine zA (zC7 rfl func56 (by kernel_rfl) (zB3 rfl) (zB4 (j:=1) (by kernel_rfl) rfl rfl) (zB4 (j:=3) (by kernel_rfl) rfl rfl) (fun w2 u0 u1 hb h0 h1=>by exact (qF1 _ _ _ _ _ _ h0 h1 HL1.out HL2.out HM.out).mono fun e w3 h=>zF6.pd h hb.size)) ?_;refine zA (yX2 rfl (zB3 rfl) (zB4 (j:=4) (by kernel_rfl) rfl rfl) (fun w2 u hu=>by obtain ⟨⟨u',rfl,q'⟩,f'⟩:=hu;exact ⟨u',by kernel_rfl,q',f' _ _ rfl⟩)) ?_;refine zA (zD6 rfl (zB3 rfl) (zB4 (j:=5) (by kernel_rfl) rfl rfl) (fun _ _ h=>h)) ?_
  trivial
 case done2 =>
  refine fun w1 hb1 v0 h0 v1 h1 v2 h2 v3 h3 v4 h4 v5 h5 v6 h6 b hbf => ?_;obtain rfl:=h0;obtain rfl:=h2;have q1:=h1;have q3:=h3;obtain ⟨q4,f4⟩:=h4;obtain ⟨q5,f5⟩:=h5;obtain ⟨q6,f6⟩:=h6;simp only [Act.put,zA0,zA2,zA1] at hbf;subst hbf;replace k0:=k0.bQ hb1;replace k1:=k1.bQ hb1;replace bb:=bb.trans (hb1.mono bb.size);have hsz1:=bb.size;have s_4:=sB;have s_5:=sB;have s_6:=sB;refine zC4 ?_;go_wp2;go_ret;exact ⟨_,rfl,q6,f6.mono s_6,bb⟩
theorem qG (a0:Value) (z:Int) (a1:Value) (d:Nat) (U:Int) (L:Nat) (w:World) (h0:IsZ w a0 z) (h1:IsS w .u64 a1 (digs 4294967296 d)) (hd:d≠0) (hl:zC5 z<=20000) (hl2:(digs 4294967296 d).length<=20000) (hU:U=(mkRat z d).num) (hL:L=(mkRat z d).den) :
  Calls prog 120 #[a0,a1] w (zW4 U L w):=by
 obtain ⟨u0,rfl,s0⟩:=h0;obtain ⟨A0,c0,rfl,_⟩:=id s0;have s1:=h1;obtain ⟨A1,c1,rfl,_⟩:=id s1;obtain ⟨G,hG⟩:∃ G,G=Nat.gcd z.natAbs d:=⟨_,rfl⟩;have hGp:0<G:=by rw [hG];exact Nat.gcd_pos_of_pos_right _ (by omega)
 have hGd:G<=d:=by rw [hG];exact Nat.le_of_dvd (by omega) (Nat.gcd_dvd_right _ _)
 have HL1:Hid ((digs 4294967296 z.natAbs).length<=90000):=zB2 hl (by decide);have HL2:Hid ((digs 4294967296 d).length<=90000):=zB2 hl2 (by decide);have HL3:Hid (zC5 ((G:Nat):Int)<=20000):=by show _<=_;rw [zL8];exact zB2 (zG7 (by omega) hGd) hl2
 have HL4:Hid ((digs 4294967296 G).length<=90000):=zB2 (zG7 (by omega) hGd) HL2.out;have HG:Hid (zN0 [z.natAbs,d]=G):=by show _=_;rw [hG];simp [zN0]
 have HU:Hid (z=U*((G:Nat):Int)):=by show _=_;rw [hU,hG];exact qS8 z hd
 have HM:Hid (d % G=0):=by show _=_;rw [hG];exact Nat.mod_eq_zero_of_dvd (Nat.gcd_dvd_right _ _)
 have HQ:Hid (L=d / G):=by show _=_;rw [hL,hG];exact zW0 z hd
 have HN:Hid (((G:Nat):Int)≠0):=by show _≠_;omega
 clear hG hU hL hGd
 go_enter func120,ntmps120
 go_upto_region 1 with (fail)
 obtain ⟨wx,hwx,bb,B0,BR0,hsz⟩:=zI4 w 60 60 #[.bool (ngB z),.slice A0 (digs 4294967296 (z).natAbs).length c0] #[.bool false,.slice none 0 0];rw [hwx];clear hwx;have k0s:=s0.bQ bb;have k0:IsZ wx (.agg #[.bool (ngB z),.slice A0 (digs 4294967296 (z).natAbs).length c0]) (z):=zG9 k0s rfl rfl;have k1:=s1.bQ bb;have hsz0:=bb.size;obtain ⟨x00,x01,_,_⟩:=Blk.two B0;go_wp2_with fail
 have hbA:=zC6 (zB1 wx.heap.size) (.cells #[.slice A0 (digs 4294967296 (z).natAbs).length c0,.slice A1 (digs 4294967296 d).length c1] 50);refine (qS6 _ [_,_] [z.natAbs,d] _ (zS4 wx 50 [_,_]) (qK0 (k0s.bQ hbA) (k1.bQ hbA)) (by simp) (by intro q hq;simp at hq;rcases hq with rfl|rfl;exact HL1.out;exact HL2.out)).mono ?_;rintro e w1 ⟨v1,rfl,kg,kgf,b1⟩;have hb1:=hbA.trans (b1.mono hbA.size);rw [HG.out] at kg;clear x00 x01;replace B0:=B0.bQ hb1;replace k0s:=k0s.bQ hb1;replace k0:=k0.bQ hb1;replace BR0:=BR0.bQ hb1;replace k1:=k1.bQ hb1;replace bb:=bb.trans (hb1.mono bb.size);have hsz1:=bb.size;obtain ⟨Akg,ckg,rfl,_⟩:=id kg;have sB:=bb.size;go_upto_region 2 with (fail);have lt1_2:=Blk.lt B0;have lt1_4:=Blk.lt BR0;refine flowl 8 [Pd.eq (.agg #[.bool (ngB z),.slice A0 (digs 4294967296 (z).natAbs).length c0]),Pd.eq (.slice Akg (digs 4294967296 G).length ckg),pi (((G:Nat):Int)),pze (U) 0 w1.heap.size,pze (U) 0 w1.heap.size,pz (U) w1.heap.size,Pd.eq (.int .i64 0),pn 60 #[.bool false,.slice none 0 0] w1.heap.size] (by kernel_rfl) 6 rfl (by kernel_rfl) (fun _ _ _ _ h=>h) (yW8 rfl rfl (zB4 (j:=4) (by kernel_rfl) rfl rfl) (fun w2 u hu=>by obtain ⟨v,rfl,q1,q2⟩:=hu;exact ⟨_,fun _=>rfl,rfl⟩)) ?ob3 ?done3
 case ob3 =>
  refine zA (zB7 rfl (zB3 rfl) (zB5 rfl rfl) (fun w2 hb=>zF0 underlying60 rfl (by kernel_rfl) (B0.drew.bQ hb)) (fun _ _=>rfl)) ?_;refine zA (zB8 rfl (zB3 rfl) (zB5 rfl rfl) (fun _ _ h=>h)) ?_;refine zA (zE7 rfl func149 (by kernel_rfl) (zB3 rfl) (zB4 (j:=1) (by kernel_rfl) rfl rfl) (fun w2 u0 hb h0=>by obtain rfl:=h0;exact qF9 _ (G) _ (kg.drew.bQ hb))) ?_;refine zA (zC7 rfl func148 (by kernel_rfl) (zB3 rfl) (zB4 (j:=0) (by kernel_rfl) rfl rfl) (zB4 (j:=2) (by kernel_rfl) rfl rfl) (fun w2 u0 u1 hb h0 h1=>by obtain rfl:=h0;exact (yW4 _ z _ _ U _ (k0.drew.bQ hb) h1 hl HL3.out HN.out HU.out).mono fun e w3 h=>qL4.pd h hb.size)) ?_;refine zA (zB8 rfl (zB3 rfl) (zB4 (j:=3) (by kernel_rfl) rfl rfl) (fun _ _ h=>h)) ?_;refine zA (zF9 rfl (zB3 rfl) (zB4 (j:=4) (by kernel_rfl) rfl rfl) (fun w2 u hu=>by obtain ⟨v,rfl,q1,q2⟩:=hu;exact ⟨v,rfl,q1,q2⟩)) ?_;refine zA (zF9 rfl (zB3 rfl) (zB4 (j:=4) (by kernel_rfl) rfl rfl) (fun w2 u hu=>by obtain ⟨v,rfl,q1,q2⟩:=hu;exact ⟨_,rfl,rfl⟩)) ?_;refine zA (zL3 (z:=.agg #[.bool false,.slice none 0 0]) rfl rfl (fun _=>by kernel_rfl) (fun _ _ hB h=>⟨_,rfl,hB,h⟩)) ?_
  trivial
 case done3 =>
  refine fun w2 hb2 v0 h0 v1 h1 v2 h2 v3 h3 v4 h4 v5 h5 v6 h6 v7 h7 d7 b hbf => ?_;obtain rfl:=h0;obtain rfl:=h1;obtain rfl:=h6;have q2:=h2;clear h3;clear h4;obtain ⟨q5,f5⟩:=h5;obtain ⟨g3_7,rfl,hg7,B7⟩:=h7;simp only [Act.put,zA0,zA2,zA1] at hbf;subst hbf;replace B0:=B0.bQ hb2;replace k0s:=k0s.bQ hb2;replace k0:=k0.bQ hb2;replace BR0:=BR0.bQ hb2;replace k1:=k1.bQ hb2;replace kg:=kg.bQ hb2;replace bb:=bb.trans (hb2.mono bb.size);have hsz2:=bb.size;have s_5:=sB;have BA7:=B7;obtain ⟨u5,rfl,q5⟩:=q5;obtain ⟨A7,c7,rfl,_⟩:=id q5;refine zH7 (i:=8) (by kernel_rfl) rfl rfl rfl rfl rfl rfl (cells:=[.bool (ngB U),.slice A7 (digs 4294967296 (U).natAbs).length c7]) rfl BA7 rfl (by kernel_rfl) (zG8 rfl rfl) fun w3 hg3 BN3 => ?_;replace q5:=off q5 BA7 no_ints2 hg3;replace k1:=off k1 BA7 no_ints2 hg3;replace kg:=off kg BA7 no_ints2 hg3;replace k0s:=off k0s BA7 no_ints2 hg3;replace k0:IsZ w3 (.agg #[.bool (ngB z),.slice A0 (digs 4294967296 (z).natAbs).length c0]) (z):=⟨_,rfl,k0s⟩;replace B0:=B0.grown hg3 (by omega);replace BR0:=BR0.grown hg3 (by omega);replace bb:=bb.trans ((Below.refl _ _).grown hg3 bb.size (fun g hg=>by injection hg with hg;omega));have hsz3:=bb.size;have B7:Blk w3 (g3_7) _ _:=BN3;have k7s:=q5;have k7:IsZ w3 (.agg #[.bool (ngB U),.slice A7 (digs 4294967296 (U).natAbs).length c7]) (U):=⟨_,rfl,k7s⟩;refine qE5 (i:=9) (.int .i64 0) (by kernel_rfl) rfl rfl rfl rfl rfl fun b hbf => ?_;simp only [Act.put,zA0,zA2,zA1] at hbf;subst hbf;refine zG (by kernel_rfl) ?_;have f7_:=(f5 _ _ rfl).mono s_5;have sB:=bb.size;go_upto_region 3 with (fail);refine zC3 8 [Pd.eq (.slice A1 (digs 4294967296 d).length c1),Pd.eq (.slice Akg (digs 4294967296 G).length ckg),pt .u64 (digs 4294967296 L) 0 w3.heap.size,pt .u64 (digs 4294967296 L) 0 w3.heap.size,ps .u64 (digs 4294967296 L) w3.heap.size,Pd.eq (.int .i64 0),ps .u64 (digs 4294967296 L) w3.heap.size,Pd.eq (.int .i64 0)] (by kernel_rfl) ?ob4 ?done4
  case ob4 =>
   refine zA (zB8 rfl (zB3 rfl) (zB5 rfl rfl) (fun _ _ h=>h)) ?_;refine zA (zB8 rfl (zB3 rfl) (zB5 rfl rfl) (fun _ _ h=>h)) ?_;refine zA (zC7 rfl func55 (by kernel_rfl) (zB3 rfl) (zB4 (j:=0) (by kernel_rfl) rfl rfl) (zB4 (j:=1) (by kernel_rfl) rfl rfl) (fun w2 u0 u1 hb h0 h1=>by obtain rfl:=h0;obtain rfl:=h1;exact (qA2 _ _ d G _ (k1.bQ hb) (kg.bQ hb) HL2.out HL4.out hGp L HM.out HQ.out).mono fun e w3 h=>zO.pd h hb.size)) ?_;refine zA (zB8 rfl (zB3 rfl) (zB4 (j:=2) (by kernel_rfl) rfl rfl) (fun _ _ h=>h)) ?_;refine zA (zF9 rfl (zB3 rfl) (zB4 (j:=3) (by kernel_rfl) rfl rfl) (fun w2 u hu=>by obtain ⟨v,rfl,q1,q2⟩:=hu;exact ⟨v,rfl,q1,q2⟩)) ?_;refine zA (zF9 rfl (zB3 rfl) (zB4 (j:=3) (by kernel_rfl) rfl rfl) (fun w2 u hu=>by obtain ⟨v,rfl,q1,q2⟩:=hu;exact ⟨_,rfl,rfl⟩)) ?_;refine zA (zD6 rfl (zB3 rfl) (zB4 (j:=4) (by kernel_rfl) rfl rfl) (fun _ _ h=>h)) ?_;refine zA (zD6 rfl (zB3 rfl) (zB4 (j:=5) (by kernel_rfl) rfl rfl) (fun _ _ h=>h)) ?_
   trivial
  case done4 =>
   refine fun w4 hb4 v0 h0 v1 h1 v2 h2 v3 h3 v4 h4 v5 h5 v6 h6 v7 h7 b hbf => ?_;obtain rfl:=h0;obtain rfl:=h1;obtain rfl:=h5;obtain rfl:=h7;clear h2;clear h3;obtain ⟨q4,f4⟩:=h4;obtain ⟨q6,f6⟩:=h6;simp only [Act.put,zA0,zA2,zA1] at hbf;subst hbf;replace B0:=B0.bQ hb4;replace k0s:=k0s.bQ hb4;replace k0:=k0.bQ hb4;replace BR0:=BR0.bQ hb4;replace B7:=B7.bQ hb4;replace k7s:=k7s.bQ hb4;replace k7:=k7.bQ hb4;replace k1:=k1.bQ hb4;replace kg:=kg.bQ hb4;replace bb:=bb.trans (hb4.mono bb.size);have hsz4:=bb.size;have s_4:=sB;have s_6:=sB;refine zC4 ?_;obtain ⟨A9,c9,rfl,_⟩:=id q6;have n9:=q6;have n9f:=f6;have n9z_:=s_6;have sB:=bb.size;go_upto_region 4 with (fail);refine zC3 2 [Pd.eq (.agg #[.bool (ngB U),.slice A7 (digs 4294967296 (U).natAbs).length c7]),Pd.eq (.slice A9 (digs 4294967296 L).length c9)] (by kernel_rfl) ?ob5 ?done5
   case ob5 =>
    refine zA (zB7 rfl (zB3 rfl) (zB5 rfl rfl) (fun w2 hb=>zF0 underlying60 rfl (by kernel_rfl) (B7.bQ hb)) (fun _ _=>rfl)) ?_;refine zA (zB8 rfl (zB3 rfl) (zB5 rfl rfl) (fun _ _ h=>h)) ?_
    trivial
   case done5 =>
    refine fun w5 hb5 v0 h0 v1 h1 b hbf => ?_;obtain rfl:=h0;obtain rfl:=h1;simp only [Act.put,zA0,zA2,zA1] at hbf;subst hbf;replace B0:=B0.bQ hb5;replace k0s:=k0s.bQ hb5;replace k0:=k0.bQ hb5;replace BR0:=BR0.bQ hb5;replace B7:=B7.bQ hb5;replace k7s:=k7s.bQ hb5;replace k7:=k7.bQ hb5;replace k1:=k1.bQ hb5;replace kg:=kg.bQ hb5;replace n9:=n9.bQ hb5;replace bb:=bb.trans (hb5.mono bb.size);have hsz5:=bb.size;refine zH0 (i:=2) rfl rfl rfl rfl rfl rfl (cells:=[.bool (ngB U),.slice A7 (digs 4294967296 (U).natAbs).length c7]) rfl BR0 rfl (by kernel_rfl) (zG8 rfl rfl) fun wx9 hg9 BX9 => ?_;have m9:=off k7s BR0 no_ints2 hg9;have l9:=off n9 BR0 no_ints2 hg9;have bb9:=bb.trans ((Below.refl _ _).grown hg9 bb.size (fun g hg=>by injection hg with hg;omega));obtain ⟨C0,C1,_,_⟩:=Blk.two BX9;refine zQ4 (i:=3) (.slice A9 (digs 4294967296 L).length c9) rfl rfl rfl rfl rfl fun b hbf => ?_;simp only [Act.put,zA0,zA2,zA1] at hbf;subst hbf;refine zC4 ?_;go_wp2;exact bodyPost_ret (v:=.tuple #[.agg #[.bool (ngB U),.slice A7 (digs 4294967296 (U).natAbs).length c7],.slice A9 (digs 4294967296 L).length c9]) (by simp [results,results120,go_sem,C0,C1]) rfl ⟨_,_,rfl,zG9 m9 rfl rfl,l9,zL7 f7_,n9f.mono n9z_,bb9⟩
theorem qT (a0:Value) (q:Rat) (w:World) (h0:IsQ w a0 q) (hl:zC2 q 100000) :
  Calls prog 126 #[a0] w (RetQ (-q) w):=by
 obtain ⟨u0,t0,rfl,s0,r0⟩:=h0;obtain ⟨A0,c0,rfl,_⟩:=id s0;obtain ⟨D0,e0,rfl,_⟩:=id r0;have HN:Hid (-q.num=(-q).num):=(zW2 q).1.symm;have HD:Hid (q.den=(-q).den):=(zW2 q).2.symm
 go_enter func126,ntmps126
 go_upto_region 1 with (fail)
 obtain ⟨wx,hwx,bb,B0,BR0,hsz⟩:=zI4 w 83 83 #[.bool (ngB (q).num),.slice A0 (digs 4294967296 (q).num.natAbs).length c0,.slice D0 (digs 4294967296 (q).den).length e0] #[.bool false,.slice none 0 0,.slice none 0 0];rw [hwx];clear hwx;have k0s:=s0.bQ bb;have k0d:=r0.bQ bb;have k0z:IsZ wx (.agg #[.bool (ngB (q).num),.slice A0 (digs 4294967296 (q).num.natAbs).length c0]) (q).num:=⟨_,rfl,k0s⟩;have k0:IsQ wx (.agg #[.bool (ngB (q).num),.slice A0 (digs 4294967296 (q).num.natAbs).length c0,.slice D0 (digs 4294967296 (q).den).length e0]) (q):=⟨_,_,rfl,k0s,k0d⟩;have hsz0:=bb.size;have sB:=bb.size;refine flow 7 [Pd.eq (.pointer (some ⟨w.heap.size,0,none⟩)),Pd.eq (.agg #[.bool (ngB (q).num),.slice A0 (digs 4294967296 (q).num.natAbs).length c0]),pz ((-q).num) wx.heap.size,Pd.eq (.pointer (some ⟨w.heap.size,2,none⟩)),Pd.eq (.slice D0 (digs 4294967296 (q).den).length e0),ps .u64 (digs 4294967296 (-q).den) wx.heap.size,pq (-q) wx.heap.size] (by kernel_rfl) (by kernel_rfl) ?ob6 ?done6
 case ob6 =>
  refine zA (zB9 rfl (zB3 rfl) (zB5 rfl rfl) (fun _=>by kernel_rfl) (fun _=>rfl)) ?_;refine zA (zB7 rfl (zB3 rfl) (zB4 (j:=0) (by kernel_rfl) rfl rfl) (fun w2 hb=>zP underlying60 rfl (by kernel_rfl) (B0.drew.bQ hb) rfl) (fun _ _=>rfl)) ?_;refine zA (zE7 rfl func121 (by kernel_rfl) (zB3 rfl) (zB4 (j:=1) (by kernel_rfl) rfl rfl) (fun w2 u0 hb h0=>by obtain rfl:=h0;exact (yD5 _ q.num _ (k0z.drew.bQ hb) (zB2 hl.1 (by decide))).mono fun e w3 h=>zF6.pd (zF6.to h HN.out) hb.size)) ?_;refine zA (zB9 rfl (zB3 rfl) (zB5 rfl rfl) (fun _=>by kernel_rfl) (fun _=>rfl)) ?_;refine zA (zB7 rfl (zB3 rfl) (zB4 (j:=3) (by kernel_rfl) rfl rfl) (fun w2 hb=>zC1 underlying50 rfl ((B0.drew.bQ hb).cell 2)) (fun _ _=>rfl)) ?_;refine zA (zE7 rfl func106 (by kernel_rfl) (zB3 rfl) (zB4 (j:=4) (by kernel_rfl) rfl rfl) (fun w2 u0 hb h0=>by obtain rfl:=h0;exact (zV3 _ _ _ (k0d.drew.bQ hb) (zB2 hl.2 (by decide))).mono fun e w3 h=>zD1.pd (zD1.to h (congrArg (digs 4294967296) HD.out)) hb.size)) ?_;refine zA (zK2 rfl (zB3 rfl) (zB4 (j:=2) (by kernel_rfl) rfl rfl) (zB4 (j:=5) (by kernel_rfl) rfl rfl) (fun w2 u v hb hu hv=>by obtain ⟨u7,rfl,hu7⟩:=hu.1;obtain ⟨A7,c7,rfl,_⟩:=id hu7;obtain ⟨A8,c8,rfl,_⟩:=id hv.1;exact ⟨.agg #[.bool (ngB (-q).num),.slice A7 (digs 4294967296 (-q).num.natAbs).length c7,.slice A8 (digs 4294967296 (-q).den).length c8],by kernel_rfl,⟨⟨_,_,rfl,hu7,hv.1⟩,zL4 (hu.2 _ _ rfl) hv.2⟩⟩)) ?_
  trivial
 case done6 =>
  refine fun w11 hb11 v0 h0 v1 h1 v2 h2 v3 h3 v4 h4 v5 h5 v6 h6 b hbf => ?_;obtain rfl:=h0;obtain rfl:=h1;obtain rfl:=h3;obtain rfl:=h4;obtain ⟨q2,f2⟩:=h2;obtain ⟨q5,f5⟩:=h5;obtain ⟨q6,f6⟩:=h6;simp only [Act.put,zA0,zA2,zA1] at hbf;subst hbf;replace B0:=B0.bQ hb11;replace k0s:=k0s.bQ hb11;replace k0d:=k0d.bQ hb11;replace k0z:=k0z.bQ hb11;replace k0:=k0.bQ hb11;replace BR0:=BR0.bQ hb11;replace bb:=bb.trans (hb11.mono bb.size);have hsz11:=bb.size;have s_2:=sB;have s_5:=sB;have s_6:=sB;obtain ⟨u6,t6,rfl,q6,d6⟩:=q6;obtain ⟨A9,c9,rfl,_⟩:=id q6;obtain ⟨D9,e9,rfl,_⟩:=id d6;refine zH7 (i:=7) (by kernel_rfl) rfl rfl rfl rfl rfl rfl (cells:=[.bool (ngB (-q).num),.slice A9 (digs 4294967296 (-q).num.natAbs).length c9,.slice D9 (digs 4294967296 (-q).den).length e9]) rfl BR0 rfl (by kernel_rfl) (zH rfl rfl rfl) fun w9 hg9 B9 => ?_;have k9:=off q6 BR0 zC9 hg9;have d9:=off d6 BR0 zC9 hg9;have f9:=f6.mono (show w.heap.size<=_ from s_6);have bb9:=bb.trans ((Below.refl _ _).grown hg9 bb.size (fun g hg=>by injection hg with hg;omega));obtain ⟨C0,C1,C2,_,_,_⟩:=three B9;refine zG (by kernel_rfl) ?_;go_wp2;exact bodyPost_ret (v:=.agg #[.bool (ngB (-q).num),.slice A9 (digs 4294967296 (-q).num.natAbs).length c9,.slice D9 (digs 4294967296 (-q).den).length e9]) (by simp [results,results126,go_sem,C0,C1,C2]) rfl ⟨_,rfl,⟨_,_,rfl,k9,d9⟩,f9,bb9⟩
theorem zR6 (a0:Value) (x:Rat) (t:Int) (w:World) (h0:IsQ w a0 x) (ht:t=zJ3 x.num 0) :
  Calls prog 133 #[a0] w (zD3 (.int .i64 t) w):=by
 obtain ⟨u0,t0,rfl,s0,r0⟩:=h0;obtain ⟨A0,c0,rfl,_⟩:=id s0;obtain ⟨D0,e0,rfl,_⟩:=id r0;have HT:=hQ9 ht;clear ht
 go_enter func133,ntmps133
 go_upto_region 1 with (fail)
 obtain ⟨wx,hwx,bb,B0,hsz⟩:=zK4 w 83 #[.bool (ngB (x).num),.slice A0 (digs 4294967296 (x).num.natAbs).length c0,.slice D0 (digs 4294967296 (x).den).length e0];rw [hwx];clear hwx;have k0s:=s0.bQ bb;have k0d:=r0.bQ bb;have k0z:IsZ wx (.agg #[.bool (ngB (x).num),.slice A0 (digs 4294967296 (x).num.natAbs).length c0]) (x).num:=⟨_,rfl,k0s⟩;have k0:IsQ wx (.agg #[.bool (ngB (x).num),.slice A0 (digs 4294967296 (x).num.natAbs).length c0,.slice D0 (digs 4294967296 (x).den).length e0]) (x):=⟨_,_,rfl,k0s,k0d⟩;have hsz0:=bb.size;have sB:=bb.size;refine zC3 4 [Pd.eq (.pointer (some ⟨w.heap.size,0,none⟩)),Pd.eq (.agg #[.bool (ngB (x).num),.slice A0 (digs 4294967296 (x).num.natAbs).length c0]),Pd.eq (.int .i64 t),Pd.eq (.int .i64 t)] (by kernel_rfl) ?ob7 ?done7
 case ob7 =>
  refine zA (zB9 rfl (zB3 rfl) (zB5 rfl rfl) (fun _=>by kernel_rfl) (fun _=>rfl)) ?_;refine zA (zB7 rfl (zB3 rfl) (zB4 (j:=0) (by kernel_rfl) rfl rfl) (fun w2 hb=>zP underlying60 rfl (by kernel_rfl) (B0.bQ hb) rfl) (fun _ _=>rfl)) ?_;refine zA (zE7 rfl func74 (by kernel_rfl) (zB3 rfl) (zB4 (j:=1) (by kernel_rfl) rfl rfl) (fun w2 u0 hb h0=>by obtain rfl:=h0;exact (qF0 _ x.num t _ (k0z.bQ hb) HT.out).mono fun e w3 h=>zD3.pd h)) ?_;refine zA (zD6 rfl (zB3 rfl) (zB4 (j:=2) (by kernel_rfl) rfl rfl) (fun _ _ h=>h)) ?_
  trivial
 case done7 =>
  refine fun w1 hb1 v0 h0 v1 h1 v2 h2 v3 h3 b hbf => ?_;obtain rfl:=h0;obtain rfl:=h1;obtain rfl:=h2;obtain rfl:=h3;simp only [Act.put,zA0,zA2,zA1] at hbf;subst hbf;replace B0:=B0.bQ hb1;replace k0s:=k0s.bQ hb1;replace k0d:=k0d.bQ hb1;replace k0z:=k0z.bQ hb1;replace k0:=k0.bQ hb1;replace bb:=bb.trans (hb1.mono bb.size);have hsz1:=bb.size;refine zC4 ?_;go_wp2;go_ret;exact ⟨rfl,bb⟩
def HoldQ (w:World) (g:Nat) (q:Rat):Prop:=∃ u t,Blk w g 83 #[.bool (ngB q.num),u,t]/\IsS w .u64 u (digs 4294967296 q.num.natAbs)/\IsS w .u64 t (digs 4294967296 q.den)
def zN2 (l:List Rat):Rat:=l.foldl (· + ·) 0
theorem qT0 (l:List Rat) (q:Rat):zN2 (l ++ [q])=zN2 l+q:=by simp [zN2]
theorem zQ7 {l:List Rat} {k:Nat} {q:Rat} (h:l[k]?=some q):l.take (k+1)=l.take k ++ [q]:=by rw [bQ9,h];rfl
theorem yF {l:List Rat} {m:Nat} (h:∀ q∈l,zC2 q m):zC2 (zN2 l) ((m+1)*l.length+1):=by
  have key:∀ k,k<=l.length->zC2 (zN2 (l.take k)) ((m+1)*k+1):=by
    intro k
    induction k with
    | zero=>intro _;rw [List.take_zero];exact ⟨by show zC5 0<=_;rw [yD];omega,zG5 (k:=1) (by omega) (by decide +kernel)⟩
    | succ k ih =>
      intro hk;have hq:l[k]?=some (l[k]'hk):=zA3 hk;rw [zQ7 hq,qT0];refine (yX4 (ih (by omega)) (h _ (List.getElem_mem hk))).mono ?_;rw [Nat.mul_succ];omega
  have:=key l.length (zB1 _)
  rwa [List.take_length] at this
theorem qM4 {f:Rat->Rat->Rat}:∀ {p q:List Rat} {r:Rat},r∈List.zipWith f p q -> ∃ x∈p,∃ y∈q,r=f x y
  | [],_,_,h=>by simp at h
  | _ :: _,[],_,h=>by simp at h
  | x :: p, y :: q, r, h => by
    rw [List.zipWith_cons_cons] at h;rcases List.mem_cons.1 h with h | h
    · exact ⟨x,List.mem_cons_self,y,List.mem_cons_self,h⟩
    · obtain ⟨a,ha,b,hb,e⟩:=qM4 h;exact ⟨a,List.mem_cons_of_mem _ ha,b,List.mem_cons_of_mem _ hb,e⟩
theorem qM5 {f:Rat->Rat->Rat} {p q:List Rat} {k:Nat} {x y:Rat} (hx:p[k]?=some x) (hy:q[k]?=some y):(List.zipWith f p q)[k]?=some (f x y):=by rw [List.getElem?_zipWith,hx,hy]
theorem qT1 {f:Rat->Rat->Rat} {p q:List Rat} (h:p.length=q.length):(List.zipWith f p q).length=p.length:=by rw [List.length_zipWith,h,Nat.min_self]
def zP0 (p q:List Rat):List Rat:=List.zipWith (fun x y=>x*y) p q
def zI5 (p q:List Rat):Rat:=zN2 (zP0 p q)
def zG2 (p:List Rat) (k:Rat) (q:List Rat):List Rat:=List.zipWith (fun x y=>x-k*y) p q
def zF1 (p:List Rat) (k:Rat):List Rat:=p.map (fun x=>x*k)
theorem yY3 {p q:List Rat} {m:Nat} (h:∀ x∈p,zC2 x m) (h2:∀ x∈q,zC2 x m):∀ r∈zP0 p q,zC2 r (m+m):=by
 intro r hr;obtain ⟨x,hx,y,hy,rfl⟩:=qM4 hr;exact qA6 (h x hx) (h2 y hy)
theorem yY4 {p q:List Rat} {m:Nat} (h:∀ x∈p,zC2 x m) (h2:∀ x∈q,zC2 x m) (he:p.length=q.length):zC2 (zI5 p q) ((m+m+1)*p.length+1):=by
 have:=yF (yY3 h h2)
 rwa [show (zP0 p q).length=p.length from qT1 he] at this
def yF0 (l:List Rat):Prop:=(∀ q∈l,¬ q<0 /\ ¬ 1<q)/\zN2 l=1
instance (l:List Rat):Decidable (yF0 l):=by unfold yF0;infer_instance
end rat
namespace rat
open Go.RowKit Go.ChangeShapes Go.WideShapes Go.ChangeAt Go.Joins Go.Deep num mem nat txt str flow whl
def zY8 (w:World) (v:Value):Prop:=∃ A n c,v=.slice A n c/\n<=c/\c<=maxLen /\ ∀ i,i<n -> ∃ ad b u t l m,A=some ad/\w.cell? (ad.add (i*3))=some (.bool b)/\w.cell? (ad.add (i*3+1))=some u/\w.cell? (ad.add (i*3+2))=some t/\IsS w .u64 u l/\Lt 18446744073709551616 l/\IsS w .u64 t m/\Lt 18446744073709551616 m
theorem trod_q {H:Type} {enc:TypeId × Value->H} {P:Program} {W:World} {fuel:Nat} {t e:TypeId} {f0 f1 g0 g1:Field} {c0 c1 c2:Value} {x:DataW H × List MemPlace} (hs:P.underlying t=some (.struct #[f0,f1])) (ho:(f0.offset == 0 && f1.offset == 2 && P.cellsOf f0.type == 2 && P.cellsOf f1.type == 1)=true)
    (hs2:P.underlying f0.type=some (.struct #[g0,g1])) (hone:oneCellFields P #[g0,g1]=true) (hb:P.underlying g0.type=some .bool) (hsl:P.underlying g1.type=some (.slice e)) (hsl2:P.underlying f1.type=some (.slice e)) (he:P.underlying e=some (.int .u64)) (ce:P.cellsOf e=1)
    (hf:DataW.trod enc P W 0 (fun _=>true) true fuel t [c0,c1,c2]=some x):∃ b l m,c0=.bool b/\IsS W .u64 c1 l/\Lt 18446744073709551616 l/\IsS W .u64 c2 m/\Lt 18446744073709551616 m:=by
  simp only [Bool.and_eq_true,beq_iff_eq] at ho;obtain ⟨⟨⟨o0,o1⟩,k0⟩,k1⟩:=ho;obtain ⟨xs,n,_,hx,_,hlen,hg⟩:=DataW.trod_struct hs hf;have h0:=hg 0 f0 rfl;have h1:=hg 1 f1 rfl;simp [o0,o1,k0,k1] at h0 h1
  match xs,hlen with
  | [y0, y1], _ =>
    have h0':DataW.trod enc P W 0 (fun _=>true) true n f0.type [c0,c1]=some y0:=by simpa using h0
    have h1':DataW.trod enc P W 0 (fun _=>true) true n f1.type [c2]=some y1:=by simpa using h1
    obtain ⟨zs,n2,_,hz,_,hlen2,hg2⟩:=DataW.trod_struct hs2 h0';obtain ⟨p0,q0⟩:=hone_of hone 0 g0 rfl;obtain ⟨p1,q1⟩:=hone_of hone 1 g1 rfl;have j0:=hg2 0 g0 rfl;have j1:=hg2 1 g1 rfl;simp [p0,p1,q0,q1] at j0 j1
    match zs,hlen2 with
    | [z0, z1], _ =>
      have j0':DataW.trod enc P W 0 (fun _=>true) true n2 g0.type [c0]=some z0:=by simpa using j0
      have j1':DataW.trod enc P W 0 (fun _=>true) true n2 g1.type [c1]=some z1:=by simpa using j1
      obtain ⟨b,e0,_⟩:=DataW.trod_bool hb j0';injection e0 with e0 _;subst e0;obtain ⟨l,a1,a2⟩:=yE2 hsl he ce j1';obtain ⟨m,b1,b2⟩:=yE2 hsl2 he ce h1';exact ⟨b,l,m,rfl,a1,a2,b1,b2⟩
theorem yY5 {P:Program} {t e:TypeId} (hu:P.underlying t=some (.slice e)) (hs:(P.info? e).map (·.size)=some 3) (ad:Addr) {n c k:Nat} (hk:k<n) (w:World):(Instr.indexAt t (.slice (some ad) n c) (.int .i64 (k:Int))).run P w=.ok (.pointer (some (ad.add (k*3)))) w:=by
  cases hq:P.info? e with
  | none=>simp [hq] at hs
  | some inf =>
    have hsz:inf.size=3:=by simpa [hq] using hs
    simp [Instr.indexAt,asIntOf,go_sem,run_underlying hu,sizeOf,typeInfo,hq,hsz,hk]
theorem yY6 {P:Program} {t:TypeId} {p:Addr} {k:Nat} {x y z:Value} {d:TypeDesc} {w:World} (hu:P.underlying t=some d) (hd:d.isRow=true) (hi:(P.info? t).map (·.size)=some 3) (h0:w.cell? (p.add k)=some x) (h1:w.cell? (p.add (k+1))=some y) (h2:w.cell? (p.add (k+2))=some z):(Instr.loadAt t (.pointer (some (p.add k)))).run P w=.ok (.agg #[x,y,z]) w:=by
  have hl:(loadCells (p.add k) 3).run P w=.ok [x,y,z].toArray w :=
    run_loadCells_list (P:=P) w (p.add k) [x,y,z] (fun j v hj=>by
      rw [add_add]
      match j,hj with
      | 0,hj=>simp at hj;subst hj;exact h0
      | 1,hj=>simp at hj;subst hj;exact h1
      | 2,hj=>simp at hj;subst hj;exact h2
      | j+3,hj=>simp at hj)
  cases hq:P.info? t with
  | none=>simp [hq] at hi
  | some i =>
    have hs:i.size=3:=by simpa [hq] using hi
    have hagg:(isAgg t).run P w=.ok true w:=by
      unfold isAgg;rw [Sem.run_bind,run_underlying hu w];cases d<;>simp_all
    have hv:(loadVar t (p.add k)).run P w=.ok (.agg #[x,y,z]) w:=by simp [loadVar,Sem.run_bind,hagg,sizeOf,typeInfo,hq,hs,hl]
    simp only [Instr.loadAt,Instr.sureAddr,Sem.run_bind,Sem.run_pure,Result.andThen_ok,hv]
end rat
namespace rat
open Go.RowKit num mem nat txt str flow whl
section
variable {P:Program}
def zH5 (w w':World) (v v':Value):Prop:=qK3 w w' v v'/\w.grownBy w' v.ownBlock /\ ∀ g,g<w.heap.size->v.ownBlock≠some g->v'.ownBlock≠some g
theorem yY7 {w:World} {base:Nat} {t ty T:TypeId} (hT:P.underlying t=some (.slice T)) (hI:∃ i,P.info? T=some i/\i.zero=some (.agg #[.bool false,.slice none 0 0,.slice none 0 0])/\i.size=3/\i.bytes=56) {v:Value} {p:Elt} {ps:List Elt} (hown:zD0 T w base v ps) {ad:Addr} {c:Nat}
  (h0:w.cell? (ad.add 0)=some (.bool (ngB p.1.num))) (h1:w.cell? (ad.add 1)=some p.2.1) (h2:w.cell? (ad.add 2)=some p.2.2) (k1:p.2.1.oneCell'=true) (k2:p.2.2.oneCell'=true) (hlen:ps.length<=1000000000) (hbase:base<=w.heap.size) :
  ∃ v' w',(Builtin.append_ #[t,t] ty #[v,.slice (some ad) 1 c]).run P w=.ok v' w'/\zD0 T w' base v' (ps ++ [p])/\zH5 w w' v v':=by
 obtain ⟨i,hi,hz,hs,hb⟩:=hI
 obtain ⟨v',w',g1,g2,g3,_,g5⟩:=run_append_own_at (P:=P) w base t ty T i (.agg #[.bool false,.slice none 0 0,.slice none 0 0]) 3 56 hT hi hz hs hb rfl (by decide) v ps.length (zF3 ps) hown ad 1 c [.bool (ngB p.1.num),p.2.1,p.2.2] rfl (fun j u hu=>by
  match j,hu with
  | 0,hu=>simp at hu;subst hu;exact h0
  | 1,hu=>simp at hu;subst hu;exact h1
  | 2,hu=>simp at hu;subst hu;exact h2
  | j+3,hu=>simp at hu) (zH rfl k1 k2) (by unfold maxLen;omega) (by omega) hbase
 refine ⟨v',w',g1,by unfold zD0;rw [zA8,yX5];exact g2,qK7 g3 g5,g3,fun g hg hne e1 => ?_⟩;rcases g5 with h | h
 ·exact hne (h ▸ e1)
 ·rw [h] at e1;injection e1 with e1;omega
theorem qT2 {w:World} {o:Oper} {a:Act} {K:Act->World->Prop} {Q:Exit->Act->World->Prop} (s x:Operand) {t:TypeId}
  (ho:o.op=.call { callee:=.builtin .append,args:=#[s,x],argTypes:=#[t,t] })
  {base:Nat} {T:TypeId} (hT:P.underlying t=some (.slice T)) (hI:∃ i,P.info? T=some i/\i.zero=some (.agg #[.bool false,.slice none 0 0,.slice none 0 0])/\i.size=3/\i.bytes=56) {v:Value} {p:Elt} {ps:List Elt} (hs:a.eval s=v) (hown:zD0 T w base v ps) {ad:Addr} {c:Nat} (hx:a.eval x=.slice (some ad) 1 c)
  (h0:w.cell? (ad.add 0)=some (.bool (ngB p.1.num))) (h1:w.cell? (ad.add 1)=some p.2.1) (h2:w.cell? (ad.add 2)=some p.2.2) (k1:p.2.1.oneCell'=true) (k2:p.2.2.oneCell'=true) (hlen:ps.length<=1000000000) (hbase:base<=w.heap.size)
  (h:∀ v' w',zD0 T w' base v' (ps ++ [p])->Below base w w'->Hid (zH5 w w' v v')->K (a.put o.dst v') w'):o.wp P a w K Q:=by
 obtain ⟨v',w',hrun,g2,g3⟩:=yY7 (P:=P) (ty:=o.type) hT hI hown (c:=c) h0 h1 h2 k1 k2 hlen hbase;unfold Oper.wp execOp;simp only [ho,resolve,invoke,builtin,Sem.run_bind,Sem.run_pure,Result.andThen_ok,bX7,List.map_cons,List.map_nil,hs,hx,hrun];exact h v' w' g2 ((Below.refl base w).grown g3.2.1 hbase hown.base_le) g3
theorem qT3 {w:World} {ops:Array Oper} {o:Oper} {a:Act} {K:Act->World->Prop} {Q:Exit->Act->World->Prop} {E:Prop} (hgd:o.guard=none) (s x:Operand) {t:TypeId}
  (ho:o.op=.call { callee:=.builtin .append,args:=#[s,x],argTypes:=#[t,t] })
  {base:Nat} {T:TypeId} (hT:P.underlying t=some (.slice T)) (hI:∃ i,P.info? T=some i/\i.zero=some (.agg #[.bool false,.slice none 0 0,.slice none 0 0])/\i.size=3/\i.bytes=56) {v:Value} {p:Elt} {ps:List Elt} (hs:a.eval s=v) (hown:zD0 T w base v ps) {ad:Addr} {c:Nat} (hx:a.eval x=.slice (some ad) 1 c)
  (h0:w.cell? (ad.add 0)=some (.bool (ngB p.1.num))) (h1:w.cell? (ad.add 1)=some p.2.1) (h2:w.cell? (ad.add 2)=some p.2.2) (k1:p.2.1.oneCell'=true) (k2:p.2.2.oneCell'=true) (hlen:ps.length<=1000000000) (hbase:base<=w.heap.size)
  (h:∀ v' w',zD0 T w' base v' (ps ++ [p])->Below base w w'->Hid (zH5 w w' v v')->K (a.put o.dst v') w') :
  if Region.wanted o (yielded ops a.tmps)=true then Oper.wp P o a w K Q else E:=by
 have hw:Region.wanted o (yielded ops a.tmps)=true:=by simp [Region.wanted,hgd]
 rw [if_pos hw];exact qT2 s x ho hT hI hs hown hx h0 h1 h2 k1 k2 hlen hbase h
end
theorem qM6 (w:World) (T:TypeId) (x y z:Value):(w.alloc (.cells #[x,y,z] T)).cell? ((⟨w.heap.size,0,none⟩:Addr).add 0)=some x/\(w.alloc (.cells #[x,y,z] T)).cell? ((⟨w.heap.size,0,none⟩:Addr).add 1)=some y/\(w.alloc (.cells #[x,y,z] T)).cell? ((⟨w.heap.size,0,none⟩:Addr).add 2)=some z:=by
 have h:=Blk.new w T #[x,y,z];obtain ⟨a,b,c,_,_,_⟩:=three h;exact ⟨a,b,c⟩
theorem zG3.keep {k:IntKind} {B:Nat} {w w':World} {v v':Value} {ps:List Elt} (h:zG3 k B w v ps) (hk:qK3 w w' v v'):zG3 k B w' v' ps:=fun r hr=>by
 obtain ⟨⟨a1,a2⟩,b1,b2⟩:=h r hr;have x1:=hk _ _ _ a1 b1;have x2:=hk _ _ _ a2 b2;exact ⟨⟨x1.1,x2.1⟩,x1.2,x2.2⟩
def zP1 (w wr:World) (v4 v5:Value) (ps rs:List Elt):Prop:=zD0 83 wr w.heap.size v4 ps/\zD0 65 wr w.heap.size v5 rs/\(zG3 .u64 4294967296 wr v4 ps/\zG3 .u64 4294967296 wr v5 ps)/\(zG3 .i64 10000 wr v4 rs/\zG3 .i64 10000 wr v5 rs)/\(∀ g,v4.ownBlock=some g->v5.ownBlock≠some g)/\Below w.heap.size w wr
theorem zP1.bQ {w wr w':World} {v4 v5:Value} {ps rs:List Elt} (h:zP1 w wr v4 v5 ps rs) (hb:Below wr.heap.size wr w'):zP1 w w' v4 v5 ps rs :=
 ⟨h.1.bQ hb,h.2.1.bQ hb,⟨h.2.2.1.1.bQ hb,h.2.2.1.2.bQ hb⟩,⟨h.2.2.2.1.1.bQ hb,h.2.2.2.1.2.bQ hb⟩,h.2.2.2.2.1,h.2.2.2.2.2.trans (hb.mono h.2.2.2.2.2.size)⟩
theorem zP1.one {w wr w':World} {v4 v5 v':Value} {ps rs:List Elt} {p:Elt} (h:zP1 w wr v4 v5 ps rs) (hrow:zD0 83 w' w.heap.size v' (ps ++ [p])) (hg:zH5 wr w' v4 v') (hb:Below w.heap.size wr w') (hp:IsE .u64 4294967296 wr p) (f4:Far v4 p.2.1/\Far v4 p.2.2) (f5:Far v5 p.2.1/\Far v5 p.2.2):zP1 w w' v' v5 (ps ++ [p]) rs:=by
 obtain ⟨h1,h2,⟨h3,h4⟩,⟨h5,h6⟩,h7,h8⟩:=h;obtain ⟨k1,k2,k3⟩:=hg
 have keep:∀ {k:IntKind} {B:Nat} {r:Elt},IsE k B wr r->Far v4 r.2.1->Far v4 r.2.2->IsE k B w' r/\Far v' r.2.1/\Far v' r.2.2:=fun a b c=>by
  have x1:=k1 _ _ _ a.1 b;have x2:=k1 _ _ _ a.2 c;exact ⟨⟨x1.1,x2.1⟩,x1.2,x2.2⟩
 refine ⟨hrow,h2.other k2 (fun g hg e=>h7 g e hg),⟨h3.snoc k1 hp f4.1 f4.2,?_⟩,⟨h5.keep k1,?_⟩,?_,h8.trans hb⟩
 ·intro r hr;rcases List.mem_append.1 hr with hr | hr
  ·exact ⟨(keep (h3 r hr).1 (h3 r hr).2.1 (h3 r hr).2.2).1,(h4 r hr).2⟩
  ·obtain rfl:=List.mem_singleton.1 hr;exact ⟨(keep hp f4.1 f4.2).1,f5⟩
 ·intro r hr;exact ⟨(keep (h5 r hr).1 (h5 r hr).2.1 (h5 r hr).2.2).1,(h6 r hr).2⟩
 ·intro g e4 e5;have hlt:=h2.under g e5;exact k3 g hlt (fun e=>h7 g e e5) e4
theorem zP1.two {w wr w':World} {v4 v5 v':Value} {ps rs:List Elt} {p:Elt} (h:zP1 w wr v4 v5 ps rs) (hrow:zD0 65 w' w.heap.size v' (rs ++ [p])) (hg:zH5 wr w' v5 v') (hb:Below w.heap.size wr w') (hp:IsE .i64 10000 wr p) (f4:Far v4 p.2.1/\Far v4 p.2.2) (f5:Far v5 p.2.1/\Far v5 p.2.2):zP1 w w' v4 v' ps (rs ++ [p]):=by
 obtain ⟨h1,h2,⟨h3,h4⟩,⟨h5,h6⟩,h7,h8⟩:=h;obtain ⟨k1,k2,k3⟩:=hg
 have keep:∀ {k:IntKind} {B:Nat} {r:Elt},IsE k B wr r->Far v5 r.2.1->Far v5 r.2.2->IsE k B w' r/\Far v' r.2.1/\Far v' r.2.2:=fun a b c=>by
  have x1:=k1 _ _ _ a.1 b;have x2:=k1 _ _ _ a.2 c;exact ⟨⟨x1.1,x2.1⟩,x1.2,x2.2⟩
 refine ⟨h1.other k2 (fun g hg e=>h7 g hg e),hrow,⟨?_,h4.keep k1⟩,⟨?_,h6.snoc k1 hp f5.1 f5.2⟩,?_,h8.trans hb⟩
 ·intro r hr;exact ⟨(keep (h4 r hr).1 (h4 r hr).2.1 (h4 r hr).2.2).1,(h3 r hr).2⟩
 ·intro r hr;rcases List.mem_append.1 hr with hr | hr
  ·exact ⟨(keep (h6 r hr).1 (h6 r hr).2.1 (h6 r hr).2.2).1,(h5 r hr).2⟩
  ·obtain rfl:=List.mem_singleton.1 hr;exact ⟨(keep hp f5.1 f5.2).1,f4⟩
 ·intro g e4 e5;have hlt:=h1.under g e4;exact k3 g hlt (fun e=>h7 g e4 e) e5
theorem slF_nil (k:IntKind) (B:Nat) (w:World):SlF k B w (.slice none 0 0) []:=⟨[],rfl,⟨none,0,rfl,by simp,by unfold maxLen;omega,fun i p hp=>by simp at hp⟩,fun p hp=>by cases hp⟩
theorem qB {P:Program} {t e:TypeId} (hu:P.underlying t=some (.slice e)) (hs:(P.info? e).map (·.size)=some 1) (ad:Addr) {n c k:Nat} (hk:k<n) (w:World):(Instr.indexAt t (.slice (some ad) n c) (.int .i64 (k:Int))).run P w=.ok (.pointer (some (ad.add k))) w:=by
  cases hq:P.info? e with
  | none=>simp [hq] at hs
  | some inf =>
    have hsz:inf.size=1:=by simpa [hq] using hs
    simp [Instr.indexAt,asIntOf,go_sem,run_underlying hu,sizeOf,typeInfo,hq,hsz,hk]
theorem yY8 (l:List Rat):∀ a:Rat,l.foldl (· + ·) a=a+l.foldl (· + ·) 0:=by
 induction l with
 | nil=>intro a;simp [Rat.add_zero]
 | cons b l ih=>intro a;rw [List.foldl_cons,List.foldl_cons,ih (a+b),ih (0+b)];grind
theorem yY9 (q:Rat) (l:List Rat):zN2 (q :: l)=q+zN2 l:=by
 unfold zN2;rw [List.foldl_cons,yY8 l (0+q)];grind
theorem qB0 (p:List Rat) (k:Rat):(zF1 p k).length=p.length:=zA9 _
theorem qM7 {p q:List Rat} {k:Rat} (h:p.length=q.length):(zG2 p k q).length=p.length:=qT1 h
theorem qM8 (x y:Rat) (p q:List Rat):zI5 (x :: p) (y :: q)=x*y+zI5 p q:=by
 unfold zI5 zP0;rw [List.zipWith_cons_cons,yY9]
theorem yZ (q:List Rat):zI5 [] q=0:=rfl
def zK6 (d:Nat):List Rat:=zB d 0
def zW5 (d k:Nat):List Rat:=(zK6 d).set k 1
theorem qB1 (d:Nat):(zK6 d).length=d:=List.length_replicate
theorem qT4 (d k:Nat):(zW5 d k).length=d:=by rw [zW5,bQ5,qB1]
theorem yZ0 {d k:Nat} (h:k<d):(zK6 d)[k]?=some 0:=by simp [zK6,h]
theorem yZ1 {d k:Nat} (h:k<d):(zW5 d k)[k]?=some 1:=by rw [zW5,bQ3 (by rw [qB1];exact h)]
theorem qT5 {x:Rat} (h:x=0\/x=1):zC2 x 1:=by
 rcases h with rfl|rfl
 ·exact ⟨by show zC5 0<=_;rw [yD];omega,zG5 (k:=1) (by omega) (by decide +kernel)⟩
 ·exact ⟨zG5 (k:=1) (by omega) (by decide +kernel),zG5 (k:=1) (by omega) (by decide +kernel)⟩
def zC:List (List Rat)->Nat
 | []=>0
 | r :: _=>r.length
def zU7 (t:List (List Rat)):Prop:=∀ r∈t,r.length=zC t
def zJ9 (t:List (List Rat)) (j:Nat):List Rat:=t.map fun r=>r.getD j 0
def zS6 (r:List Rat) (b:List (List Rat)) (n:Nat):List Rat:=(List.range n).map fun j=>zI5 r (zJ9 b j)
def zJ1 (a b:List (List Rat)):List (List Rat):=a.map fun r=>zS6 r b (zC b)
def zH4 (t:List (List Rat)):List (List Rat):=(List.range (zC t)).map (zJ9 t)
theorem qG0 (t:List (List Rat)) (j:Nat):(zJ9 t j).length=t.length:=zA9 _
theorem yZ2 (r:List Rat) (b:List (List Rat)) (n:Nat):(zS6 r b n).length=n:=by rw [zS6,zA9,List.length_range]
theorem qT6 (a b:List (List Rat)):(zJ1 a b).length=a.length:=zA9 _
theorem qT7 (t:List (List Rat)):(zH4 t).length=zC t:=by rw [zH4,zA9,List.length_range]
theorem rowq_at {r:List Rat} {b:List (List Rat)} {n j:Nat} (h:j<n):(zS6 r b n)[j]?=some (zI5 r (zJ9 b j)):=by simp [zS6,h]
theorem mulq_at {a b:List (List Rat)} {i:Nat} {r:List Rat} (h:a[i]?=some r):(zJ1 a b)[i]?=some (zS6 r b (zC b)):=by rw [zJ1,bQ8,h];rfl
theorem yZ3 {t:List (List Rat)} {j:Nat} (h:j<zC t):(zH4 t)[j]?=some (zJ9 t j):=by simp [zH4,h]
theorem qT8 {t:List (List Rat)} {n:Nat} (hne:t≠[]) (h:∀ r∈t,r.length=n):zC t=n:=by
 cases t with
 | nil=>exact absurd rfl hne
 | cons r t=>exact h r List.mem_cons_self
theorem yZ4 {t:List (List Rat)} {n:Nat} (h:∀ r∈t,r.length=n):zU7 t:=by
 intro r hr;rw [qT8 (List.ne_nil_of_mem hr) h];exact h r hr
theorem yF1 {a b:List (List Rat)}:∀ r∈zJ1 a b,r.length=zC b:=by
 intro r hr;obtain ⟨s,_,rfl⟩:=List.mem_map.1 hr;exact yZ2 _ _ _
theorem qM9 {t:List (List Rat)}:∀ r∈zH4 t,r.length=t.length:=by
 intro r hr;obtain ⟨j,_,rfl⟩:=List.mem_map.1 hr;exact qG0 _ _
theorem yZ5 (t:List (List Rat)):zU7 (zH4 t):=yZ4 qM9
theorem yZ6 {α : Type} {l:List α} (h:0<l.length):l≠[]:=List.length_pos_iff.1 h
theorem yZ7 {t:List (List Rat)} (h:0<zC t):zC (zH4 t)=t.length:=qT8 (yZ6 (by rw [qT7];exact h)) qM9
theorem getD_at {r:List Rat} {j:Nat} (h:j<r.length):r[j]?=some (r.getD j 0):=by rw [zA6,zA3 h];rfl
theorem getD_of {r:List Rat} {j:Nat} {x:Rat} (h:r[j]?=some x):r.getD j 0=x:=by rw [zA6,h];rfl
theorem yF2:∀ (p q:List Rat),zI5 p q=zI5 q p
 | [],[]=>rfl
 | [],_ :: _=>rfl
 | _ :: _,[]=>rfl
 | x :: p,y :: q=>by rw [qM8,qM8,yF2 p q,Rat.mul_comm]
def zF5 (t:List (List Rat)):Prop:=t.length<=200/\zC t<=200/\zU7 t
instance (t:List (List Rat)):Decidable (zU7 t):=inferInstanceAs (Decidable (∀ r∈t,r.length=zC t))
instance (t:List (List Rat)):Decidable (zF5 t):=inferInstanceAs (Decidable (_/\_/\_))
def tst (t:List (List Rat)) (r i:Nat):List (List Rat):=(List.range (zC t)).map fun j=>zJ9 (t.take (if j<i then r+1 else r)) j
theorem qB2 (t:List (List Rat)) (r i:Nat):(tst t r i).length=zC t:=by rw [tst,zA9,List.length_range]
theorem yZ8 (t:List (List Rat)):tst t 0 0=zB (zC t) []:=by
 refine bX0 fun j => ?_
 by_cases hj:j<zC t
 ·simp [tst,hj,zJ9]
 ·rw [bW4 (by rw [qB2];omega),bW4 (by simp;omega)]
theorem qG1 {t:List (List Rat)} {r i j:Nat} (h:j<zC t):(tst t r i)[j]?=some (zJ9 (t.take (if j<i then r+1 else r)) j):=by simp [tst,h]
theorem yZ9 {t:List (List Rat)} {r i:Nat} (h:i<zC t):(tst t r i)[i]?=some (zJ9 (t.take r) i):=by rw [qG1 h,if_neg (by omega)]
theorem jA {t:List (List Rat)} {r j:Nat} {row:List Rat} {x:Rat} (hr:t[r]?=some row) (hx:row[j]?=some x):zJ9 (t.take (r+1)) j=zJ9 (t.take r) j ++ [x]:=by
 rw [bQ9,hr];unfold zJ9;rw [List.map_append];exact congrArg (_ ++ [·]) (getD_of hx)
theorem tst_set {t:List (List Rat)} {r i:Nat} {row:List Rat} {x:Rat} (hi:i<zC t) (hr:t[r]?=some row) (hx:row[i]?=some x):(tst t r i).set i (zJ9 (t.take r) i ++ [x])=tst t r (i+1):=by
 refine bX0 fun j => ?_
 by_cases hj:j<zC t
 ·rw [qG1 hj];by_cases e:i=j
  ·subst e;rw [bQ3 (by rw [qB2];exact hj),if_pos (by omega),jA hr hx]
  ·rw [List.getElem?_set_ne e,qG1 hj];by_cases e2:j<i
   ·rw [if_pos e2,if_pos (by omega)]
   ·rw [if_neg e2,if_neg (by omega)]
 ·rw [bW4 (by rw [bQ5,qB2];omega),bW4 (by rw [qB2];omega)]
theorem jA0 (t:List (List Rat)) (r:Nat):tst t r (zC t)=tst t (r+1) 0:=by
 refine bX0 fun j => ?_
 by_cases hj:j<zC t
 ·rw [qG1 hj,qG1 hj,if_pos hj,if_neg (by omega)]
 ·rw [bW4 (by rw [qB2];omega),bW4 (by rw [qB2];omega)]
theorem tst_end (t:List (List Rat)):tst t t.length 0=zH4 t:=by
 refine List.map_congr_left fun j hj => ?_;rw [if_neg (by omega),zA7 (zB1 _)]
def jst {α : Type} (P t:List (List α)) (k:Nat):List (List α):=List.zipWith (· ++ ·) (P.take k) (t.take k) ++ P.drop k
def zD4 {α : Type} (P t:List (List α)):List (List α):=List.zipWith (· ++ ·) P t
theorem jA1 {α : Type} (P t:List (List α)):jst P t 0=P:=by simp [jst]
theorem jA2 {α : Type} {P t:List (List α)} {k:Nat} (h:P.length=t.length) (hk:k=t.length):jst P t k=zD4 P t:=by
 subst hk;unfold jst zD4;rw [zA7 (by omega),zA7 (zB1 _),List.drop_eq_nil_of_le (by omega),List.append_nil]
theorem qN {α : Type} {P t:List (List α)} {k:Nat} (h:P.length=t.length) (hk:k<=t.length):(List.zipWith (· ++ ·) (P.take k) (t.take k)).length=k:=by
 rw [List.length_zipWith,bQ7,bQ7];omega
theorem jst_at {α : Type} {P t:List (List α)} {k:Nat} {p:List α} (h:P.length=t.length) (hp:P[k]?=some p):(jst P t k)[k]?=some p:=by
 have hk:=(zA4.1 hp).1;unfold jst;rw [bW0 (by rw [qN h (by omega)];exact zB1 _),qN h (by omega),Nat.sub_self,List.getElem?_drop,Nat.add_zero,hp]
theorem jst_set {α : Type} {P t:List (List α)} {k:Nat} {p r:List α} (h:P.length=t.length) (hp:P[k]?=some p) (hr:t[k]?=some r):(jst P t k).set k (p ++ r)=jst P t (k+1):=by
 have hk:=(zA4.1 hp).1
 have hd:P.drop k=p :: P.drop (k+1):=by
  have e:P[k]=p:=by rw [zA3 hk] at hp;exact Option.some.inj hp
  rw [<- e];exact List.drop_eq_getElem_cons hk
 unfold jst;rw [List.set_append_right _ _ (by rw [qN h (by omega)];exact zB1 _),qN h (by omega),Nat.sub_self,hd,zA2,bQ9,hp,bQ9,hr,List.zipWith_append (by rw [bQ7,bQ7];omega)];simp
theorem jA3 {α : Type} {P t:List (List α)} (h:P.length=t.length):(zD4 P t).length=P.length:=by rw [zD4,List.length_zipWith];omega
theorem qT9 {α : Type} (t:List (List α)):zD4 (zB t.length []) t=t:=by
 refine bX0 fun i => ?_;unfold zD4;rw [List.getElem?_zipWith]
 cases ht:t[i]? with
 | none=>cases (zB t.length ([]:List α))[i]?<;>rfl
 | some r=>rw [List.getElem?_replicate,if_pos (zA4.1 ht).1];rfl
def zP2 (t:List (List Rat)) (v:List Rat):List Rat:=t.map fun r=>zI5 r v
theorem jA4 (t:List (List Rat)) (v:List Rat):(zP2 t v).length=t.length:=zA9 _
theorem jA5 {t:List (List Rat)} {v r:List Rat} {i:Nat} (h:t[i]?=some r):(zP2 t v)[i]?=some (zI5 r v):=by rw [zP2,bQ8,h];rfl
theorem jA6 (r:List Rat) (b:List (List Rat)):zP2 (zH4 b) r=zS6 r b (zC b):=by
 unfold zP2 zH4 zS6;rw [List.map_map];exact List.map_congr_left fun j _=>yF2 _ _
def zE0 (t:List (List Rat)) (m:Nat):Prop:=∀ r∈t,∀ x∈r,zC2 x m
theorem zE0.mono {t:List (List Rat)} {m n:Nat} (h:zE0 t m) (hmn:m<=n):zE0 t n:=fun r hr x hx=>(h r hr x hx).mono hmn
theorem jA7 (m:Nat):zC2 (0:Rat) (m+1):=zC2.mono (m:=1) ⟨zG5 (k:=1) (by omega) (by decide +kernel),zG5 (k:=1) (by omega) (by decide +kernel)⟩ (by omega)
theorem jA8 {r:List Rat} {j m:Nat} (h:∀ x∈r,zC2 x m) (hm:1<=m):zC2 (r.getD j 0) m:=by
 by_cases hj:j<r.length
 ·exact h _ (zA5 (getD_at hj))
 ·rw [zA6,bW4 (by omega)];obtain ⟨n,rfl⟩:∃ n,m=n+1:=⟨m-1,by omega⟩;exact jA7 n
theorem yF3 {t:List (List Rat)} {j m:Nat} (h:zE0 t m) (hm:1<=m):∀ x∈zJ9 t j,zC2 x m:=by
 intro x hx;obtain ⟨r,hr,rfl⟩:=List.mem_map.1 hx;exact jA8 (h r hr) hm
theorem jA9 {t:List (List Rat)} {m:Nat} (h:zE0 t m) (hm:1<=m):zE0 (zH4 t) m:=by
 intro r hr;obtain ⟨j,_,rfl⟩:=List.mem_map.1 hr;exact yF3 h hm
theorem jB {a b:List (List Rat)} {m n:Nat} (ha:zE0 a m) (hb:zE0 b m) (hm:1<=m) (he:∀ r∈a,r.length=b.length) (hn:b.length<=n):zE0 (zJ1 a b) ((m+m+1)*n+1):=by
 intro r hr x hx;obtain ⟨s,hs,rfl⟩:=List.mem_map.1 hr;obtain ⟨j,_,rfl⟩:=List.mem_map.1 hx;refine (yY4 (ha s hs) (yF3 hb hm) (by rw [qG0];exact he s hs)).mono ?_;rw [he s hs];exact Nat.add_le_add_right (bY _ hn) _
def qB3 (ts:List (List (List Rat))):Prop:=ts≠[] /\ ∀ (i:Nat) (t:List (List Rat)),ts[i]?=some t->zF5 t /\ ∀ (s:List (List Rat)),0<i->ts[i-1]?=some s->zC s=t.length
def qN0 (ts:List (List (List Rat))):List (List Rat):=ts.tail.foldl zJ1 (ts.headD [])
def zO4 (n:Nat) (ts:List (List (List Rat))):List (List Rat):=ts.foldl zD4 (zB n [])
def qG2 (T:List (List Rat)) (i j:Nat):Option Rat:=(T[i]?).bind fun r=>r[j]?
def shp (T:List (List Rat)) (R C:Nat):Prop:=T.length=R /\ ∀ r∈T,r.length=C
theorem yF4 {T:List (List Rat)} {i j:Nat} {r:List Rat} {q:Rat} (h:T[i]?=some r) (hq:r[j]?=some q):qG2 T i j=some q:=by unfold qG2;rw [h];exact hq
theorem zI0 {T:List (List Rat)} {R C i:Nat} (hs:shp T R C) (hi:i<R):∃ r,T[i]?=some r/\r.length=C:=by
 have h1:T[i]?=some (T[i]'(by rw [hs.1];exact hi)):=zA3 _;exact ⟨_,h1,hs.2 _ (zA5 h1)⟩
theorem shp_ext {T U:List (List Rat)} {R C:Nat} (h:shp T R C) (h':shp U R C) (he:∀ i j,i<R->j<C->qG2 T i j=qG2 U i j):T=U:=by
 apply bX0;intro i;by_cases hi:i<R
 ·obtain ⟨r,h1,h2⟩:=zI0 h hi;obtain ⟨s,h3,h4⟩:=zI0 h' hi;rw [h1,h3]
  congr 1
  apply bX0;intro j;by_cases hj:j<C
  ·have h5:=he i j hi hj;unfold qG2 at h5;rw [h1,h3] at h5;exact h5
  ·rw [bW4 (by omega),bW4 (by omega)]
 ·rw [bW4 (by rw [h.1];omega),bW4 (by rw [h'.1];omega)]
def zC0:Nat->(Nat->Rat)->Rat
 | 0,_=>0
 | n+1,f=>zC0 n f+f n
theorem zF2:∀ {n:Nat} {f g:Nat->Rat},(∀ i,i<n->f i=g i)->zC0 n f=zC0 n g
  | 0,_,_,_=>rfl
  | n + 1, f, g, h => by
    show zC0 n f+f n=zC0 n g+g n
    rw [zF2 (fun i hi=>h i (by omega)),h n (by omega)]
theorem zU8:∀ (n:Nat) (f g:Nat->Rat),zC0 n (fun i=>f i+g i)=zC0 n f+zC0 n g
  | 0,_,_=>by show (0:Rat)=0+0;grind
  | n + 1, f, g => by
    show zC0 n _+(f n+g n)=(zC0 n f+f n)+(zC0 n g+g n)
    rw [zU8 n f g];grind
theorem zJ4:∀ (n:Nat) (c:Rat) (f:Nat->Rat),zC0 n (fun i=>c*f i)=c*zC0 n f
  | 0,c,_=>by show (0:Rat)=c*0;grind
  | n + 1, c, f => by
    show zC0 n _+c*f n=c*(zC0 n f+f n)
    rw [zJ4 n c f];grind
theorem zN3:∀ {n:Nat} {f:Nat->Rat},(∀ i,i<n->f i=0)->zC0 n f=0
  | 0,_,_=>rfl
  | n + 1, f, h => by
    show zC0 n f+f n=0
    rw [zN3 (fun i hi=>h i (by omega)),h n (by omega)];grind
theorem zK7:∀ {n:Nat} {f:Nat->Rat} {a:Nat},a<n->(∀ i,i<n->i≠a->f i=0)->zC0 n f=f a
  | 0,_,_,h,_=>by omega
  | n + 1, f, a, ha, h => by
    show zC0 n f+f n=f a
    by_cases e:a=n
    · subst e;rw [zN3 (fun i hi=>h i (by omega) (by omega))];grind
    · rw [zK7 (a:=a) (by omega) (fun i hi hn=>h i (by omega) hn),h n (by omega) (fun e'=>e e'.symm)];grind
theorem yF5 {n:Nat} {f:Nat->Rat} {a b:Nat} (ha:a<n) (hb:b<n) (hab:a≠b) (h:∀ i,i<n->i≠a->i≠b->f i=0):zC0 n f=f a+f b:=by
 have e:zC0 n f=zC0 n (fun i=>(if i=a then f a else 0)+(if i=b then f b else 0)):=zF2 fun i hi=>by
  by_cases e1:i=a
  ·subst e1;rw [if_pos rfl,if_neg hab];grind
  ·by_cases e2:i=b
   ·subst e2;rw [if_neg e1,if_pos rfl];grind
   ·rw [if_neg e1,if_neg e2,h i hi e1 e2];grind
 rw [e,zU8,zK7 (a:=a) ha (fun i _ hn=>if_neg hn),zK7 (a:=b) hb (fun i _ hn=>if_neg hn),if_pos rfl,if_pos rfl]
theorem qG3:∀ (n m:Nat) (f:Nat->Nat->Rat),zC0 n (fun i=>zC0 m (f i))=zC0 m (fun j=>zC0 n (fun i=>f i j))
  | 0,m,f=>(zN3 fun _ _=>rfl).symm
  | n + 1, m, f => by
    show zC0 n _+zC0 m (f n)=_
    rw [qG3 n m f,<- zU8]
    rfl
def zY9 (n C:Nat) (M:Nat->Nat->Rat) (x:Nat->Rat):Prop:=∀ i,i<n->zC0 C (fun j=>M i j*x j)=0
def zE4 (n C:Nat) (M M':Nat->Nat->Rat):Prop:=∀ x,zY9 n C M x ↔ zY9 n C M' x
theorem zE4.refl (n C:Nat) (M:Nat->Nat->Rat):zE4 n C M M:=fun _=>Iff.rfl
theorem zE4.trans {n C:Nat} {M M' M'':Nat->Nat->Rat} (h:zE4 n C M M') (h':zE4 n C M' M''):zE4 n C M M'':=fun x=>(h x).trans (h' x)
theorem zE4.symm {n C:Nat} {M M':Nat->Nat->Rat} (h:zE4 n C M M'):zE4 n C M' M:=fun x=>(h x).symm
theorem zZ {n C:Nat} {M M':Nat->Nat->Rat} (h:∀ i j,i<n->j<C->M i j=M' i j):zE4 n C M M':=fun x=>by
 have e:∀ i,i<n->zC0 C (fun j=>M i j*x j)=zC0 C (fun j=>M' i j*x j):=fun i hi=>zF2 fun j hj=>by rw [h i j hi hj]
 exact ⟨fun k i hi=>(e i hi) ▸ k i hi,fun k i hi=>(e i hi).symm ▸ k i hi⟩
def zD9 (M:Nat->Nat->Rat) (a b:Nat):Nat->Nat->Rat:=fun i=>if i=a then M b else if i=b then M a else M i
def zE8 (M:Nat->Nat->Rat) (a:Nat) (c:Rat):Nat->Nat->Rat:=fun i j=>if i=a then M i j*c else M i j
def zI1 (M:Nat->Nat->Rat) (p:Nat) (t:Nat->Rat):Nat->Nat->Rat:=fun i j=>M i j-t i*M p j
theorem qU0 {n C:Nat} (M:Nat->Nat->Rat) {a b:Nat} (ha:a<n) (hb:b<n):zE4 n C M (zD9 M a b):=fun x=>by
 constructor
 ·intro h i hi;unfold zD9;by_cases e1:i=a
  ·simp only [if_pos e1];exact h b hb
  ·by_cases e2:i=b
   ·simp only [if_neg e1,if_pos e2];exact h a ha
   ·simp only [if_neg e1,if_neg e2];exact h i hi
 ·intro h i hi;by_cases e1:i=a
  ·have:=h b hb
   unfold zD9 at this;by_cases e:b=a
   ·rw [if_pos e] at this;rw [e1,<- e];exact this
   ·rw [if_neg e,if_pos rfl] at this;rw [e1];exact this
  ·by_cases e2:i=b
   ·have:=h a ha
    unfold zD9 at this;rw [if_pos rfl] at this;rw [e2];exact this
   ·have:=h i hi
    unfold zD9 at this;rw [if_neg e1,if_neg e2] at this;exact this
theorem qU1 {n C:Nat} (M:Nat->Nat->Rat) {a:Nat} {c:Rat} (hc:c≠0):zE4 n C M (zE8 M a c):=fun x=>by
 have e:∀ i,zC0 C (fun j=>zE8 M a c i j*x j)=(if i=a then c else 1)*zC0 C (fun j=>M i j*x j):=fun i=>by
  rw [<- zJ4];refine zF2 fun j _ => ?_;unfold zE8;by_cases e1:i=a
  ·rw [if_pos e1,if_pos e1];grind
  ·rw [if_neg e1,if_neg e1];grind
 constructor
 ·intro h i hi;rw [e i,h i hi];grind
 ·intro h i hi
  have:=h i hi
  rw [e i] at this;by_cases e1:i=a
  ·rw [if_pos e1] at this;rcases Rat.mul_eq_zero.1 this with h0 | h0
   ·exact absurd h0 hc
   ·exact h0
  ·rw [if_neg e1] at this;grind
theorem qU2 {C:Nat} (M:Nat->Nat->Rat) (p i:Nat) (t:Nat->Rat) (x:Nat->Rat):zC0 C (fun j=>zI1 M p t i j*x j)=zC0 C (fun j=>M i j*x j)-t i*zC0 C (fun j=>M p j*x j):=by
 have e:zC0 C (fun j=>M i j*x j)-t i*zC0 C (fun j=>M p j*x j)=zC0 C (fun j=>M i j*x j)+(-(t i))*zC0 C (fun j=>M p j*x j):=by grind
 rw [e,<- zJ4,<- zU8];refine zF2 fun j _ => ?_;unfold zI1
 grind
theorem qN1 {n C:Nat} (M:Nat->Nat->Rat) {p:Nat} {t:Nat->Rat} (hp:p<n) (ht:t p=0):zE4 n C M (zI1 M p t):=fun x=>by
 constructor
 ·intro h i hi;rw [qU2,h i hi,h p hp];grind
 ·intro h i hi;have h0:=h p hp;rw [qU2,ht] at h0;have h1:=h i hi;rw [qU2] at h1;have h2:zC0 C (fun j=>M p j*x j)=0:=by grind
  rw [h2] at h1;grind
structure Ech (n at_:Nat) (M:Nat->Nat->Rat) (k:Nat) (p:Nat->Nat):Prop where
 le:k<=n
 rise:∀ i j,i<j->j<k->p i<p j
 lt:∀ i,i<k->p i<at_
 one:∀ i,i<k->M i (p i)=1
 lead:∀ i,i<k -> ∀ j,j<p i->M i j=0
 rest:∀ i,k<=i->i<n -> ∀ j,j<at_->M i j=0
def Red (n:Nat) (M:Nat->Nat->Rat) (k:Nat) (p:Nat->Nat) (u:Nat):Prop:=∀ m,u<=m->m<k -> ∀ i,i<n->i≠m->M i (p m)=0
theorem Ech.zero (n:Nat) (M:Nat->Nat->Rat) (p:Nat->Nat):Ech n 0 M 0 p:=⟨by omega,fun _ _ _ h=>by omega,fun _ h=>by omega,fun _ h=>by omega,fun _ h=>by omega,fun _ _ _ _ h=>by omega⟩
theorem Ech.skip {n a k:Nat} {M:Nat->Nat->Rat} {p:Nat->Nat} (h:Ech n a M k p) (h0:∀ i,k<=i->i<n->M i a=0):Ech n (a+1) M k p :=
 ⟨h.le, h.rise, fun i hi => by have := h.lt i hi; omega, h.one, h.lead, fun i h1 h2 j hj => by
  by_cases e:j=a
  ·subst e;exact h0 i h1 h2
  ·exact h.rest i h1 h2 j (by omega)⟩
theorem Ech.congr {n a k C:Nat} {M M':Nat->Nat->Rat} {p p':Nat->Nat} (h:Ech n a M k p) (ha:a<=C) (hM:∀ i j,i<n->j<C->M i j=M' i j) (hp:∀ i,i<k->p i=p' i):Ech n a M' k p':=by
 have hle:=h.le;refine ⟨h.le,fun i j hi hj=>by rw [<- hp i (by omega),<- hp j hj];exact h.rise i j hi hj,fun i hi=>by rw [<- hp i hi];exact h.lt i hi,fun i hi => ?_,fun i hi j hj => ?_,fun i h1 h2 j hj => ?_⟩
 ·rw [<- hp i hi,<- hM i _ (by omega) (by have:=h.lt i hi;omega)];exact h.one i hi
 ·rw [<- hp i hi] at hj;rw [<- hM i j (by omega) (by have:=h.lt i hi;omega)];exact h.lead i hi j hj
 ·rw [<- hM i j h2 (by omega)];exact h.rest i h1 h2 j hj
theorem Red.congr {n k u C:Nat} {M M':Nat->Nat->Rat} {p p':Nat->Nat} (h:Red n M k p u) (hlt:∀ i,i<k->p i<C) (hM:∀ i j,i<n->j<C->M i j=M' i j) (hp:∀ i,i<k->p i=p' i):Red n M' k p' u:=fun m h1 h2 i h3 h4=>by
 rw [<- hp m h2,<- hM i _ h3 (hlt m h2)];exact h m h1 h2 i h3 h4
theorem Ech.swap {n a k f:Nat} {M:Nat->Nat->Rat} {p:Nat->Nat} (h:Ech n a M k p) (hf:k<=f) (hn:f<n):Ech n a (zD9 M k f) k p:=by
 refine ⟨h.le,h.rise,h.lt,fun i hi => ?_,fun i hi j hj => ?_,fun i h1 h2 j hj => ?_⟩
 ·unfold zD9;rw [if_neg (by omega),if_neg (by omega)];exact h.one i hi
 ·unfold zD9;rw [if_neg (by omega),if_neg (by omega)];exact h.lead i hi j hj
 ·unfold zD9;by_cases e:i=k
  ·rw [if_pos e];exact h.rest f hf hn j hj
  ·rw [if_neg e];by_cases e2:i=f
   ·rw [if_pos e2];exact h.rest k (by omega) (by omega) j hj
   ·rw [if_neg e2];exact h.rest i h1 h2 j hj
theorem Ech.scale {n a k:Nat} {M:Nat->Nat->Rat} {p:Nat->Nat} (h:Ech n a M k p) (c:Rat):Ech n a (zE8 M k c) k p:=by
 refine ⟨h.le,h.rise,h.lt,fun i hi => ?_,fun i hi j hj => ?_,fun i h1 h2 j hj => ?_⟩
 ·unfold zE8;rw [if_neg (by omega)];exact h.one i hi
 ·unfold zE8;rw [if_neg (by omega)];exact h.lead i hi j hj
 ·unfold zE8;by_cases e:i=k
  ·rw [if_pos e,h.rest i h1 h2 j hj];grind
  ·rw [if_neg e];exact h.rest i h1 h2 j hj
theorem Ech.clear {n a k:Nat} {M:Nat->Nat->Rat} {p:Nat->Nat} {t:Nat->Rat} (h:Ech n a M k p) (hk:k<n) (h1:M k a=1) (ht:t k=0) (hb:∀ i,k<i->i<n->t i=M i a):Ech n (a+1) (zI1 M k t) (k+1) (fun i=>if i<k then p i else a):=by
 have z:∀ j,j<a->M k j=0:=fun j hj=>h.rest k (by omega) hk j hj;refine ⟨by omega,fun i j hi hj => ?_,fun i hi => ?_,fun i hi => ?_,fun i hi j hj => ?_,fun i h2 h3 j hj => ?_⟩
 ·by_cases e:j<k
  ·rw [if_pos e,if_pos (by omega)];exact h.rise i j hi e
  ·rw [if_neg e,if_pos (by omega)];exact h.lt i (by omega)
 ·by_cases e:i<k
  ·simp only [if_pos e];have:=h.lt i e;omega
  ·simp only [if_neg e];omega
 ·unfold zI1;by_cases e:i<k
  ·simp only [if_pos e];rw [h.one i e,z _ (h.lt i e)];grind
  ·simp only [if_neg e];obtain rfl:i=k:=by omega
   rw [ht,h1];grind
 ·unfold zI1;by_cases e:i<k
  ·simp only [if_pos e] at hj;rw [h.lead i e j hj,z j (by have:=h.lt i e;omega)];grind
  ·simp only [if_neg e] at hj;obtain rfl:i=k:=by omega
   rw [z j hj];grind
 ·unfold zI1;by_cases e:j=a
  ·subst e;rw [hb i (by omega) h3,h1];grind
  ·rw [h.rest i (by omega) h3 j (by omega),z j (by omega)];grind
theorem Red.swap {n k f:Nat} {M:Nat->Nat->Rat} {p:Nat->Nat} (h:Red n M k p 0) (hf:k<=f) (hn:f<n):Red n (zD9 M k f) k p 0:=fun m h1 h2 i h3 h4=>by
 unfold zD9;by_cases e:i=k
 ·rw [if_pos e];exact h m h1 h2 f hn (by omega)
 ·rw [if_neg e];by_cases e2:i=f
  ·rw [if_pos e2];exact h m h1 h2 k (by omega) (by omega)
  ·rw [if_neg e2];exact h m h1 h2 i h3 h4
theorem Red.scale {n k:Nat} {M:Nat->Nat->Rat} {p:Nat->Nat} (h:Red n M k p 0) (c:Rat):Red n (zE8 M k c) k p 0:=fun m h1 h2 i h3 h4=>by
 unfold zE8;by_cases e:i=k
 ·rw [if_pos e,h m h1 h2 i h3 h4];grind
 ·rw [if_neg e];exact h m h1 h2 i h3 h4
theorem Red.clear {n a k:Nat} {M:Nat->Nat->Rat} {p:Nat->Nat} {t:Nat->Rat} (h:Red n M k p 0) (he:Ech n a M k p) (hk:k<n) (h1:M k a=1) (ht:t k=0) (hb:∀ i,i≠k->i<n->t i=M i a):Red n (zI1 M k t) (k+1) (fun i=>if i<k then p i else a) 0:=fun m h2 h3 i h4 h5=>by
 unfold zI1;by_cases e:m<k
 ·simp only [if_pos e];rw [h m h2 e i h4 h5,h m h2 e k hk (by omega)];grind
 ·simp only [if_neg e];obtain rfl:m=k:=by omega
  rw [hb i h5 h4,h1];grind
theorem Ech.up {n a k m:Nat} {M:Nat->Nat->Rat} {p:Nat->Nat} {t:Nat->Rat} (h:Ech n a M k p) (hm:m<k) (ht:∀ i,m<=i->t i=0):Ech n a (zI1 M m t) k p:=by
 have z:∀ i j,i<m->j<=p i->M m j=0:=fun i j hi hj=>h.lead m hm j (by have:=h.rise i m hi hm;omega);refine ⟨h.le,h.rise,h.lt,fun i hi => ?_,fun i hi j hj => ?_,fun i h1 h2 j hj => ?_⟩
 ·unfold zI1;by_cases e:i<m
  ·rw [h.one i hi,z i _ e (zB1 _)];grind
  ·rw [h.one i hi,ht i (by omega)];grind
 ·unfold zI1;by_cases e:i<m
  ·rw [h.lead i hi j hj,z i j e (by omega)];grind
  ·rw [h.lead i hi j hj,ht i (by omega)];grind
 ·unfold zI1;rw [h.rest i h1 h2 j hj,ht i (by omega)];grind
theorem Red.up {n a k m:Nat} {M:Nat->Nat->Rat} {p:Nat->Nat} {t:Nat->Rat} (h:Red n M k p (m+1)) (he:Ech n a M k p) (hm:m<k) (ht:∀ i,m<=i->t i=0) (hb:∀ i,i<m->t i=M i (p m)):Red n (zI1 M m t) k p m:=fun q h1 h2 i h3 h4=>by
 have hle:=he.le;unfold zI1;by_cases e:q=m
 ·subst e;by_cases e2:i<q
  ·rw [hb i e2,he.one q hm];grind
  ·rw [ht i (by omega)];by_cases e3:i<k
   ·rw [he.lead i e3 _ (he.rise q i (by omega) e3)];grind
   ·rw [he.rest i (by omega) h3 _ (he.lt q hm)];grind
 ·rw [h q (by omega) h2 i h3 h4,h q (by omega) h2 m (by omega) (by omega)];grind
def nv (M:Nat->Nat->Rat) (k:Nat) (p:Nat->Nat) (j:Nat):Nat->Rat:=fun c=>if c=j then 1 else -(zC0 k (fun i=>if p i=c then M i j else 0))
theorem Ech.inj {n a k:Nat} {M:Nat->Nat->Rat} {p:Nat->Nat} (h:Ech n a M k p) {i j:Nat} (hi:i<k) (hj:j<k) (e:p i=p j):i=j:=by
 rcases Nat.lt_trichotomy i j with hl|hl|hl
 ·have:=h.rise i j hl hj;omega
 ·exact hl
 ·have:=h.rise j i hl hi;omega
theorem zS7 {M:Nat->Nat->Rat} {k:Nat} {p:Nat->Nat} {j:Nat} : nv M k p j j=1:=if_pos rfl
theorem qG4 {n a k:Nat} {M:Nat->Nat->Rat} {p:Nat->Nat} (h:Ech n a M k p) {i j:Nat} (hi:i<k) (hne:p i≠j):nv M k p j (p i) = - M i j:=by
 unfold nv;rw [if_neg hne,zK7 (a:=i) hi (fun m hm hn=>if_neg fun e=>hn (h.inj hm hi e)),if_pos rfl]
theorem zZ0 {M:Nat->Nat->Rat} {k:Nat} {p:Nat->Nat} {j c:Nat} (hc:c≠j) (hf:∀ i,i<k->p i≠c):nv M k p j c=0:=by
 unfold nv;rw [if_neg hc,zN3 (fun i hi=>if_neg (hf i hi))];grind
theorem zW6 {n C k:Nat} {M:Nat->Nat->Rat} {p:Nat->Nat} (h:Ech n C M k p) (hr:Red n M k p 0) {j:Nat} (hj:j<C) (hf:∀ i,i<k->p i≠j):zY9 n C M (nv M k p j):=fun i hi=>by
  by_cases e:i<k
  · rw [yF5 (a := p i) (b := j) (h.lt i e) hj (hf i e) (fun c hc h1 h2 => ?_), qG4 h e (hf i e), zS7, h.one i e]
    · grind
    · by_cases hp:∃ m,m<k/\p m=c
      · obtain ⟨m,hm,rfl⟩:=hp;rw [hr m (by omega) hm i hi (fun e2=>h1 (by rw [e2]))];grind
      · rw [zZ0 h2 (fun m hm e2=>hp ⟨m,hm,e2⟩)];grind
  · exact zN3 fun c hc=>by rw [h.rest i (by omega) hi c hc];grind
theorem yF6 {n a k:Nat} {M:Nat->Nat->Rat} {p:Nat->Nat} (h:Ech n a M k p) {j c:Nat} (hc:j<c):nv M k p j c=0:=by
 by_cases hp:∃ m,m<k/\p m=c
 ·obtain ⟨m,hm,rfl⟩:=hp;rw [qG4 h hm (by omega),h.lead m hm j hc];grind
 ·exact zZ0 (by omega) (fun m hm e2=>hp ⟨m,hm,e2⟩)
theorem yF7 {n C k k':Nat} {M M':Nat->Nat->Rat} {p p':Nat->Nat} (h:Ech n C M k p) (hr:Red n M k p 0) (h':Ech n C M' k' p') (hk:zE4 n C M M') {i:Nat} (hi:i<k'):∃ m,m<k/\p m=p' i:=by
 refine bQ1 fun hn => ?_;have hf:∀ m,m<k->p m≠p' i:=fun m hm e=>hn ⟨m,hm,e⟩;have hle:=h'.le;have h1:=(hk _).1 (zW6 h hr (h'.lt i hi) hf) i (by omega);rw [zK7 (a:=p' i) (h'.lt i hi) (fun c hc hne => ?_),h'.one i hi,zS7] at h1
 ·grind
 ·rcases Nat.lt_trichotomy c (p' i) with hl|hl|hl
  ·rw [h'.lead i hi c hl];grind
  ·exact absurd hl hne
  ·rw [yF6 h hl];grind
theorem rise_eq {k k':Nat} {p p':Nat->Nat} (hr:∀ i j,i<j->j<k->p i<p j) (hr':∀ i j,i<j->j<k'->p' i<p' j) (h:∀ i,i<k' -> ∃ m,m<k/\p m=p' i) (h':∀ i,i<k -> ∃ m,m<k'/\p' m=p i):k=k' /\ ∀ i,i<k->p i=p' i:=by
  have key:∀ i,(i<k->i<k'/\p i=p' i)/\(i<k'->i<k/\p i=p' i):=by
    intro i
    induction i using Nat.strongRecOn with
    | _ i ih =>
      have A:i<k->i<k'/\p' i<=p i:=fun hi=>by
        obtain ⟨m,hm,e⟩:=h' i hi;by_cases hmi:m<i
        · have:=((ih m hmi).1 (by omega)).2
          have:=hr m i hmi hi
          omega
        · by_cases e2:i=m
          · subst e2;exact ⟨hm,by omega⟩
          · have:=hr' i m (by omega) hm
            exact ⟨by omega,by omega⟩
      have B:i<k'->i<k/\p i<=p' i:=fun hi=>by
        obtain ⟨m,hm,e⟩:=h i hi;by_cases hmi:m<i
        · have:=((ih m hmi).2 (by omega)).2
          have:=hr' m i hmi hi
          omega
        · by_cases e2:i=m
          · subst e2;exact ⟨hm,by omega⟩
          · have:=hr i m (by omega) hm
            exact ⟨by omega,by omega⟩
      exact ⟨fun hi=>by
        obtain ⟨a,b⟩:=A hi;obtain ⟨c,d⟩:=B a
        exact ⟨a,by omega⟩,fun hi=>by
        obtain ⟨a,b⟩:=B hi;obtain ⟨c,d⟩:=A a;exact ⟨a,by omega⟩⟩
  refine ⟨?_,fun i hi=>((key i).1 hi).2⟩;rcases Nat.lt_trichotomy k k' with hl|hl|hl
  · have:=((key k).2 hl).1;omega
  · exact hl
  · have:=((key k').1 hl).1;omega
theorem yF8 {n C k k':Nat} {M M':Nat->Nat->Rat} {p p':Nat->Nat} (h:Ech n C M k p) (hr:Red n M k p 0) (h':Ech n C M' k' p') (hr':Red n M' k' p' 0) (hk:zE4 n C M M'):k=k'/\(∀ i,i<k->p i=p' i) /\ ∀ i j,i<n->j<C->M i j=M' i j:=by
 obtain ⟨e1,e2⟩:=rise_eq h.rise h'.rise (fun i hi=>yF7 h hr h' hk hi) (fun i hi=>yF7 h' hr' h hk.symm hi);refine ⟨e1,e2,fun i j hi hj => ?_⟩;subst e1;by_cases hik:i<k
 ·by_cases hp:∃ m,m<k/\p m=j
  ·obtain ⟨m,hm,rfl⟩:=hp;by_cases e:i=m
   ·subst e;rw [h.one i hik,e2 i hik,h'.one i hik]
   ·rw [hr m (by omega) hm i hi e,e2 m hm,hr' m (by omega) hm i hi e]
  ·have hf:∀ m,m<k->p m≠j:=fun m hm e=>hp ⟨m,hm,e⟩;have h1:=(hk _).1 (zW6 h hr hj hf) i hi;rw [yF5 (a:=p i) (b:=j) (h.lt i hik) hj (hf i hik) (fun c hc h1 h2 => ?_),qG4 h hik (hf i hik),zS7,e2 i hik,h'.one i hik] at h1
   ·grind
   ·by_cases hp:∃ m,m<k/\p m=c
    ·obtain ⟨m,hm,rfl⟩:=hp;rw [e2 m hm,hr' m (by omega) hm i hi (fun e2=>h1 (by rw [e2]))];grind
    ·rw [zZ0 h2 (fun m hm e2=>hp ⟨m,hm,e2⟩)];grind
 ·rw [h.rest i (by omega) hi j hj,h'.rest i (by omega) hi j hj]
def zM2 (M:Nat->Nat->Rat) (a b:Nat) (t:Rat):Nat->Nat->Rat:=fun i j=>if i=a then M i j-t*M b j else M i j
structure RowFn (n C:Nat) (f:(Nat->Nat->Rat)->Rat):Prop where
 congr:∀ M M',(∀ i j,i<n->j<C->M i j=M' i j)->f M=f M'
 scale:∀ M a c,a<n->f (zE8 M a c)=c*f M
 add:∀ M a b t,a<n->b<n->a≠b->f (zM2 M a b t)=f M
theorem RowFn.zero {n C:Nat} {f:(Nat->Nat->Rat)->Rat} (h:RowFn n C f) {M:Nat->Nat->Rat} {a:Nat} (ha:a<n) (h0:∀ j,j<C->M a j=0):f M=0:=by
 have h1:=h.scale M a 0 ha
 rw [h.congr (zE8 M a 0) M (fun i j hi hj=>by
  unfold zE8;by_cases e:i=a
  ·rw [if_pos e,e,h0 j hj];grind
  ·rw [if_neg e])] at h1
 rw [h1];grind
theorem RowFn.clear {n C:Nat} {f:(Nat->Nat->Rat)->Rat} (h:RowFn n C f) (M:Nat->Nat->Rat) {p:Nat} {t:Nat->Rat} (hp:p<n) (ht:t p=0):f (zI1 M p t)=f M:=by
  have key:∀ m,m<=n->f (fun i j=>if i<m then zI1 M p t i j else M i j)=f M:=by
    intro m
    induction m with
    | zero=>intro _;exact h.congr _ _ fun i j _ _=>if_neg (by omega)
    | succ m ih =>
      intro hm;rw [<- ih (by omega)];by_cases e:m=p
      · refine h.congr _ _ fun i j hi hj => ?_
        by_cases e1:i<m
        · simp only [if_pos e1,if_pos (show i<m+1 by omega)]
        · by_cases e2:i=m
          · subst e2;simp only [if_neg e1,if_pos (show i<i+1 by omega)];unfold zI1;rw [e,ht];grind
          · simp only [if_neg e1,if_neg (show ¬ i<m+1 by omega)]
      · rw [<- h.add (fun i j => if i < m then zI1 M p t i j else M i j) m p (t m) (by omega) hp e];refine h.congr _ _ fun i j hi hj => ?_;unfold zM2;by_cases e2:i=m
        · subst e2;simp only [if_pos (show i<i+1 by omega),if_neg (show ¬ i<i by omega)];by_cases e3:p<i
          · simp only [if_pos e3];unfold zI1;rw [ht];grind
          · simp only [if_neg e3]
            rfl
        · simp only [if_neg e2];by_cases e1:i<m
          · simp only [if_pos e1,if_pos (show i<m+1 by omega)]
          · simp only [if_neg e1,if_neg (show ¬ i<m+1 by omega)]
  rw [<- key n (zB1 _)];exact h.congr _ _ fun i j hi _=>(if_pos hi).symm
theorem RowFn.swap {n C:Nat} {f:(Nat->Nat->Rat)->Rat} (h:RowFn n C f) (M:Nat->Nat->Rat) {a b:Nat} (ha:a<n) (hb:b<n) (hab:a≠b):f (zD9 M a b) = - f M:=by
 have e1:=h.add M a b (-1) ha hb hab;have e2:=h.add (zM2 M a b (-1)) b a 1 hb ha (fun e=>hab e.symm);have e3:=h.add (zM2 (zM2 M a b (-1)) b a 1) a b (-1) ha hb hab;have e4:=h.scale (zM2 (zM2 (zM2 M a b (-1)) b a 1) a b (-1)) b (-1) hb
 have e5:f (zD9 M a b)=f (zE8 (zM2 (zM2 (zM2 M a b (-1)) b a 1) a b (-1)) b (-1)):=h.congr _ _ fun i j hi hj=>by
  have hba:b≠a:=fun e=>hab e.symm;unfold zD9 zE8 zM2;by_cases k1:i=a
  ·subst k1;simp only [if_neg hab,if_neg hba]
   grind
  ·by_cases k2:i=b
   ·subst k2;simp only [if_neg hba]
    grind
   ·simp only [if_neg k1,if_neg k2]
 rw [e5,e4,e3,e2,e1];grind
def zH8 (j c:Nat):Nat:=if c<j then c else c+1
def qB4 (a b:Nat):Nat:=if b<a then b else b-1
def sgN (j:Nat):Rat:=if j % 2=0 then 1 else -1
def zL5 (M:Nat->Nat->Rat) (j:Nat):Nat->Nat->Rat:=fun i c=>M (i+1) (zH8 j c)
def zE5:Nat->(Nat->Nat->Rat)->Rat
 | 0,_=>1
 | n+1,M=>zC0 (n+1) (fun j=>sgN j*M 0 j*zE5 n (zL5 M j))
theorem qG5 {j c n:Nat} (hc:c<n):zH8 j c<n+1:=by unfold zH8;split<;>omega
theorem jB0 (j c:Nat):zH8 j c≠j:=by unfold zH8;split<;>omega
theorem jB1 (a l:Nat):qB4 a (zH8 a l)=l:=by
 unfold qB4 zH8;by_cases h:l<a
 ·rw [if_pos h,if_pos h]
 ·rw [if_neg h,if_neg (by omega)];omega
theorem jB2 {a b:Nat} (h:a<b) (c:Nat):zH8 a (zH8 (b-1) c)=zH8 b (zH8 a c):=by
 unfold zH8;by_cases h1:c<a
 ·simp only [if_pos h1,if_pos (show c<b-1 by omega),if_pos (show c<b by omega)]
 ·by_cases h2:c<b-1
  ·simp only [if_neg h1,if_pos h2,if_pos (show c+1<b by omega)]
  ·simp only [if_neg h1,if_neg h2,if_neg (show ¬ c+1<a by omega),if_neg (show ¬ c+1<b by omega)]
theorem jB3 {b:Nat} (h:0<b):sgN (b-1) = - sgN b:=by
 unfold sgN;by_cases h1:b % 2=0
 ·rw [if_pos h1,if_neg (by omega)]
 ·rw [if_neg h1,if_pos (by omega)];grind
theorem zQ8:∀ (n:Nat) {M M':Nat->Nat->Rat},(∀ i j,i<n->j<n->M i j=M' i j)->zE5 n M=zE5 n M'
  | 0,_,_,_=>rfl
  | n + 1, M, M', h => zF2 fun j hj => by
    rw [h 0 j (by omega) hj,zQ8 n (M:=zL5 M j) (M':=zL5 M' j) (fun i c hi hc=>h (i+1) _ (by omega) (qG5 hc))]
theorem qU3:∀ (n:Nat) {M M1 M2:Nat->Nat->Rat} (a:Nat) (x y:Rat),a<n->(∀ j,j<n->M a j=x*M1 a j+y*M2 a j)->(∀ i j,i<n->j<n->i≠a->M i j=M1 i j/\M i j=M2 i j)->zE5 n M=x*zE5 n M1+y*zE5 n M2
  | 0,_,_,_,_,_,_,h,_,_=>by omega
  | n + 1, M, M1, M2, 0, x, y, _, h1, h2 => by
    show zC0 _ _=x*zC0 _ _+y*zC0 _ _
    rw [<- zJ4,<- zJ4,<- zU8];refine zF2 fun j hj => ?_
    rw [h1 j hj,zQ8 n (M:=zL5 M j) (M':=zL5 M1 j) (fun i c hi hc=>(h2 (i+1) _ (by omega) (qG5 hc) (by omega)).1),zQ8 n (M:=zL5 M2 j) (M':=zL5 M1 j) (fun i c hi hc=>by
      have:=h2 (i+1) (zH8 j c) (by omega) (qG5 hc) (by omega)
      exact this.2.symm.trans this.1)]
    grind
  | n + 1, M, M1, M2, a + 1, x, y, ha, h1, h2 => by
    show zC0 _ _=x*zC0 _ _+y*zC0 _ _
    rw [<- zJ4,<- zJ4,<- zU8];refine zF2 fun j hj => ?_;rw [qU3 n (M:=zL5 M j) (M1:=zL5 M1 j) (M2:=zL5 M2 j) a x y (by omega) (fun c hc=>h1 _ (qG5 hc)) (fun i c hi hc hne=>h2 (i+1) _ (by omega) (qG5 hc) (by omega)),<- (h2 0 j (by omega) hj (by omega)).1,<- (h2 0 j (by omega) hj (by omega)).2]
    grind
theorem yF9:∀ (n j:Nat) (F:Nat->Rat),j<n+1->zC0 n (fun l=>F (zH8 j l))+F j=zC0 (n+1) F
  | 0, j, F, h => by
    obtain rfl:j=0:=by omega
    rfl
  | n + 1, j, F, h => by
    show (zC0 n _+F (zH8 j n))+F j=zC0 (n+1) F+F (n+1)
    by_cases e:j=n+1
    · subst e;have h1:zC0 n (fun l=>F (zH8 (n+1) l))=zC0 n F:=zF2 fun l hl=>by unfold zH8;rw [if_pos (by omega)]
      rw [h1];unfold zH8;rw [if_pos (by omega)]
      rfl
    · have h1:=yF9 n j F (by omega);rw [<- h1];have h2:zH8 j n=n+1:=by unfold zH8;rw [if_neg (by omega)]
      rw [h2];grind
def zP3 (n:Nat) (M:Nat->Nat->Rat) (a b:Nat):Rat:=if b=a then 0 else sgN a*sgN (qB4 a b)*zE5 n (fun i c=>M (i+2) (zH8 a (zH8 (qB4 a b) c)))
theorem jB4 (n:Nat) (M:Nat->Nat->Rat) (a b:Nat):zP3 n M b a = - zP3 n M a b:=by
 have main:∀ a b,a<b->zP3 n M b a = - zP3 n M a b:=by
  intro a b h;unfold zP3;rw [if_neg (by omega),if_neg (by omega)];have e1:qB4 b a=a:=if_pos h;have e2:qB4 a b=b-1:=if_neg (by omega);rw [e1,e2,jB3 (by omega),zQ8 n (M:=fun i c=>M (i+2) (zH8 a (zH8 (b-1) c))) (M':=fun i c=>M (i+2) (zH8 b (zH8 a c))) (fun i c _ _=>by rw [jB2 h])]
  grind
 rcases Nat.lt_trichotomy a b with h | h | h
 ·exact main a b h
 ·subst h;unfold zP3;rw [if_pos rfl];grind
 ·have:=main b a h
  rw [this];grind
theorem yG (n:Nat) (M:Nat->Nat->Rat):zE5 (n+2) M=zC0 (n+2) (fun j=>zC0 (n+2) (fun b=>M 0 j*M 1 b*zP3 n M j b)):=by
 show zC0 (n+2) _=_
 refine zF2 fun j hj => ?_
 show sgN j*M 0 j*zC0 (n+1) _=_
 rw [<- yF9 (n+1) j _ hj,<- zJ4];have h0:zP3 n M j j=0:=if_pos rfl;simp only [h0];rw [show M 0 j*M 1 j*0=0 by grind,Rat.add_zero];refine zF2 fun l hl => ?_;unfold zP3;rw [if_neg (jB0 j l),jB1];show sgN j*M 0 j*(sgN l*M 1 (zH8 j l)*zE5 n (fun i c=>M (i+2) (zH8 j (zH8 l c))))=_
 grind
theorem jB5 (n:Nat) (M:Nat->Nat->Rat):zE5 (n+2) (zD9 M 0 1) = - zE5 (n+2) M:=by
 rw [yG,yG,qG3];have e : - zC0 (n+2) (fun j=>zC0 (n+2) (fun b=>M 0 j*M 1 b*zP3 n M j b))=(-1)*zC0 (n+2) (fun j=>zC0 (n+2) (fun b=>M 0 j*M 1 b*zP3 n M j b)):=by grind
 rw [e,<- zJ4];refine zF2 fun j hj => ?_;rw [<- zJ4];refine zF2 fun b hb => ?_;have e0:zD9 M 0 1 0 b=M 1 b:=rfl;have e1:zD9 M 0 1 1 j=M 0 j:=rfl;have e2:zP3 n (zD9 M 0 1) b j=zP3 n M b j:=rfl;rw [e0,e1,e2,jB4 n M j b];grind
theorem qU4:∀ (i n:Nat) (M:Nat->Nat->Rat),i+1<n->zE5 n (zD9 M i (i+1)) = - zE5 n M
  | 0,0,_,h=>by omega
  | 0,1,_,h=>by omega
  | 0,n+2,M,_=>jB5 n M
  | i+1,0,_,h=>by omega
  | i + 1, n + 1, M, h => by
    show zC0 _ _ = - zC0 _ _
    have e : - zC0 (n+1) (fun j=>sgN j*M 0 j*zE5 n (zL5 M j))=(-1)*zC0 (n+1) (fun j=>sgN j*M 0 j*zE5 n (zL5 M j)):=by grind
    rw [e,<- zJ4];refine zF2 fun j hj => ?_;have e0:zD9 M (i+1) (i+1+1) 0 j=M 0 j:=by unfold zD9;rw [if_neg (by omega),if_neg (by omega)]
    have e1:zL5 (zD9 M (i+1) (i+1+1)) j=zD9 (zL5 M j) i (i+1):=by
      funext r c
      unfold zL5 zD9;by_cases k1:r=i
      · rw [if_pos (by omega),if_pos k1]
      · by_cases k2:r=i+1
        · rw [if_neg (by omega),if_pos (by omega),if_neg k1,if_pos k2]
        · rw [if_neg (by omega),if_neg (by omega),if_neg k1,if_neg k2]
    rw [e0,e1,qU4 i n (zL5 M j) (by omega)];grind
theorem qU5:∀ (d a n:Nat) (M:Nat->Nat->Rat),a+d+1<n->(∀ j,j<n->M a j=M (a+d+1) j)->zE5 n M=0
  | 0, a, n, M, h, he => by
    have h1:=qU4 a n M h
    rw [zQ8 n (M := zD9 M a (a + 1)) (M' := M) (fun i j hi hj => by
      unfold zD9;by_cases k1:i=a
      · rw [if_pos k1,k1];exact (he j hj).symm
      · by_cases k2:i=a+1
        · rw [if_neg k1,if_pos k2,k2];exact he j hj
        · rw [if_neg k1,if_neg k2])] at h1
    grind
  | d + 1, a, n, M, h, he => by
    have h1:=qU4 (a+d+1) n M (by omega)
    have h2:=qU5 d a n (zD9 M (a+d+1) (a+d+1+1)) (by omega) (fun j hj=>by
      unfold zD9;rw [if_neg (by omega),if_neg (by omega),if_pos rfl];exact he j hj)
    rw [h2] at h1
    grind
theorem qB5 (n:Nat):RowFn n n (zE5 n):=by
 refine ⟨fun M M' h=>zQ8 n h,fun M a c ha => ?_,fun M a b t ha hb hab => ?_⟩
 ·have h:=qU3 n (M:=zE8 M a c) (M1:=M) (M2:=M) a c 0 ha (fun j _=>by unfold zE8;rw [if_pos rfl];grind) (fun i j _ _ hne=>by unfold zE8;rw [if_neg hne];exact ⟨rfl,rfl⟩);rw [h];grind
 ·have h:=qU3 n (M:=zM2 M a b t) (M1:=M) (M2:=fun i j=>if i=a then M b j else M i j) a 1 (-t) ha (fun j _=>by unfold zM2;rw [if_pos rfl,if_pos rfl];grind) (fun i j _ _ hne=>by unfold zM2;rw [if_neg hne,if_neg hne];exact ⟨rfl,rfl⟩)
  have h0:zE5 n (fun i j=>if i=a then M b j else M i j)=0:=by
   rcases Nat.lt_or_gt_of_ne hab with hl|hl
   ·refine qU5 (b-a-1) a n _ (by omega) (fun j _ => ?_);rw [show a+(b-a-1)+1=b by omega,if_pos rfl,if_neg (fun e=>hab e.symm)]
   ·refine qU5 (a-b-1) b n _ (by omega) (fun j _ => ?_);rw [show b+(a-b-1)+1=a by omega,if_pos rfl,if_neg (fun e=>hab e.symm)]
  rw [h,h0];grind
def idF:Nat->Nat->Rat:=fun i j=>if i=j then 1 else 0
theorem qN2:∀ n,zE5 n idF=1
  | 0=>rfl
  | n + 1 => by
    show zC0 (n+1) _=1
    rw [zK7 (a:=0) (by omega) (fun j _ hne=>by
      have:idF 0 j=0:=if_neg (fun e=>hne e.symm);rw [this];grind)]
    have e:zL5 idF 0=idF:=by
      funext i c
      have e0:zH8 0 c=c+1:=if_neg (by omega);unfold zL5;rw [e0];unfold idF;by_cases k:i=c
      · rw [if_pos k,if_pos (by omega)]
      · rw [if_neg k,if_neg (by omega)]
    rw [e,qN2 n];show sgN 0*1*1=1
    unfold sgN
    grind
def zR7 (n:Nat) (M B:Nat->Nat->Rat):Nat->Nat->Rat:=fun i j=>zC0 n (fun l=>M i l*B l j)
theorem jB6 (n:Nat) (B:Nat->Nat->Rat):RowFn n n (fun M=>zE5 n (zR7 n M B)):=by
 have hd:=qB5 n;refine ⟨fun M M' h=>hd.congr _ _ fun i j hi hj=>zF2 fun l hl=>by rw [h i l hi hl],fun M a c ha => ?_,fun M a b t ha hb hab => ?_⟩
 ·rw [<- hd.scale _ a c ha];refine hd.congr _ _ fun i j hi hj => ?_;unfold zR7 zE8;by_cases e:i=a
  ·simp only [if_pos e];rw [show zC0 n (fun l=>M i l*B l j)*c=c*zC0 n (fun l=>M i l*B l j) by grind,<- zJ4];exact zF2 fun l _=>by grind
  ·simp only [if_neg e]
 ·rw [<- hd.add (zR7 n M B) a b t ha hb hab];refine hd.congr _ _ fun i j hi hj => ?_;unfold zR7 zM2;by_cases e:i=a
  ·simp only [if_pos e];rw [show zC0 n (fun l=>M i l*B l j)-t*zC0 n (fun l=>M b l*B l j)=zC0 n (fun l=>M i l*B l j)+(-t)*zC0 n (fun l=>M b l*B l j) by grind,<- zJ4,<- zU8];exact zF2 fun l _=>by grind
  ·simp only [if_neg e]
theorem mulF_id (n:Nat) (B:Nat->Nat->Rat) {i j:Nat} (hi:i<n):zR7 n idF B i j=B i j:=by
 unfold zR7
 rw [zK7 (a:=i) hi (fun l _ hne=>by
  have:idF i l=0:=if_neg (fun e=>hne e.symm);rw [this];grind)]
 have:idF i i=1:=if_pos rfl;rw [this];grind
theorem Ech.full {n k:Nat} {M:Nat->Nat->Rat} {p:Nat->Nat} (h:Ech n n M k p) (hk:k=n) {i:Nat} (hi:i<n):p i=i:=by
  subst hk
  have a1:∀ i,i<k->i<=p i:=by
    intro i
    induction i with
    | zero=>intro _;omega
    | succ i ih =>
      intro hi
      have:=ih (by omega)
      have:=h.rise i (i+1) (by omega) hi
      omega
  have a2:∀ d i,i+d+1=k->p i<=i:=by
    intro d
    induction d with
    | zero=>intro i e;have:=h.lt i (by omega);omega
    | succ d ih =>
      intro i e
      have:=ih (i+1) (by omega)
      have:=h.rise i (i+1) (by omega) (by omega)
      omega
  have:=a1 i hi
  have:=a2 (k-i-1) i (by omega)
  omega
theorem RowFn.unit {n k:Nat} {f:(Nat->Nat->Rat)->Rat} (h:RowFn n n f) {p:Nat->Nat} (hk:k=n):∀ (m:Nat) (M:Nat->Nat->Rat),m<=k->Ech n n M k p->Red n M k p m->f M=f idF
  | 0, M, _, he, hr => h.congr _ _ fun i j hi hj => by
    have hp:=he.full hk hj;by_cases e:i=j
    · subst e
      have:=he.one i (by omega)
      rw [hp] at this;rw [this];exact (if_pos rfl).symm
    · have:=hr j (by omega) (by omega) i hi e
      rw [hp] at this;rw [this];exact (if_neg e).symm
  | m + 1, M, hm, he, hr => by
    obtain ⟨t,ht⟩:∃ t:Nat->Rat,t=fun i=>if i<m then M i (p m) else 0:=⟨_,rfl⟩
    have h1:∀ i,m<=i->t i=0:=fun i hi=>by rw [ht];exact if_neg (by omega)
    have h2:∀ i,i<m->t i=M i (p m):=fun i hi=>by rw [ht];exact if_pos hi
    rw [<- h.clear M (p:=m) (t:=t) (by omega) (h1 m (zB1 _))];exact RowFn.unit h hk m _ (by omega) (he.up (by omega) h1) (hr.up he (by omega) h1 h2)
theorem RowFn.steps {n k:Nat} {f:(Nat->Nat->Rat)->Rat} (h:RowFn n n f) {M:Nat->Nat->Rat} {p:Nat->Nat} (he:Ech n n M k p):f M=if k=n then f idF else 0:=by
 by_cases hk:k=n
 ·rw [if_pos hk];exact h.unit hk k M (zB1 _) he (fun m h1 h2=>by omega)
 ·rw [if_neg hk]
  have:=he.le
  exact h.zero (a:=k) (by omega) (fun j hj=>he.rest k (zB1 _) (by omega) j hj)
theorem yG0 (n:Nat) (M:Nat->Nat->Rat):∀ a,a<=n -> ∃ (c:Rat) (E:Nat->Nat->Rat) (k:Nat) (p:Nat->Nat),Ech n a E k p /\ ∀ f,RowFn n n f->f M=c*f E
  | 0,_=>⟨1,M,0,id,Ech.zero n M id,fun f _=>by grind⟩
  | a + 1, ha => by
    obtain ⟨c,E,k,p,hE,hf⟩:=yG0 n M a (by omega);by_cases h0:∀ i,k<=i->i<n->E i a=0
    · exact ⟨c,E,k,p,hE.skip h0,hf⟩
    · obtain ⟨i,hi,hin,hne⟩:∃ i,k<=i/\i<n/\E i a≠0:=bQ1 fun h=>h0 fun i h1 h2=>bQ1 fun h3=>h ⟨i,h1,h2,h3⟩
      obtain ⟨c1,E1,hE1,hf1,hne1⟩:∃ (c1:Rat) (E1:Nat->Nat->Rat),Ech n a E1 k p/\(∀ f,RowFn n n f->f M=c1*f E1)/\E1 k a≠0:=by
        by_cases e:k=i
        · subst e;exact ⟨c,E,hE,hf,hne⟩
        · refine ⟨-c,zD9 E k i,hE.swap hi hin,fun f h => ?_,?_⟩
          · rw [hf f h,h.swap E (by omega) hin e];grind
          · unfold zD9;rw [if_pos rfl];exact hne
      have hk:k<n:=by omega
      have hE2:=hE1.scale (E1 k a)⁻¹;have h1:zE8 E1 k (E1 k a)⁻¹ k a=1:=by unfold zE8;rw [if_pos rfl];exact Rat.mul_inv_cancel _ hne1
      have hE3:=hE2.clear (t:=fun i=>if i=k then 0 else zE8 E1 k (E1 k a)⁻¹ i a) hk h1 (if_pos rfl) (fun i hki _=>if_neg (by omega));refine ⟨c1*E1 k a,_,_,_,hE3,fun f h => ?_⟩;rw [h.clear _ hk (if_pos rfl),h.scale _ _ _ hk,hf1 f h]
      have:=Rat.mul_inv_cancel _ hne1
      grind
theorem jB7 {n:Nat} {f:(Nat->Nat->Rat)->Rat} (h:RowFn n n f) (M:Nat->Nat->Rat):f M=zE5 n M*f idF:=by
 obtain ⟨c,E,k,p,hE,hf⟩:=yG0 n M n (zB1 n);rw [hf f h,hf _ (qB5 n),h.steps hE,(qB5 n).steps hE,qN2]
 split<;>grind
theorem jB8 (n:Nat) (M B:Nat->Nat->Rat):zE5 n (zR7 n M B)=zE5 n M*zE5 n B:=by
 have h:=jB7 (jB6 n B) M;have e:zE5 n (zR7 n idF B)=zE5 n B:=zQ8 n fun i j hi _=>mulF_id n B hi;rw [<- e];exact h
def zP4 (M:Nat->Nat->Rat) (c:Nat) (v:Nat->Rat):Nat->Nat->Rat:=fun i j=>if j=c then v i else M i j
theorem jB9 (n c:Nat) (v:Nat->Rat) (hc:c<n):zE5 n (zP4 idF c v)=v c:=by
 have hd:=qB5 n;by_cases h0:v c=0
 ·rw [hd.zero hc (fun j _=>by
   unfold zP4 idF;by_cases e:j=c
   ·rw [if_pos e,h0]
   ·rw [if_neg e,if_neg (fun h=>e h.symm)]),h0]
 ·have h1:=hd.clear (zP4 idF c v) (p:=c) (t:=fun i=>if i=c then 0 else v i*(v c)⁻¹) hc (if_pos rfl);have h2:=hd.scale idF c (v c) hc;have hi:=Rat.mul_inv_cancel _ h0;rw [<- h1,hd.congr _ (zE8 idF c (v c)) (fun i j hi' hj => ?_),h2,qN2]
  ·grind
  ·unfold zI1 zP4 zE8 idF;by_cases e1:i=c<;>by_cases e2:j=c
   ·subst e1;subst e2;simp;grind
   ·subst e1;simp only [if_true,if_neg e2,if_neg (fun h:i=j=>e2 h.symm)];grind
   ·subst e2;simp only [if_neg e1,if_true];grind
   ·simp only [if_neg e1,if_neg e2,if_neg (show ¬ c=j from fun h=>e2 h.symm)];grind
theorem qN3 (n:Nat) (M:Nat->Nat->Rat) (c:Nat) (v:Nat->Rat) (hc:c<n):zE5 n (zP4 M c (fun i=>zC0 n (fun l=>M i l*v l)))=v c*zE5 n M:=by
 have h:=jB8 n M (zP4 idF c v);rw [jB9 n c v hc] at h;rw [show v c*zE5 n M=zE5 n M*v c by grind,<- h];refine zQ8 n fun i j hi hj => ?_;unfold zP4 zR7;by_cases e:j=c
 ·simp only [if_pos e]
 ·simp only [if_neg e];rw [zK7 (a:=j) hj (fun l _ hne=>by unfold idF;rw [if_neg hne];grind)];unfold idF;rw [if_pos rfl];grind
end rat
end Go.Proofs.YtagaabooccnamaaGreat
