/- Plain mathematics of layer 4: a number divided by a limb, by a number limb by limb (Knuth's way), and bit by bit. Condition: as each says. -/
import Derived.Test.YtbfflcpmagjlnaaGreatKE1
import Derived.Laws.Bits64b
import Derived.Deep.AppendLies
import Derived.Maps.AppendAt
import Derived.IntWalk
import Derived.Deep.RegionLaw
import Derived.RegionTactic
import Derived.Lib.OthersKept
import Derived.Deep.Cut
import Derived.Orders
import Derived.Deep.MidRow
import Derived.Deep.RegionHeld3
import Derived.Deep.DrawnRows
import Derived.Deep.LoopGhost
import Derived.Lib.SmallJoins
import Derived.ProofKit
import Derived.OpenShut
open Go.Proofs.Tryz
open Go.Lib renaming hid -> hQ9
set_option linter.unusedVariables false
set_option linter.unusedSimpArgs false
set_option maxRecDepth 100000
set_option maxHeartbeats 3200000
open And renaming intro -> zA
open List renaming setIfInBounds_toArray -> zA0, set_cons_succ -> zA1, set_cons_zero -> zA2, getElem?_eq_getElem -> zA3, getElem?_eq_some_iff -> zA4, mem_of_getElem? -> zA5, getD_eq_getElem?_getD -> zA6, take_of_length_le -> zA7, length_append -> zA8, replicate -> zB, getElem?_append_left -> zB0, getElem?_map -> zB1, length_set -> zB2
open Nat renaming le_refl -> zB3, le_trans -> zB4
open Go.World renaming block_lt_of_cell? -> bQ0
open List renaming getElem?_set_self -> bQ3, getElem?_append_right -> bW0, getElem?_set_ne -> bW1, getElem?_toArray -> bW8, getElem?_drop -> bW9, take_append_drop -> bX, ext_getElem? -> bX0, take_length -> bX1, length_drop -> bX2, length_cons -> bX3, map_toArray -> bX7
open Nat renaming mul_assoc -> bX8, pow_le_pow_right -> bX9, mul_le_mul_left -> bY, mul_comm -> bY0, pow_succ -> bY1, lt_of_lt_of_le -> bY2, eq_zero_or_pos -> bY3, mul_le_mul_right -> bY4, zero_add -> bY5, mul_le_mul -> bY6
namespace Go.Proofs.YtbfflcpmagjlnaaGreat
namespace num
theorem qS {l:List Nat} {i x:Nat} : (l.set i x).drop (i+1)=l.drop (i+1):=by
 apply bX0;intro j;rw [bW9,bW9,bW1 (by omega)]
theorem yC8 {o:List Nat} {j x:Nat} (h:j<o.length):(o.set j x).drop j=x :: o.drop (j+1):=by
 rw [qQ7 (bQ3 h),qS]
def DQ (B:Nat) (l:List Nat) (d k r:Nat) (o:List Nat):Prop:=Lt B o/\o.length=l.length/\val B (o.drop k)*d+r=val B (l.drop k)/\r<d
theorem DQ.start {B:Nat} (hB:0<B) (l:List Nat) {d:Nat} (hd:1<=d):DQ B l d l.length 0 (zB l.length 0):=by
 unfold DQ;exact ⟨Lt.rep hB _,by simp,by simp [val],by omega⟩
theorem DQ.step {B:Nat} {l o:List Nat} {d j r a q s:Nat} (h:DQ B l d (j+1) r o) (hl:l[j]?=some a) (hq:q<B) (hs:s<d) (he:q*d+s=B*r+a):DQ B l d j s (o.set j q):=by
 unfold DQ at h |-;obtain ⟨h1,h2,h3,h4⟩:=h;have hj:j<l.length:=(zA4.1 hl).1;refine ⟨h1.set hq j,by simpa using h2,?_,hs⟩;rw [yC8 (by omega),zN4,qE2 hl,<- h3,Nat.add_mul,bX8,Nat.mul_add];omega
theorem DQ.done {B:Nat} {l o:List Nat} {d r:Nat} (h:DQ B l d 0 r o):Lt B o/\o.length=l.length/\val B o=val B l / d/\r=val B l % d:=by
 unfold DQ at h;obtain ⟨h1,h2,h3,h4⟩:=h;simp only [List.drop_zero] at h3;refine ⟨h1,h2,?_,?_⟩
 ·rw [<- h3,bY0,Nat.mul_add_div (by omega),Nat.div_eq_of_lt h4,Nat.add_zero]
 ·rw [<- h3,bY0,Nat.mul_add_mod,Nat.mod_eq_of_lt h4]
def TO (B:Nat) (p0 b p:List Nat) (t i u kept:Nat):Prop:=Lt B p/\p.length=p0.length/\p.drop i=p0.drop i/\u<B/\kept<=1/\val B (p.take i)+B^i*kept+val B (b.take i)*t=val B (p0.take i)+B^i+B^i*u
theorem TO.start {B:Nat} {p:List Nat} (hp:Lt B p) (hB:0<B) (b:List Nat) (t:Nat):TO B p b p t 0 0 1:=⟨hp,rfl,rfl,hB,by omega,by simp [val]⟩
theorem qK8 {l m:List Nat} {i d:Nat} (h:l.drop i=m.drop i) (hd:l[i]?=some d):m[i]?=some d:=by
 have e:=congrArg (fun x=>x[0]?) h;simp only [bW9,Nat.add_zero] at e;rw [<- e];exact hd
theorem qK9 {l:List Nat} {i x:Nat} : (l.set i x).take i=l.take i:=by
 apply bX0;intro j;rw [List.getElem?_take,List.getElem?_take]
 split
 ·rw [bW1 (by omega)]
 ·rfl
theorem TO.next {B:Nat} {p0 b p:List Nat} {t i u kept d e low up s k':Nat} (h:TO B p0 b p t i u kept) (hd:p[i]?=some d) (he:b[i]?=some e) (hlow:low<B) (hup:up<B) (hm:low+B*up=e*t+u) (hs:s<B) (hk:s+B*k'=d+(B-1-low)+kept):TO B p0 b (p.set i s) t (i+1) up k':=by
 obtain ⟨h1,h2,h3,h4,h5,h6⟩:=h;have hi:i<p.length:=(zA4.1 hd).1;have hd1:=h1.at hd
 have hk1:k'<=1:=by
  rcases Nat.lt_or_ge 1 k' with h | h
  ·have:=bY B h;omega
  ·exact h
 refine ⟨h1.set hs i,by simpa using h2,?_,hup,hk1,?_⟩
 ·rw [qS,<- List.drop_drop,<- List.drop_drop,h3]
 ·have e0:=qK8 h3 hd
  have e1:val B ((p.set i s).take (i+1))=val B (p.take i)+B^i*s:=by
   rw [zJ7 (bQ3 hi),qK9]
  have e2:=zJ7 (B:=B) e0;have e3:=zJ7 (B:=B) he;rw [e1,e2,e3,Nat.add_mul,bY1]
  have a1:B^i*s+B^i*B*k'=B^i*d+B^i*(B-1-low)+B^i*kept:=by
   rw [bX8,<- Nat.mul_add,hk,Nat.mul_add,Nat.mul_add]
  have a2:B^i*low+B^i*B*up=B^i*e*t+B^i*u:=by
   rw [bX8,<- Nat.mul_add,hm,Nat.mul_add,bX8]
  have a3:B^i*(B-1-low)+B^i+B^i*low=B^i*B:=by
   have:B-1-low+1+low=B:=by omega
   rw [<- Nat.mul_succ,<- Nat.mul_add];congr 1
  omega
theorem TO.last {B:Nat} {p0 b p:List Nat} {t u kept d s k':Nat} (h:TO B p0 b p t b.length u kept) (hl:p0.length=b.length+1) (hd:p[b.length]?=some d) (hs:s<B) (hk:s+B*k'=d+(B-1-u)+kept):Lt B (p.set b.length s)/\(p.set b.length s).length=p0.length/\k'<=1/\val B (p.set b.length s)+B^p0.length*k'+val B b*t=val B p0+B^p0.length:=by
 obtain ⟨h1,h2,h3,h4,h5,h6⟩:=h;have hi:b.length<p.length:=(zA4.1 hd).1;have hd1:=h1.at hd
 have hk1:k'<=1:=by
  rcases Nat.lt_or_ge 1 k' with h | h
  ·have:=bY B h;omega
  ·exact h
 refine ⟨h1.set hs _,by simpa using h2,hk1,?_⟩;have e0:=qK8 h3 hd
 have e1:val B (p.set b.length s)=val B (p.take b.length)+B^b.length*s:=by
  have e:=zJ7 (B:=B) (bQ3 (a:=s) hi);rw [qK9,zA7 (by rw [zB2];omega)] at e;exact e
 have e2:val B p0=val B (p0.take b.length)+B^b.length*d:=by
  have e:=zJ7 (B:=B) e0;rwa [zA7 (by omega)] at e
 rw [bX1] at h6;rw [e1,e2,hl,bY1]
 have a1:B^b.length*s+B^b.length*B*k'=B^b.length*d+B^b.length*(B-1-u)+B^b.length*kept:=by
  rw [bX8,<- Nat.mul_add,hk,Nat.mul_add,Nat.mul_add]
 have a3:B^b.length*(B-1-u)+B^b.length+B^b.length*u=B^b.length*B:=by
  have:B-1-u+1+u=B:=by omega
  rw [<- Nat.mul_succ,<- Nat.mul_add];congr 1
 omega
def PB (B:Nat) (p0 b p:List Nat) (i u:Nat):Prop:=Lt B p/\p.length=p0.length/\p.drop i=p0.drop i/\u<B/\val B (p.take i)+B^i*u=val B (p0.take i)+val B (b.take i)
theorem PB.start {B:Nat} {p:List Nat} (hp:Lt B p) (hB:0<B) (b:List Nat):PB B p b p 0 0:=⟨hp,rfl,rfl,hB,by simp [val]⟩
theorem PB.next {B:Nat} {p0 b p:List Nat} {i u d e s u':Nat} (h:PB B p0 b p i u) (hd:p[i]?=some d) (he:b[i]?=some e) (hs:s<B) (hu:u'<B) (hk:s+B*u'=d+e+u):PB B p0 b (p.set i s) (i+1) u':=by
 obtain ⟨h1,h2,h3,h4,h6⟩:=h;have hi:i<p.length:=(zA4.1 hd).1;refine ⟨h1.set hs i,by simpa using h2,?_,hu,?_⟩
 ·rw [qS,<- List.drop_drop,<- List.drop_drop,h3]
 ·have e0:=qK8 h3 hd
  have e1:val B ((p.set i s).take (i+1))=val B (p.take i)+B^i*s:=by
   rw [zJ7 (bQ3 hi),qK9]
  have e2:=zJ7 (B:=B) e0;have e3:=zJ7 (B:=B) he;rw [e1,e2,e3,bY1]
  have a1:B^i*s+B^i*B*u'=B^i*d+B^i*e+B^i*u:=by
   rw [bX8,<- Nat.mul_add,hk,Nat.mul_add,Nat.mul_add]
  omega
theorem PB.last {B:Nat} {p0 b p:List Nat} {u d s k:Nat} (h:PB B p0 b p b.length u) (hl:p0.length=b.length+1) (hd:p[b.length]?=some d) (hs:s<B) (hk:s+B*k=d+u):Lt B (p.set b.length s)/\(p.set b.length s).length=p0.length/\val B (p.set b.length s)+B^p0.length*k=val B p0+val B b:=by
 obtain ⟨h1,h2,h3,h4,h6⟩:=h;have hi:b.length<p.length:=(zA4.1 hd).1;refine ⟨h1.set hs _,by simpa using h2,?_⟩;have e0:=qK8 h3 hd
 have e1:val B (p.set b.length s)=val B (p.take b.length)+B^b.length*s:=by
  have e:=zJ7 (B:=B) (bQ3 (a:=s) hi);rw [qK9,zA7 (by rw [zB2];omega)] at e;exact e
 have e2:val B p0=val B (p0.take b.length)+B^b.length*d:=by
  have e:=zJ7 (B:=B) e0;rwa [zA7 (by omega)] at e
 rw [bX1] at h6;rw [e1,e2,hl,bY1]
 have a1:B^b.length*s+B^b.length*B*k=B^b.length*d+B^b.length*u:=by
  rw [bX8,<- Nat.mul_add,hk,Nat.mul_add]
 omega
def zY7 (V D t:Nat):Prop:=V / D<=t/\t<=V / D+1
theorem zY7.right {V D t V':Nat} (h:zY7 V D t) (hD:0<D) (hv:V'+D*t=V):t=V / D/\V'=V % D:=by
 have h1:t<=V / D:=(Nat.le_div_iff_mul_le hD).2 (by rw [bY0];omega);have h2:t=V / D:=Nat.le_antisymm h1 h.1;refine ⟨h2,?_⟩
 have:=Nat.mod_add_div V D
 rw [<- h2] at this;omega
theorem zY7.more {V D t V' W M k:Nat} (h:zY7 V D t) (hD:0<D) (hV':V'<M) (hv:V'+D*t=V+M) (hW:W+M*k=V'+D) (hWM:W<M) (hVM:V<M):t=V / D+1/\W=V % D:=by
 have h1:V<D*t:=by omega
 have h2:V / D<t:=Nat.div_lt_of_lt_mul h1;have h3:t=V / D+1:=by have:=h.2;omega
 refine ⟨h3,?_⟩;have e:=Nat.mod_add_div V D;rw [h3,Nat.mul_add,Nat.mul_one] at hv;have h4:V'+D=V % D+M:=by omega
 have h5:V % D<M:=Nat.lt_of_le_of_lt (Nat.mod_le _ _) hVM
 have hk:k=1:=by
  rcases Nat.lt_or_ge k 1 with h | h
  ·have:k=0:=by omega
   subst this;omega
  ·rcases Nat.lt_or_ge 1 k with h' | h'
   ·have:=bY M h';omega
   ·omega
 subst hk;omega
theorem three {B:Nat} {p:List Nat} {n a b c:Nat} (hp:p.length=n+3) (ha:p[n+2]?=some a) (hb:p[n+1]?=some b) (hc:p[n]?=some c):val B p=val B (p.take n)+B^n*((a*B+b)*B+c):=by
 have e1:=zJ7 (B:=B) ha;have e2:=zJ7 (B:=B) hb;have e3:=zJ7 (B:=B) hc;rw [zA7 (by omega)] at e1;rw [e1,show n+2=n+1+1 from rfl,e2,e3,Nat.add_mul,Nat.mul_add,Nat.mul_add];simp only [bY1];have x1:B^n*B*B*a=B^n*(a*B*B):=by simp only [bX8,Nat.mul_left_comm,bY0]
 have x2:B^n*B*b=B^n*(b*B):=by simp only [bX8,Nat.mul_left_comm,bY0]
 omega
theorem two {B:Nat} {p:List Nat} {n a b:Nat} (hp:p.length=n+2) (ha:p[n+1]?=some a) (hb:p[n]?=some b):val B p=val B (p.take n)+B^n*(a*B+b):=by
 have e1:=zJ7 (B:=B) ha;have e2:=zJ7 (B:=B) hb;rw [zA7 (by omega)] at e1;rw [e1,e2,Nat.mul_add,bY1];have x2:B^n*B*a=B^n*(a*B):=by simp only [bX8,Nat.mul_left_comm,bY0]
 omega
def GU (B V D u1 u0 v t left:Nat):Prop:=t*v+left=u1*B+u0/\V / D<=t/\t<B
theorem GU.step {B V D u1 u0 v t left c b2 n X Y:Nat} (h:GU B V D u1 u0 v t left) (hV:V=X+B^n*((u1*B+u0)*B+c)) (hX:X<B^n) (hD:D=Y+B^n*(v*B+b2)) (hc:left*B+c<t*b2):1<=t/\GU B V D u1 u0 v (t-1) (left+v):=by
 obtain ⟨h1,h2,h3⟩:=h
 have ht:1<=t:=by
  rcases bY3 t with h | h
  ·subst h;omega
  ·exact h
 have hp:0<B^n:=by omega
 have k1:(u1*B+u0)*B+c+1<=t*(v*B+b2):=by
  have:t*(v*B+b2)=(t*v)*B+t*b2:=by rw [Nat.mul_add,bX8]
  rw [this,<- h1,Nat.add_mul];omega
 have k2:=bY (B^n) k1
 have k3:V<D*t:=by
  have:D*t=Y*t+B^n*(t*(v*B+b2)):=by rw [hD,Nat.add_mul,bX8,bY0 t]
  rw [this,hV];rw [Nat.mul_succ] at k2;omega
 have k4:V / D<t:=Nat.div_lt_of_lt_mul k3;refine ⟨ht,?_,by omega,by omega⟩;have:(t-1)*v+v=t*v:=by rw [<- Nat.succ_mul];congr 1;omega
 omega
theorem GU.done {B V D u1 u0 v t left c b2 n X Y:Nat} (h:GU B V D u1 u0 v t left) (hV:V=X+B^n*((u1*B+u0)*B+c)) (hD:D=Y+B^n*(v*B+b2)) (hY:Y<B^n) (hv:0<v) (hc:t*b2<=left*B+c):zY7 V D t:=by
 obtain ⟨h1,h2,h3⟩:=h;refine ⟨h2,?_⟩
 have k1:t*(v*B+b2)<=(u1*B+u0)*B+c:=by
  have:t*(v*B+b2)=(t*v)*B+t*b2:=by rw [Nat.mul_add,bX8]
  rw [this,<- h1,Nat.add_mul];omega
 have k2:=bY (B^n) k1
 have hD0:B^n*B<=D:=by
  rw [hD]
  have:=bY (B^n) (show B<=v*B+b2 by have:=bY4 B hv;omega)
  omega
 have hp:0<B^n:=by omega
 have hDp:0<D:=by
  have:0<B^n*B:=Nat.mul_pos hp (by omega);omega
 have k3:D*t<=V+D:=by
  have e:D*t=Y*t+B^n*(t*(v*B+b2)):=by rw [hD,Nat.add_mul,bX8,bY0 t]
  have g:Y*t<=B^n*B:=bY6 (by omega) (by omega);have e2:B^n*(t*(v*B+b2))<=V:=by rw [hV];omega
  rw [e];omega
 rcases bY3 t with h | h
 ·subst h;exact Nat.zero_le _
 ·have:t-1<=V / D:=by
   rw [Nat.le_div_iff_mul_le hDp];have:D*(t-1)+D=D*t:=by rw [<- Nat.mul_succ];congr 1;omega
   rw [bY0];omega
  omega
theorem GU.start_div {B V D u1 u0 v c n X Y b2:Nat} (hV:V=X+B^n*((u1*B+u0)*B+c)) (hX:X<B^n) (hc:c<B) (h0:u0<B) (hD:D=Y+B^n*(v*B+b2)) (hu:u1<v):GU B V D u1 u0 v ((u1*B+u0) / v) ((u1*B+u0) % v):=by
 have hq:(u1*B+u0) / v<B:=Nat.div_lt_of_lt_mul (by
  have:(u1+1)*B<=v*B:=bY4 B hu;rw [Nat.add_mul] at this;omega)
 have hm:(u1*B+u0) / v*v+(u1*B+u0) % v=u1*B+u0:=by rw [bY0];exact Nat.div_add_mod _ _
 refine ⟨hm,?_,hq⟩;have hp:0<B^n:=by omega
 have hDp:0<D:=by
  have:0<B^n*(v*B+b2):=Nat.mul_pos hp (by have:=Nat.mul_pos (show 0<v by omega) (show 0<B by omega);omega);omega
 refine Nat.le_of_lt_succ (Nat.div_lt_of_lt_mul ?_);have hr:(u1*B+u0) % v<v:=Nat.mod_lt _ (by omega);obtain ⟨q,hqe⟩:∃ q,q=(u1*B+u0) / v:=⟨_,rfl⟩;rw [<- hqe] at hm |-;have k1:u1*B+u0+1<=(q+1)*v:=by rw [Nat.add_mul];omega
 have k2:(u1*B+u0)*B+c+1<=(q+1)*(v*B+b2):=by
  have a:=bY4 B k1;rw [Nat.add_mul] at a;rw [Nat.mul_add (q+1),<- bX8];omega
 have k3:=bY (B^n) k2;have e:(Y+B^n*(v*B+b2))*(q+1)=Y*(q+1)+B^n*((q+1)*(v*B+b2)):=by rw [Nat.add_mul,bX8,bY0 (v*B+b2)]
 show V<D*(q+1)
 rw [hV,hD,e];rw [Nat.mul_succ] at k3;omega
theorem GU.start_top {B V D u1 u0 v c n X Y b2:Nat} (hV:V=X+B^n*((u1*B+u0)*B+c)) (hD:D=Y+B^n*(v*B+b2)) (hY:Y<B^n) (hb2:b2<B) (hVD:V<B*D) (hu:v<=u1) (hv:0<v) (hB:0<B):u1=v/\GU B V D u1 u0 v (B-1) (u1+u0):=by
 have hDp:0<D:=by
  rcases bY3 D with h | h
  ·subst h;omega
  ·exact h
 have h1:u1=v:=by
  rcases Nat.lt_or_ge v u1 with h | h
  ·exfalso
   have a1:D<B^n*(v*B+B):=by
    have:=bY (B^n) (show v*B+b2+1<=v*B+B by omega)
    rw [Nat.mul_succ] at this;omega
   have a2:B*D<B*(B^n*((v+1)*B)):=Nat.mul_lt_mul_of_pos_left (by rw [Nat.add_mul,Nat.one_mul];exact a1) hB
   have a3:B*(B^n*((v+1)*B))<=B^n*((u1*B+u0)*B+c):=by
    have e:B*(B^n*((v+1)*B))=B^n*((v+1)*B*B):=by simp only [Nat.mul_left_comm,bY0]
    rw [e];refine bY _ ?_
    have:=bY4 B (bY4 B h)
    refine zB4 this ?_;rw [Nat.add_mul (u1*B)];exact zB4 (Nat.le_add_right _ _) (Nat.le_add_right _ _)
   omega
  ·omega
 refine ⟨h1,?_,?_,by omega⟩
 ·subst h1;have:(B-1)*u1+u1=u1*B:=by rw [<- Nat.succ_mul,bY0];congr 1;omega
  omega
 ·have:V / D<B:=Nat.div_lt_of_lt_mul (by rw [bY0];exact hVD);omega
def KD (B x D N:Nat) (P O:List Nat) (k:Nat):Prop:=Lt B P/\P.length=N/\Lt B O/\val B P+D*(B^k*val B (O.drop k))=x/\val B (P.drop k)<D
theorem KD.start {B x D m Q:Nat} (hB:2<=B) (hD:B^(m-1)<=D) (hQ:Q<=(digs B x).length) (hQm:(digs B x).length-Q<=m-1):KD B x D ((digs B x).length+1) (digs B x ++ [0]) (zB Q 0) Q:=by
 have h0:=zF8 hB x;have e1:(digs B x ++ [0]).drop Q=(digs B x).drop Q ++ [0]:=List.drop_append_of_le_length hQ;have h1:=zM8 (h0.drop Q);rw [bX2] at h1;have h2:=bX9 (n:=B) (by omega) hQm;refine ⟨h0.snoc (by omega),by simp,Lt.rep (by omega) Q,?_,?_⟩
 ·rw [zT9,zF hB,List.drop_of_length_le (by simp),zY2];simp
 ·rw [e1,zT9];omega
def seg (P:List Nat) (s m:Nat):List Nat:=(P.drop s).take (m+1)
theorem qS0 {P:List Nat} {s m N:Nat} (hN:P.length=N) (h:s+m+1<=N):(seg P s m).length=m+1:=by unfold seg;simp;omega
theorem yC9 {P:List Nat} {s m N:Nat} (hN:P.length=N) (h:s+m+1<=N):P.take s ++ seg P s m ++ P.drop (s+m+1)=P:=by
 unfold seg;have e:P.drop (s+m+1)=(P.drop s).drop (m+1):=by rw [List.drop_drop];congr 1
 rw [e,List.append_assoc,bX,bX]
theorem KD.at {B x D N:Nat} {P O:List Nat} {s m:Nat} (h:KD B x D N P O (s+1)) (hs:s+m+1<=N) (hD:D<=B^m):Lt B (seg P s m)/\val B (seg P s m)<B*D/\val B (P.drop (s+m+1))=0:=by
 obtain ⟨h1,h2,h3,h4,h5⟩:=h;obtain ⟨d,hd⟩:∃ d,P[s]?=some d:=⟨_,zA3 (by omega)⟩;have e1:=qE2 (B:=B) hd;have hd1:=h1.at hd
 have e2:val B (P.drop s)<B*D:=by
  have:=bY B (show val B (P.drop (s+1))+1<=D by omega)
  rw [Nat.mul_add] at this;omega
 have e3:=zL6 B (seg P s m) (P.drop (s+m+1))
 have e4:seg P s m ++ P.drop (s+m+1)=P.drop s:=by
  have e:P.drop (s+m+1)=(P.drop s).drop (m+1):=by rw [List.drop_drop];congr 1
  unfold seg;rw [e,bX]
 rw [e4,qS0 h2 hs] at e3;have e5:B*D<=B^(m+1):=by rw [bY1,bY0];exact bY4 B hD
 refine ⟨(h1.drop s).take _,by omega,?_⟩;rcases bY3 (val B (P.drop (s+m+1))) with h | h
 ·exact h
 ·have:=bY (B^(m+1)) h;omega
theorem KD.step {B x D N:Nat} {P O p':List Nat} {s m t:Nat} (h:KD B x D N P O (s+1)) (hs:s+m+1<=N) (hO:s<O.length) (hD:D<=B^m) (hDp:0<D) (ht:t=val B (seg P s m) / D) (htB:t<B) (hl:Lt B p') (hlen:p'.length=(seg P s m).length) (hv:val B p'=val B (seg P s m) % D):KD B x D N (P.take s ++ p' ++ P.drop (s+m+1)) (O.set s t) s:=by
 obtain ⟨a1,a2,a3⟩:=h.at hs hD;obtain ⟨h1,h2,h3,h4,h5⟩:=h;have hpl:=qS0 h2 hs;have hX:(P.take s).length=s:=by simp;omega
 have e0:=yC9 h2 hs
 have e1:val B P=val B (P.take s)+B^s*val B (seg P s m):=by
  have:=zL6 B (P.take s ++ seg P s m) (P.drop (s+m+1))
  rw [e0,a3,zL6,hX] at this;simpa using this
 have e2:val B (P.take s ++ p' ++ P.drop (s+m+1))=val B (P.take s)+B^s*val B p':=by
  rw [zL6,zL6,a3,hX];simp
 have e3:val B ((P.take s ++ p' ++ P.drop (s+m+1)).drop s)=val B p':=by
  rw [List.append_assoc,List.drop_left' hX,zL6,a3];simp
 have e4:=Nat.mod_add_div (val B (seg P s m)) D;rw [<- ht,<- hv] at e4;refine ⟨((h1.take s).append hl).append (h1.drop _),?_,h3.set htB s,?_,?_⟩
 ·simp only [zA8,hlen,hpl,hX,bX2];omega
 ·rw [yC8 hO,zN4,e2];rw [e1,<- e4,bY1] at h4
  have g1:D*(B^s*(t+B*val B (O.drop (s+1))))=B^s*(D*t)+D*(B^s*B*val B (O.drop (s+1))):=by
   rw [Nat.mul_add,Nat.mul_add,Nat.mul_left_comm,bX8 (B^s) B]
  rw [Nat.mul_add] at h4;omega
 ·rw [e3,hv];exact Nat.mod_lt _ hDp
theorem KD.done {B x D N:Nat} {P O:List Nat} (h:KD B x D N P O 0):Lt B P/\Lt B O/\val B O=x / D/\val B P=x % D:=by
 obtain ⟨h1,h2,h3,h4,h5⟩:=h;simp only [List.drop_zero,Nat.pow_zero,Nat.one_mul] at h4 h5;refine ⟨h1,h3,?_,?_⟩
 ·rw [<- h4,Nat.add_mul_div_left _ _ (by omega),Nat.div_eq_of_lt h5,bY5]
 ·rw [<- h4,Nat.add_mul_mod_self_left,Nat.mod_eq_of_lt h5]
end num
namespace num
end num
namespace limb
open Go.RowKit
def zU3 (hi lo d q r e:Int):Prop :=
 (d % 4294967296=0/\q=0/\r=0/\e=3)\/(0<d % 4294967296/\d % 4294967296<=hi % 4294967296/\q=0/\r=0/\e=2) \/
 (hi % 4294967296<d % 4294967296/\0<=q/\q<4294967296/\0<=r/\r<d % 4294967296/\q*(d % 4294967296)+r=(hi % 4294967296)*4294967296+lo % 4294967296/\e=0)
theorem zU3.of {hi lo d:Int} (h0:0<=hi % 4294967296) (h:hi % 4294967296<d % 4294967296) (l0:0<=lo % 4294967296/\lo % 4294967296<4294967296) :
  zU3 hi lo d ((hi % 4294967296*4294967296+lo % 4294967296) / (d % 4294967296)) ((hi % 4294967296*4294967296+lo % 4294967296) % (d % 4294967296)) 0:=by
 unfold zU3;refine Or.inr (Or.inr ⟨h,Int.ediv_nonneg (by omega) (by omega),?_,Int.emod_nonneg _ (by omega),Int.emod_lt_of_pos _ (by omega),?_,rfl⟩)
 ·exact Int.ediv_lt_of_lt_mul (by omega) (by omega)
 ·rw [Int.mul_comm];exact Int.mul_ediv_add_emod _ _
theorem div_any (hi lo d:Int) (a0:0<=hi) (a1:hi<=18446744073709551615) (b0:0<=lo) (b1:lo<=18446744073709551615) (c0:0<=d) (c1:d<=18446744073709551615) (w:World) :
  Calls prog 151 #[.int .u64 hi,.int .u64 lo,.int .u64 d] w fun e w' =>
   ∃ q r x,e=.returned (.tuple #[.int .u64 q,.int .u64 r,.int .i64 x])/\zU3 hi lo d q r x /\ ∃ n,w'=w.drewN n:=by
 by_cases hd:d % 4294967296=0
 ·go_enter func151,ntmps151
  go_wp2_with (first | (go_at_call 153;refine (zV6 _ (by omega) (by omega) _).mono ?_;rintro e w' ⟨rfl,rfl⟩))
  go_ret3
  exact ⟨_,_,_,rfl,by unfold zU3;omega,0,rfl⟩
 ·by_cases hh:d % 4294967296<=hi % 4294967296
  ·go_enter func151,ntmps151
   go_wp2_with (first | (go_at_call 153;refine (zV6 _ (by omega) (by omega) _).mono ?_;rintro e w' ⟨rfl,rfl⟩))
   go_ret3
   exact ⟨_,_,_,rfl,by unfold zU3;omega,0,rfl⟩
  ·go_enter func151,ntmps151
   go_wp2_with (first | (go_at_call 153;refine (zV6 _ (by omega) (by omega) _).mono ?_;rintro e w' ⟨rfl,rfl⟩))
   go_quiet (fail)
   go_wp2
   go_ret3
   exact ⟨_,_,_,rfl,zU3.of (by omega) (by omega) (by omega),nq,rfl⟩
end limb
namespace nat
open Go.RowKit num mem limb
theorem yD {D N q r:Nat} (hr:r<D) (h:q*D+r=N):q=N / D/\r=N % D:=by
 subst h
 constructor
 ·rw [bY0,Nat.mul_add_div (by omega),Nat.div_eq_of_lt hr,Nat.add_zero]
 ·rw [bY0,Nat.mul_add_mod,Nat.mod_eq_of_lt hr]
theorem yD0 (hiI loI dI:Int) (hi lo d q r:Nat) (w:World) (h1:hiI=(hi:Int)) (h2:loI=(lo:Int)) (h3:dI=(d:Int)) (lh:hi<d % 4294967296) (ll:lo<4294967296) (ld:d<18446744073709551616) (hr:r<d % 4294967296) (he:q*(d % 4294967296)+r=hi*4294967296+lo) :
  Calls prog 151 #[.int .u64 hiI,.int .u64 loI,.int .u64 dI] w fun e w'=>e=.returned (.tuple #[.int .u64 (q:Int),.int .u64 (r:Int),.int .i64 0]) /\ ∃ n,w'=w.drewN n:=by
 subst h1;subst h2;subst h3;refine (limb.div_any _ _ _ (by omega) (by omega) (by omega) (by omega) (by omega) (by omega) w).mono ?_;rintro e w' ⟨q',r',x,rfl,hs,hn⟩;unfold zU3 at hs;rcases hs with ⟨g,_⟩|⟨_,g,_⟩|⟨g1,g2,g3,g4,g5,g6,rfl⟩
 ·omega
 ·omega
 ·obtain ⟨q',rfl⟩:=Int.eq_ofNat_of_zero_le g2;obtain ⟨r',rfl⟩:=Int.eq_ofNat_of_zero_le g4;have e1:(d:Int) % 4294967296=((d % 4294967296:Nat):Int):=by omega
  have e2:((q'*(d % 4294967296):Nat):Int)=(q':Int)*((d % 4294967296:Nat):Int):=Int.natCast_mul _ _;rw [e1] at g5 g6;rw [<- e2] at g6;have a:=yD hr he;have b:=yD (q:=q') (r:=r') (D:=d % 4294967296) (by omega) (N:=hi*4294967296+lo) (by omega);rw [a.1,a.2,<- b.1,<- b.2];exact ⟨rfl,hn⟩
theorem div_top (hiI loI dI:Int) (hi lo d:Nat) (w:World) (h1:hiI=(hi:Int)) (h2:loI=(lo:Int)) (h3:dI=(d:Int)) (lh:d<=hi) (lh2:hi<4294967296) (ll:lo<4294967296) (hd:0<d) :
  Calls prog 151 #[.int .u64 hiI,.int .u64 loI,.int .u64 dI] w fun e w'=>e=.returned (.tuple #[.int .u64 0,.int .u64 0,.int .i64 2]) /\ ∃ n,w'=w.drewN n:=by
 subst h1;subst h2;subst h3;refine (limb.div_any _ _ _ (by omega) (by omega) (by omega) (by omega) (by omega) (by omega) w).mono ?_;rintro e w' ⟨q',r',x,rfl,hs,hn⟩;unfold zU3 at hs;obtain ⟨rfl,rfl,rfl⟩:q'=0/\r'=0/\x=2:=by omega
 exact ⟨rfl,hn⟩
theorem qF4 (A:Option Addr) (n c:Nat) (l:List Nat) (w:World) (hn:n=l.length) (hc:l.length<=c) (hm:c<=maxLen) (hr:Rd w A .u64 l) :
  Calls prog 152 #[.slice A n c] w (yB7 A c l w):=by
 subst hn;unfold maxLen at hm
 go_enter func152,ntmps152
 go_wp2
 go_loop [0] (fun vs => ∃ n:Nat,n<=l.length/\Hid (trim (l.take n)=trim l)/\vs=.slice A n c) (fun vs=>lenOf vs)
 case atStart=>exact ⟨l.length,zB3 _,by rw [bX1];rfl,rfl⟩
 case round =>
  obtain ⟨n,hn,ht,rfl⟩:=hrel;by_cases hp:0<n
  ·obtain ⟨n,rfl⟩:∃ m,n=m+1:=⟨n-1,by omega⟩;obtain ⟨ad,d,rfl,hd,hcell⟩:=hr.at_ (i:=n) (by omega);have HD:=hQ9 hd;clear hd;by_cases hz:d=0
   ·subst hz;go_wp2
    go_round
    case rel=>exact ⟨n,by omega,by have h1:=ht.out;rw [qE0 HD.out] at h1;exact h1,rfl⟩
    case measure=>simp [lenOf]
   ·have hz1:((d:Int) == 0)=false:=by rw [beq_eq_false_iff_ne];omega
    have e:trim l=l.take (n+1):=by have h1:=ht.out;rw [qA9 HD.out hz] at h1;exact h1.symm
    have el:(trim l).length=n+1:=by rw [e];simp;omega
    have HEL:=hQ9 el;clear e el hz;go_wp2;go_ret;exact ⟨by rw [HEL.out];rfl,rfl⟩
  ·obtain rfl:n=0:=by omega
   have e:trim l=[]:=by have h1:=ht.out;rw [List.take_zero] at h1;exact h1.symm
   have HE:=hQ9 e;clear e;go_wp2;go_ret;exact ⟨by rw [HE.out];rfl,rfl⟩
def RetSUE (l:List Nat) (r:Nat) (x:Int) (w:World) (e:Ending) (w':World):Prop:=∃ v,e=.returned (.tuple #[v,.int .u64 (r:Int),.int .i64 x])/\IsS w' .u64 v l/\zE5 w.heap.size v/\Below w.heap.size w w'
def RetSSE (l m:List Nat) (x:Int) (w:World) (e:Ending) (w':World):Prop:=∃ v u,e=.returned (.tuple #[v,u,.int .i64 x])/\IsS w' .u64 v l/\IsS w' .u64 u m/\zE5 w.heap.size v/\zE5 w.heap.size u/\Below w.heap.size w w'
theorem yZ (v:Value) (x:Nat) (dI:Int) (d q r:Nat) (w:World) (hdI:dI=(d:Int)) (ld:d<18446744073709551616) (hd:0<d % 4294967296) (h:IsS w .u64 v (digs 4294967296 x)) (hl:(digs 4294967296 x).length<=1000000) (hq:q=x / (d % 4294967296)) (hr:r=x % (d % 4294967296)) :
  Calls prog 129 #[v,.int .u64 dI] w (RetSUE (digs 4294967296 q) r 0 w):=by
 subst hdI;have lx:=zF8 (B:=4294967296) (by omega) x;have HQ:Hid (q=val 4294967296 (digs 4294967296 x) / (d % 4294967296)):=by show _=_;rw [zF (by omega)];exact hq
 have HR:Hid (r=val 4294967296 (digs 4294967296 x) % (d % 4294967296)):=by show _=_;rw [zF (by omega)];exact hr
 clear hq hr
 generalize digs 4294967296 x=xl at h hl lx HQ HR
 obtain ⟨A,k,rfl,hk,hm,hr⟩:=h;unfold maxLen at hm;have h1:(d:Int)<=18446744073709551615:=by omega
 have h2:(((d:Int) % 4294967296) == 0)=false:=by rw [beq_eq_false_iff_ne];omega
 go_enter func129,ntmps129
 go_wp2_with (at_make;refine zR4 rfl _ _ rfl zK1 xl.length rfl rfl (by omega) (by omega) (by omega) (zB3 _) ?_;intro w1 hown1 hb1 hsz1)
 go_loopw [8,19] (fun vr vi wr => ∃ (i r:Nat) (P:List Nat),i<=xl.length/\r<d % 4294967296/\Hid (DQ 4294967296 xl (d % 4294967296) (xl.length-i) r P)/\Own wr w.heap.size 75 .u64 (.slice (some ⟨w.heap.size,0,none⟩) xl.length xl.length) P/\Below w.heap.size w wr/\vr=.int .u64 (r:Int)/\vi=.int .i64 (i:Int)) (fun _ vi _=>xl.length-(intOf vi).toNat)
 case atStart=>exact ⟨0,0,_,by omega,hd,DQ.start (by omega) xl hd,hown1,hb1,rfl,rfl⟩
 case round =>
  clear hown1 hb1 hsz1;obtain ⟨i,r0,P,hi,hr0,HDQ,hown,hb,rfl,rfl⟩:=hrel;by_cases hlt:i<xl.length
  ·obtain ⟨j,hj⟩:∃ j,j=xl.length-1-i:=⟨_,rfl⟩;have hj2:xl.length-i=j+1:=by omega
   have hjI:(xl.length:Int)-1-(i:Int)=(j:Int):=by omega
   have hjl:j<xl.length:=by omega
   obtain ⟨ad,x,rfl,hx,hcell⟩:=(hr.bQ hb).at_ hjl;have hx1:=lx.at hx;have hD:=HDQ.out;rw [hj2] at hD;have HJ:Hid (xl.length-(i+1)=j):=by show _=_;omega
   obtain ⟨a',ha'⟩:∃ a',P[j]?=some a':=⟨_,zA3 (by have:=hD.2.1;omega)⟩;have hc0:=hown.cellAt ha';have hf0:=hown.frozenAt j;obtain ⟨q1,hq1⟩:∃ q1,q1=(r0*4294967296+x) / (d % 4294967296):=⟨_,rfl⟩;obtain ⟨s1,hs1⟩:∃ s1,s1=(r0*4294967296+x) % (d % 4294967296):=⟨_,rfl⟩;have hs2:s1<d % 4294967296:=by rw [hs1];exact Nat.mod_lt _ hd
   have he:q1*(d % 4294967296)+s1=r0*4294967296+x:=by rw [hq1,hs1,bY0];exact Nat.div_add_mod _ _
   have hq2:q1<4294967296:=by rw [hq1];exact Nat.div_lt_of_lt_mul (by omega)
   have HS:Hid (DQ 4294967296 xl (d % 4294967296) j s1 (P.set j q1)):=hD.step hx hq2 hs2 (by rw [bY0 4294967296];exact he);have HE:=hQ9 he;clear hj hj2 hx ha' hq1 hs1 he hD;go_wp2_with fail
   refine (yD0 _ _ _ r0 x d q1 s1 _ rfl rfl rfl hr0 hx1 ld hs2 HE.out).mono ?_;rintro e1 w2 ⟨rfl,n2,rfl⟩;have hown2:=hown.stored j q1;have hb2:Below w.heap.size w (wr.setCell ⟨w.heap.size,j,none⟩ (.int .u64 (q1:Int))):=hb.setCell (zB3 _) _;go_wp2;go_roundw;case rel=>exact ⟨i+1,s1,_,by omega,hs2,by rw [HJ.out];exact HS,hown2,zP0 hb2 _,rfl,by go_num⟩
   case measure=>simp [intOf];omega
  ·obtain rfl:i=xl.length:=by omega
   have hD:=HDQ.out;rw [Nat.sub_self] at hD;obtain ⟨g1,g2,g3,g4⟩:=hD.done;rw [<- HQ.out] at g3;rw [<- HR.out] at g4;have hT:=zN (by omega) g1;rw [g3] at hT;have HT:=hQ9 hT;have H4:=hQ9 g4;obtain ⟨A2,c2,e2,hc2,hm2,hr2⟩:=hown.isS;injection e2 with e2 e3 e4;subst e2;subst e4;have hfr:=hown.fresh;have HL:=hQ9 e3;clear hT g2 g3 g4 hD e3;go_wp2_with fail
   refine (qF4 _ _ _ P _ HL.out hc2 hm2 hr2).mono ?_;rintro e w' ⟨rfl,rfl⟩;rw [HT.out];go_wp2
   go_ret3
   refine ⟨_,by rw [H4.out];rfl,?_,hfr.cut _ _,hb⟩
   have:=hr2.isTake (qE P) hc2 hm2
   rw [<- qJ4,HT.out] at this;exact this
end nat
namespace mem
open Go.RowKit num
theorem mid_at {X p Y:List Nat} {i d:Nat} (h:p[i]?=some d):(X ++ p ++ Y)[X.length+i]?=some d:=by
 have hi:i<p.length:=(zA4.1 h).1;rw [List.append_assoc,bW0 (by omega),Nat.add_sub_cancel_left,zB0 hi];exact h
theorem mid_set {X p Y:List Nat} {i:Nat} (hi:i<p.length) (t:Nat):(X ++ p ++ Y).set (X.length+i) t=X ++ p.set i t ++ Y:=by
 rw [List.append_assoc,List.set_append_right _ _ (by omega),Nat.add_sub_cancel_left,List.set_append_left _ _ hi,List.append_assoc]
theorem zF4 (w:World) (g o:Nat) (v:Value):w.grownBy (w.setCell ⟨g,o,none⟩ v) (some g) :=
 ⟨rfl,rfl,rfl,by simp [World.setCell],fun k _ hk=>Below.heap_setCell _ _ _ k (fun e=>hk (by rw [e]))⟩
theorem yZ0 {a w:World} {row:Option Nat} (h:a.grownBy w row) (n:Nat):a.grownBy (w.drewN n) row:=⟨h.os,h.tape,h.output,h.size,h.block⟩
def zO4 (g:Nat) (v:Value):Prop:=∀ ad n c,v=.slice (some ad) n c->0<n->ad.block≠g
theorem Rd.grown {w w':World} {A:Option Addr} {k:IntKind} {l:List Nat} {g c:Nat} (h:Rd w A k l) (hf:zO4 g (.slice A l.length c)) (hg:w.grownBy w' (some g)):Rd w' A k l:=by
 intro i d hd;obtain ⟨ad,rfl,hc⟩:=h i d hd;have hi:i<l.length:=(zA4.1 hd).1;refine ⟨ad,rfl,hg.cell hc ?_⟩;rw [block_add];intro e;exact hf ad _ _ rfl (by omega) (by simpa using e)
theorem IsS.grown {w w':World} {k:IntKind} {v:Value} {l:List Nat} {g:Nat} (h:IsS w k v l) (hf:zO4 g v) (hg:w.grownBy w' (some g)):IsS w' k v l:=by
 obtain ⟨A,c,rfl,h1,h2,h3⟩:=h;exact ⟨A,c,rfl,h1,h2,h3.grown hf hg⟩
def Mid (w:World) (base g n cap s:Nat) (X p Y:List Nat):Prop:=Own w base 75 .u64 (.slice (some ⟨g,0,none⟩) n cap) (X ++ p ++ Y)/\s=X.length
theorem Mid.cellAt {w:World} {base g n cap s:Nat} {X p Y:List Nat} (h:Mid w base g n cap s X p Y) {i d:Nat} (hd:p[i]?=some d):w.cell? ⟨g,s+i,none⟩=some (.int .u64 (d:Int)):=by
 obtain ⟨h1,rfl⟩:=h;exact h1.cellAt (mid_at hd)
theorem Mid.frozenAt {w:World} {base g n cap s:Nat} {X p Y:List Nat} (h:Mid w base g n cap s X p Y) (i:Nat):w.frozen? ⟨g,s+i,none⟩=false:=h.1.frozenAt _
theorem Mid.stored {w:World} {base g n cap s:Nat} {X p Y:List Nat} (h:Mid w base g n cap s X p Y) {i:Nat} (hi:i<p.length) (d:Nat):Mid (w.setCell ⟨g,s+i,none⟩ (.int .u64 (d:Int))) base g n cap s X (p.set i d) Y:=by
 obtain ⟨h1,rfl⟩:=h
 have:=h1.stored (X.length+i) d
 rw [mid_set hi] at this;exact ⟨this,rfl⟩
theorem Mid.rd {w:World} {base g n cap s:Nat} {X p Y:List Nat} (h:Mid w base g n cap s X p Y):Rd w (some ⟨g,s,none⟩) .u64 p:=by
 intro i d hd;refine ⟨_,rfl,?_⟩;rw [Addr.add_lit];exact h.cellAt hd
theorem Mid.drewN {w:World} {base g n cap s:Nat} {X p Y:List Nat} (h:Mid w base g n cap s X p Y) (k:Nat):Mid (w.drewN k) base g n cap s X p Y:=⟨h.1.drewN k,h.2⟩
end mem
namespace nat
open Go.RowKit num mem limb
theorem qL (aI bI cI:Int) (a b c:Nat) (w:World) (ha:aI=(a:Int)) (hb:bI=(b:Int)) (hc:cI=(c:Int)) (la:a<4294967296) (lb:b<4294967296) (lc:c<4294967296) :
  Calls prog 149 #[.int .u64 aI,.int .u64 bI,.int .u64 cI] w fun e w' => ∃ s o:Nat,e=.returned (.tuple #[.int .u64 (s:Int),.int .u64 (o:Int)])/\s<4294967296/\s+4294967296*o=a+b+c/\w=w':=by
 subst ha;subst hb;subst hc;refine (limb.add_any _ _ _ (by omega) (by omega) (by omega) (by omega) (by omega) (by omega) w).mono ?_;rintro e w' ⟨s,o,rfl,hs,rfl⟩;unfold qB1 at hs;obtain ⟨s0,s1,o0,o1,he⟩:=hs;obtain ⟨s,rfl⟩:=Int.eq_ofNat_of_zero_le s0;obtain ⟨o,rfl⟩:=Int.eq_ofNat_of_zero_le o0;exact ⟨s,o,rfl,by omega,by omega,rfl⟩
def RetTO (base g n cap s:Nat) (X p Y bl:List Nat) (t:Nat) (w:World) (e:Ending) (w':World):Prop:=∃ (k:Nat) (p':List Nat),k<=1/\e=.returned (.bool (k == 0))/\Lt 4294967296 p'/\p'.length=p.length/\val 4294967296 p'+4294967296^p.length*k+val 4294967296 bl*t=val 4294967296 p+4294967296^p.length/\Mid w' base g n cap s X p' Y/\w.grownBy w' (some g)
theorem yZ1 (base g n cap s c:Nat) (X p Y bl:List Nat) (vb:Value) (tI:Int) (t:Nat) (w:World) (htI:tI=(t:Int)) (lt:t<4294967296) (hM:Mid w base g n cap s X p Y) (lp:Lt 4294967296 p) (hp:p.length=bl.length+1) (hpl:p.length<=1000000) (hb:IsS w .u64 vb bl) (lb:Lt 4294967296 bl) (hf:zO4 g vb) :
  Calls prog 165 #[.slice (some ⟨g,s,none⟩) p.length c,vb,.int .u64 tI] w (RetTO base g n cap s X p Y bl t w):=by
 subst htI;obtain ⟨A,k,rfl,hk,hm,hr⟩:=hb;unfold maxLen at hm;have hpI:(p.length:Int)=(bl.length:Int)+1:=by omega
 have HP:=hQ9 hp;have hbp:bl.length<p.length:=by omega
 have hbpI:(bl.length:Int)<(p.length:Int):=by omega
 clear hp hpI
 go_enter func165,ntmps165
 go_wp2
 go_loopw [8,9,14] (fun vu vk vi wr => ∃ (i u kept:Nat) (q:List Nat),i<=bl.length/\u<4294967296/\kept<=1/\Hid (TO 4294967296 p bl q t i u kept)/\Mid wr base g n cap s X q Y/\w.grownBy wr (some g)/\vu=.int .u64 (u:Int)/\vk=.int .u64 (kept:Int)/\vi=.int .i64 (i:Int)) (fun _ _ vi _=>bl.length-(intOf vi).toNat)
 case atStart=>exact ⟨0,0,1,p,by omega,by omega,by omega,TO.start lp (by omega) bl t,hM,World.grownBy.refl _ _,rfl,rfl,rfl⟩
 case round =>
  clear hM;obtain ⟨i,u,kept,q,hi,hu,hkept,HT,hM,hg,rfl,rfl,rfl⟩:=hrel;have hql:=HT.out.2.1;have hqi:i<q.length:=by omega
  obtain ⟨d,hd⟩:∃ d,q[i]?=some d:=⟨_,zA3 hqi⟩;have hd1:=HT.out.1.at hd;have hc0:=hM.cellAt hd;have hf0:=hM.frozenAt i;have HD:=hQ9 hd;have HQI:=hQ9 hqi;have hip:i<p.length:=by omega
  have hipI:(i:Int)<(p.length:Int):=by omega
  clear hql hd hqi;by_cases hlt:i<bl.length
  ·obtain ⟨ad,e,rfl,he,hcell⟩:=(hr.grown hf hg).at_ hlt;have he1:=lb.at he;have HE:=hQ9 he;clear he
   go_wp2_with fail
   refine (qR6 _ _ _ _ e t u 0 _ rfl rfl rfl rfl he1 (by omega) hu (by omega)).mono ?_;rintro e1 w2 ⟨low,up,rfl,hlow,hup,hm2,rfl⟩;rw [Nat.mod_eq_of_lt lt,Nat.add_zero] at hm2;have HM2:=hQ9 hm2;clear hm2;go_wp2_with fail
   refine (qL _ _ _ d (4294967296-1-low) kept _ rfl (by omega) rfl hd1 (by omega) (by omega)).mono ?_;rintro e1 w3 ⟨s1,k',rfl,hs1,hk',rfl⟩;have HT2:Hid (TO 4294967296 p bl (q.set i s1) t (i+1) up k'):=HT.out.next HD.out HE.out hlow hup HM2.out hs1 hk';have hk2:k'<=1:=HT2.out.2.2.2.2.1;have hM2:=hM.stored HQI.out s1;have hg2:=hg.trans (zF4 wr g (s+i) (.int .u64 (s1:Int)));clear hk';go_wp2;go_roundw;case rel=>exact ⟨i+1,up,k',_,by omega,hup,hk2,HT2,hM2,hg2,rfl,rfl,by go_num⟩
   case measure=>simp [intOf];omega
  ·obtain rfl:i=bl.length:=by omega
   go_wp2_with fail
   refine (qL _ _ _ d (4294967296-1-u) kept _ rfl (by omega) rfl hd1 (by omega) (by omega)).mono ?_;rintro e1 w3 ⟨s1,k',rfl,hs1,hk',rfl⟩;obtain ⟨z1,z2,z3,z4⟩:=HT.out.last HP.out HD.out hs1 hk';have hM2:=hM.stored HQI.out s1;have hg2:=hg.trans (zF4 wr g (s+bl.length) (.int .u64 (s1:Int)));have Z2:=hQ9 z2;have Z4:=hQ9 z4;clear hk' z2 z4;rcases (show k'=0\/k'=1 from by omega) with rfl|rfl
   all_goals
    go_wp2;go_ret;exact ⟨_,_,z3,rfl,z1,Z2.out,Z4.out,hM2,hg2⟩
def RetPB (base g n cap s:Nat) (X p Y bl:List Nat) (w:World) (e:Ending) (w':World):Prop:=∃ (k:Nat) (p':List Nat),e=.returned (.tuple #[])/\Lt 4294967296 p'/\p'.length=p.length/\val 4294967296 p'+4294967296^p.length*k=val 4294967296 p+val 4294967296 bl/\Mid w' base g n cap s X p' Y/\w.grownBy w' (some g)
theorem yZ2 (base g n cap s c:Nat) (X p Y bl:List Nat) (vb:Value) (w:World) (hM:Mid w base g n cap s X p Y) (lp:Lt 4294967296 p) (hp:p.length=bl.length+1) (hpl:p.length<=1000000) (hb:IsS w .u64 vb bl) (lb:Lt 4294967296 bl) (hf:zO4 g vb) :
  Calls prog 166 #[.slice (some ⟨g,s,none⟩) p.length c,vb] w (RetPB base g n cap s X p Y bl w):=by
 obtain ⟨A,k,rfl,hk,hm,hr⟩:=hb;unfold maxLen at hm;have HP:=hQ9 hp;have hbp:bl.length<p.length:=by omega
 have hbpI:(bl.length:Int)<(p.length:Int):=by omega
 clear hp
 go_enter func166,ntmps166
 go_wp2
 go_loopw [4,9] (fun vu vi wr => ∃ (i u:Nat) (q:List Nat),i<=bl.length/\u<4294967296/\Hid (PB 4294967296 p bl q i u)/\Mid wr base g n cap s X q Y/\w.grownBy wr (some g)/\vu=.int .u64 (u:Int)/\vi=.int .i64 (i:Int)) (fun _ vi _=>bl.length-(intOf vi).toNat)
 case atStart=>exact ⟨0,0,p,by omega,by omega,PB.start lp (by omega) bl,hM,World.grownBy.refl _ _,rfl,rfl⟩
 case round =>
  clear hM;obtain ⟨i,u,q,hi,hu,HT,hM,hg,rfl,rfl⟩:=hrel;have hql:=HT.out.2.1;have hqi:i<q.length:=by omega
  obtain ⟨d,hd⟩:∃ d,q[i]?=some d:=⟨_,zA3 hqi⟩;have hd1:=HT.out.1.at hd;have hc0:=hM.cellAt hd;have hf0:=hM.frozenAt i;have HD:=hQ9 hd;have HQI:=hQ9 hqi;have hip:i<p.length:=by omega
  have hipI:(i:Int)<(p.length:Int):=by omega
  clear hql hd hqi;by_cases hlt:i<bl.length
  ·obtain ⟨ad,e,rfl,he,hcell⟩:=(hr.grown hf hg).at_ hlt;have he1:=lb.at he;have HE:=hQ9 he;clear he
   go_wp2_with fail
   refine (qL _ _ _ d e u _ rfl rfl rfl hd1 he1 (by omega)).mono ?_;rintro e1 w3 ⟨s1,k',rfl,hs1,hk',rfl⟩;have hk2:k'<4294967296:=by omega
   have HT2:Hid (PB 4294967296 p bl (q.set i s1) (i+1) k'):=HT.out.next HD.out HE.out hs1 hk2 hk';have hM2:=hM.stored HQI.out s1;have hg2:=hg.trans (zF4 wr g (s+i) (.int .u64 (s1:Int)));clear hk';go_wp2;go_roundw;case rel=>exact ⟨i+1,k',_,by omega,hk2,HT2,hM2,hg2,rfl,by go_num⟩
   case measure=>simp [intOf];omega
  ·obtain rfl:i=bl.length:=by omega
   go_wp2_with fail
   refine (qL _ _ _ d u 0 _ rfl rfl rfl hd1 (by omega) (by omega)).mono ?_;rintro e1 w3 ⟨s1,k',rfl,hs1,hk',rfl⟩;obtain ⟨z1,z2,z4⟩:=HT.out.last HP.out HD.out hs1 (by rw [hk'];rfl);have hM2:=hM.stored HQI.out s1;have hg2:=hg.trans (zF4 wr g (s+bl.length) (.int .u64 (s1:Int)));have Z2:=hQ9 z2;have Z4:=hQ9 z4;clear hk' z2 z4;go_wp2
   go_end0
   exact ⟨_,_,rfl,z1,Z2.out,Z4.out,hM2,hg2⟩
def RetGu (V D:Nat) (w:World) (e:Ending) (w':World):Prop:=∃ t k:Nat,e=.returned (.int .u64 (t:Int))/\zY7 V D t/\t<4294967296/\w'=w.drewN k
theorem yD1 {t b2 left c:Nat} (ht:t<4294967296) (hb:b2<4294967296) (hl:left<4294967296) (hc:c<4294967296):t*b2<=18446744073709551615/\left*4294967296<=18446744073709551615/\left*4294967296+c<=18446744073709551615:=by
 have h1:t*b2<=4294967295*4294967295:=bY6 (by omega) (by omega);omega
theorem yZ3 (vp vb:Value) (p bl:List Nat) (w:World) (h:IsS w .u64 vp p) (h':IsS w .u64 vb bl) (lp:Lt 4294967296 p) (lb:Lt 4294967296 bl) (hp:p.length=bl.length+1) (hb2:2<=bl.length) (hbl:bl.length<=1000000) (hnz:∀ d,bl[bl.length-1]?=some d->0<d) (hVD:val 4294967296 p<4294967296*val 4294967296 bl) :
  Calls prog 164 #[vp,vb] w (RetGu (val 4294967296 p) (val 4294967296 bl) w):=by
 obtain ⟨A,k,rfl,hk,hm,hr⟩:=h;obtain ⟨A',k',rfl,hk',hm',hr'⟩:=h';unfold maxLen at hm hm';obtain ⟨m,hm0⟩:∃ m,m=bl.length:=⟨_,rfl⟩;have hpl:p.length=m+1:=by omega
 rw [hpl,<- hm0];rw [hpl] at hk;rw [<- hm0] at hk' hb2 hbl hnz;obtain ⟨ad,u1,rfl,hu1,cu1⟩:=hr.at_ (i:=m) (by omega);obtain ⟨_,u0,e0,hu0,cu0⟩:=hr.at_ (i:=m-1) (by omega);injection e0 with e0;subst e0;obtain ⟨_,c,e0,hc,cc⟩:=hr.at_ (i:=m-2) (by omega);injection e0 with e0;subst e0;obtain ⟨ad',v,rfl,hv,cv⟩:=hr'.at_ (i:=m-1) (by omega);obtain ⟨_,b2,e0,hb2',cb2⟩:=hr'.at_ (i:=m-2) (by omega);injection e0 with e0;subst e0;have hv0:=hnz v hv;have eV:=three (B:=4294967296) (n:=m-2) (by omega) (by rw [show m-2+2=m by omega];exact hu1) (by rw [show m-2+1=m-1 by omega];exact hu0) hc;have eD:=two (B:=4294967296) (n:=m-2) (by omega) (by rw [show m-2+1=m-1 by omega];exact hv) hb2'
 have hX:val 4294967296 (p.take (m-2))<4294967296^(m-2):=by
  have:=zM8 (lp.take (m-2));rwa [show (p.take (m-2)).length=m-2 from by simp;omega] at this
 have hY:val 4294967296 (bl.take (m-2))<4294967296^(m-2):=by
  have:=zM8 (lb.take (m-2));rwa [show (bl.take (m-2)).length=m-2 from by simp;omega] at this
 have lu1:=lp.at hu1;have lu0:=lp.at hu0;have lc:=lp.at hc;have lv:=lb.at hv;have lb2:=lb.at hb2';obtain ⟨V,hV⟩:∃ V,V=val 4294967296 p:=⟨_,rfl⟩;obtain ⟨D,hD⟩:∃ D,D=val 4294967296 bl:=⟨_,rfl⟩;rw [<- hV] at eV hVD |-;rw [<- hD] at eD hVD |-;have HV:=hQ9 eV;have HD:=hQ9 eD;have HX:=hQ9 hX;have HY:=hQ9 hY;have HVD:=hQ9 hVD;clear eV eD hX hY hVD hV hD hu1 hu0 hc hv hb2' hpl hm0 hr hr' hp hnz lp lb;have hL:Hid (∀ t left:Nat,GU 4294967296 V D u1 u0 v t left->left*4294967296+c<t*b2->1<=t/\GU 4294967296 V D u1 u0 v (t-1) (left+v)):=fun t left h1 h2=>h1.step HV.out HX.out HD.out h2;have hE:Hid (∀ t left:Nat,GU 4294967296 V D u1 u0 v t left->t*b2<=left*4294967296+c->zY7 V D t):=fun t left h1 h2=>h1.done HV.out HD.out HY.out hv0 h2;have hS1:Hid (u1<v->GU 4294967296 V D u1 u0 v ((u1*4294967296+u0) / v) ((u1*4294967296+u0) % v)):=fun h=>GU.start_div HV.out HX.out lc lu0 HD.out h;have hS2:Hid (v<=u1->u1=v/\GU 4294967296 V D u1 u0 v (4294967296-1) (u1+u0)):=fun h=>GU.start_top HV.out HD.out HY.out lb2 HVD.out h hv0 (by omega);clear HV HD HX HY HVD;have i1:IntKind.i64.wrap ((m:Int)-1)=(m:Int)-1:=IntWalk.i64_in _ (by omega);have i2:IntKind.i64.wrap ((m:Int)-2)=(m:Int)-2:=IntWalk.i64_in _ (by omega);have i3:(0:Int)<=(m:Int)-1:=by omega
 have i4:(0:Int)<=(m:Int)-2:=by omega
 have i5:((m:Int)-1).toNat=m-1:=by omega
 have i6:((m:Int)-2).toNat=m-2:=by omega
 rcases Nat.lt_or_ge u1 v with hc1 | hc1
 ·have hG:=hQ9 (hS1.out hc1);obtain ⟨t0,ht0⟩:∃ t,t=(u1*4294967296+u0) / v:=⟨_,rfl⟩;obtain ⟨r0,hr0⟩:∃ r,r=(u1*4294967296+u0) % v:=⟨_,rfl⟩;have hrv:r0<v:=by rw [hr0];exact Nat.mod_lt _ hv0
  have he:Hid (t0*(v % 4294967296)+r0=u1*4294967296+u0):=by show _=_;rw [Nat.mod_eq_of_lt lv,ht0,hr0,bY0];exact Nat.div_add_mod _ _
  rw [<- ht0,<- hr0] at hG;clear ht0 hr0 hS1 hS2
  go_enter func164,ntmps164
  go_wp2
  go_quiet ((go_at_call 151;exact Calls.quiet_of (yD0 _ _ _ u1 u0 v t0 r0 _ rfl rfl rfl (by omega) lu0 (by omega) (by omega) he.out)))
  go_wp2
  go_loopw [6,7] (fun vt vl wr => ∃ (t left j:Nat),t<4294967296/\left<8589934592/\Hid (GU 4294967296 V D u1 u0 v t left)/\wr=w.drewN j/\vt=.int .u64 (t:Int)/\vl=.int .u64 (left:Int)) (fun _ vl _=>4294967296-(intOf vl).toNat)
  case atStart=>exact ⟨t0,r0,nq,by have:=hG.out.2.2;exact this,by omega,hG,rfl,rfl,rfl⟩
  case round =>
   clear hG;obtain ⟨t,left,j,ht,hleft,hG,rfl,rfl,rfl⟩:=hrel;by_cases hlt:left<4294967296
   ·obtain ⟨b1,b3,b4⟩:=yD1 ht lb2 hlt lc;obtain ⟨M,hM⟩:∃ M,M=t*b2:=⟨_,rfl⟩;obtain ⟨S,hS⟩:∃ S,S=left*4294967296+c:=⟨_,rfl⟩;have w1:IntKind.u64.wrap ((t:Int)*(b2:Int))=(M:Int):=by rw [IntWalk.u64_in _ (by rw [<- Int.natCast_mul];omega),<- Int.natCast_mul,<- hM]
    have w2:IntKind.u64.wrap ((left:Int)*4294967296)=(left:Int)*4294967296:=IntWalk.u64_in _ (by omega);have w3:IntKind.u64.wrap ((left:Int)*4294967296+(c:Int))=(S:Int):=by rw [IntWalk.u64_in _ (by omega)];omega
    by_cases hcmp:S<M
    ·obtain ⟨g1,g2⟩:=hL.out t left hG.out (by omega);have hG2:=hQ9 g2;have c1:decide (S<M)=true:=decide_eq_true hcmp;have c2:decide ((S:Int)<(M:Int))=true:=decide_eq_true (by omega);have T1:Hid ((t:Int)-1=((t-1:Nat):Int)):=by show _=_;omega
     have hn1:¬ (4294967296:Int)<=(left:Int):=by omega
     have HLT:=hQ9 hlt;have HLE:=hQ9 hleft;clear b1 b3 b4 hM hS g2 hcmp hlt hleft;go_wp2
     go_quiet (fail)
     go_wp2;go_roundw;case rel=>exact ⟨t-1,left+v,_,by omega,by have:=HLT.out;omega,hG2,rfl,zV5 T1.out,by go_num⟩
     case measure=>have:=HLT.out;simp [intOf];omega
    ·have hGu:=hQ9 (hE.out t left hG.out (by omega));have c1:decide (S<M)=false:=decide_eq_false hcmp;have c2:decide ((S:Int)<(M:Int))=false:=decide_eq_false (by omega);have hn1:¬ (4294967296:Int)<=(left:Int):=by omega
     clear b1 b3 b4 hM hS hcmp hlt hleft;go_wp2
     go_quiet (fail)
     go_wp2;go_ret;exact ⟨t,_,rfl,hGu.out,ht,World.drewN_drewN _ _ _⟩
   ·have hGu:=hQ9 (hE.out t left hG.out (by
     have h1:t*b2<=4294967295*4294967295:=bY6 (by omega) (by omega)
     omega))
    have c1:decide (left<4294967296)=false:=decide_eq_false hlt;have c2:decide ((left:Int)<4294967296)=false:=decide_eq_false (by omega);go_wp2
    go_quiet (fail)
    go_wp2;go_ret;exact ⟨t,_,rfl,hGu.out,ht,World.drewN_drewN _ _ _⟩
 ·obtain ⟨huv,hG0⟩:=hS2.out hc1;have hG:=hQ9 hG0;have hsum:IntKind.u64.wrap ((u1:Int)+(u0:Int))=(u1:Int)+(u0:Int):=IntWalk.u64_in _ (by omega);clear hG0 huv hS1 hS2
  go_enter func164,ntmps164
  go_wp2
  go_quiet ((go_at_call 151;exact Calls.quiet_of (div_top _ _ _ u1 u0 v _ rfl rfl rfl hc1 (by omega) lu0 hv0)))
  go_wp2
  go_quiet (fail)
  go_wp2
  go_loopw [6,7] (fun vt vl wr => ∃ (t left j:Nat),t<4294967296/\left<8589934592/\Hid (GU 4294967296 V D u1 u0 v t left)/\wr=w.drewN j/\vt=.int .u64 (t:Int)/\vl=.int .u64 (left:Int)) (fun _ vl _=>4294967296-(intOf vl).toNat)
  case atStart=>exact ⟨4294967296-1,u1+u0,_,by omega,by omega,hG,World.drewN_drewN _ _ _,rfl,by go_num⟩
  case round =>
   clear hG;obtain ⟨t,left,j,ht,hleft,hG,rfl,rfl,rfl⟩:=hrel;by_cases hlt:left<4294967296
   ·obtain ⟨b1,b3,b4⟩:=yD1 ht lb2 hlt lc;obtain ⟨M,hM⟩:∃ M,M=t*b2:=⟨_,rfl⟩;obtain ⟨S,hS⟩:∃ S,S=left*4294967296+c:=⟨_,rfl⟩;have w1:IntKind.u64.wrap ((t:Int)*(b2:Int))=(M:Int):=by rw [IntWalk.u64_in _ (by rw [<- Int.natCast_mul];omega),<- Int.natCast_mul,<- hM]
    have w2:IntKind.u64.wrap ((left:Int)*4294967296)=(left:Int)*4294967296:=IntWalk.u64_in _ (by omega);have w3:IntKind.u64.wrap ((left:Int)*4294967296+(c:Int))=(S:Int):=by rw [IntWalk.u64_in _ (by omega)];omega
    by_cases hcmp:S<M
    ·obtain ⟨g1,g2⟩:=hL.out t left hG.out (by omega);have hG2:=hQ9 g2;have c1:decide (S<M)=true:=decide_eq_true hcmp;have c2:decide ((S:Int)<(M:Int))=true:=decide_eq_true (by omega);have T1:Hid ((t:Int)-1=((t-1:Nat):Int)):=by show _=_;omega
     have hn1:¬ (4294967296:Int)<=(left:Int):=by omega
     have HLT:=hQ9 hlt;have HLE:=hQ9 hleft;clear b1 b3 b4 hM hS g2 hcmp hlt hleft;go_wp2
     go_quiet (fail)
     go_wp2;go_roundw;case rel=>exact ⟨t-1,left+v,_,by omega,by have:=HLT.out;omega,hG2,rfl,zV5 T1.out,by go_num⟩
     case measure=>have:=HLT.out;simp [intOf];omega
    ·have hGu:=hQ9 (hE.out t left hG.out (by omega));have c1:decide (S<M)=false:=decide_eq_false hcmp;have c2:decide ((S:Int)<(M:Int))=false:=decide_eq_false (by omega);have hn1:¬ (4294967296:Int)<=(left:Int):=by omega
     clear b1 b3 b4 hM hS hcmp hlt hleft;go_wp2
     go_quiet (fail)
     go_wp2;go_ret;exact ⟨t,_,rfl,hGu.out,ht,World.drewN_drewN _ _ _⟩
   ·have hGu:=hQ9 (hE.out t left hG.out (by
     have h1:t*b2<=4294967295*4294967295:=bY6 (by omega) (by omega)
     omega))
    have c1:decide (left<4294967296)=false:=decide_eq_false hlt;have c2:decide ((left:Int)<4294967296)=false:=decide_eq_false (by omega);go_wp2
    go_quiet (fail)
    go_wp2;go_ret;exact ⟨t,_,rfl,hGu.out,ht,World.drewN_drewN _ _ _⟩
def RetSt (base g n cap s:Nat) (X p Y bl:List Nat) (w:World) (e:Ending) (w':World):Prop:=∃ (t:Nat) (p':List Nat),e=.returned (.int .u64 (t:Int))/\t=val 4294967296 p / val 4294967296 bl/\t<4294967296/\Lt 4294967296 p'/\p'.length=p.length/\val 4294967296 p'=val 4294967296 p % val 4294967296 bl/\Mid w' base g n cap s X p' Y/\w.grownBy w' (some g)
theorem yZ4 (base g n cap s c:Nat) (X p Y bl:List Nat) (vb:Value) (w:World) (hM:Mid w base g n cap s X p Y) (lp:Lt 4294967296 p) (hp:p.length=bl.length+1) (hpc:p.length<=c) (hcm:c<=maxLen) (hb:IsS w .u64 vb bl) (lb:Lt 4294967296 bl) (hf:zO4 g vb) (hb2:2<=bl.length) (hbl:bl.length<=900000) (hnz:∀ d,bl[bl.length-1]?=some d->0<d) (hVD:val 4294967296 p<4294967296*val 4294967296 bl) :
  Calls prog 154 #[.slice (some ⟨g,s,none⟩) p.length c,vb] w (RetSt base g n cap s X p Y bl w):=by
 have hD:0<val 4294967296 bl:=by
  rcases bY3 (val 4294967296 bl) with h | h
  ·rw [h] at hVD;omega
  ·exact h
 have hVM:=zM8 lp;have HP:=hQ9 hp;have HNZ:=hQ9 hnz;clear hp hnz
 go_enter func154,ntmps154;go_wp2_with fail
 refine (yZ3 _ vb p bl w ⟨_,c,rfl,hpc,hcm,hM.rd⟩ hb lp lb HP.out hb2 (by have:=HP.out;omega) HNZ.out hVD).mono ?_;rintro e w1 ⟨t,k1,rfl,hG,ht,rfl⟩;have hM1:=hM.drewN k1;have hb1:IsS (w.drewN k1) .u64 vb bl:=hb;have hg1:w.grownBy (w.drewN k1) (some g):=yZ0 (World.grownBy.refl _ _) k1;go_wp2_with fail
 refine (yZ1 base g n cap s c X p Y bl vb _ t _ rfl ht hM1 lp HP.out (by have:=HP.out;omega) hb1 lb hf).mono ?_;rintro e w2 ⟨k,p',hk,rfl,z1,z2,z4,hM2,hg2⟩;have hg3:=hg1.trans hg2;rcases (show k=0\/k=1 from by omega) with rfl|rfl
 ·have hb3:=hb.grown hf hg3;have Z2:=hQ9 z2;have Z4:Hid (val 4294967296 p'+val 4294967296 bl*t=val 4294967296 p+4294967296^p.length):=by show _=_;omega
  clear z2 z4;go_wp2_with fail
  rw [<- Z2.out];refine (yZ2 base g n cap s c X p' Y bl vb _ hM2 z1 (by rw [Z2.out];exact HP.out) (by have:=Z2.out;have:=HP.out;omega) hb3 lb hf).mono ?_;rintro e w3 ⟨k,p2,rfl,y1,y2,y4,hM3,hg4⟩;rw [Z2.out] at y2 y4;have hV':=zM8 z1;have hW:=zM8 y1;rw [Z2.out] at hV';rw [y2] at hW;obtain ⟨q1,q2⟩:=hG.more hD hV' Z4.out y4 hW hVM;have Q1:Hid (t-1=val 4294967296 p / val 4294967296 bl):=by show _=_;rw [q1];exact Nat.add_sub_cancel _ _
  have ht1:1<=t:=by rw [q1];exact Nat.le_add_left _ _
  have T1:Hid ((t:Int)-1=((t-1:Nat):Int)):=by show _=_;omega
  have Q2:=hQ9 q2;have Y2:=hQ9 y2;clear y2 y4 q1 q2 hG;go_wp2;go_ret;exact ⟨t-1,p2,by rw [<- T1.out];rfl,Q1.out,by omega,y1,Y2.out,Q2.out,hM3,hg3.trans hg4⟩
 ·obtain ⟨q1,q2⟩:=hG.right (V':=val 4294967296 p') hD (by omega);have Q1:=hQ9 q1;have Q2:=hQ9 q2;have Z2:=hQ9 z2;clear q1 q2 z2 z4 hG;go_wp2;go_ret;exact ⟨t,p',rfl,Q1.out,ht,z1,Z2.out,Q2.out,hM2,hg3⟩
end nat
namespace mem
open Go.RowKit num
section
variable {P:Program}
theorem yD2 {w:World} {ops:Array Oper} {rest:List Oper} {o:Oper} {a:Act} {Q:Exit->Act->World->Prop} (hgd:o.guard=none) (s x:Operand) {t:TypeId}
  (ho:o.op=.call { callee:=.builtin .append,args:=#[s,x],argTypes:=#[t,t] })
  {base:Nat} {e:TypeId} {k:IntKind} (hT:SliceT P t e k) {v:Value} {l:List Nat} (d:Nat) {y:Int} (hs:a.eval s=v) (hown:Own w base e k v l) (hx:a.eval x=.slice (some ⟨w.heap.size,0,none⟩) 1 1) (hd:y=(d:Int))
  (hlen:l.length<=1000000000) (hbase:base<=w.heap.size)
  (h:∀ g cap w',Own w' base e k (.slice (some ⟨g,0,none⟩) (l.length+1) cap) (l ++ [d])->Below base w w'->w.grownBy w' v.ownBlock->(v.ownBlock=some g\/w.heap.size<=g)->base<=g->g<w'.heap.size->wpList P ops Q rest (a.put o.dst (.slice (some ⟨g,0,none⟩) (l.length+1) cap)) w'):wpList P ops Q (o :: rest) a (w.alloc (.cells #[.int k y] e)):=by
 obtain ⟨i,hi,hz,hsz,hby⟩:=hT.info;subst hd;refine wpList_append_lies (w.alloc (.cells #[.int k (d:Int)] e)) hgd s x t ho base e i (.int k 0) 1 8 hT.und hi hz hsz hby rfl (by omega) v l.length (nv k l) hs (World.ownsRow.alloc hown _) ⟨w.heap.size,0,none⟩ 1 1 [.int k (d:Int)] hx rfl ?_ ?_ (by omega) (by unfold maxLen;omega) (by omega) (by simp;omega) _ rfl ?_
 ·exact World.news_of_block (heap_alloc_new w _)
 ·intro u' hu';obtain rfl:=List.mem_singleton.1 hu'
  rfl
 ·intro g cap w' h1 h2 h3 h4;have h5:w.grownBy w' v.ownBlock:=qK0 (World.grownBy_alloc w _ _) h2;have hown':Own w' base e k (.slice (some ⟨g,0,none⟩) (l.length+1) cap) (l ++ [d]):=Own.snoc h1;refine h g cap w' hown' ((Below.refl base w).grown h5 hbase hown.base_le) h5 ?_ (hown'.base_le g rfl) h4;rcases h3 with h3 | h3
  ·exact .inl h3
  ·right;simp at h3;omega
end
theorem IsS.apartNew {w:World} {k:IntKind} {u:Value} {l:List Nat} {g:Nat} (h:IsS w k u l) (hg:w.heap.size<=g):zO4 g u:=by
 rintro ad n c rfl hn e;obtain ⟨A,c',e1,h1,h2,h3⟩:=h;injection e1 with e1 e2 e3;subst e1;subst e2;obtain ⟨ad',he,hc⟩:=h3 0 _ (zA3 hn);injection he with he;subst he;have h4:=bQ0 w _ hc;rw [block_add] at h4;omega
theorem IsS.grownFar {w w':World} {k:IntKind} {u:Value} {l:List Nat} {row:Option Nat} (h:IsS w k u l) (hf:∀ g,row=some g->zO4 g u) (hg:w.grownBy w' row):IsS w' k u l:=by
 rcases row with _ | g
 ·exact h.grown (g:=w.heap.size) (h.apartNew (zB3 _)) ⟨hg.os,hg.tape,hg.output,hg.size,fun k hk _=>hg.block k hk (by simp)⟩
 ·exact h.grown (hf g rfl) hg
theorem Own.grown {w w':World} {base:Nat} {e:TypeId} {k:IntKind} {v:Value} {l:List Nat} {g:Nat} (h:Own w base e k v l) (hg:w.grownBy w' (some g)) (hne:v.ownBlock≠some g):Own w' base e k v l:=World.ownsRow.kept h hg (.inr hne)
theorem zE5.apart {B g:Nat} {u:Value} (h:zE5 B u) (hg:g<B):zO4 g u:=by
 rintro ad n c rfl hn e
 have:=h ad n c rfl
 omega
end mem
namespace nat
open Go.RowKit num mem limb
theorem yZ5 (base g n cap s c ln:Nat) (X p Y bl:List Nat) (vb:Value) (w:World) (hln:ln=p.length) (hM:Mid w base g n cap s X p Y) (lp:Lt 4294967296 p) (hp:p.length=bl.length+1) (hpc:p.length<=c) (hcm:c<=maxLen) (hb:IsS w .u64 vb bl) (lb:Lt 4294967296 bl) (hf:zO4 g vb) (hb2:2<=bl.length) (hbl:bl.length<=900000) (hnz:∀ d,bl[bl.length-1]?=some d->0<d) (hVD:val 4294967296 p<4294967296*val 4294967296 bl) :
  Calls prog 154 #[.slice (some ⟨g,s,none⟩) ln c,vb] w (RetSt base g n cap s X p Y bl w):=by
 rw [hln];exact yZ4 base g n cap s c X p Y bl vb w hM lp hp hpc hcm hb lb hf hb2 hbl hnz hVD
theorem yZ6 (w0:World) (v vb:Value) (x y:Nat) (w:World) (hown:Own w w0.heap.size 75 .u64 v (digs 4294967296 x)) (hb0:Below w0.heap.size w0 w) (hvb:IsS w .u64 vb (digs 4294967296 y)) (hfar:∀ g,v.ownBlock=some g->zO4 g vb) (hl:(digs 4294967296 x).length<=100000) (hl':(digs 4294967296 y).length<=100000) (h2:2<=(digs 4294967296 y).length) :
  Calls prog 131 #[v,vb] w (zU1 .u64 (digs 4294967296 (x / y)) (digs 4294967296 (x % y)) w0):=by
 obtain ⟨Q,hQ⟩:∃ Q,Q=(digs 4294967296 x).length+1-(digs 4294967296 y).length:=⟨_,rfl⟩;have ly:=zF8 (B:=4294967296) (by omega) y;have hyp:=yU6 (B:=4294967296) (by omega) y (n:=(digs 4294967296 y).length-1) (by omega);have hym:=zK6 (B:=4294967296) (by omega) y;have hy0:0<y:=bY2 (Nat.pow_pos (by omega)) hyp;have HKD:Hid (KD 4294967296 x y ((digs 4294967296 x).length+1) (digs 4294967296 x ++ [0]) (zB Q 0) Q):=KD.start (by omega) hyp (by omega) (by omega)
 have hlast:Hid (∀ d,(digs 4294967296 y)[(digs 4294967296 y).length-1]?=some d->0<d):=fun d hd=>by
  have:=qJ5 (B:=4294967296) (by omega) y (n:=(digs 4294967296 y).length-1) (by omega) hd
  omega
 have HYM:=hQ9 hym;obtain ⟨A,k,rfl,hk,hmx,hr⟩:=id hvb;have hsz0:=hb0.size;have hQl:Q<=100001:=by omega
 obtain ⟨Aa,ca,rfl,_,_,_⟩:=id hown.isS;rcases (show ((digs 4294967296 y).length:Int)<(digs 4294967296 x).length+1\/((digs 4294967296 x).length:Int)+1<=((digs 4294967296 y).length:Int) from by omega) with hle | hle
 ·have HQ:Hid ((max 0 (((digs 4294967296 x).length:Int)+1-((digs 4294967296 y).length:Int)))=(Q:Int)/\(0<Q->Q+(digs 4294967296 y).length=(digs 4294967296 x).length+1)):=by refine ⟨?_,?_⟩<;>omega
  clear hQ hyp hym
  go_enter func131,ntmps131
  go_wp2_with (first
   | (at_builtin;refine yD2 rfl _ _ rfl zK1 0 (v:=.slice Aa (digs 4294967296 x).length ca) rfl hown rfl rfl (by omega) hsz0 ?_;intro g cap w1 hown1 hb1 hg1 hlie hbg hgs)
   | (at_make;refine zR4 rfl _ _ rfl zK1 Q rfl rfl (by have:=HQ.out.1;omega) (by have:=HQ.out.1;omega) (by omega) (zB3 _) ?_;intro w2 hown2 hb2 hs2))
  have hap:zO4 g (.slice A (digs 4294967296 y).length k):=by
   rcases hlie with h | h
   ·exact hfar g h
   ·exact hvb.apartNew h
  have hvb1:=hvb.grownFar hfar hg1;have hap2:zO4 w1.heap.size (.slice A (digs 4294967296 y).length k):=hvb1.apartNew (zB3 _);have hvb2:=hvb1.bQ hb2;have hownP:=hown1.bQ hb2;have B1:=hb0.trans hb1;have hs1:=B1.size;have B2:=B1.trans (hb2.mono hs1)
  have hcap:(digs 4294967296 x).length+1<=cap/\cap<=maxLen:=by
   obtain ⟨_,_,e,h1,h2,_⟩:=hown1.isS;injection e with _ e1 e2;subst e2;rw [zA8] at h1;exact ⟨h1,h2⟩
  clear hown hfar hvb hr hown1 hvb1 hg1 hlie hb1 hb2 B1 hb0
  go_loopw [22] (fun vi wr => ∃ (i:Nat) (P O:List Nat),i<=Q/\Hid (KD 4294967296 x y ((digs 4294967296 x).length+1) P O (Q-i)/\O.length=Q)/\Own wr w0.heap.size 75 .u64 (.slice (some ⟨g,0,none⟩) ((digs 4294967296 x).length+1) cap) P/\Own wr w1.heap.size 75 .u64 (.slice (some ⟨w1.heap.size,0,none⟩) Q Q) O/\IsS wr .u64 (.slice A (digs 4294967296 y).length k) (digs 4294967296 y)/\Below w0.heap.size w0 wr/\vi=.int .i64 (i:Int)) (fun vi _=>Q-(intOf vi).toNat)
  case atStart=>exact ⟨0,_,_,by omega,⟨HKD.out,by simp⟩,hownP,hown2,hvb2,B2,rfl⟩
  case round =>
   clear hownP hown2 hvb2 B2 HKD;obtain ⟨i,P,O,hi,HK,hownP,hownO,hvbr,Br,rfl⟩:=hrel;by_cases hlt:i<Q
   ·obtain ⟨s,hs⟩:∃ s,s=Q-1-i:=⟨_,rfl⟩;have hsI:(Q:Int)-1-(i:Int)=(s:Int):=by omega
    have HS:Hid (Q-i=s+1/\Q-(i+1)=s):=⟨by omega,by omega⟩;have hsq:s<Q:=by omega
    have hfit:s+(digs 4294967296 y).length+1<=(digs 4294967296 x).length+1:=by have:=HQ.out.2 (by omega);omega
    have hfitI:(s:Int)+((digs 4294967296 y).length:Int)+1<=(cap:Int):=by omega
    have hk1:=HK.out.1;rw [HS.out.1] at hk1;have HO:Hid (O.length=Q):=HK.out.2;have HK1:=hQ9 hk1;have HPL:Hid ((seg P s (digs 4294967296 y).length).length=(digs 4294967296 y).length+1):=qS0 hk1.2.1 hfit;obtain ⟨q1,q2,q3⟩:=hk1.at hfit (Nat.le_of_lt HYM.out);have hM:Mid wr w0.heap.size g ((digs 4294967296 x).length+1) cap s (P.take s) (seg P s (digs 4294967296 y).length) (P.drop (s+(digs 4294967296 y).length+1)):=⟨by rw [yC9 hk1.2.1 hfit];exact hownP,by have:=hk1.2.1;simp;omega⟩;have Q2:Hid (val 4294967296 (seg P s (digs 4294967296 y).length)<4294967296*val 4294967296 (digs 4294967296 y)):=by show _<_;rw [zF (by omega)];exact q2
    clear hs hk1 q2 q3 HK;go_wp2_with fail
    refine (yZ5 w0.heap.size g _ cap s _ _ _ _ _ (digs 4294967296 y) _ _ (by rw [HPL.out];omega) hM q1 HPL.out (by rw [HPL.out];omega) (by omega) hvbr ly hap h2 (by omega) hlast.out Q2.out).mono ?_;rintro e w3 ⟨t,p',rfl,ht,htB,lp',hlen',hv',hM3,hg3⟩;rw [zF (by omega)] at ht hv';have HK2:Hid (KD 4294967296 x y ((digs 4294967296 x).length+1) (P.take s ++ p' ++ P.drop (s+(digs 4294967296 y).length+1)) (O.set s t) s/\(O.set s t).length=Q):=⟨HK1.out.step hfit (by rw [HO.out];exact hsq) (Nat.le_of_lt HYM.out) hy0 ht htB lp' hlen' hv',by rw [zB2];exact HO.out⟩;have hne:g≠w1.heap.size:=by omega
    have hownO3:=hownO.grown hg3 (by simp [Value.ownBlock];omega);obtain ⟨a',ha'⟩:∃ a',O[s]?=some a':=⟨_,zA3 (by rw [HO.out];exact hsq)⟩;have hc0:=hownO3.cellAt ha';have hf0:=hownO3.frozenAt s;have hgs:=zF4 w3 w1.heap.size s (.int .u64 (t:Int));have hownO4:=hownO3.stored s t;have hownP4:=Own.grown hM3.1 hgs (by simp [Value.ownBlock];omega);have hvb4:=(hvbr.grown hap hg3).grown hap2 hgs;have B4:Below w0.heap.size w0 (w3.setCell ⟨w1.heap.size,s,none⟩ (.int .u64 (t:Int))):=(Br.grown hg3 Br.size (fun k hk=>by injection hk with hk;omega)).setCell hs1 _;clear ht hv' hlen' ha' hgs hg3;go_wp2;go_roundw;case rel=>exact ⟨i+1,_,_,by omega,by rw [HS.out.2];exact HK2,hownP4,hownO4,hvb4,B4,by go_num⟩
    case measure=>simp [intOf];omega
   ·obtain rfl:i=Q:=by omega
    have hk1:=HK.out.1;rw [Nat.sub_self] at hk1;obtain ⟨z1,z2,z3,z4⟩:=hk1.done;have hT1:=zN (by omega) z2;have hT2:=zN (by omega) z1;rw [z3] at hT1;rw [z4] at hT2;have T1:=hQ9 hT1;have T2:=hQ9 hT2;obtain ⟨A1,c1,e1,hc1,hm1,hr1⟩:=hownO.isS;obtain ⟨A2,c2,e2,hc2,hm2,hr2⟩:=hownP.isS;injection e1 with e1 e3 e5;injection e2 with e2 e4 e6;subst e1;subst e2;subst e5;subst e6;have hf1:=hownO.fresh;have hf2:=hownP.fresh;have L1:=hQ9 e3;have L2:=hQ9 e4;clear hk1 z3 z4 hT1 hT2 HK e3 e4;go_wp2_with fail
    refine (qF4 _ _ _ O _ L1.out hc1 hm1 hr1).mono ?_;rintro e w' ⟨rfl,rfl⟩;rw [T1.out];go_wp2_with fail
    refine (qF4 _ _ _ P _ L2.out hc2 hm2 hr2).mono ?_;rintro e w' ⟨rfl,rfl⟩;rw [T2.out];go_wp2;go_ret2;refine ⟨_,_,rfl,?_,?_,(hf1.cut _ _).mono hs1,hf2.cut _ _,Br⟩
    ·rw [<- T1.out];exact hr1.isTrim hc1 hm1
    ·rw [<- T2.out];exact hr2.isTrim hc2 hm2
 ·have HQ:Hid ((max 0 (((digs 4294967296 x).length:Int)+1-((digs 4294967296 y).length:Int)))=(Q:Int)/\(0<Q->Q+(digs 4294967296 y).length=(digs 4294967296 x).length+1)):=by refine ⟨?_,?_⟩<;>omega
  clear hQ hyp hym
  go_enter func131,ntmps131
  go_wp2_with (first
   | (at_builtin;refine yD2 rfl _ _ rfl zK1 0 (v:=.slice Aa (digs 4294967296 x).length ca) rfl hown rfl rfl (by omega) hsz0 ?_;intro g cap w1 hown1 hb1 hg1 hlie hbg hgs)
   | (at_make;refine zR4 rfl _ _ rfl zK1 Q rfl rfl (by have:=HQ.out.1;omega) (by have:=HQ.out.1;omega) (by omega) (zB3 _) ?_;intro w2 hown2 hb2 hs2))
  have hap:zO4 g (.slice A (digs 4294967296 y).length k):=by
   rcases hlie with h | h
   ·exact hfar g h
   ·exact hvb.apartNew h
  have hvb1:=hvb.grownFar hfar hg1;have hap2:zO4 w1.heap.size (.slice A (digs 4294967296 y).length k):=hvb1.apartNew (zB3 _);have hvb2:=hvb1.bQ hb2;have hownP:=hown1.bQ hb2;have B1:=hb0.trans hb1;have hs1:=B1.size;have B2:=B1.trans (hb2.mono hs1)
  have hcap:(digs 4294967296 x).length+1<=cap/\cap<=maxLen:=by
   obtain ⟨_,_,e,h1,h2,_⟩:=hown1.isS;injection e with _ e1 e2;subst e2;rw [zA8] at h1;exact ⟨h1,h2⟩
  clear hown hfar hvb hr hown1 hvb1 hg1 hlie hb1 hb2 B1 hb0
  go_loopw [22] (fun vi wr => ∃ (i:Nat) (P O:List Nat),i<=Q/\Hid (KD 4294967296 x y ((digs 4294967296 x).length+1) P O (Q-i)/\O.length=Q)/\Own wr w0.heap.size 75 .u64 (.slice (some ⟨g,0,none⟩) ((digs 4294967296 x).length+1) cap) P/\Own wr w1.heap.size 75 .u64 (.slice (some ⟨w1.heap.size,0,none⟩) Q Q) O/\IsS wr .u64 (.slice A (digs 4294967296 y).length k) (digs 4294967296 y)/\Below w0.heap.size w0 wr/\vi=.int .i64 (i:Int)) (fun vi _=>Q-(intOf vi).toNat)
  case atStart=>exact ⟨0,_,_,by omega,⟨HKD.out,by simp⟩,hownP,hown2,hvb2,B2,rfl⟩
  case round =>
   clear hownP hown2 hvb2 B2 HKD;obtain ⟨i,P,O,hi,HK,hownP,hownO,hvbr,Br,rfl⟩:=hrel;by_cases hlt:i<Q
   ·exfalso;have:=HQ.out.2 (by omega);omega
   ·obtain rfl:i=Q:=by omega
    have hk1:=HK.out.1;rw [Nat.sub_self] at hk1;obtain ⟨z1,z2,z3,z4⟩:=hk1.done;have hT1:=zN (by omega) z2;have hT2:=zN (by omega) z1;rw [z3] at hT1;rw [z4] at hT2;have T1:=hQ9 hT1;have T2:=hQ9 hT2;obtain ⟨A1,c1,e1,hc1,hm1,hr1⟩:=hownO.isS;obtain ⟨A2,c2,e2,hc2,hm2,hr2⟩:=hownP.isS;injection e1 with e1 e3 e5;injection e2 with e2 e4 e6;subst e1;subst e2;subst e5;subst e6;have hf1:=hownO.fresh;have hf2:=hownP.fresh;have L1:=hQ9 e3;have L2:=hQ9 e4;clear hk1 z3 z4 hT1 hT2 HK e3 e4;go_wp2_with fail
    refine (qF4 _ _ _ O _ L1.out hc1 hm1 hr1).mono ?_;rintro e w' ⟨rfl,rfl⟩;rw [T1.out];go_wp2_with fail
    refine (qF4 _ _ _ P _ L2.out hc2 hm2 hr2).mono ?_;rintro e w' ⟨rfl,rfl⟩;rw [T2.out];go_wp2;go_ret2;refine ⟨_,_,rfl,?_,?_,(hf1.cut _ _).mono hs1,hf2.cut _ _,Br⟩
    ·rw [<- T1.out];exact hr1.isTrim hc1 hm1
    ·rw [<- T2.out];exact hr2.isTrim hc2 hm2
end nat
namespace mem
open Go.RowKit
theorem IsS.drew {w:World} {k:IntKind} {v:Value} {l:List Nat} (h:IsS w k v l):IsS w.drew k v l:=by
 obtain ⟨A,c,e,h1,h2,h3⟩:=h;exact ⟨A,c,e,h1,h2,fun i d hd=>h3 i d hd⟩
end mem
namespace nat
open Go.RowKit num mem limb
theorem up_bits {d n:Nat} (hd:d<4294967296) (hd0:d≠0) (h:qB2 ((d:Int) % 4294967296) n) (hn:n<=32):1<=n/\n<=32:=by
 obtain ⟨h1,h2⟩:=qB2.nat hd h;refine ⟨?_,hn⟩;rcases bY3 n with h3 | h3
 ·subst h3;simp at h1;omega
 ·exact h3
theorem yD3 {u:Nat} (h:u<=31):2^u<=2147483648:=bX9 (n:=2) (j:=31) (by omega) h
theorem qS1 {x u:Nat} (h:u<=31):(digs 4294967296 (x*2^u)).length<=(digs 4294967296 x).length+1:=by
 have h1:=zY5 x (2^u);have h2:(digs 4294967296 (2^u)).length<=1:=zG7 (by omega) (by have:=yD3 h;omega);omega
theorem up_len2 {x u:Nat} : (digs 4294967296 x).length<=(digs 4294967296 (x*2^u)).length:=zG1 (by omega) (Nat.le_mul_of_pos_right _ (Nat.pow_pos (by omega)))
theorem div_len (x y:Nat):(digs 4294967296 (x / y)).length<=(digs 4294967296 x).length:=zG1 (by omega) (Nat.div_le_self _ _)
theorem yD4 (x y:Nat):(digs 4294967296 (x % y)).length<=(digs 4294967296 x).length:=zG1 (by omega) (Nat.mod_le _ _)
theorem yD5 {x y:Nat} (h:0<y):(digs 4294967296 (x % y)).length<=(digs 4294967296 y).length:=zG1 (by omega) (Nat.le_of_lt (Nat.mod_lt _ h))
theorem yD6 (v vb:Value) (x y:Nat) (w:World) (h:IsS w .u64 v (digs 4294967296 x)) (h':IsS w .u64 vb (digs 4294967296 y)) (hl:(digs 4294967296 x).length<=90000) (hl':(digs 4294967296 y).length<=90000) (hy:0<y) :
  Calls prog 114 #[v,vb] w (RetSSE (digs 4294967296 (x / y)) (digs 4294967296 (x % y)) 0 w):=by
 have hyl:0<(digs 4294967296 y).length:=by
  rcases bY3 (digs 4294967296 y).length with h0 | h0
  ·have:=(qA8 (B:=4294967296) (by omega)).1 h0;omega
  ·exact h0
 have hyl2:¬ digs 4294967296 y=[]:=by intro e;rw [e] at hyl;simp at hyl
 have hq1:=div_len x y;have hq2:=yD4 x y;by_cases hone:(digs 4294967296 y).length=1
 ·have hyB:y<4294967296:=by have:=zK6 (B:=4294967296) (by omega) y;rw [hone] at this;simpa using this
  have hdy:=digs_one y hyB hy;have DY:=hQ9 hdy;have hym:y % 4294967296=y:=Nat.mod_eq_of_lt hyB;have YM:=hQ9 hym;have hr1:x % y<4294967296:=Nat.lt_trans (Nat.mod_lt _ hy) hyB;have hz0:((digs 4294967296 y).length == 0)=false:=by rw [hone];rfl
  have hz1:(((digs 4294967296 y).length:Int) == 0)=false:=by rw [hone];rfl
  have hz2:(((digs 4294967296 y).length:Int) == 1)=true:=by rw [hone];rfl
  clear hdy hym hone;obtain ⟨R,hR⟩:∃ R,R=x % y:=⟨_,rfl⟩;rw [<- hR] at hr1 hq2 |-;have HR:=hQ9 hR;have hRI:(R:Int)<=18446744073709551615:=by omega
  clear hR
  go_enter func114,ntmps114;go_wp2_with fail
  refine (qK6 vb y _ _ 1 0 w h' (by omega) rfl rfl (by omega) (by omega) y (by omega)).mono ?_;rintro e w1 ⟨v1,rfl,k1,f1,b1⟩;have h1:=h.bQ b1;obtain ⟨A,c,rfl,hc,hm,hr⟩:=id k1;obtain ⟨ad,d,rfl,hd,hcell⟩:=hr.at_ (i:=0) (by omega);have hdy:d=y:=by rw [DY.out] at hd;simpa using hd.symm
  subst hdy;clear hd;rw [Addr.add_zero'] at hcell;go_wp2_with fail
  refine (yZ _ x _ d (x / d) R _ rfl (by omega) (by rw [YM.out];exact hy) h1 (by omega) (by rw [YM.out]) (by rw [YM.out];exact HR.out)).mono ?_;rintro e w2 ⟨v2,rfl,k2,f2,b2⟩;go_wp2_with fail
  refine (qE8 _ R _ rfl hRI).mono ?_;rintro e w3 ⟨v3,rfl,k3,f3,b3⟩;have B2:=b1.trans (b2.mono b1.size);have B3:=B2.trans (b3.mono B2.size);go_wp2
  go_ret3
  exact ⟨_,_,rfl,k2.bQ b3,k3,f2.mono b1.size,f3.mono B2.size,B3⟩
 ·obtain ⟨m,hm⟩:∃ m,m=(digs 4294967296 y).length-1:=⟨_,rfl⟩;have hz1:(((digs 4294967296 y).length:Int) == 0)=false:=by rw [beq_eq_false_iff_ne];omega
  have hz2:(((digs 4294967296 y).length:Int) == 1)=false:=by rw [beq_eq_false_iff_ne];omega
  have h2:2<=(digs 4294967296 y).length:=by omega
  have HMod:Hid (∀ u,x*2^u % (y*2^u) / 2^u=x % y):=fun u=>by rw [Nat.mul_mod_mul_right,Nat.mul_div_cancel _ (Nat.pow_pos (by omega))]
  have HDiv:Hid (∀ u,x*2^u / (y*2^u)=x / y):=fun u=>Nat.mul_div_mul_right _ _ (Nat.pow_pos (by omega));clear hone hm
  go_enter func114,ntmps114;go_wp2_with fail
  refine (qK6 vb y _ _ 1 0 w h' (by omega) rfl rfl (by omega) (by omega) y (by omega)).mono ?_;rintro e w1 ⟨v1,rfl,k1,f1,b1⟩;have h1:=h.bQ b1;obtain ⟨A,c,rfl,hc,hmx,hr⟩:=id k1;obtain ⟨ad,d,rfl,hd,hcell⟩:=hr.at_ (i:=(digs 4294967296 y).length-1) (by omega);have hd1:=(zF8 (B:=4294967296) (by omega) y).at hd;have hd0:=qJ5 (B:=4294967296) (by omega) y (n:=(digs 4294967296 y).length-1) (by omega) hd;have HD0:=hQ9 hd0;clear hd hd0;go_wp2_with fail
  refine (limb.bits_any _ (by omega) (by omega) _).mono ?_;rintro e w2 ⟨n,rfl,hn,hs,rfl⟩;obtain ⟨hn1,_⟩:=up_bits hd1 HD0.out hs hn;obtain ⟨u,hu⟩:∃ u,u=32-n:=⟨_,rfl⟩;have hu31:u<=31:=by omega
  have huI:(32:Int)-(n:Int)=(u:Int):=by omega
  obtain ⟨p,hp⟩:∃ p,p=2^u:=⟨_,rfl⟩;have hpb:p<=2147483648:=by rw [hp];exact yD3 hu31
  have hw:IntKind.u64.wrap ((2:Int)^u)=(p:Int):=by rw [<- qE9,<- hp,IntKind.wrap_u64];omega
  have l1:=qS1 (x:=x) hu31;have l2:=qS1 (x:=y) hu31;have l3:=up_len2 (x:=y) (u:=u);have l4:=yD4 (x*2^u) (y*2^u);have hmd:=HMod.out u;have hdv:=HDiv.out u;rw [<- hp] at l1 l2 l3 l4 hmd hdv;have HP:=hQ9 hp;have HMD:=hQ9 hmd;have HDV:=hQ9 hdv;clear hu hp hs hmd hdv;have hz3:p % 4294967296=p:=Nat.mod_eq_of_lt (by omega);have HZ3:=hQ9 hz3;clear hz3;go_wp2;have HZX:Hid (x*p=x*(p % 4294967296)+0 % 4294967296):=by show _=_;rw [HZ3.out];omega
  have HZY:Hid (y*p=y*(p % 4294967296)+0 % 4294967296):=by show _=_;rw [HZ3.out];omega
  have hx1:(digs 4294967296 x).length<=1000000:=by omega
  have hx2:p<18446744073709551616:=by omega
  have hx3:0<18446744073709551616:=by omega
  have hy1:(digs 4294967296 y).length<=1000000:=by omega
  have hxp:(digs 4294967296 (x*p)).length<=100000:=by omega
  have hyp:(digs 4294967296 (y*p)).length<=100000:=by omega
  have hyp2:2<=(digs 4294967296 (y*p)).length:=by omega
  have con:=hQ9 (yB9 v x (p:Int) 0 p 0 w1.drew h1.drew hx1 rfl rfl hx2 hx3 (x*p) HZX.out)
  go_region_law (first
   | (go_simp;go_at_call 128;(with_reducible refine con.out.mono ?_);rintro e w3 ⟨v3,rfl,own3,b3⟩;have con2:=hQ9 (qK6 _ y (p:Int) 0 p 0 w3 (k1.drew.bQ b3) hy1 rfl rfl hx2 hx3 (y*p) HZY.out))
   | (go_simp;go_at_call 128;(with_reducible refine con2.out.mono ?_);rintro e w4 ⟨v4,rfl,k4,f4,b4⟩;have con3:=hQ9 (yZ6 w1.drew v3 v4 (x*p) (y*p) w4 (own3.bQ b4) (b3.trans (b4.mono b3.size)) k4 (fun g hg=>f4.apart (own3.under g hg)) hxp hyp hyp2))
   | (go_simp;go_at_call 131;(with_reducible refine con3.out.mono ?_);rintro e w5 ⟨v5,v6,rfl,k5,k6,f5,f6,b5⟩))
  all_goals
   have B1:Below w.heap.size w w1.drew:=b1.drew;have B5:=B1.trans (b5.mono B1.size);rw [HDV.out] at k5;go_wp2_with fail
   refine (yB1 v6 (x*p % (y*p)) _ u _ rfl k6 (by omega) (by omega) (x % y) (by rw [<- HP.out];exact HMD.out.symm)).mono ?_;rintro e w6 ⟨v7,rfl,k7,f7,b6⟩;go_wp2
   go_ret3
   exact ⟨_,_,rfl,k5.bQ b6,k7,f5.mono B1.size,f7.mono B5.size,B5.trans (b6.mono B5.size)⟩
theorem yZ7 {w:World} {v:Value} (h:IsS w .u64 v []):∃ A c,v=.slice A 0 c:=by
 obtain ⟨A,c,e,_⟩:=h;exact ⟨A,c,e⟩
theorem qB4 (v vb:Value) (x y:Nat) (w:World) (h:IsS w .u64 v (digs 4294967296 x)) (h':IsS w .u64 vb (digs 4294967296 y)) (hl:(digs 4294967296 x).length<=90000) (hl':(digs 4294967296 y).length<=90000) (hy:0<y) (q:Nat) (hm:x % y=0) (hq:q=x / y) :
  Calls prog 81 #[v,vb] w (zO3 .u64 (digs 4294967296 q) 0 w):=by
 have HM:=hQ9 hm;have HQ:=hQ9 hq;clear hm hq
 go_enter func81,ntmps81;go_wp2_with fail
 refine (yD6 v vb x y w h h' hl hl' hy).mono ?_;rintro e w1 ⟨v1,v2,rfl,k1,k2,f1,f2,b1⟩;rw [HM.out,zJ] at k2;rw [<- HQ.out] at k1;obtain ⟨A2,c2,rfl⟩:=yZ7 k2;go_wp2;go_ret2;exact ⟨_,rfl,k1,f1,b1⟩
theorem yD7 (v vb:Value) (x y:Nat) (w:World) (h:IsS w .u64 v (digs 4294967296 x)) (h':IsS w .u64 vb (digs 4294967296 y)) (hl:(digs 4294967296 x).length<=90000) (hl':(digs 4294967296 y).length<=90000) (hy:0<y) (r:Nat) (hr:r=x % y) :
  Calls prog 122 #[v,vb] w (zO3 .u64 (digs 4294967296 r) 0 w):=by
 have HR:=hQ9 hr;clear hr
 go_enter func122,ntmps122;go_wp2_with fail
 refine (yD6 v vb x y w h h' hl hl' hy).mono ?_;rintro e w1 ⟨v1,v2,rfl,k1,k2,f1,f2,b1⟩;rw [<- HR.out] at k2;go_wp2;go_ret2;exact ⟨_,rfl,k2,f2,b1⟩
theorem dec_mod (x y:Nat):(digs 10000 (x % y)).length<=(digs 10000 x).length:=zG1 (by omega) (Nat.mod_le _ _)
theorem qF5 {y:Nat} (hy:0<y):0<(digs 4294967296 y).length:=by
 rcases bY3 (digs 4294967296 y).length with h0 | h0
 ·have:=(qA8 (B:=4294967296) (by omega)).1 h0;omega
 ·exact h0
end nat
namespace str
open Go.RowKit num mem txt
end str
namespace mem
open Go.RowKit num
section
variable {P:Program}
end
end mem
namespace str
open Go.RowKit num mem txt nat
def TX (p:Nat) (D:List Nat):List UInt8:=zB p 0 ++ D.reverse.map ch
end str
namespace mem
open Go.RowKit num
section
variable {P:Program}
end
end mem
namespace str
open Go.RowKit num mem txt nat
end str
namespace mem
open Go.RowKit num
section
variable {P:Program}
theorem qS2 {w w':World} {v v':Value} (hg:w.grownBy w' v.ownBlock) (h3:v'.ownBlock=v.ownBlock\/v'.ownBlock=some w.heap.size):qK7 w w' v v':=by
 intro k q l hq hf;refine ⟨hq.farKept hf hg,?_⟩;rintro ad n c rfl hn;rcases h3 with h3 | h3
 ·rw [h3];exact hf ad n c rfl hn
 ·rw [h3];intro e1;obtain ⟨A,c',e3,g1,g2,g3⟩:=hq;injection e3 with e3 e4 e5;subst e3;subst e4;obtain ⟨ad',he,hc⟩:=g3 0 _ (zA3 hn);injection he with he;subst he;have h6:=bQ0 w _ hc;rw [block_add] at h6;injection e1 with e1;omega
end
end mem
namespace str
open Go.RowKit num mem txt nat
end str
namespace mem
open Go.RowKit num
theorem zD1.stored {w:World} {base:Nat} {e:TypeId} {g n cap:Nat} {vs:List Value} (h:zD1 w base e (.slice (some ⟨g,0,none⟩) n cap) vs) (i:Nat) (u:Value):zD1 (w.setCell ⟨g,i,none⟩ u) base e (.slice (some ⟨g,0,none⟩) n cap) (vs.set i u):=by
 unfold zD1 at h |-;rw [zB2]
 have hn:n=vs.length:=by
  rcases h.2 with ⟨h1,h0⟩|⟨g',cap',cur,h1,_⟩
  ·injection h1 with h1 _ _;cases h1
  ·injection h1 with _ h1 _
 subst hn;exact (World.ownsRow.stored h i u).1
theorem zD1.cellAt {w:World} {base:Nat} {e:TypeId} {g n cap:Nat} {vs:List Value} (h:zD1 w base e (.slice (some ⟨g,0,none⟩) n cap) vs) {i:Nat} {u:Value} (hu:vs[i]?=some u):w.cell? ⟨g,i,none⟩=some u:=by
 have:=World.ownsRow.cells h (g:=g) rfl i u hu
 have ha:(⟨g,0,none⟩:Addr).add i=⟨g,i,none⟩:=by unfold Addr.add;split<;>simp_all
 rwa [ha] at this
theorem zD1.frozenAt {w:World} {base:Nat} {e:TypeId} {g n cap:Nat} {vs:List Value} (h:zD1 w base e (.slice (some ⟨g,0,none⟩) n cap) vs) (i:Nat):w.frozen? ⟨g,i,none⟩=false:=by
 unfold zD1 at h
 have hn:n=vs.length:=by
  rcases h.2 with ⟨h1,h0⟩|⟨g',cap',cur,h1,_⟩
  ·injection h1 with h1 _ _;cases h1
  ·injection h1 with _ h1 _
 subst hn;exact World.ownsRow.frozenAt h i
section
variable {P:Program}
end
end mem
namespace str
open Go.RowKit num mem txt nat
theorem rlenp {x:Nat} (h:0<x):0<(digs 10000 x).length:=by
 rcases bY3 (digs 10000 x).length with h0 | h0
 ·have:=(qA8 (B:=10000) (by omega)).1 h0;omega
 ·exact h0
end str
namespace flow
open Go.RowKit num mem
def zD9 (a:Act):List Oper->List (Option Value)->Act
 | o :: os,some v :: ms=>zD9 (a.put o.dst v) os ms
 | _ :: os,none :: ms=>zD9 a os ms
 | _,_=>a
def zL7:List Oper->Bool
 | []=>true
 | o :: os=>(match o.dst with | none=>true | some d=>os.all fun x=>x.dst != some d) && zL7 os
theorem yD8 {o:Oper} {os:List Oper} (h:zL7 (o :: os)=true):∀ x∈os,∀ d,o.dst=some d->x.dst≠some d:=by
 intro x hx d hd;simp only [zL7,hd,Bool.and_eq_true] at h
 have:=List.all_eq_true.1 h.1 x hx
 simpa using this
theorem qL0 {o:Oper} {os:List Oper} (h:zL7 (o :: os)=true):zL7 os=true:=by
 simp only [zL7,Bool.and_eq_true] at h;exact h.2
theorem qS3 (d:Option Tmp) (v:Value):∀ (L:List Oper) (ms:List (Option Value)) (a:Act),(∀ x∈L,∀ t,d=some t->x.dst≠some t)->(zD9 a L ms).put d v=zD9 (a.put d v) L ms
  | [],ms,a,_=>by cases ms<;>rfl
  | o :: os,[],a,_=>rfl
  | o :: os,none :: ms,a,h=>qS3 d v os ms a fun x hx=>h x (by simp [hx])
  | o :: os, some u :: ms, a, h => by
    show (zD9 (a.put o.dst u) os ms).put d v=zD9 ((a.put d v).put o.dst u) os ms
    rw [qS3 d v os ms _ fun x hx=>h x (by simp [hx])];rw [Act.put_comm a v u (x:=d) (y:=o.dst) (fun t ht=>h o (by simp) t ht)]
theorem zU4 (v:Value):∀ (L:List Oper) (ms:List (Option Value)) (a:Act) (i:Nat) (o:Oper),zL7 L=true->L[i]?=some o->ms[i]?=some none->(zD9 a L ms).put o.dst v=zD9 a L (ms.set i (some v))
  | [],ms,a,i,o,_,h,_=>by simp at h
  | x :: os,[],a,i,o,_,_,h=>by simp at h
  | x :: os, m :: ms, a, 0, o, hd, hi, hm => by
    obtain rfl:x=o:=by simpa using hi
    obtain rfl:m=none:=by simpa using hm
    show (zD9 a os ms).put x.dst v=zD9 (a.put x.dst v) os ms
    exact qS3 _ _ _ _ _ fun y hy t ht=>yD8 hd y hy t ht
  | x :: os, none :: ms, a, i + 1, o, hd, hi, hm => by
    show (zD9 a os ms).put o.dst v=zD9 a os (ms.set i (some v))
    exact zU4 v os ms a i o (qL0 hd) (by simpa using hi) (by simpa using hm)
  | x :: os, some u :: ms, a, i + 1, o, hd, hi, hm => by
    show (zD9 (a.put x.dst u) os ms).put o.dst v=zD9 (a.put x.dst u) os (ms.set i (some v))
    exact zU4 v os ms _ i o (qL0 hd) (by simpa using hi) (by simpa using hm)
theorem yZ8 (a:Act) (d:Option Tmp) (v:Value):(a.put d v).tmps.size=a.tmps.size:=by cases d<;>simp [Act.put]
theorem qL1 {t:Nat}:∀ (L:List Oper) (ms:List (Option Value)) (a:Act),(∀ o∈L,o.dst≠some t)->(zD9 a L ms).tmps[t]?=a.tmps[t]?
  | [],ms,a,_=>by cases ms<;>rfl
  | o :: os,[],a,_=>rfl
  | o :: os,none :: ms,a,h=>qL1 os ms a fun x hx=>h x (by simp [hx])
  | o :: os, some u :: ms, a, h => by
    show (zD9 (a.put o.dst u) os ms).tmps[t]?=_
    rw [qL1 os ms _ fun x hx=>h x (by simp [hx])];have h1:=h o (by simp)
    cases hd:o.dst with
    | none=>rfl
    | some d =>
      have:d≠t:=fun e=>h1 (by rw [hd,e]);simp [Act.put,Array.getElem?_setIfInBounds_ne this]
theorem qS4 {d:Nat} {v:Value}:∀ (L:List Oper) (ms:List (Option Value)) (a:Act) (i:Nat) (o:Oper),zL7 L=true->L[i]?=some o->o.dst=some d->ms[i]?=some (some v)->d<a.tmps.size->(zD9 a L ms).tmps[d]?=some v
  | [],ms,a,i,o,_,h,_,_,_=>by simp at h
  | x :: os,[],a,i,o,_,_,_,h,_=>by simp at h
  | x :: os, m :: ms, a, 0, o, hd, hi, ho, hm, hs => by
    obtain rfl:x=o:=by simpa using hi
    obtain rfl:m=some v:=by simpa using hm
    show (zD9 (a.put x.dst v) os ms).tmps[d]?=some v
    rw [qL1 os ms _ fun y hy=>yD8 hd y hy d ho,ho];simp [Act.put,hs]
  | x :: os,none :: ms,a,i+1,o,hd,hi,ho,hm,hs=>qS4 os ms a i o (qL0 hd) (by simpa using hi) ho (by simpa using hm) hs
  | x :: os,some u :: ms,a,i+1,o,hd,hi,ho,hm,hs=>qS4 os ms _ i o (qL0 hd) (by simpa using hi) ho (by simpa using hm) (by rw [yZ8];exact hs)
structure Pd where
 p:World->Value->Prop
 up:∀ {w w':World} {v:Value},p w v->Below w.heap.size w w'->p w' v
def Pd.eq (v:Value):Pd:=⟨fun _ u=>u=v,fun h _=>h⟩
def Pd.any:Pd:=⟨fun _ _=>True,fun h _=>h⟩
def ph (Φ : List Pd) (i:Nat):Pd:=Φ.getD i Pd.any
def isA (o:Oper):Bool:=match o.op with | .alloc _=>true | _=>false
structure St (L:List Oper) (Φ : List Pd) (w0:World) (o:Oper) (ms:List (Option Value)) (w:World):Prop where
 len:ms.length=L.length
 bQ:Below w0.heap.size w0 w
 ty:∀ (i:Nat) (v:Value),ms[i]?=some (some v)->(ph Φ i).p w v
 deps:∀ e∈o.after,Region.binds .any e=true -> ∃ v,ms[e.on]?=some (some v)
def Ob (P:Program) (Q:Exit->Act->World->Prop) (ops:Array Oper) (L:List Oper) (Φ : List Pd) (w0:World) (a0:Act) (i:Nat) (o:Oper):Prop :=
 ∀ ms w,St L Φ w0 o ms w ->
  if Region.wanted o (yielded ops (zD9 a0 L ms).tmps)=true then
   o.wp P (zD9 a0 L ms) w (fun a' w' => ∃ v,a'=(zD9 a0 L ms).put o.dst v/\Below w.heap.size w w'/\(ph Φ i).p w' v/\(isA o=true -> ∃ g,v=.pointer (some ⟨g,0,none⟩)/\w.heap.size<=g/\g<w'.heap.size)) Q
  else (ph Φ i).p w undef/\isA o=false
def Obs (P:Program) (Q:Exit->Act->World->Prop) (ops:Array Oper) (L:List Oper) (Φ : List Pd) (w0:World) (a0:Act):Nat->List Oper->Prop
 | _,[]=>True
 | i,o :: os=>Ob P Q ops L Φ w0 a0 i o/\Obs P Q ops L Φ w0 a0 (i+1) os
theorem Obs.at_ {P:Program} {Q:Exit->Act->World->Prop} {ops:Array Oper} {L:List Oper} {Φ : List Pd} {w0:World} {a0:Act}:∀ (M:List Oper) (k i:Nat) (o:Oper),Obs P Q ops L Φ w0 a0 k M->M[i]?=some o->Ob P Q ops L Φ w0 a0 (k+i) o
  | [],k,i,o,_,h=>by simp at h
  | x :: M, k, 0, o, h, hi => by
    obtain rfl:x=o:=by simpa using hi
    exact h.1
  | x :: M, k, i + 1, o, h, hi => by
    have:=Obs.at_ M (k+1) i o h.2 (by simpa using hi)
    rwa [show k+1+i=k+(i+1) from by omega] at this
def zR5 (o:Oper):List Nat:=(o.after.toList.filter fun e=>Region.binds .any e).map (·.on)
theorem zY8 {o:Oper} {j:Nat} : j∈zR5 o ↔ ∃ e∈o.after,Region.binds .any e=true/\e.on=j:=by
 simp [zR5,and_assoc]
def zQ3:Nat->List Oper->Bool
 | _,[]=>true
 | i,o :: os=>((zR5 o).all fun j=>decide (j<i)) && zQ3 (i+1) os
theorem zY9:∀ (L:List Oper) (k i:Nat) (o:Oper),zQ3 k L=true->L[i]?=some o -> ∀ e∈o.after,Region.binds .any e=true->e.on<k+i
  | [],k,i,o,_,h=>by simp at h
  | x :: L, k, 0, o, h, hi => by
    obtain rfl:x=o:=by simpa using hi
    simp only [zQ3,Bool.and_eq_true] at h;intro e he hb
    have:=List.all_eq_true.1 h.1 e.on (zY8.2 ⟨e,he,hb,rfl⟩)
    simpa using this
  | x :: L, k, i + 1, o, h, hi => by
    simp only [zQ3,Bool.and_eq_true] at h;intro e he hb
    have:=zY9 L (k+1) i o h.2 (by simpa using hi) e he hb
    omega
def zV8 (L:List Oper) (n:Nat) (o:Oper):Bool :=
 (zR5 o).any (fun j=>decide (n<=j)) || (List.range n).all fun i=>(zR5 o).contains i || (List.range n).any fun k=>decide (i<k) && ((L[k]?).map fun x=>(zR5 x).contains i).getD false
theorem yD9 {L:List Oper} {o:Oper} {ms:List (Option Value)} (hlen:ms.length=L.length) (h:zV8 L L.length o=true) (hdone:∀ e∈o.after,Region.binds .any e=true -> ∃ v,ms[e.on]?=some (some v))
    (hdc:∀ (j:Nat) (x:Oper) (v:Value),L[j]?=some x->ms[j]?=some (some v) -> ∀ e∈x.after,Region.binds .any e=true -> ∃ v,ms[e.on]?=some (some v)):∀ i,i<L.length -> ∃ v,ms[i]?=some (some v):=by
  unfold zV8 at h;rw [Bool.or_eq_true] at h;rcases h with h | h
  · obtain ⟨j,hj,hn⟩:=List.any_eq_true.1 h;obtain ⟨e,he,hb,rfl⟩:=zY8.1 hj;obtain ⟨v,hv⟩:=hdone e he hb
    have:=(zA4.1 hv).1
    simp at hn;omega
  · have key:∀ k i,i+k=L.length->i<L.length -> ∃ v,ms[i]?=some (some v):=by
      intro k
      induction k using Nat.strongRecOn with
      | ind k ih =>
        intro i hik hi;have h1:=List.all_eq_true.1 h i (by simp [hi]);rw [Bool.or_eq_true] at h1;rcases h1 with h1 | h1
        · obtain ⟨e,he,hb,rfl⟩:=zY8.1 (by simpa using h1);exact hdone e he hb
        · obtain ⟨m,hm,h2⟩:=List.any_eq_true.1 h1;rw [Bool.and_eq_true] at h2;have hm2:m<L.length:=by simpa using hm
          have him:i<m:=by simpa using h2.1
          obtain ⟨v,hv⟩:=ih (L.length-m) (by omega) m (by omega) hm2;have h3:=h2.2;rw [zA3 hm2] at h3;obtain ⟨e,he,hb,rfl⟩:=zY8.1 (by simpa using h3);exact hdc m _ v (zA3 hm2) hv e he hb
    intro i hi;exact key (L.length-i) i (by omega) hi
def lst (ms:List (Option Value)) (m:Nat):Array Bool:=(ms.map Option.isSome ++ zB m false).toArray
theorem zS8 {ms:List (Option Value)} {m i:Nat} (h:i<ms.length) (d:Bool):(lst ms m).getD i d=(ms[i]).isSome:=by
 unfold lst;rw [Array.getD_eq_getD_getElem?,bW8,zB0 (by simpa using h)];simp [h]
theorem yE {ms:List (Option Value)} {m i:Nat} (h:ms.length<=i):(lst ms m).getD i false=false:=by
 unfold lst;rw [Array.getD_eq_getD_getElem?,bW8,bW0 (by simpa using h)];rw [List.getElem?_replicate]
 split<;>rfl
theorem qF6 {ms:List (Option Value)} {m i:Nat} (v:Value) (h:i<ms.length):(lst ms m).setIfInBounds i true=lst (ms.set i (some v)) m:=by
 unfold lst;rw [zA0,List.set_append_left _ _ (by simpa using h),List.map_set]
 rfl
def Sep (L:List Oper) (ms:List (Option Value)):Prop:=∀ (i j:Nat) (oi oj:Oper) (u v:Value),i≠j->L[i]?=some oi->L[j]?=some oj->isA oi=true->isA oj=true->ms[i]?=some (some u)->ms[j]?=some (some v)->u≠v
def Ptr (L:List Oper) (ms:List (Option Value)) (w:World):Prop:=∀ (i:Nat) (oi:Oper) (u:Value),L[i]?=some oi->isA oi=true->ms[i]?=some (some u) -> ∃ g,u=.pointer (some ⟨g,0,none⟩)/\g<w.heap.size
structure Inv (L:List Oper) (Φ : List Pd) (w0:World) (ms:List (Option Value)) (w:World):Prop where
 len:ms.length=L.length
 bQ:Below w0.heap.size w0 w
 ty:∀ (i:Nat) (v:Value),ms[i]?=some (some v)->(ph Φ i).p w v
 dc:∀ (j:Nat) (x:Oper) (v:Value),L[j]?=some x->ms[j]?=some (some v) -> ∀ e∈x.after,Region.binds .any e=true -> ∃ v,ms[e.on]?=some (some v)
 sep:Sep L ms
 ptr:Ptr L ms w
theorem qB5 {ms:List (Option Value)} {i j:Nat} {v u:Value} (h:(ms.set i (some v))[j]?=some (some u)):(j=i/\u=v)\/(j≠i/\ms[j]?=some (some u)):=by
 rw [List.getElem?_set] at h;by_cases hij:i=j
 ·subst hij;rw [if_pos rfl] at h
  split at h
  ·left;simp at h;exact ⟨rfl,h.symm⟩
  ·cases h
 ·rw [if_neg hij] at h;exact .inr ⟨fun e=>hij e.symm,h⟩
theorem qS5 {ms:List (Option Value)} {i j:Nat} {v:Value} (h:∃ u,ms[j]?=some (some u)):∃ u,(ms.set i (some v))[j]?=some (some u):=by
 obtain ⟨u,hu⟩:=h;by_cases hij:i=j
 ·subst hij;exact ⟨v,by rw [bQ3 (zA4.1 hu).1]⟩
 ·exact ⟨u,by rw [bW1 hij];exact hu⟩
theorem Inv.step {L:List Oper} {Φ : List Pd} {w0:World} {ms:List (Option Value)} {w w':World} {i:Nat} {o:Oper} {v:Value} (h:Inv L Φ w0 ms w) (hi:L[i]?=some o) (hm:ms[i]?=some none)
  (hdeps:∀ e∈o.after,Region.binds .any e=true -> ∃ v,ms[e.on]?=some (some v)) (hb:Below w.heap.size w w') (hv:(ph Φ i).p w' v) (ha:isA o=true -> ∃ g,v=.pointer (some ⟨g,0,none⟩)/\w.heap.size<=g/\g<w'.heap.size):Inv L Φ w0 (ms.set i (some v)) w' where
 len:=by rw [zB2];exact h.len
 bQ:=h.bQ.trans (hb.mono h.bQ.size)
 ty:=fun j u hu=>by
  rcases qB5 hu with ⟨rfl,rfl⟩|⟨_,h1⟩
  ·exact hv
  ·exact (ph Φ j).up (h.ty j u h1) hb
 dc:=fun j x u hx hu e he hbi=>by
  rcases qB5 hu with ⟨rfl,rfl⟩|⟨_,h1⟩
  ·obtain rfl:o=x:=by rw [hi] at hx;exact Option.some.inj hx
   exact qS5 (hdeps e he hbi)
  ·exact qS5 (h.dc j x u hx h1 e he hbi)
 sep:=by
  intro a b oa ob u x hab ha1 hb1 hA hB hu hx;rcases qB5 hu with ⟨rfl,rfl⟩|⟨_,h1⟩
  ·rcases qB5 hx with ⟨rfl,rfl⟩|⟨_,h2⟩
   ·exact absurd rfl hab
   ·obtain rfl:o=oa:=by rw [hi] at ha1;exact Option.some.inj ha1
    obtain ⟨g,rfl,hg,_⟩:=ha hA;obtain ⟨g',rfl,hg'⟩:=h.ptr _ _ _ hb1 hB h2;intro e;injection e with e;injection e with e;injection e with e _ _;omega
  ·rcases qB5 hx with ⟨rfl,rfl⟩|⟨_,h2⟩
   ·obtain rfl:o=ob:=by rw [hi] at hb1;exact Option.some.inj hb1
    obtain ⟨g,rfl,hg,_⟩:=ha hB;obtain ⟨g',rfl,hg'⟩:=h.ptr _ _ _ ha1 hA h1;intro e;injection e with e;injection e with e;injection e with e _ _;omega
   ·exact h.sep a b oa ob u x hab ha1 hb1 hA hB h1 h2
 ptr:=by
  intro j oj u hj hA hu;rcases qB5 hu with ⟨rfl,rfl⟩|⟨_,h1⟩
  ·obtain rfl:o=oj:=by rw [hi] at hj;exact Option.some.inj hj
   obtain ⟨g,e,_,hg⟩:=ha hA;exact ⟨g,e,hg⟩
  ·obtain ⟨g,e,hg⟩:=h.ptr j oj u hj hA h1;exact ⟨g,e,bY2 hg hb.size⟩
theorem yZ9 {P:Program} {Q:Exit->Act->World->Prop} {ops:Array Oper} {L L2:List Oper} {Φ : List Pd} {w0:World} {a0:Act} (hop:ops.toList=L ++ L2) (hd:zL7 L=true) (hback:zQ3 0 L=true) (hcov:(L2.all fun o=>zV8 L L.length o)=true)
    (ob:Obs P Q ops L Φ w0 a0 0 L)
    (done:∀ ms w,(∀ i,i<L.length -> ∃ v,ms[i]?=some (some v))->Inv L Φ w0 ms w->wpAny P .any ops Q L2.length (lst ms L2.length) (zD9 a0 L ms) w) :
    ∀ (k:Nat) (ms:List (Option Value)) (w:World),(ms.filter Option.isNone).length=k->Inv L Φ w0 ms w->wpAny P .any ops Q (k+L2.length) (lst ms L2.length) (zD9 a0 L ms) w:=by
  have hsz:ops.size=L.length+L2.length:=by
    have:=congrArg List.length hop
    simpa using this
  have hat:∀ i,ops[i]?=(L ++ L2)[i]?:=fun i=>by rw [<- hop,Array.getElem?_toList]
  intro k
  induction k with
  | zero =>
    intro ms w hk hI;rw [bY5];refine done ms w (fun i hi => ?_) hI;have hi2:i<ms.length:=by rw [hI.len];exact hi
    rcases hm:ms[i] with _ | v
    · exfalso;have h1:ms[i]∈ms.filter Option.isNone:=List.mem_filter.2 ⟨List.getElem_mem hi2,by rw [hm];rfl⟩;rw [List.length_eq_zero_iff.1 hk] at h1;simp at h1
    · exact ⟨v,by rw [zA3 hi2,hm]⟩
  | succ k ih =>
    intro ms w hk hI
    -- some operation of L has not come up
    have hnot:¬ ∀ i,i<L.length -> ∃ v,ms[i]?=some (some v):=by
      intro hall
      have h0:ms.filter Option.isNone=[]:=by
        rw [List.filter_eq_nil_iff];intro m hm;obtain ⟨i,hi,rfl⟩:=List.mem_iff_getElem.1 hm;obtain ⟨v,hv⟩:=hall i (by rw [<- hI.len];exact hi);rw [zA3 hi] at hv;rw [Option.some.inj hv];simp
      rw [h0] at hk;simp at hk
    -- the least one that has not may come up
    have least:∀ n i,i<=n->i<L.length->Region.ready .any ops (lst ms L2.length)=[] -> ∃ v,ms[i]?=some (some v):=by
      intro n
      induction n with
      | zero =>
        intro i hin hi hr;obtain rfl:i=0:=by omega
        have hi2:0<ms.length:=by rw [hI.len];exact hi
        rcases hm:ms[0] with _ | v
        · exfalso
          have:0∈Region.ready .any ops (lst ms L2.length):=by
            rw [mem_ready];refine ⟨by rw [zS8 hi2,hm];rfl,L[0],by rw [hat,zB0 hi,zA3 hi],?_⟩;intro e he hb
            have:=zY9 L 0 0 _ hback (zA3 hi) e he hb
            omega
          rw [hr] at this;simp at this
        · exact ⟨v,by rw [zA3 hi2,hm]⟩
      | succ n ihn =>
        intro i hin hi hr;have hi2:i<ms.length:=by rw [hI.len];exact hi
        rcases hm:ms[i] with _ | v
        · exfalso
          have:i∈Region.ready .any ops (lst ms L2.length):=by
            rw [mem_ready];refine ⟨by rw [zS8 hi2,hm];rfl,L[i],by rw [hat,zB0 hi,zA3 hi],?_⟩;intro e he hb;have h1:=zY9 L 0 i _ hback (zA3 hi) e he hb;have h3:e.on<ms.length:=by rw [hI.len];omega
            obtain ⟨v,hv⟩:=ihn e.on (by omega) (by omega) hr;rw [zS8 h3];rw [zA3 h3] at hv;rw [Option.some.inj hv];rfl
          rw [hr] at this;simp at this
        · exact ⟨v,by rw [zA3 hi2,hm]⟩
    rw [show k+1+L2.length=(k+L2.length)+1 from by omega];refine ⟨fun hr=>absurd (fun i hi=>least i i (zB3 _) hi hr) hnot,fun i hi => ?_⟩;obtain ⟨h1,o,ho,haft⟩:=mem_ready.1 hi
    have hdeps:∀ e∈o.after,Region.binds .any e=true -> ∃ v,ms[e.on]?=some (some v):=by
      intro e he hb;have h2:=haft e he hb;by_cases h3:e.on<ms.length
      · rw [zS8 h3] at h2;obtain ⟨v,hv⟩:=Option.isSome_iff_exists.1 h2;exact ⟨v,by rw [zA3 h3,hv]⟩
      · rw [yE (by omega)] at h2;cases h2
    by_cases hiL:i<L.length
    · have hi2:i<ms.length:=by rw [hI.len];exact hiL
      rw [zS8 hi2] at h1
      have hmi:ms[i]?=some none:=by
        rw [zA3 hi2];rcases hm:ms[i] with _ | v
        · rfl
        · rw [hm] at h1;cases h1
      have hoL:L[i]?=some o:=by rw [hat,zB0 hiL] at ho;exact ho
      have hob:=ob.at_ L 0 i o hoL;rw [bY5] at hob;have hst:=hob ms w ⟨hI.len,hI.bQ,hI.ty,hdeps⟩
      have hcount:∀ v:Value,((ms.set i (some v)).filter Option.isNone).length=k:=by
        intro v
        have key:∀ (l:List (Option Value)) (i:Nat),l[i]?=some none->((l.set i (some v)).filter Option.isNone).length+1=(l.filter Option.isNone).length:=by
          intro l
          induction l with
          | nil=>intro i h;simp at h
          | cons m l ihl =>
            intro i h
            cases i with
            | zero =>
              obtain rfl:m=none:=by simpa using h
              simp
            | succ i =>
              have:=ihl i (by simpa using h)
              rw [zA1,List.filter_cons,List.filter_cons]
              split
              · simp only [bX3];omega
              · exact this
        have:=key ms i hmi
        omega
      unfold wpOp;rw [ho];simp only [];by_cases hw:Region.wanted o (yielded ops (zD9 a0 L ms).tmps)=true
      · rw [if_pos hw] at hst |-;refine .inl (Oper.wp_mono ?_ hst);rintro a' w' ⟨v,rfl,hb,hv,ha⟩;rw [qF6 v hi2,zU4 v L ms a0 i o hd hoL hmi];exact ih _ w' (hcount v) (hI.step hoL hmi hdeps hb hv ha)
      · rw [if_neg hw] at hst |-;rw [qF6 undef hi2,zU4 undef L ms a0 i o hd hoL hmi];exact ih _ w (hcount undef) (hI.step hoL hmi hdeps (Below.refl _ _) hst.1 (fun h=>by rw [hst.2] at h;cases h))
    · exfalso
      have ho2:o∈L2:=by
        rw [hat,bW0 (by omega)] at ho;exact zA5 ho
      have hc:=List.all_eq_true.1 hcov o ho2;exact hnot (yD9 hI.len hc hdeps hI.dc)
def zV9 (K:Act->World->Prop) (Φ : List Pd) (w:World):Nat->List Oper->List Value->Act->Prop
  | _,[],_,a => ∀ b,a=b->K b w
  | i, o :: os, ps, a => ∀ v, (ph Φ i).p w v -> match isA o with
    | true=>(∀ u∈ps,u≠v)->zV9 K Φ w (i+1) os (v :: ps) (a.put o.dst v)
    | false=>zV9 K Φ w (i+1) os ps (a.put o.dst v)
theorem qF7 {K:Act->World->Prop} {L:List Oper} {Φ : List Pd} {w0 w:World} {ms:List (Option Value)} (hI:Inv L Φ w0 ms w) (hall:∀ i,i<L.length -> ∃ v,ms[i]?=some (some v)) :
    ∀ (M:List Oper) (k:Nat) (a:Act) (ps:List Value),L.drop k=M->k<=L.length->(∀ u∈ps,∃ j oj,j<k/\L[j]?=some oj/\isA oj=true/\ms[j]?=some (some u))->zV9 K Φ w k M ps a->K (zD9 a M (ms.drop k)) w
  | [], k, a, ps, hM, hk, hps, h => by
    have e:zD9 a [] (ms.drop k)=a:=by cases ms.drop k<;>rfl
    rw [e];exact h a rfl
  | o :: M, k, a, ps, hM, hk, hps, h => by
    have hk2:k<L.length:=by
      rcases Nat.lt_or_ge k L.length with h1 | h1
      · exact h1
      · rw [List.drop_of_length_le h1] at hM;cases hM
    have e1:L.drop k=L[k] :: L.drop (k+1):=(List.getElem_cons_drop hk2).symm;rw [hM] at e1;injection e1 with e2 e3;obtain ⟨v,hv⟩:=hall k hk2;have hk3:k<ms.length:=(zA4.1 hv).1
    have e4:ms.drop k=some v :: ms.drop (k+1):=by
      rw [<- List.getElem_cons_drop hk3,(zA4.1 hv).2]
    rw [e4];have hL:L[k]?=some o:=by rw [zA3 hk2,e2]
    show K (zD9 (a.put o.dst v) M (ms.drop (k+1))) w
    have hd:=h v (hI.ty k v hv)
    cases ha:isA o with
    | true =>
      rw [ha] at hd;refine qF7 hI hall M (k+1) _ (v :: ps) e3.symm (by omega) ?_ (hd fun u hu => ?_)
      · intro u hu;rcases List.mem_cons.1 hu with rfl|hu
        · exact ⟨k,o,by omega,hL,ha,hv⟩
        · obtain ⟨j,oj,hj,h1⟩:=hps u hu;exact ⟨j,oj,by omega,h1⟩
      · obtain ⟨j,oj,hj,h1,h2,h3⟩:=hps u hu;exact hI.sep j k oj o u v (by omega) h1 hL h2 ha h3 hv
    | false =>
      rw [ha] at hd;refine qF7 hI hall M (k+1) _ ps e3.symm (by omega) (fun u hu => ?_) hd;obtain ⟨j,oj,hj,h1⟩:=hps u hu;exact ⟨j,oj,by omega,h1⟩
theorem qL2 (a:Act):∀ (L:List Oper),zD9 a L (zB L.length none)=a
 | []=>rfl
 | o :: os=>qL2 a os
theorem yE0 (n m:Nat):lst (zB n none) m=Array.replicate (n+m) false:=by
 unfold lst;rw [List.map_replicate];show (zB n false ++ zB m false).toArray=_
 rw [List.replicate_append_replicate,List.toArray_replicate]
theorem yE1 {ms:List (Option Value)} {n:Nat} (m:Nat) (hn:ms.length=n) (hall:∀ i,i<n -> ∃ v,ms[i]?=some (some v)):lst ms m=(zB n true ++ zB m false).toArray:=by
 unfold lst
 congr 2
 refine List.ext_getElem (by simp [hn]) fun i h1 h2 => ?_;obtain ⟨v,hv⟩:=hall i (by simpa using h2);have h3:i<ms.length:=by simpa using h1
 rw [zA3 h3] at hv;simp [Option.some.inj hv]
theorem jA {P:Program} {Q:Exit->Act->World->Prop} {ops:Array Oper} (n:Nat) (Φ : List Pd) {w:World} {a0:Act}
  (h1:zL7 (ops.toList.take n)=true) (h2:zQ3 0 (ops.toList.take n)=true) (h3:((ops.toList.drop n).all fun o=>zV8 (ops.toList.take n) (ops.toList.take n).length o)=true)
  (ob:Obs P Q ops (ops.toList.take n) Φ w a0 0 (ops.toList.take n))
  (done:∀ w',Below w.heap.size w w'->zV9 (fun a w'=>wpAny P .any ops Q (ops.toList.drop n).length (zB (ops.toList.take n).length true ++ zB (ops.toList.drop n).length false).toArray a w') Φ w' 0 (ops.toList.take n) [] a0):wpAny P .any ops Q ops.size (Array.replicate ops.size false) a0 w:=by
 have hop:ops.toList=ops.toList.take n ++ ops.toList.drop n:=(bX n _).symm
 generalize ops.toList.take n=L at *
 generalize ops.toList.drop n=L2 at *
 have hsz:ops.size=L.length+L2.length:=by
  have:=congrArg List.length hop
  simpa using this
 have none_:∀ (i:Nat) (v:Value),¬ (zB L.length (none:Option Value))[i]?=some (some v):=by
  intro i v h;rw [List.getElem?_replicate] at h
  split at h<;>cases h
 have hI0:Inv L Φ w (zB L.length none) w:=⟨by simp,Below.refl _ _,fun i v h=>absurd h (none_ i v),fun j x v _ h=>absurd h (none_ j v),fun i j oi oj u v _ _ _ _ _ h _=>absurd h (none_ i u),fun i oi u _ _ h=>absurd h (none_ i u)⟩
 have hmain:=yZ9 (P:=P) (Q:=Q) (ops:=ops) (L:=L) (L2:=L2) (Φ:=Φ) (w0:=w) (a0:=a0) hop h1 h2 h3 ob (fun ms w' hall hI=>by
  rw [yE1 L2.length hI.len hall]
  have:=qF7 (K:=fun a w'=>wpAny P .any ops Q L2.length (zB L.length true ++ zB L2.length false).toArray a w') hI hall L 0 a0 [] (by simp) (by omega) (by simp) (done w' hI.bQ)
  simpa using this) L.length (zB L.length none) w (by simp) hI0
 rw [qL2,yE0,<- hsz] at hmain;exact hmain
theorem flow {P:Program} {Q:Exit->Act->World->Prop} {id:Nat} {ops:Array Oper} (n:Nat) (Φ : List Pd) {w:World} {a0:Act} (hm:P.follows .mixedOrders=true)
  (hB:(zL7 (ops.toList.take n) && zQ3 0 (ops.toList.take n) && (ops.toList.drop n).all (fun o=>zV8 (ops.toList.take n) (ops.toList.take n).length o))=true)
  (ob:Obs P Q ops (ops.toList.take n) Φ w.drew a0 0 (ops.toList.take n))
  (done:∀ w',Below w.heap.size w w'->zV9 (fun a w'=>wpAny P .any ops Q (ops.toList.drop n).length (zB (ops.toList.take n).length true ++ zB (ops.toList.drop n).length false).toArray a w') Φ w' 0 (ops.toList.take n) [] a0):(Code.region id ops true).wp P Q a0 w:=by
 simp only [Bool.and_eq_true] at hB;obtain ⟨⟨h1,h2⟩,h3⟩:=hB;exact wp_region_any hm (jA n Φ (w:=w.drew) h1 h2 h3 ob fun w' hb=>done w' ((Below.refl _ w).drew.trans hb))
theorem yE2 {P:Program} {Q:Exit->Act->World->Prop} {ops:Array Oper} {L L2:List Oper} {Φ : List Pd} {w0:World} {a0:Act} {rest:List Nat} (hop:ops.toList=L ++ L2) (hd:zL7 L=true) (hback:zQ3 0 L=true)
    (ob:Obs P Q ops L Φ w0 a0 0 L) (done:∀ ms w,(∀ i,i<L.length -> ∃ v,ms[i]?=some (some v))->Inv L Φ w0 ms w->wpOps P ops Q rest (zD9 a0 L ms) w) :
    ∀ (k i:Nat) (ms:List (Option Value)) (w:World),i+k=L.length->(∀ j,j<i -> ∃ v,ms[j]?=some (some v))->(∀ j,i<=j->j<L.length->ms[j]?=some none)->Inv L Φ w0 ms w->wpOps P ops Q (List.range' i k ++ rest) (zD9 a0 L ms) w
  | 0,i,ms,w,hk,h1,_,hI=>done ms w (fun j hj=>h1 j (by omega)) hI
  | k + 1, i, ms, w, hk, h1, h2, hI => by
    have hiL:i<L.length:=by omega
    have hat:ops[i]?=some L[i]:=by
      rw [<- Array.getElem?_toList,hop,zB0 hiL,zA3 hiL]
    have hoL:L[i]?=some L[i]:=zA3 hiL
    have hdeps:∀ e∈L[i].after,Region.binds .any e=true -> ∃ v,ms[e.on]?=some (some v):=fun e he hb=>by
      have:=zY9 L 0 i _ hback hoL e he hb
      exact h1 e.on (by omega)
    have hob:=ob.at_ L 0 i _ hoL;rw [bY5] at hob;have hst:=hob ms w ⟨hI.len,hI.bQ,hI.ty,hdeps⟩;have hmi:=h2 i (zB3 _) hiL
    have next:∀ v w',Inv L Φ w0 (ms.set i (some v)) w'->wpOps P ops Q (List.range' (i+1) k ++ rest) (zD9 a0 L (ms.set i (some v))) w':=fun v w' hI' =>
      yE2 hop hd hback ob done k (i+1) _ w' (by omega) (fun j hj=>by
        by_cases hji:j=i
        · subst hji;exact ⟨v,by rw [bQ3 (by rw [hI.len];exact hiL)]⟩
        · exact qS5 (h1 j (by omega))) (fun j hj hj2=>by rw [bW1 (by omega)];exact h2 j (by omega) hj2) hI'
    show wpOps P ops Q (i :: (List.range' (i+1) k ++ rest)) (zD9 a0 L ms) w
    rw [wpOps_cons];unfold wpOp;rw [hat];simp only [];by_cases hw:Region.wanted L[i] (yielded ops (zD9 a0 L ms).tmps)=true
    · rw [if_pos hw] at hst |-;refine .inl (Oper.wp_mono ?_ hst);rintro a' w' ⟨v,rfl,hb,hv,ha⟩;rw [zU4 v L ms a0 i _ hd hoL hmi];exact next v w' (hI.step hoL hmi hdeps hb hv ha)
    · rw [if_neg hw] at hst |-;rw [zU4 undef L ms a0 i _ hd hoL hmi];exact next undef w (hI.step hoL hmi hdeps (Below.refl _ _) hst.1 (fun h=>by rw [hst.2] at h;cases h))
theorem zC6 {P:Program} {Q:Exit->Act->World->Prop} {id:Nat} {ops:Array Oper} (n:Nat) (Φ : List Pd) {w:World} {a0:Act}
  (hB:(zL7 (ops.toList.take n) && zQ3 0 (ops.toList.take n))=true)
  (ob:Obs P Q ops (ops.toList.take n) Φ w a0 0 (ops.toList.take n))
  (done:∀ w',Below w.heap.size w w'->zV9 (fun a w'=>wpOps P ops Q (List.range' (ops.toList.take n).length (ops.toList.drop n).length) a w') Φ w' 0 (ops.toList.take n) [] a0):(Code.region id ops false).wp P Q a0 w:=by
 simp only [Bool.and_eq_true] at hB;obtain ⟨h1,h2⟩:=hB;refine wp_region ?_;have hop:ops.toList=ops.toList.take n ++ ops.toList.drop n:=(bX n _).symm
 generalize ops.toList.take n=L at *
 generalize ops.toList.drop n=L2 at *
 have hsz:ops.size=L.length+L2.length:=by
  have:=congrArg List.length hop
  simpa using this
 have none_:∀ (i:Nat) (v:Value),¬ (zB L.length (none:Option Value))[i]?=some (some v):=by
  intro i v h;rw [List.getElem?_replicate] at h
  split at h<;>cases h
 have hI0:Inv L Φ w (zB L.length none) w:=⟨by simp,Below.refl _ _,fun i v h=>absurd h (none_ i v),fun j x v _ h=>absurd h (none_ j v),fun i j oi oj u v _ _ _ _ _ h _=>absurd h (none_ i u),fun i oi u _ _ h=>absurd h (none_ i u)⟩
 have hmain:=yE2 (P:=P) (Q:=Q) (ops:=ops) (L:=L) (L2:=L2) (Φ:=Φ) (w0:=w) (a0:=a0) (rest:=List.range' L.length L2.length) hop h1 h2 ob (fun ms w' hall hI=>by
  have:=qF7 (K:=fun a w'=>wpOps P ops Q (List.range' L.length L2.length) a w') hI hall L 0 a0 [] (by simp) (by omega) (by simp) (done w' hI.bQ)
  simpa using this) L.length 0 (zB L.length none) w (by simp) (fun j hj=>absurd hj (by omega)) (fun j _ hj=>by rw [List.getElem?_replicate,if_pos hj]) hI0
 rw [qL2] at hmain;rw [hsz,List.range_eq_range',<- List.range'_append_1];simpa using hmain
section
variable {P:Program} {Q:Exit->Act->World->Prop} {ops:Array Oper} {L:List Oper} {Φ : List Pd} {w0:World} {a0:Act} {i:Nat} {o:Oper}
def Ev (L:List Oper) (Φ : List Pd) (w0:World) (a0:Act) (o:Oper) (x:Operand) (F:World->Value->Prop):Prop:=∀ ms w,St L Φ w0 o ms w->F w ((zD9 a0 L ms).eval x)
theorem zG2 (v:Value):Ev L Φ w0 a0 o (.const v) (fun _ u=>u=v):=fun _ _ _=>rfl
theorem zB7 {t:Nat} {v:Value} (h:(L.all fun x=>x.dst != some t)=true) (ha:a0.tmps[t]?=some v):Ev L Φ w0 a0 o (.tmp t) (fun _ u=>u=v):=by
 intro ms w _;show (zD9 a0 L ms).tmps.getD t undef=v
 rw [Array.getD_eq_getD_getElem?,qL1 L ms a0 (fun x hx=>by have:=List.all_eq_true.1 h x hx;simpa using this),ha];rfl
theorem yE3 {ms:List (Option Value)} {w:World} (h:St L Φ w0 o ms w) {j t:Nat} {oj:Oper} (hB:((zR5 o).contains j && decide (t<a0.tmps.size) && zL7 L)=true) (hj:L[j]?=some oj) (hd:oj.dst=some t):∃ v,(zD9 a0 L ms).tmps[t]?=some v/\(ph Φ j).p w v:=by
 simp only [Bool.and_eq_true] at hB;obtain ⟨⟨h1,h2⟩,h3⟩:=hB;obtain ⟨e,he,hb,rfl⟩:=zY8.1 (by simpa using h1);obtain ⟨v,hv⟩:=h.deps e he hb;exact ⟨v,qS4 L ms a0 _ _ h3 hj hd hv (by simpa using h2),h.ty _ v hv⟩
theorem zB6 {j t:Nat} {oj:Oper} (hB:((zR5 o).contains j && decide (t<a0.tmps.size) && zL7 L)=true) (hj:L[j]?=some oj) (hd:oj.dst=some t):Ev L Φ w0 a0 o (.tmp t) (ph Φ j).p:=by
 intro ms w h;obtain ⟨v,h1,h2⟩:=yE3 h hB hj hd
 have e:(zD9 a0 L ms).eval (.tmp t)=v:=by
  show (zD9 a0 L ms).tmps.getD t undef=v
  rw [Array.getD_eq_getD_getElem?,h1];rfl
 rw [e];exact h2
def Wt (ops:Array Oper) (L:List Oper) (Φ : List Pd) (w0:World) (a0:Act) (o:Oper) (b:Bool):Prop:=∀ ms w,St L Φ w0 o ms w->Region.wanted o (yielded ops (zD9 a0 L ms).tmps)=b
theorem zB5 (h:o.guard=none):Wt ops L Φ w0 a0 o true:=fun ms w _=>by unfold Region.wanted;rw [h]
theorem zE3 {g t:Nat} {b c:Bool} {og:Oper} (h:o.guard=some (g,b)) (hB:((zR5 o).contains g && decide (t<a0.tmps.size) && zL7 L)=true) (hg:L[g]?=some og) (hg2:ops[g]?=some og) (hd:og.dst=some t) (hF:∀ w v,(ph Φ g).p w v->v=.bool c):Wt ops L Φ w0 a0 o (c == b):=by
 intro ms w hS;obtain ⟨v,h1,h2⟩:=yE3 hS hB hg hd;obtain rfl:=hF w v h2;unfold Region.wanted;rw [h];simp only [yielded,hg2,Option.bind_some,hd,h1];cases b<;>cases c<;>rfl
theorem zK2 (hw:Wt ops L Φ w0 a0 o false) (hu:∀ w,(ph Φ i).p w undef) (ha:isA o=false):Ob P Q ops L Φ w0 a0 i o:=by
 intro ms w hS;rw [if_neg (by rw [hw ms w hS];simp)];exact ⟨hu w,ha⟩
theorem zO5 (hw:Wt ops L Φ w0 a0 o true) (ha:isA o=false) (h:∀ ms w,St L Φ w0 o ms w -> ∃ v,(execOp (zD9 a0 L ms).eval o).run P w=.ok (.value v) w/\(ph Φ i).p w v):Ob P Q ops L Φ w0 a0 i o:=by
 intro ms w hS;rw [if_pos (hw ms w hS)];obtain ⟨v,h1,h2⟩:=h ms w hS;unfold Oper.wp;rw [h1];exact ⟨v,rfl,Below.refl _ _,h2,fun h=>by rw [ha] at h;cases h⟩
theorem zC0 {x:Operand} {F:World->Value->Prop} (hop:o.op=.move x) (hw:Wt ops L Φ w0 a0 o true) (hx:Ev L Φ w0 a0 o x F) (hF:∀ w v,F w v->(ph Φ i).p w v):Ob P Q ops L Φ w0 a0 i o :=
 zO5 hw (by unfold isA;rw [hop]) fun ms w hS=>⟨_,by unfold execOp;simp only [hop];rfl,hF w _ (hx ms w hS)⟩
theorem zE0 {x:Operand} {F:World->Value->Prop} (hop:o.op=.assign x) (hw:Wt ops L Φ w0 a0 o true) (hx:Ev L Φ w0 a0 o x F) (hF:∀ w v,F w v->(ph Φ i).p w v):Ob P Q ops L Φ w0 a0 i o :=
 zO5 hw (by unfold isA;rw [hop]) fun ms w hS=>⟨_,by unfold execOp;simp only [hop];rfl,hF w _ (hx ms w hS)⟩
theorem zO6 {c x y:Operand} {b:Bool} {F:World->Value->Prop} (hop:o.op=.pick c x y) (hw:Wt ops L Φ w0 a0 o true) (hc:Ev L Φ w0 a0 o c (fun _ u=>u=.bool b)) (hx:Ev L Φ w0 a0 o (if b=true then x else y) F) (hF:∀ w v,F w v->(ph Φ i).p w v):Ob P Q ops L Φ w0 a0 i o :=
 zO5 hw (by unfold isA;rw [hop]) fun ms w hS=>⟨(zD9 a0 L ms).eval (if b=true then x else y),by
  unfold execOp;simp only [hop];rw [hc ms w hS];cases b<;>rfl,hF w _ (hx ms w hS)⟩
theorem zC4 {s:TypeId} {x:Operand} {k:Nat} {u v:Value} (hop:o.op=.fieldAddr s x k) (hw:Wt ops L Φ w0 a0 o true) (hx:Ev L Φ w0 a0 o x (fun _ y=>y=u)) (hr:∀ w,(Instr.fieldAt s u k).run P w=.ok v w) (hF:∀ w,(ph Φ i).p w v):Ob P Q ops L Φ w0 a0 i o :=
 zO5 hw (by unfold isA;rw [hop]) fun ms w hS=>⟨v,by unfold execOp;simp only [hop];rw [hx ms w hS,Sem.run_bind,hr];rfl,hF w⟩
theorem zC1 {t:TypeId} {x:Operand} {u v:Value} (hop:o.op=.load t x) (hw:Wt ops L Φ w0 a0 o true) (hx:Ev L Φ w0 a0 o x (fun _ y=>y=u)) (hr:∀ w,Below w0.heap.size w0 w->(Instr.loadAt t u).run P w=.ok v w) (hF:∀ w,Below w0.heap.size w0 w->(ph Φ i).p w v):Ob P Q ops L Φ w0 a0 i o :=
 zO5 hw (by unfold isA;rw [hop]) fun ms w hS=>⟨v,by unfold execOp;simp only [hop];rw [hx ms w hS,Sem.run_bind,hr w hS.bQ];rfl,hF w hS.bQ⟩
theorem zG3 {op:BinOp} {t t':TypeId} {x y:Operand} {F G:World->Value->Prop} (hop:o.op=.binOp op t x y t') (hw:Wt ops L Φ w0 a0 o true) (hx:Ev L Φ w0 a0 o x F) (hy:Ev L Φ w0 a0 o y G)
  (hr:∀ w u u',F w u->G w u' -> ∃ v,(do eqGuard op t x y u u';binOp op t u u').run P w=.ok v w/\(ph Φ i).p w v):Ob P Q ops L Φ w0 a0 i o :=
 zO5 hw (by unfold isA;rw [hop]) fun ms w hS=>by
  obtain ⟨v,h1,h2⟩:=hr w _ _ (hx ms w hS) (hy ms w hS);exact ⟨v,by unfold execOp;simp only [hop];rw [Sem.run_bind,h1];rfl,h2⟩
theorem zU5 {op:UnOp} {t:TypeId} {x:Operand} {u v:Value} (hop:o.op=.unOp op t x) (hw:Wt ops L Φ w0 a0 o true) (hx:Ev L Φ w0 a0 o x (fun _ y=>y=u)) (hr:∀ w,(Op.unary op u).run P w=.ok v w) (hF:∀ w,(ph Φ i).p w v):Ob P Q ops L Φ w0 a0 i o :=
 zO5 hw (by unfold isA;rw [hop]) fun ms w hS=>⟨v,by unfold execOp;simp only [hop];rw [hx ms w hS,Sem.run_bind,hr];rfl,hF w⟩
theorem zF9 {x:Operand} {k:Nat} {F:World->Value->Prop} (hop:o.op=.extract x k) (hw:Wt ops L Φ w0 a0 o true) (hx:Ev L Φ w0 a0 o x F) (hr:∀ w u,F w u -> ∃ v,(Instr.extract u k).run P w=.ok v w/\(ph Φ i).p w v):Ob P Q ops L Φ w0 a0 i o :=
 zO5 hw (by unfold isA;rw [hop]) fun ms w hS=>by
  obtain ⟨v,h1,h2⟩:=hr w _ (hx ms w hS);exact ⟨v,by unfold execOp;simp only [hop];rw [Sem.run_bind,h1];rfl,h2⟩
theorem zK7 {x:Operand} {at_:Array TypeId} {F:World->Value->Prop} (hop:o.op=.call { callee:=.builtin .len,args:=#[x],argTypes:=at_ }) (hw:Wt ops L Φ w0 a0 o true) (hx:Ev L Φ w0 a0 o x F) (hr:∀ w u,F w u -> ∃ v,(Builtin.len_ at_ o.type #[u]).run P w=.ok v w/\(ph Φ i).p w v):Ob P Q ops L Φ w0 a0 i o :=
 zO5 hw (by unfold isA;rw [hop]) fun ms w hS=>by
  obtain ⟨v,h1,h2⟩:=hr w _ (hx ms w hS);exact ⟨v,by unfold execOp;simp only [hop,resolve,invoke,builtin,Sem.run_bind,Sem.run_pure,Result.andThen_ok,bX7,List.map_cons,List.map_nil,h1],h2⟩
theorem jA0 {t:TypeId} {k l:Nat} {x y:Operand} {F G:World->Value->Prop} (hop:o.op=.build t #[(k,x),(l,y)]) (hw:Wt ops L Φ w0 a0 o true) (hx:Ev L Φ w0 a0 o x F) (hy:Ev L Φ w0 a0 o y G)
  (hr:∀ w u u',F w u->G w u' -> ∃ v,(Instr.build t #[(k,u),(l,u')]).run P w=.ok v w/\(ph Φ i).p w v):Ob P Q ops L Φ w0 a0 i o :=
 zO5 hw (by unfold isA;rw [hop]) fun ms w hS=>by
  obtain ⟨v,h1,h2⟩:=hr w _ _ (hx ms w hS) (hy ms w hS);exact ⟨v,by unfold execOp;simp only [hop,Sem.run_bind,bX7,List.map_cons,List.map_nil,h1];rfl,h2⟩
def zI2 (F:Pd) (w:World) (e:Ending) (w':World):Prop:=∃ v,e=.returned v/\F.p w' v/\Below w.heap.size w w'
theorem jA1 {f : FuncId} {fn : Func} (hf : P.funcs[f]? = some fn) (hB : (!(fn.name == "runtime.NumGoroutine") && fn.body.isSome) = true) (args : Array Value) (w : World) : (callFunc f args).run P w = .ok (.enter f args) w := by
 simp only [Bool.and_eq_true,Bool.not_eq_true'] at hB
 have h1 : fn.name ≠ "runtime.NumGoroutine" := by simpa using hB.1
 obtain ⟨c,hc⟩:=Option.isSome_iff_exists.1 hB.2;simp [callFunc,hf,h1,hc]
theorem qL3 {f : FuncId} {fn : Func} (hf : P.funcs[f]? = some fn) (hB : (!(fn.name == "runtime.NumGoroutine") && fn.body.isSome) = true) (hw : Wt ops L Φ w0 a0 o true) (ha : isA o = false)
  (h:∀ ms w,St L Φ w0 o ms w -> ∃ args,(execOp (zD9 a0 L ms).eval o).run P w=(callFunc f args).run P w/\Calls P f args w (zI2 (ph Φ i) w)):Ob P Q ops L Φ w0 a0 i o:=by
 intro ms w hS;rw [if_pos (hw ms w hS)];obtain ⟨args,h1,h2⟩:=h ms w hS;unfold Oper.wp;rw [h1,jA1 hf hB,Oper.upon_enter];refine h2.mono fun e w' ⟨v,he,hv,hb⟩ => ?_;subst he;exact ⟨v,rfl,hb,hv,fun h=>by rw [ha] at h;cases h⟩
theorem qS6 {ρ : Operand->Value} {f:FuncId} {xs:Array Operand} {at_:Array TypeId} {w:World} (hop:o.op=.call { callee:=.value (.func f),args:=xs,argTypes:=at_ }) (hρ : ρ (.func f)=.func (.func f) #[] #[]) {args:Array Value} (ha:xs.map ρ = args):(execOp ρ o).run P w=(callFunc f args).run P w:=by
 subst ha;unfold execOp;simp [hop,resolve,hρ,Deferred.ofValue,invoke]
theorem zE8 {f : FuncId} {fn : Func} {x : Operand} {at_ : Array TypeId} {F : World -> Value -> Prop} (hop : o.op = .call { callee := .value (.func f), args := #[x], argTypes := at_ }) (hf : P.funcs[f]? = some fn) (hB : (!(fn.name == "runtime.NumGoroutine") && fn.body.isSome) = true) (hw : Wt ops L Φ w0 a0 o true)
  (hx:Ev L Φ w0 a0 o x F) (hc:∀ w u,Below w0.heap.size w0 w->F w u->Calls P f #[u] w (zI2 (ph Φ i) w)):Ob P Q ops L Φ w0 a0 i o :=
 qL3 hf hB hw (by unfold isA;rw [hop]) fun ms w hS=>⟨#[(zD9 a0 L ms).eval x],qS6 hop rfl (by simp),hc w _ hS.bQ (hx ms w hS)⟩
theorem zD8 {f : FuncId} {fn : Func} {x y : Operand} {at_ : Array TypeId} {F G : World -> Value -> Prop} (hop : o.op = .call { callee := .value (.func f), args := #[x, y], argTypes := at_ }) (hf : P.funcs[f]? = some fn) (hB : (!(fn.name == "runtime.NumGoroutine") && fn.body.isSome) = true) (hw : Wt ops L Φ w0 a0 o true)
  (hx:Ev L Φ w0 a0 o x F) (hy:Ev L Φ w0 a0 o y G) (hc:∀ w u v,Below w0.heap.size w0 w->F w u->G w v->Calls P f #[u,v] w (zI2 (ph Φ i) w)):Ob P Q ops L Φ w0 a0 i o :=
 qL3 hf hB hw (by unfold isA;rw [hop]) fun ms w hS=>⟨#[(zD9 a0 L ms).eval x,(zD9 a0 L ms).eval y],qS6 hop rfl (by simp),hc w _ _ hS.bQ (hx ms w hS) (hy ms w hS)⟩
theorem yE4 {f : FuncId} {fn : Func} {x y z : Operand} {at_ : Array TypeId} {F G H : World -> Value -> Prop} (hop : o.op = .call { callee := .value (.func f), args := #[x, y, z], argTypes := at_ }) (hf : P.funcs[f]? = some fn) (hB : (!(fn.name == "runtime.NumGoroutine") && fn.body.isSome) = true) (hw : Wt ops L Φ w0 a0 o true)
  (hx:Ev L Φ w0 a0 o x F) (hy:Ev L Φ w0 a0 o y G) (hz:Ev L Φ w0 a0 o z H) (hc:∀ w u v t,Below w0.heap.size w0 w->F w u->G w v->H w t->Calls P f #[u,v,t] w (zI2 (ph Φ i) w)):Ob P Q ops L Φ w0 a0 i o :=
 qL3 hf hB hw (by unfold isA;rw [hop]) fun ms w hS=>⟨#[(zD9 a0 L ms).eval x,(zD9 a0 L ms).eval y,(zD9 a0 L ms).eval z],qS6 hop rfl (by simp),hc w _ _ _ hS.bQ (hx ms w hS) (hy ms w hS) (hz ms w hS)⟩
theorem zM9 {t:TypeId} {z:Value} (hop:o.op=.alloc t) (hg:o.guard=none) (hz:∀ w,(zeroValue t).run P w=.ok z w) (hF:∀ w g,w0.heap.size<=g->w.heap[g]?=some (.cells z.cells t (0,0))->(ph Φ i).p w (.pointer (some ⟨g,0,none⟩))):Ob P Q ops L Φ w0 a0 i o:=by
 intro ms w hS;rw [if_pos (zB5 (ops:=ops) (L:=L) (Φ:=Φ) (w0:=w0) (a0:=a0) hg ms w hS)]
 have hr:(execOp (zD9 a0 L ms).eval o).run P w=.ok (.value (.pointer (some ⟨w.heap.size,0,none⟩))) (w.alloc (.cells z.cells t)):=by
  unfold execOp;simp [hop,Instr.alloc,Sem.run_bind,hz,newVar,newRow,go_sem]
 unfold Oper.wp;rw [hr];exact ⟨_,rfl,zC9 (zB3 _) _,hF _ _ hS.bQ.size (heap_alloc_new w _),fun _=>⟨_,rfl,zB3 _,by simp⟩⟩
theorem zD {t:TypeId} {A:Addr} {v:Value} {d:TypeDesc} (hu:P.underlying t=some d) (hd:d.isRow=false) {w:World} (hc:w.cell? A=some v):(Instr.loadAt t (.pointer (some A))).run P w=.ok v w:=by
 have hagg:(isAgg t).run P w=.ok false w:=by
  unfold isAgg;rw [Sem.run_bind,run_underlying hu w];cases d<;>simp_all
 simp [Instr.loadAt,Instr.sureAddr,loadVar,Sem.run_bind,hagg,go_sem,hc]
theorem zF6 {t:TypeId} {g:Nat} {cs:List Value} {e:TypeId} {d:TypeDesc} {w:World} (hu:P.underlying t=some d) (hd:d.isRow=true) (hi:(P.info? t).map (·.size)=some cs.length) (hB:w.heap[g]?=some (.cells cs.toArray e (0,0))):(Instr.loadAt t (.pointer (some ⟨g,0,none⟩))).run P w=.ok (.agg cs.toArray) w :=
 run_loadAt_mid w g 0 t cs d (fun j v hj=>by rw [bY5,cell_of_row w g j cs.toArray e (0,0) hB];simpa using hj) hu hd hi
theorem qS7 {t:TypeId} (x y:Operand) (a b:Bool) (hu:P.underlying t=some .bool) (w:World):(do eqGuard .neq t x y (.bool a) (.bool b);binOp .neq t (.bool a) (.bool b)).run P w=.ok (.bool (!(a == b))) w:=by
 have h:(eqGuard .neq t x y (.bool a) (.bool b)).run P w=.ok () w:=by simp [eqGuard]
 rw [Sem.run_bind,h,Result.andThen_ok,run_neq_bool _ t a b hu]
theorem zZ {t:TypeId} (x y:Operand) (a b:Bool) (hu:P.underlying t=some .bool) (w:World):(do eqGuard .eql t x y (.bool a) (.bool b);binOp .eql t (.bool a) (.bool b)).run P w=.ok (.bool (a == b)) w:=by
 have h:(eqGuard .eql t x y (.bool a) (.bool b)).run P w=.ok () w:=by simp [eqGuard]
 rw [Sem.run_bind,h,Result.andThen_ok,run_eql_bool _ t a b hu]
theorem zQ4 {t:TypeId} {k:IntKind} (x y:Operand) (a b:Int) (w:World):(do eqGuard .eql t x y (.int k a) (.int k b);binOp .eql t (.int k a) (.int k b)).run P w=.ok (.bool (a == b)) w:=by
 have h:(eqGuard .eql t x y (.int k a) (.int k b)).run P w=.ok () w:=by simp [eqGuard]
 rw [Sem.run_bind,h,Result.andThen_ok];simp [binOp,Op.intCmp,go_sem]
theorem zZ0 {t:TypeId} {k:IntKind} (x y:Operand) (a b:Int) (w:World):(do eqGuard .neq t x y (.int k a) (.int k b);binOp .neq t (.int k a) (.int k b)).run P w=.ok (.bool (a != b)) w:=by
 have h:(eqGuard .neq t x y (.int k a) (.int k b)).run P w=.ok () w:=by simp [eqGuard]
 rw [Sem.run_bind,h,Result.andThen_ok];simp [binOp,Op.intCmp,go_sem]
theorem yE5 {t:TypeId} {k:IntKind} (x y:Operand) (a b:Int) (w:World):(do eqGuard .lss t x y (.int k a) (.int k b);binOp .lss t (.int k a) (.int k b)).run P w=.ok (.bool (decide (a<b))) w:=by
 have h:(eqGuard .lss t x y (.int k a) (.int k b)).run P w=.ok () w:=by simp [eqGuard]
 rw [Sem.run_bind,h,Result.andThen_ok];simp [binOp,Op.intCmp,go_sem]
theorem yE6 {t:TypeId} {k:IntKind} (x y:Operand) (a b:Int) (w:World):(do eqGuard .gtr t x y (.int k a) (.int k b);binOp .gtr t (.int k a) (.int k b)).run P w=.ok (.bool (decide (b<a))) w:=by
 have h:(eqGuard .gtr t x y (.int k a) (.int k b)).run P w=.ok () w:=by simp [eqGuard]
 rw [Sem.run_bind,h,Result.andThen_ok];simp [binOp,Op.intCmp,go_sem]
theorem jA2 {t:TypeId} {k:IntKind} (x y:Operand) (a b:Int) (w:World):(do eqGuard .geq t x y (.int k a) (.int k b);binOp .geq t (.int k a) (.int k b)).run P w=.ok (.bool (decide (b<=a))) w:=by
 have h:(eqGuard .geq t x y (.int k a) (.int k b)).run P w=.ok () w:=by simp [eqGuard]
 rw [Sem.run_bind,h,Result.andThen_ok];simp [binOp,Op.intCmp,go_sem]
theorem zW (b:Bool) (w:World):(Op.unary .not (.bool b)).run P w=.ok (.bool (!b)) w:=by simp [Op.unary]
theorem un_neg (a:Int) (w:World) (h : -9223372036854775807<=a/\a<=9223372036854775807):(Op.unary .neg (.int .i64 a)).run P w=.ok (.int .i64 (-a)) w:=by
 have e:IntKind.i64.wrap (0-a) = -a:=by rw [IntKind.wrap_i64];omega
 simp [Op.unary,Op.intArith,go_sem];simpa using e
theorem zK8 {t ty:TypeId} {e:TypeId} (hu:P.underlying t=some (.slice e)) (A:Option Addr) (n c:Nat) (w:World):(Builtin.len_ #[t] ty #[.slice A n c]).run P w=.ok (.int .i64 (n:Int)) w:=by
 simp [Builtin.len_,go_sem,run_underlying hu]
theorem zJ0 {fuel:Nat} {listed:Array Bool} {a:Act} {w:World} (hr:Region.ready .any ops listed=[]) (h:Q .normal a w):wpAny P .any ops Q fuel listed a w:=wpAny_done hr h fuel
theorem qS8 {fuel i:Nat} {listed:Array Bool} {a:Act} {w:World} (hr:Region.ready .any ops listed=[i]) (ho:ops[i]?=some o) (hg:o.guard=none) (h:o.wp P a w (wpAny P .any ops Q fuel (listed.setIfInBounds i true)) Q):wpAny P .any ops Q (fuel+1) listed a w:=by
 refine wpAny_all (rs:=[i]) hr (by simp) ?_;intro j hj;obtain rfl:=List.mem_singleton.1 hj;unfold wpOp;rw [ho];simp only [];rw [if_pos (by unfold Region.wanted;rw [hg])];exact .inl h
theorem yE7 {a:Act} {w:World} {x:Operand} {K:Act->World->Prop} (v:Value) (hop:o.op=.assign x) (hv:a.eval x=v) {d:Tmp} (hd:o.dst=some d) (h:∀ b,a.put (some d) v=b->K b w):o.wp P a w K Q:=by
 unfold Oper.wp execOp;simp only [hop];rw [hv];have h2:=h _ rfl;rw [<- hd] at h2;exact h2
theorem yE8 {a:Act} {w:World} {K:Act->World->Prop} {ty:TypeId} {x y:Operand} {g:Nat} {v:Value} {cells:List Value} {cs:Array Value} {e:TypeId} (hd:o.dst=none) (hop:o.op=.store ty x y)
    (hx:a.eval x=.pointer (some ⟨g,0,none⟩)) (hy:a.eval y=v) (hv:v.cells=cells.toArray) (hB:w.heap[g]?=some (.cells cs e (0,0))) (hs:cs.size=cells.length) (hi:(P.info? ty).map (·.size)=some cells.length) (h1:∀ c∈cells,c.oneCell'=true)
    (h:∀ w',w.grownBy w' (some g)->w'.heap[g]?=some (.cells cells.toArray e (0,0))->K a w'):o.wp P a w K Q:=by
  have hc:∀ j,j<cells.length->(w.cell? ⟨g,0+j,none⟩).isSome=true:=by
    intro j hj;rw [bY5,cell_of_row w g j cs e (0,0) hB,Array.getElem?_eq_getElem (by omega)];rfl
  have hf:∀ j,j<cells.length->w.frozen? ⟨g,0+j,none⟩=false:=by
    intro j hj;simp [World.frozen?,hB]
  have hrun:=run_storeCells_cells (P:=P) g 0 cells 0 w (fun j hj=>by simpa using hc j hj) (fun j hj=>by simpa using hf j hj) h1;simp only [Nat.add_zero] at hrun
  have hst:(storeVar ty ⟨g,0,none⟩ v).run P w=.ok () (w.setCells g 0 cells):=by
    cases hq:P.info? ty with
    | none=>simp [hq] at hi
    | some inf =>
      have hsz:cells.length=inf.size:=by simp [hq] at hi;omega
      simp [storeVar,sizeOf,typeInfo,hq,hv,hsz,hrun]
  unfold Oper.wp execOp;simp only [hop,hx,hy,Instr.storeAt,Instr.sureAddr,Sem.run_bind,Sem.run_pure,Result.andThen_ok,hst,Oper.upon_skip,hd];refine h _ ?_ ?_
  · have key:∀ (vs:List Value) (o:Nat) (w:World),w.grownBy (w.setCells g o vs) (some g):=by
      intro vs
      induction vs with
      | nil=>intro o w;exact World.grownBy.refl _ _
      | cons v vs ih =>
        intro o w;rw [World.setCells];have h0:w.grownBy (w.setCell ⟨g,o,none⟩ v) (some g):=⟨rfl,rfl,rfl,by simp [World.setCell],fun k _ hk=>Below.heap_setCell w ⟨g,o,none⟩ v k (fun e=>hk (by rw [e]))⟩;exact qK0 h0 (ih (o+1) _)
    exact key cells 0 w
  · have key:∀ (vs:List Value) (o:Nat) (w:World) (A:Array Value),w.heap[g]?=some (.cells A e (0,0))->o+vs.length<=A.size->(w.setCells g o vs).heap[g]?=some (.cells (A.toList.take o ++ vs ++ A.toList.drop (o+vs.length)).toArray e (0,0)):=by
      intro vs
      induction vs with
      | nil=>intro o w A hA _;rw [World.setCells];simpa using hA
      | cons v vs ih =>
        intro o w A hA hl;rw [World.setCells];simp only [bX3] at hl
        have h2:(w.setCell ⟨g,o,none⟩ v).heap[g]?=some (.cells (A.setIfInBounds o v) e (0,0)):=by
          simp [World.setCell,Array.getElem?_modify,hA]
        rw [ih (o+1) _ (A.setIfInBounds o v) h2 (by simp;omega)];have ho:o<A.toList.length:=by simp;omega
        congr 2
        simp only [Array.toList_setIfInBounds];rw [List.take_add_one,bQ3 ho,List.take_set_of_le (zB3 _),List.drop_set_of_lt (by omega)];simp [Nat.add_assoc,Nat.add_comm 1]
    have:=key cells 0 w cs hB (by omega)
    rw [this];simp [List.drop_of_length_le,<- hs]
theorem qS9 {fuel i:Nat} {listed:Array Bool} {a:Act} {w:World} {x:Operand} (v:Value) (hr:Region.ready .any ops listed=[i]) (ho:ops[i]?=some o) (hg:o.guard=none) (hop:o.op=.assign x) (hv:a.eval x=v) {d:Tmp} (hd:o.dst=some d) (h:∀ b,a.put (some d) v=b->wpAny P .any ops Q fuel (listed.setIfInBounds i true) b w):wpAny P .any ops Q (fuel+1) listed a w :=
 qS8 hr ho hg (yE7 v hop hv hd h)
theorem zL8 {fuel i:Nat} {listed:Array Bool} {a:Act} {w:World} {ty:TypeId} {x y:Operand} {g:Nat} {v:Value} {cells:List Value} {cs:Array Value} {e:TypeId} (hr:Region.ready .any ops listed=[i]) (ho:ops[i]?=some o) (hg:o.guard=none) (hd:o.dst=none) (hop:o.op=.store ty x y)
  (hx:a.eval x=.pointer (some ⟨g,0,none⟩)) (hy:a.eval y=v) (hv:v.cells=cells.toArray) (hB:w.heap[g]?=some (.cells cs e (0,0))) (hs:cs.size=cells.length) (hi:(P.info? ty).map (·.size)=some cells.length) (h1:∀ c∈cells,c.oneCell'=true)
  (h:∀ w',w.grownBy w' (some g)->w'.heap[g]?=some (.cells cells.toArray e (0,0))->wpAny P .any ops Q fuel (listed.setIfInBounds i true) a w'):wpAny P .any ops Q (fuel+1) listed a w :=
 qS8 hr ho hg (yE8 hd hop hx hy hv hB hs hi h1 h)
theorem qL4 {i:Nat} {rest:List Nat} {a:Act} {w:World} (ho:ops[i]?=some o) (hg:o.guard=none) (h:o.wp P a w (wpOps P ops Q rest) Q):wpOps P ops Q (i :: rest) a w:=by
 rw [wpOps_cons];unfold wpOp;rw [ho];simp only [];rw [if_pos (by unfold Region.wanted;rw [hg])];exact .inl h
theorem zC7 {a:Act} {w:World} (h:Q .normal a w):wpOps P ops Q [] a w:=h
theorem zQ5 {i:Nat} {rest:List Nat} {a:Act} {w:World} {x:Operand} (v:Value) (ho:ops[i]?=some o) (hg:o.guard=none) (hop:o.op=.assign x) (hv:a.eval x=v) {d:Tmp} (hd:o.dst=some d) (h:∀ b,a.put (some d) v=b->wpOps P ops Q rest b w):wpOps P ops Q (i :: rest) a w :=
 qL4 ho hg (yE7 v hop hv hd h)
theorem zG5 {i:Nat} {rest:List Nat} {a:Act} {w:World} {ty:TypeId} {x y:Operand} {g:Nat} {v:Value} {cells:List Value} {cs:Array Value} {e:TypeId} (ho:ops[i]?=some o) (hg:o.guard=none) (hd:o.dst=none) (hop:o.op=.store ty x y)
  (hx:a.eval x=.pointer (some ⟨g,0,none⟩)) (hy:a.eval y=v) (hv:v.cells=cells.toArray) (hB:w.heap[g]?=some (.cells cs e (0,0))) (hs:cs.size=cells.length) (hi:(P.info? ty).map (·.size)=some cells.length) (h1:∀ c∈cells,c.oneCell'=true)
  (h:∀ w',w.grownBy w' (some g)->w'.heap[g]?=some (.cells cells.toArray e (0,0))->wpOps P ops Q rest a w'):wpOps P ops Q (i :: rest) a w :=
 qL4 ho hg (yE8 hd hop hx hy hv hB hs hi h1 h)
end
theorem zJ1 {x y:Value} (hx:x.oneCell'=true) (hy:y.oneCell'=true):∀ c∈[x,y],c.oneCell'=true:=by
 intro c hc;rcases List.mem_cons.1 hc with rfl|hc
 ·exact hx
 ·obtain rfl:=List.mem_singleton.1 hc;exact hy
theorem no_ints2 {k:IntKind} {b:Bool} {A:Option Addr} {n m:Nat}:∀ c∈(#[.bool b,.slice A n m]:Array Value),∀ i,c ≠ .int k i:=by
 intro c hc i;simp at hc;rcases hc with rfl|rfl<;>simp
theorem off {w w':World} {k:IntKind} {v:Value} {l:List Nat} {g:Nat} {e:TypeId} {cs:Array Value} (h:IsS w k v l) (hB:w.heap[g]?=some (.cells cs e (0,0))) (hno:∀ c∈cs,∀ n,c ≠ .int k n) (hg:w.grownBy w' (some g)):IsS w' k v l:=by
 obtain ⟨A,c,rfl,h1,h2,h3⟩:=h;refine ⟨A,c,rfl,h1,h2,?_⟩;intro i d hd;obtain ⟨ad,rfl,hc⟩:=h3 i d hd;refine ⟨ad,rfl,hg.cell hc ?_⟩;intro e1;injection e1 with e1
 have hcell:∀ p:Addr,p.block=g->w.cell? p=some (.int k (d:Int))->False:=by
  intro p hp hpc;unfold World.cell? at hpc;rw [hp,hB] at hpc;simp only [] at hpc
  split at hpc
  ·cases hpc
  ·exact hno _ (Array.mem_of_getElem? hpc) _ rfl
 exact hcell _ e1 hc
end flow
namespace whl
open Go.RowKit num mem nat txt str
def ngB (z:Int):Bool:=decide (z<0)
theorem yE9 {z:Int} (h:z<0):ngB z=true:=decide_eq_true h
theorem qT {z:Int} (h:¬ z<0):ngB z=false:=decide_eq_false h
theorem zW0 {z:Int} (h:ngB z=true):z<0:=of_decide_eq_true h
theorem zZ1 {z:Int} (h:ngB z=false):¬ z<0:=of_decide_eq_false h
theorem jA3:ngB 0=false:=rfl
def sg (b:Bool) (x:Nat):Int:=if b=true then -(x:Int) else x
theorem qB6 (x:Nat):sg true x = -(x:Int):=rfl
theorem qB7 (x:Nat):sg false x=(x:Int):=rfl
theorem zU6 (b:Bool) (x:Nat):(sg b x).natAbs=x:=by cases b<;>simp [sg]
theorem zW1 (z:Int):sg (ngB z) z.natAbs=z:=by
 rcases h:ngB z with _ | _
 ·have:=zZ1 h;rw [qB7];omega
 ·have:=zW0 h;rw [qB6];omega
theorem qL5 {b:Bool} {x:Nat} (h:0<x):ngB (sg b x)=b:=by
 cases b
 ·exact qT (by rw [qB7];omega)
 ·exact yE9 (by rw [qB6];omega)
theorem qT0 (b:Bool):ngB (sg b 0)=false:=by cases b<;>rfl
def zJ4 (x y:Int):Int:=if x<y then -1 else if y<x then 1 else 0
theorem qF8 {x y:Int} (h:x<y):zJ4 x y = -1:=if_pos h
theorem qF9 {x y:Int} (h:y<x):zJ4 x y=1:=by unfold zJ4;rw [if_neg (by omega),if_pos h]
theorem ordz_eq {x y:Int} (h:x=y):zJ4 x y=0:=by unfold zJ4;rw [if_neg (by omega),if_neg (by omega)]
def zC2 (z:Int):Nat:=(digs 4294967296 z.natAbs).length
theorem jA4 {x y:Int} (h:x.natAbs<=y.natAbs):zC2 x<=zC2 y:=zG1 (by omega) h
theorem jA5 (x y:Int):zC2 (x+y)<=zC2 x+zC2 y+1 :=
 zB4 (zG1 (by omega) (show (x+y).natAbs<=x.natAbs+y.natAbs by omega)) (yC7 _ _)
theorem qG (x:Int):zC2 (-x)=zC2 x:=by unfold zC2;rw [Int.natAbs_neg]
theorem qB8 (x y:Int):zC2 (x*y)<=zC2 x+zC2 y:=by
 unfold zC2;rw [Int.natAbs_mul];exact zY5 _ _
theorem yF (x:Int):(digs 10000 x.natAbs).length<=3*zC2 x:=qR9 _
theorem qT1:zC2 0=0:=by unfold zC2;rw [Int.natAbs_zero,zJ];rfl
def IsZ (w:World) (v:Value) (z:Int):Prop:=∃ u,v=.agg #[.bool (ngB z),u]/\IsS w .u64 u (digs 4294967296 z.natAbs)
def IsR (w:World) (v:Value) (z:Int):Prop:=∃ u,v=.agg #[.bool (ngB z),u]/\IsS w .i64 u (digs 10000 z.natAbs)
def zQ6 (B:Nat) (v:Value):Prop:=∀ n u,v=.agg #[.bool n,u]->zE5 B u
theorem IsZ.bQ {w w':World} {v:Value} {z:Int} (h:IsZ w v z) (hb:Below w.heap.size w w'):IsZ w' v z:=by
 obtain ⟨u,e,h1⟩:=h;exact ⟨u,e,h1.bQ hb⟩
theorem IsR.bQ {w w':World} {v:Value} {z:Int} (h:IsR w v z) (hb:Below w.heap.size w w'):IsR w' v z:=by
 obtain ⟨u,e,h1⟩:=h;exact ⟨u,e,h1.bQ hb⟩
theorem IsZ.drew {w:World} {v:Value} {z:Int} (h:IsZ w v z):IsZ w.drew v z:=by
 obtain ⟨u,e,h1⟩:=h;exact ⟨u,e,h1.drew⟩
theorem IsR.drew {w:World} {v:Value} {z:Int} (h:IsR w v z):IsR w.drew v z:=by
 obtain ⟨u,e,h1⟩:=h;exact ⟨u,e,h1.drew⟩
theorem zQ6.mono {B B':Nat} {v:Value} (h:zQ6 B v) (hb:B'<=B):zQ6 B' v:=fun n u e=>(h n u e).mono hb
theorem zG {w:World} {u:Value} {z:Int} {x:Nat} {b:Bool} (h:IsS w .u64 u (digs 4294967296 x)) (hx:z.natAbs=x) (hb:b=ngB z):IsZ w (.agg #[.bool b,u]) z:=by
 subst hx;subst hb;exact ⟨u,rfl,h⟩
theorem zZ2 {w:World} {u:Value} {z:Int} {x:Nat} {b:Bool} (h:IsS w .i64 u (digs 10000 x)) (hx:z.natAbs=x) (hb:b=ngB z):IsR w (.agg #[.bool b,u]) z:=by
 subst hx;subst hb;exact ⟨u,rfl,h⟩
theorem zM3 {B:Nat} {b:Bool} {u:Value} (h:zE5 B u):zQ6 B (.agg #[.bool b,u]):=by
 intro n u' e;injection e with e;have e1:=congrArg (fun a=>a[1]?) e;simp at e1;subst e1;exact h
def zE9 (z:Int) (w:World) (e:Ending) (w':World):Prop:=∃ v,e=.returned v/\IsZ w' v z/\zQ6 w.heap.size v/\Below w.heap.size w w'
def qG0 (z:Int) (w:World) (e:Ending) (w':World):Prop:=∃ v,e=.returned v/\IsR w' v z/\Below w.heap.size w w'
def qG1 (z:Int) (n:Int) (w:World) (e:Ending) (w':World):Prop:=∃ v,e=.returned (.tuple #[v,.int .i64 n])/\IsZ w' v z/\zQ6 w.heap.size v/\Below w.heap.size w w'
def Blk (w:World) (g:Nat) (t:TypeId) (cs:Array Value):Prop:=w.heap[g]?=some (.cells cs t (0,0))
theorem Blk.lt {w:World} {g:Nat} {t:TypeId} {cs:Array Value} (h:Blk w g t cs):g<w.heap.size:=(Array.getElem?_eq_some_iff.1 h).1
theorem Blk.cell {w:World} {g:Nat} {t:TypeId} {cs:Array Value} (h:Blk w g t cs) (i:Nat):w.cell? ⟨g,i,none⟩=cs[i]?:=cell_of_row w g i cs t (0,0) h
theorem Blk.frozen {w:World} {g:Nat} {t:TypeId} {cs:Array Value} (h:Blk w g t cs) (i:Nat):w.frozen? ⟨g,i,none⟩=false:=by
 unfold Blk at h;simp [World.frozen?,h]
theorem Blk.new (w:World) (t:TypeId) (cs:Array Value):Blk (w.alloc (.cells cs t)) w.heap.size t cs:=heap_alloc_new w _
theorem Blk.alloc {w:World} {g:Nat} {t:TypeId} {cs:Array Value} (h:Blk w g t cs) (o:Obj):Blk (w.alloc o) g t cs:=(Below.heap_alloc w o g h.lt).trans h
theorem Blk.drew {w:World} {g:Nat} {t:TypeId} {cs:Array Value} (h:Blk w g t cs):Blk w.drew g t cs:=h
theorem Blk.bQ {w w':World} {g:Nat} {t:TypeId} {cs:Array Value} (h:Blk w g t cs) (hb:Below w.heap.size w w'):Blk w' g t cs:=(hb.block g h.lt).trans h
theorem Blk.grown {w w':World} {g g':Nat} {t:TypeId} {cs:Array Value} (h:Blk w g t cs) (hb:w.grownBy w' (some g')) (hne:g≠g'):Blk w' g t cs:=(hb.block g h.lt (fun e=>hne (by injection e))).trans h
theorem Blk.two {w:World} {g:Nat} {t:TypeId} {x y:Value} (h:Blk w g t #[x,y]):w.cell? ⟨g,0,none⟩=some x/\w.cell? ⟨g,1,none⟩=some y/\w.frozen? ⟨g,0,none⟩=false/\w.frozen? ⟨g,1,none⟩=false :=
 ⟨h.cell 0,h.cell 1,h.frozen 0,h.frozen 1⟩
theorem zZ3 {w w2:World} {b:Bool} {u x y:Value} {z:Int} {g B:Nat} (hb:Below w.heap.size w w2) (hg:w.heap.size<=g) (hgB:g<B) (hu:IsS w2 .u64 u (digs 4294967296 z.natAbs)) (hf:zE5 B u) (hz:b=ngB z) :
  zE9 z w (.returned (.agg #[.bool b,u])) ((w2.setCell ⟨g,0,none⟩ x).setCell ⟨g,1,none⟩ y):=by
 subst hz;exact ⟨_,rfl,⟨u,rfl,(hu.setCell hf hgB _).setCell hf hgB _⟩,zM3 (hf.mono (by omega)),(hb.setCell hg _).setCell hg _⟩
open flow
def pz (z:Int) (B:Nat):Pd:=⟨fun w v=>IsZ w v z/\zQ6 B v,fun h hb=>⟨h.1.bQ hb,h.2⟩⟩
def pr (z:Int):Pd:=⟨fun w v=>IsR w v z,fun h hb=>h.bQ hb⟩
def pi (z:Int):Pd:=⟨fun w v=>IsZ w v z,fun h hb=>h.bQ hb⟩
def ps (k:IntKind) (l:List Nat) (B:Nat):Pd:=⟨fun w v=>IsS w k v l/\zE5 B v,fun h hb=>⟨h.1.bQ hb,h.2⟩⟩
theorem zD7.pd {k:IntKind} {l:List Nat} {w:World} {e:Ending} {w':World} {B:Nat} (h:zD7 k l w e w') (hB:B<=w.heap.size):zI2 (ps k l B) w e w':=by
 obtain ⟨v,rfl,h1,h2,h3⟩:=h;exact ⟨v,rfl,⟨h1,h2.mono hB⟩,h3⟩
theorem zE9.pd {z:Int} {w:World} {e:Ending} {w':World} {B:Nat} (h:zE9 z w e w') (hB:B<=w.heap.size):zI2 (pz z B) w e w':=by
 obtain ⟨v,rfl,h1,h2,h3⟩:=h;exact ⟨v,rfl,⟨h1,h2.mono hB⟩,h3⟩
theorem qG0.pd {z:Int} {w:World} {e:Ending} {w':World} (h:qG0 z w e w'):zI2 (pr z) w e w':=h
def pt (k:IntKind) (l:List Nat) (n:Int) (B:Nat):Pd:=⟨fun w t => ∃ v,t=.tuple #[v,.int .i64 n]/\IsS w k v l/\zE5 B v,fun h hb=>by obtain ⟨v,e,h1,h2⟩:=h;exact ⟨v,e,h1.bQ hb,h2⟩⟩
def pt2 (k:IntKind) (l m:List Nat) (B:Nat):Pd:=⟨fun w t => ∃ v u,t=.tuple #[v,u]/\IsS w k v l/\IsS w k u m/\zE5 B v/\zE5 B u,fun h hb=>by obtain ⟨v,u,e,h1,h2,h3⟩:=h;exact ⟨v,u,e,h1.bQ hb,h2.bQ hb,h3⟩⟩
theorem zO3.pd {k:IntKind} {l:List Nat} {n:Int} {w:World} {e:Ending} {w':World} {B:Nat} (h:zO3 k l n w e w') (hB:B<=w.heap.size):zI2 (pt k l n B) w e w':=by
 obtain ⟨v,rfl,h1,h2,h3⟩:=h;exact ⟨_,rfl,⟨v,rfl,h1,h2.mono hB⟩,h3⟩
theorem zU1.pd {k:IntKind} {l m:List Nat} {w:World} {e:Ending} {w':World} {B:Nat} (h:zU1 k l m w e w') (hB:B<=w.heap.size):zI2 (pt2 k l m B) w e w':=by
 obtain ⟨v,u,rfl,h1,h2,h3,h4,h5⟩:=h;exact ⟨_,rfl,⟨v,u,rfl,h1,h2,h3.mono hB,h4.mono hB⟩,h5⟩
theorem zE1.pd {u:Value} {w:World} {e:Ending} {w':World} (h:zE1 u w e w'):zI2 (Pd.eq u) w e w':=⟨u,h.1,rfl,h.2⟩
end whl
namespace rat
open Go.RowKit num mem nat txt str flow whl
theorem yF0 (z:Int) (g:Nat) (hg:0<g) (h:g∣z.natAbs):(z / (g:Int)).natAbs=z.natAbs / g/\(z / (g:Int)<0 ↔ z<0):=by
 obtain ⟨k,hk⟩:(g:Int)∣z:=Int.dvd_natAbs.1 (Int.natCast_dvd_natCast.2 h);have hg2:(g:Int)≠0:=by omega
 rw [hk,Int.mul_ediv_cancel_left _ hg2,Int.natAbs_mul,Int.natAbs_natCast,Nat.mul_div_cancel_left _ hg];refine ⟨rfl,?_⟩;have hg3:(0:Int)<g:=by omega
 constructor
 ·intro hk0;exact Int.mul_neg_of_pos_of_neg hg3 hk0
 ·intro hk0;rcases (by omega:k<0\/0<=k) with h1 | h1
  ·exact h1
  ·have:=Int.mul_nonneg (Int.le_of_lt hg3) h1
   omega
theorem yF1 (z:Int) {d:Nat} (hd:d≠0):(mkRat z d).num.natAbs=z.natAbs / z.natAbs.gcd d:=by
 rw [Rat.num_mkRat,if_neg hd,Nat.gcd_comm];exact (yF0 z _ (Nat.gcd_pos_of_pos_right _ (by omega)) (Nat.gcd_dvd_left _ _)).1
theorem mk_neg (z:Int) {d:Nat} (hd:d≠0):ngB (mkRat z d).num=ngB z:=by
 rw [Rat.num_mkRat,if_neg hd,Nat.gcd_comm];unfold ngB;rw [decide_eq_decide];exact (yF0 z _ (Nat.gcd_pos_of_pos_right _ (by omega)) (Nat.gcd_dvd_left _ _)).2
theorem zW2 (z:Int) {d:Nat} (hd:d≠0):(mkRat z d).den=d / z.natAbs.gcd d:=by
 rw [Rat.den_mkRat,if_neg hd,Nat.gcd_comm]
theorem qB9 {q:Rat} (h:q≠0):(q⁻¹).num=sg (ngB q.num) q.den/\(q⁻¹).den=q.num.natAbs:=by
 have hn:q.num≠0:=fun e=>h (Rat.num_eq_zero.1 e);rw [Rat.num_inv,Rat.den_inv,if_neg hn];refine ⟨?_,rfl⟩;unfold sg ngB;rcases Int.lt_or_gt_of_ne hn with h1 | h1
 ·rw [Int.sign_eq_neg_one_of_neg h1,if_pos (decide_eq_true h1)];omega
 ·rw [Int.sign_eq_one_of_pos h1,if_neg (by rw [decide_eq_true_eq];omega)];omega
theorem qC (q:Rat):(-q).num = -q.num/\(-q).den=q.den:=⟨Rat.neg_num q,Rat.neg_den q⟩
theorem yF2 {n d:Int} (h:d<0):Rat.divInt n d=mkRat (-n) d.natAbs:=by
 rw [<- Rat.neg_divInt_neg,show -d=((d.natAbs:Nat):Int) by omega,Rat.divInt_ofNat]
theorem yF3 {n d:Int} (h:0<d):Rat.divInt n d=mkRat n d.natAbs:=by
 conv=>lhs;rw [show d=((d.natAbs:Nat):Int) by omega,Rat.divInt_ofNat]
def zC3 (q:Rat) (m:Nat):Prop:=zC2 q.num<=m/\(digs 4294967296 q.den).length<=m
theorem zC3.mono {q:Rat} {m n:Nat} (h:zC3 q m) (hn:m<=n):zC3 q n:=⟨zB4 h.1 hn,zB4 h.2 hn⟩
theorem zR6 {z:Int} {d m:Nat} (hd:d≠0) (hz:zC2 z<=m) (hl:(digs 4294967296 d).length<=m):zC3 (mkRat z d) m:=by
 refine ⟨zB4 (jA4 ?_) hz,zB4 (zG1 (by omega) ?_) hl⟩
 ·rw [yF1 z hd];exact Nat.div_le_self _ _
 ·rw [zW2 z hd];exact Nat.div_le_self _ _
theorem zN6 (d:Nat):zC2 (d:Int)=(digs 4294967296 d).length:=by unfold zC2;rw [Int.natAbs_natCast]
theorem qG2 {x y:Rat} {m n:Nat} (h:zC3 x m) (h':zC3 y n):zC3 (x*y) (m+n):=by
 rw [Rat.mul_def'];have e1:=qB8 x.num y.num;have e4:=qB8 x.den y.den;have h1:=h.1;have h2:=h.2;have h3:=h'.1;have h4:=h'.2;rw [zN6,zN6,<- Int.natCast_mul,zN6] at e4;exact zR6 (Nat.mul_ne_zero x.den_nz y.den_nz) (by omega) (by omega)
theorem jA6 {q:Rat} {m:Nat} (hq:q≠0) (h:zC3 q m):zC3 q⁻¹ m:=by
 unfold zC3 zC2;rw [(qB9 hq).1,(qB9 hq).2,zU6];exact ⟨h.2,h.1⟩
theorem qT2 {q:Rat} {m:Nat} (h:zC3 q m):zC3 (-q) m:=by
 unfold zC3;rw [(qC q).1,(qC q).2,qG];exact h
def IsQ (w:World) (v:Value) (q:Rat):Prop:=∃ u t,v=.agg #[.bool (ngB q.num),u,t]/\IsS w .u64 u (digs 4294967296 q.num.natAbs)/\IsS w .u64 t (digs 4294967296 q.den)
def IsP (w:World) (v:Value) (q:Rat):Prop:=∃ u t,v=.agg #[.bool (ngB q.num),u,t]/\IsS w .i64 u (digs 10000 q.num.natAbs)/\IsS w .i64 t (digs 10000 q.den)
def zR7 (B:Nat) (v:Value):Prop:=∀ n u t,v=.agg #[.bool n,u,t]->zE5 B u/\zE5 B t
theorem IsQ.bQ {w w':World} {v:Value} {q:Rat} (h:IsQ w v q) (hb:Below w.heap.size w w'):IsQ w' v q:=by
 obtain ⟨u,t,e,h1,h2⟩:=h;exact ⟨u,t,e,h1.bQ hb,h2.bQ hb⟩
theorem IsP.bQ {w w':World} {v:Value} {q:Rat} (h:IsP w v q) (hb:Below w.heap.size w w'):IsP w' v q:=by
 obtain ⟨u,t,e,h1,h2⟩:=h;exact ⟨u,t,e,h1.bQ hb,h2.bQ hb⟩
theorem zW3 {w:World} {b:Bool} {u t:Value} {x d:Nat} {q:Rat} (h:IsS w .u64 u (digs 4294967296 x)) (k:IsS w .u64 t (digs 4294967296 d)) (hb:b=ngB q.num) (hx:q.num.natAbs=x) (hd:q.den=d):IsQ w (.agg #[.bool b,u,t]) q:=by
 subst hb;subst hx;subst hd;exact ⟨u,t,rfl,h,k⟩
theorem yF4 {w:World} {b:Bool} {u t:Value} {x d:Nat} {q:Rat} (h:IsS w .i64 u (digs 10000 x)) (k:IsS w .i64 t (digs 10000 d)) (hb:b=ngB q.num) (hx:q.num.natAbs=x) (hd:q.den=d):IsP w (.agg #[.bool b,u,t]) q:=by
 subst hb;subst hx;subst hd;exact ⟨u,t,rfl,h,k⟩
end rat
namespace whl
open Go.RowKit num mem nat txt str
def RetSg (b:Bool) (x:Nat) (u:Value) (w:World) (e:Ending) (w':World):Prop:=e=.returned (.agg #[.bool (ngB (sg b x)),u])/\Below w.heap.size w w'
theorem qC0 {b c:Bool} {u:Value} (h:b=c):Ending.returned (.agg #[.bool b,u])=.returned (.agg #[.bool c,u]):=by rw [h]
theorem qC1 (b:Bool) (u:Value) (x:Nat) (w:World) (h:IsS w .u64 u (digs 4294967296 x)) :
  Calls prog 66 #[.bool b,u] w (RetSg b x u w):=by
 obtain ⟨A,c,rfl,_⟩:=h;by_cases hx:0<x
 ·have hn:0<(digs 4294967296 x).length:=qF5 hx;have HE:=hQ9 (qL5 (b:=b) hx)
  generalize (digs 4294967296 x).length=n at hn |-
  cases b
  ·go_enter func66,ntmps66
   go_wp2;exact bodyPost_ret (v:=.agg #[.bool false,.slice A n c]) (by simp [results,results66,go_sem]) rfl ⟨qC0 HE.out.symm,zC9 (zB3 _) _⟩
  ·go_enter func66,ntmps66
   go_wp2;exact bodyPost_ret (v:=.agg #[.bool true,.slice A n c]) (by simp [results,results66,go_sem]) rfl ⟨qC0 HE.out.symm,zC9 (zB3 _) _⟩
 ·obtain rfl:x=0:=by omega
  have HE:=hQ9 (qT0 b);rw [zJ];cases b
  all_goals
   go_enter func66,ntmps66
   go_wp2;exact bodyPost_ret (v:=.agg #[.bool false,.slice A 0 c]) (by simp [results,results66,go_sem]) rfl ⟨qC0 HE.out.symm,zC9 (zB3 _) _⟩
theorem yF5 (b:Bool) (u:Value) (x:Nat) (w:World) (h:IsS w .i64 u (digs 10000 x)) :
  Calls prog 74 #[.bool b,u] w (RetSg b x u w):=by
 obtain ⟨A,c,rfl,_⟩:=h;by_cases hx:0<x
 ·have hn:0<(digs 10000 x).length:=rlenp hx;have HE:=hQ9 (qL5 (b:=b) hx)
  generalize (digs 10000 x).length=n at hn |-
  cases b
  ·go_enter func74,ntmps74
   go_wp2;exact bodyPost_ret (v:=.agg #[.bool false,.slice A n c]) (by simp [results,results74,go_sem]) rfl ⟨qC0 HE.out.symm,zC9 (zB3 _) _⟩
  ·go_enter func74,ntmps74
   go_wp2;exact bodyPost_ret (v:=.agg #[.bool true,.slice A n c]) (by simp [results,results74,go_sem]) rfl ⟨qC0 HE.out.symm,zC9 (zB3 _) _⟩
 ·obtain rfl:x=0:=by omega
  have HE:=hQ9 (qT0 b);rw [zJ];cases b
  all_goals
   go_enter func74,ntmps74
   go_wp2;exact bodyPost_ret (v:=.agg #[.bool false,.slice A 0 c]) (by simp [results,results74,go_sem]) rfl ⟨qC0 HE.out.symm,zC9 (zB3 _) _⟩
theorem qC2 (v:Value) (z t:Int) (w:World) (h:IsZ w v z) (ht:t=zJ4 z 0) :
  Calls prog 46 #[v] w (zE1 (.int .i64 t) w):=by
 obtain ⟨u,rfl,A,c,rfl,_⟩:=h;rcases Int.lt_trichotomy z 0 with h | h | h
 ·have h1:t = -1:=by rw [ht];exact qF8 h
  have hn:0<(digs 4294967296 z.natAbs).length:=qF5 (by omega);rw [yE9 h];subst h1;clear ht
  generalize (digs 4294967296 z.natAbs).length=n at hn |-
  have hn1:((n:Int) == 0)=false:=by rw [beq_eq_false_iff_ne];omega
  go_enter func46,ntmps46
  go_wp2;go_ret;exact ⟨rfl,zC9 (zB3 _) _⟩
 ·have h1:t=0:=by rw [ht];exact ordz_eq h
  subst h;subst h1;clear ht;rw [jA3,Int.natAbs_zero,zJ]
  go_enter func46,ntmps46
  go_wp2;go_ret;exact ⟨rfl,zC9 (zB3 _) _⟩
 ·have h1:t=1:=by rw [ht];exact qF9 h
  have hn:0<(digs 4294967296 z.natAbs).length:=qF5 (by omega);rw [qT (by omega)];subst h1;clear ht
  generalize (digs 4294967296 z.natAbs).length=n at hn |-
  have hn1:((n:Int) == 0)=false:=by rw [beq_eq_false_iff_ne];omega
  go_enter func46,ntmps46
  go_wp2;go_ret;exact ⟨rfl,zC9 (zB3 _) _⟩
theorem made_any (b:Bool) (v:Value) (x:Nat) (z:Int) (w:World) (h:IsS w .u64 v (digs 4294967296 x)) (hl:(digs 4294967296 x).length<=1000000) (hz:z=sg b x) :
  Calls prog 79 #[.bool b,v] w (zE9 z w):=by
 have HZ:=hQ9 hz;clear hz
 go_enter func79,ntmps79;go_wp2_with fail
 refine (zV7 _ _ _ (h.bQ (zC9 (zB3 _) _)) hl).mono ?_;rintro e w1 ⟨v1,rfl,k1,f1,b1⟩;obtain ⟨A1,C1,rfl,_⟩:=id k1;go_wp2_with fail
 refine (qC1 b _ x _ k1).mono ?_;rintro e w2 ⟨rfl,b2⟩;have B2:=((Blk.new w 42 #[.bool false,.slice none 0 0]).bQ b1).bQ b2;obtain ⟨c0,c1,g0,g1⟩:=B2.two;go_wp2
 exact bodyPost_ret (v:=.agg #[.bool (ngB (sg b x)),.slice A1 (digs 4294967296 x).length C1]) (by simp [results,results79,go_sem,c0,c1]) rfl (by
  rw [HZ.out];exact zZ3 (((zC9 (zB3 _) _).trans (b1.mono (by simp))).trans (b2.mono (by have:=b1.size;simp at this;omega))) (zB3 _) (by simp) (by rw [zU6];exact k1.bQ b2) f1 rfl)
end whl
namespace whl
open Go.RowKit num mem nat txt str flow
theorem yF6 (v u:Value) (x y:Nat) (z:Int) (w:World) (h:IsS w .u64 v (digs 4294967296 x)) (h':IsS w .u64 u (digs 4294967296 y)) (hl:(digs 4294967296 x).length<=1000000) (hl':(digs 4294967296 y).length<=1000000) (hz:z=(x:Int)-(y:Int)) :
  Calls prog 145 #[v,u] w (zE9 z w):=by
 have H0:=h.bQ (zC9 (zB3 _) (.cells #[.bool false,.slice none 0 0] 42));have H0':=h'.bQ (zC9 (zB3 _) (.cells #[.bool false,.slice none 0 0] 42));rcases Nat.lt_or_ge x y with hxy | hxy
 ·have HZ:Hid (z=sg true (y-x)):=by show _=_;rw [hz,qB6];omega
  have HA:Hid (z.natAbs=y-x):=by show _=_;omega
  clear hz
  go_enter func145,ntmps145;go_wp2_with fail
  refine (yX4 _ _ x y _ H0 H0' hxy).mono ?_;rintro e w1 ⟨v1,rfl,k1,f1,b1⟩;obtain ⟨A1,C1,rfl,_⟩:=id k1;go_wp2_with fail
  refine (qF1 _ _ y x _ (H0'.bQ b1) (H0.bQ b1) hl' (by omega) (y-x) rfl).mono ?_;rintro e w2 ⟨v2,rfl,k2,f2,b2⟩;obtain ⟨A2,C2,rfl,_⟩:=id k2;go_wp2_with fail
  refine (qC1 true _ (y-x) _ k2).mono ?_;rintro e w3 ⟨rfl,b3⟩;have B2:=(((Blk.new w 42 #[.bool false,.slice none 0 0]).bQ b1).bQ b2).bQ b3;obtain ⟨c0,c1,g0,g1⟩:=B2.two;have bb1:=(zC9 (zB3 w.heap.size) (.cells #[.bool false,.slice none 0 0] 42)).trans (b1.mono (by simp));have bb2:=bb1.trans (b2.mono bb1.size);have bb3:=bb2.trans (b3.mono bb2.size);have hs:=b1.size;go_wp2;exact bodyPost_ret (v:=.agg #[.bool (ngB (sg true (y-x))),.slice A2 (digs 4294967296 (y-x)).length C2]) (by simp [results,results145,go_sem,c0,c1]) rfl (zZ3 bb3 (zB3 _) (bY2 (by simp) hs) (by rw [HA.out];exact k2.bQ b3) f2 (by rw [HZ.out]))
 ·have HZ:Hid (z=sg false (x-y)):=by show _=_;rw [hz,qB7];omega
  have HA:Hid (z.natAbs=x-y):=by show _=_;omega
  clear hz
  go_enter func145,ntmps145;go_wp2_with fail
  refine (qF1 _ _ x y _ H0 H0' hl hxy (x-y) rfl).mono ?_;rintro e w2 ⟨v2,rfl,k2,f2,b2⟩;obtain ⟨A2,C2,rfl,_⟩:=id k2;go_wp2_with fail
  refine (qC1 false _ (x-y) _ k2).mono ?_;rintro e w3 ⟨rfl,b3⟩;have B2:=((Blk.new w 42 #[.bool false,.slice none 0 0]).bQ b2).bQ b3;obtain ⟨c0,c1,g0,g1⟩:=B2.two;have bb2:=(zC9 (zB3 w.heap.size) (.cells #[.bool false,.slice none 0 0] 42)).trans (b2.mono (by simp));have bb3:=bb2.trans (b3.mono bb2.size);go_wp2;exact bodyPost_ret (v:=.agg #[.bool (ngB (sg false (x-y))),.slice A2 (digs 4294967296 (x-y)).length C2]) (by simp [results,results145,go_sem,c0,c1]) rfl (zZ3 bb3 (zB3 _) (by simp) (by rw [HA.out];exact k2.bQ b3) f2 (by rw [HZ.out]))
theorem yF7 (x y:Int):sg (!(ngB x == ngB y)) (x.natAbs*y.natAbs)=x*y:=by
 have e:∀ z:Int,z=sg (ngB z) z.natAbs:=fun z=>(zW1 z).symm
 conv=>rhs;rw [e x,e y]
 cases ngB x<;>cases ngB y<;>simp [sg,Int.neg_mul,Int.mul_neg]
theorem zQ7 (w:World) (t1 t2 t3:TypeId) (x y z:Array Value):∃ wx,((w.alloc (.cells x t1)).alloc (.cells y t2)).alloc (.cells z t3)=wx/\Below w.heap.size w wx/\Blk wx w.heap.size t1 x/\Blk wx (w.heap.size+1) t2 y/\Blk wx (w.heap.size+1+1) t3 z/\w.heap.size+1+1<wx.heap.size:=by
 refine ⟨_,rfl,((zC9 (zB3 _) _).alloc (by simp) _).alloc (by simp;omega) _,((Blk.new w t1 x).alloc _).alloc _,?_,?_,by simp⟩
 ·have:=(Blk.new (w.alloc (.cells x t1)) t2 y).alloc (.cells z t3)
  simpa using this
 ·have:=Blk.new ((w.alloc (.cells x t1)).alloc (.cells y t2)) t3 z
  simpa using this
theorem zZ4 (v u:Value) (x y z:Int) (w:World) (h:IsZ w v x) (h':IsZ w u y) (hl:zC2 x<=100000) (hl':zC2 y<=100000) (hz:z=x*y) :
  Calls prog 82 #[v,u] w (zE9 z w):=by
 obtain ⟨ua,rfl,ha⟩:=h;obtain ⟨ub,rfl,hb⟩:=h';obtain ⟨A,ca,rfl,_⟩:=id ha;obtain ⟨B,cb,rfl,_⟩:=id hb;unfold zC2 at hl hl';have HA:Hid (z.natAbs=x.natAbs*y.natAbs):=by show _=_;rw [hz,Int.natAbs_mul]
 have HZ:Hid (sg (!(ngB x == ngB y)) (x.natAbs*y.natAbs)=z):=by show _=_;rw [hz];exact yF7 x y
 clear hz
 go_enter func82,ntmps82
 go_wp2;obtain ⟨wx,hwx,bb,B0,B1,B2,hsz⟩:=zQ7 w 42 42 42 #[.bool (ngB x),.slice A (digs 4294967296 x.natAbs).length ca] #[.bool (ngB y),.slice B (digs 4294967296 y.natAbs).length cb] #[.bool false,.slice none 0 0];rw [hwx];have hax:=ha.bQ bb;have hbx:=hb.bQ bb;clear hwx;refine flow 11 [Pd.eq (.pointer (some ⟨w.heap.size,0,none⟩)),Pd.eq (.bool (ngB x)),Pd.eq (.pointer (some ⟨w.heap.size+1,0,none⟩)),Pd.eq (.bool (ngB y)),Pd.eq (.bool (!(ngB x == ngB y))),Pd.eq (.pointer (some ⟨w.heap.size,1,none⟩)),Pd.eq (.slice A (digs 4294967296 x.natAbs).length ca),Pd.eq (.pointer (some ⟨w.heap.size+1,1,none⟩)),Pd.eq (.slice B (digs 4294967296 y.natAbs).length cb),ps .u64 (digs 4294967296 (x.natAbs*y.natAbs)) wx.heap.size,pz z wx.heap.size] (by kernel_rfl) (by kernel_rfl) ?ob ?done
 case ob =>
  refine zA (zC4 rfl (zB5 rfl) (zB7 rfl rfl) (fun _=>by kernel_rfl) (fun _=>rfl)) ?_;refine zA (zC1 rfl (zB5 rfl) (zB6 (j:=0) (by kernel_rfl) rfl rfl) (fun w' hb=>zD underlying4 rfl ((B0.drew.bQ hb).cell 0)) (fun _ _=>rfl)) ?_;refine zA (zC4 rfl (zB5 rfl) (zB7 rfl rfl) (fun _=>by kernel_rfl) (fun _=>rfl)) ?_;refine zA (zC1 rfl (zB5 rfl) (zB6 (j:=2) (by kernel_rfl) rfl rfl) (fun w' hb=>zD underlying4 rfl ((B1.drew.bQ hb).cell 0)) (fun _ _=>rfl)) ?_;refine zA (zG3 rfl (zB5 rfl) (zB6 (j:=1) (by kernel_rfl) rfl rfl) (zB6 (j:=3) (by kernel_rfl) rfl rfl) (fun w' u u' hu hu'=>⟨_,by rw [hu,hu'];exact qS7 _ _ _ _ underlying4 _,rfl⟩)) ?_;refine zA (zC4 rfl (zB5 rfl) (zB7 rfl rfl) (fun _=>by kernel_rfl) (fun _=>rfl)) ?_;refine zA (zC1 rfl (zB5 rfl) (zB6 (j:=5) (by kernel_rfl) rfl rfl) (fun w' hb=>zD underlying40 rfl ((B0.drew.bQ hb).cell 1)) (fun _ _=>rfl)) ?_;refine zA (zC4 rfl (zB5 rfl) (zB7 rfl rfl) (fun _=>by kernel_rfl) (fun _=>rfl)) ?_;refine zA (zC1 rfl (zB5 rfl) (zB6 (j:=7) (by kernel_rfl) rfl rfl) (fun w' hb=>zD underlying40 rfl ((B1.drew.bQ hb).cell 1)) (fun _ _=>rfl)) ?_;refine zA (zD8 rfl func113 (by kernel_rfl) (zB5 rfl) (zB6 (j:=6) (by kernel_rfl) rfl rfl) (zB6 (j:=8) (by kernel_rfl) rfl rfl) (fun w' u v hb h1 h2 => ?_)) ?_
  ·obtain rfl:=h1;obtain rfl:=h2;exact (mul_any _ _ _ _ _ (hax.drew.bQ hb) (hbx.drew.bQ hb) hl hl' _ rfl).mono fun e w'' h=>zD7.pd h hb.size
  refine zA (zD8 rfl func66 (by kernel_rfl) (zB5 rfl) (zB6 (j:=4) (by kernel_rfl) rfl rfl) (zB6 (j:=9) (by kernel_rfl) rfl rfl) (fun w' u v hb h1 h2 => ?_)) ?_
  ·obtain rfl:=h1;exact (qC1 _ v _ _ h2.1).mono fun e w'' h=>⟨_,h.1,⟨zG (h2.1.bQ h.2) HA.out (by rw [HZ.out]),zM3 h2.2⟩,h.2⟩
  trivial
 case done =>
  refine fun w' hb v0 h0 v1 h1 v2 h2 v3 h3 v4 h4 v5 h5 v6 h6 v7 h7 v8 h8 v9 h9 v10 h10 b hbf => ?_;simp only [Act.put,zA0,zA2,zA1] at hbf;subst hbf;obtain rfl:=h0;obtain rfl:=h1;obtain rfl:=h2;obtain rfl:=h3;obtain rfl:=h4;obtain rfl:=h5;obtain rfl:=h6;obtain rfl:=h7;obtain rfl:=h8;obtain ⟨⟨u10,rfl,k10⟩,f10⟩:=h10;obtain ⟨A10,c10,rfl,_⟩:=id k10;have B3:=B2.bQ hb;refine zL8 (i:=11) (by kernel_rfl) rfl rfl rfl rfl rfl rfl (cells:=[.bool (ngB z),.slice A10 (digs 4294967296 z.natAbs).length c10]) rfl B3 rfl (by kernel_rfl) (zJ1 rfl rfl) fun w2 hg2 B4 => ?_;have k11:=off k10 B3 no_ints2 hg2;have f11:=(f10 _ _ rfl).mono (show w.heap.size<=wx.heap.size from bb.size);have bb2:=((bb.trans (hb.mono bb.size)).trans ((Below.refl _ _).grown hg2 (zB4 bb.size hb.size) (fun g hg=>by injection hg with hg;omega)));obtain ⟨c0,c1,_,_⟩:=Blk.two B4;refine zJ0 (by kernel_rfl) ?_;go_wp2;exact bodyPost_ret (v:=.agg #[.bool (ngB z),.slice A10 (digs 4294967296 z.natAbs).length c10]) (by simp [results,results82,go_sem,c0,c1]) rfl ⟨_,rfl,zG k11 rfl rfl,zM3 f11,bb2⟩
theorem qT3 (x:Int):sg (!(ngB x)) x.natAbs = -x:=by
 conv=>rhs;rw [<- zW1 x]
 cases ngB x<;>simp [sg]
theorem qG3 (b:Bool) (u:Value) (x:Nat) (z:Int) (w:World) {B:Nat} (h:IsS w .u64 u (digs 4294967296 x)) (hf:zE5 B u) (hz:sg b x=z):Calls prog 66 #[.bool b,u] w (zI2 (pz z B) w) :=
 (qC1 b u x w h).mono fun e w' h'=>⟨_,h'.1,⟨zG (h.bQ h'.2) (by rw [<- hz,zU6]) (by rw [hz]),zM3 hf⟩,h'.2⟩
theorem jA7 (b:Bool) (u:Value) (x:Nat) (z:Int) (w:World) (h:IsS w .u64 u (digs 4294967296 x)) (hz:sg b x=z):Calls prog 66 #[.bool b,u] w (zI2 (pi z) w) :=
 (qC1 b u x w h).mono fun e w' h'=>⟨_,h'.1,zG (h.bQ h'.2) (by rw [<- hz,zU6]) (by rw [hz]),h'.2⟩
theorem qT4 (b:Bool) (u:Value) (x:Nat) (z:Int) (w:World) (h:IsS w .i64 u (digs 10000 x)) (hz:sg b x=z):Calls prog 74 #[.bool b,u] w (zI2 (pr z) w) :=
 (yF5 b u x w h).mono fun e w' h'=>⟨_,h'.1,zZ2 (h.bQ h'.2) (by rw [<- hz,zU6]) (by rw [hz]),h'.2⟩
theorem zK3 (w:World) (t1 t2:TypeId) (x y:Array Value):∃ wx,(w.alloc (.cells x t1)).alloc (.cells y t2)=wx/\Below w.heap.size w wx/\Blk wx w.heap.size t1 x/\Blk wx (w.heap.size+1) t2 y/\w.heap.size+1<wx.heap.size:=by
 refine ⟨_,rfl,(zC9 (zB3 _) _).alloc (by simp) _,(Blk.new w t1 x).alloc _,?_,by simp⟩
 have:=Blk.new (w.alloc (.cells x t1)) t2 y
 simpa using this
theorem yF8 (a0:Value) (x:Int) (w:World) (h0:IsZ w a0 x) (hl:zC2 x<=100000) :
  Calls prog 69 #[a0] w (zE9 (-x) w):=by
 obtain ⟨u0,rfl,s0⟩:=h0;obtain ⟨A0,c0,rfl,_⟩:=id s0;have HZ:Hid (sg (!(ngB x)) x.natAbs = -x):=by show _=_;exact qT3 x
 have HL:Hid ((digs 4294967296 x.natAbs).length<=1000000):=by show _<=_;unfold zC2 at hl;omega
 go_enter func69,ntmps69
 go_upto_region 1 with (fail)
 obtain ⟨wx,hwx,bb,B0,B1,hsz⟩:=zK3 w 42 42 #[.bool (ngB x),.slice A0 (digs 4294967296 (x).natAbs).length c0] #[.bool false,.slice none 0 0];rw [hwx];clear hwx;have k0s:=s0.bQ bb;have k0:IsZ wx (.agg #[.bool (ngB x),.slice A0 (digs 4294967296 (x).natAbs).length c0]) (x):=zG k0s rfl rfl;have hszb:=bb.size;refine zC6 6 [Pd.eq (.pointer (some ⟨w.heap.size,0,none⟩)),Pd.eq (.bool (ngB x)),Pd.eq (.bool (!(ngB x))),Pd.eq (.pointer (some ⟨w.heap.size,1,none⟩)),Pd.eq (.slice A0 (digs 4294967296 (x).natAbs).length c0),pz (-x) wx.heap.size] (by kernel_rfl) ?ob1 ?done1
 case ob1 =>
  refine zA (zC4 rfl (zB5 rfl) (zB7 rfl rfl) (fun _=>by kernel_rfl) (fun _=>rfl)) ?_;refine zA (zC1 rfl (zB5 rfl) (zB6 (j:=0) (by kernel_rfl) rfl rfl) (fun w2 hb=>zD underlying4 rfl ((B0.bQ hb).cell 0)) (fun _ _=>rfl)) ?_;refine zA (zU5 rfl (zB5 rfl) (zB6 (j:=1) (by kernel_rfl) rfl rfl) (fun _=>zW _ _) (fun _=>rfl)) ?_;refine zA (zC4 rfl (zB5 rfl) (zB7 rfl rfl) (fun _=>by kernel_rfl) (fun _=>rfl)) ?_;refine zA (zC1 rfl (zB5 rfl) (zB6 (j:=3) (by kernel_rfl) rfl rfl) (fun w2 hb=>zD underlying40 rfl ((B0.bQ hb).cell 1)) (fun _ _=>rfl)) ?_;refine zA (zD8 rfl func79 (by kernel_rfl) (zB5 rfl) (zB6 (j:=2) (by kernel_rfl) rfl rfl) (zB6 (j:=4) (by kernel_rfl) rfl rfl) (fun w2 u0 u1 hb h0 h1=>by obtain rfl:=h0;obtain rfl:=h1;exact (made_any _ _ _ (-x) _ (k0s.bQ hb) HL.out HZ.out.symm).mono fun e w3 h=>zE9.pd h hb.size)) ?_
  trivial
 case done1 =>
  refine fun w1 hb1 v0 h0 v1 h1 v2 h2 v3 h3 v4 h4 v5 h5 b hbf => ?_;obtain rfl:=h0;obtain rfl:=h1;obtain rfl:=h2;obtain rfl:=h3;obtain rfl:=h4;obtain ⟨q5,f5⟩:=h5;simp only [Act.put,zA0,zA2,zA1] at hbf;subst hbf;obtain ⟨u5,rfl,q5⟩:=q5;obtain ⟨A9,c9,rfl,_⟩:=id q5;have B9:=B1.bQ hb1;refine zG5 (i:=6) rfl rfl rfl rfl rfl rfl (cells:=[.bool (ngB (-x)),.slice A9 (digs 4294967296 (-x).natAbs).length c9]) rfl B9 rfl (by kernel_rfl) (zJ1 rfl rfl) fun w9 hg9 BB9 => ?_;have k9:=off q5 B9 no_ints2 hg9;have f9:=(f5 _ _ rfl).mono (show w.heap.size<=wx.heap.size from bb.size);have bb9:=((bb.trans (hb1.mono bb.size)).trans ((Below.refl _ _).grown hg9 (zB4 bb.size hb1.size) (fun g hg=>by injection hg with hg;omega)));obtain ⟨c0,c1,_,_⟩:=Blk.two BB9;refine zC7 ?_;go_wp2;exact bodyPost_ret (v:=.agg #[.bool (ngB (-x)),.slice A9 (digs 4294967296 (-x).natAbs).length c9]) (by simp [results,results69,go_sem,c0,c1]) rfl ⟨_,rfl,zG k9 rfl rfl,zM3 f9,bb9⟩
theorem yF9 (a0:Value) (x:Int) (w:World) (h0:IsZ w a0 x) (hl:zC2 x<=30000) :
  Calls prog 105 #[a0] w (qG0 x w):=by
 obtain ⟨u0,rfl,s0⟩:=h0;obtain ⟨A0,c0,rfl,_⟩:=id s0;have HL:Hid ((digs 4294967296 x.natAbs).length<=100000):=by show _<=_;unfold zC2 at hl;omega
 have HZ:Hid (sg (ngB x) x.natAbs=x):=by show _=_;exact zW1 x
 go_enter func105,ntmps105
 go_upto_region 1 with (fail)
 obtain ⟨wx,hwx,bb,B0,B1,hsz⟩:=zK3 w 42 52 #[.bool (ngB x),.slice A0 (digs 4294967296 (x).natAbs).length c0] #[.bool false,.slice none 0 0];rw [hwx];clear hwx;have k0s:=s0.bQ bb;have k0:IsZ wx (.agg #[.bool (ngB x),.slice A0 (digs 4294967296 (x).natAbs).length c0]) (x):=zG k0s rfl rfl;have hszb:=bb.size;refine flow 6 [Pd.eq (.pointer (some ⟨w.heap.size,0,none⟩)),Pd.eq (.bool (ngB x)),Pd.eq (.pointer (some ⟨w.heap.size,1,none⟩)),Pd.eq (.slice A0 (digs 4294967296 (x).natAbs).length c0),ps .i64 (digs 10000 x.natAbs) wx.heap.size,pr (x)] (by kernel_rfl) (by kernel_rfl) ?ob3 ?done3
 case ob3 =>
  refine zA (zC4 rfl (zB5 rfl) (zB7 rfl rfl) (fun _=>by kernel_rfl) (fun _=>rfl)) ?_;refine zA (zC1 rfl (zB5 rfl) (zB6 (j:=0) (by kernel_rfl) rfl rfl) (fun w2 hb=>zD underlying4 rfl ((B0.drew.bQ hb).cell 0)) (fun _ _=>rfl)) ?_;refine zA (zC4 rfl (zB5 rfl) (zB7 rfl rfl) (fun _=>by kernel_rfl) (fun _=>rfl)) ?_;refine zA (zC1 rfl (zB5 rfl) (zB6 (j:=2) (by kernel_rfl) rfl rfl) (fun w2 hb=>zD underlying40 rfl ((B0.drew.bQ hb).cell 1)) (fun _ _=>rfl)) ?_;refine zA (zE8 rfl func107 (by kernel_rfl) (zB5 rfl) (zB6 (j:=3) (by kernel_rfl) rfl rfl) (fun w2 u0 hb h0=>by obtain rfl:=h0;exact (qE4 _ _ _ (k0s.drew.bQ hb) HL.out).mono fun e w3 h=>zD7.pd h hb.size)) ?_;refine zA (zD8 rfl func74 (by kernel_rfl) (zB5 rfl) (zB6 (j:=1) (by kernel_rfl) rfl rfl) (zB6 (j:=4) (by kernel_rfl) rfl rfl) (fun w2 u0 u1 hb h0 h1=>by obtain rfl:=h0;exact qT4 _ _ _ (x) _ h1.1 HZ.out)) ?_
  trivial
 case done3 =>
  refine fun w1 hb1 v0 h0 v1 h1 v2 h2 v3 h3 v4 h4 v5 h5 b hbf => ?_;obtain rfl:=h0;obtain rfl:=h1;obtain rfl:=h2;obtain rfl:=h3;obtain ⟨q4,f4⟩:=h4;have q5:=h5;simp only [Act.put,zA0,zA2,zA1] at hbf;subst hbf;obtain ⟨u5,rfl,q5⟩:=q5;obtain ⟨A9,c9,rfl,_⟩:=id q5;have B9:=B1.bQ hb1;refine zL8 (i:=6) (by kernel_rfl) rfl rfl rfl rfl rfl rfl (cells:=[.bool (ngB (x)),.slice A9 (digs 10000 (x).natAbs).length c9]) rfl B9 rfl (by kernel_rfl) (zJ1 rfl rfl) fun w9 hg9 BB9 => ?_;have k9:=off q5 B9 no_ints2 hg9;have bb9:=((bb.trans (hb1.mono bb.size)).trans ((Below.refl _ _).grown hg9 (zB4 bb.size hb1.size) (fun g hg=>by injection hg with hg;omega)));obtain ⟨c0,c1,_,_⟩:=Blk.two BB9;refine zJ0 (by kernel_rfl) ?_;go_wp2;exact bodyPost_ret (v:=.agg #[.bool (ngB (x)),.slice A9 (digs 10000 (x).natAbs).length c9]) (by simp [results,results105,go_sem,c0,c1]) rfl ⟨_,rfl,zZ2 k9 rfl rfl,bb9⟩
theorem jA8 (a0:Value) (x:Int) (w:World) (h0:IsR w a0 x) (hl:zC2 x<=30000) :
  Calls prog 124 #[a0] w (zE9 x w):=by
 obtain ⟨u0,rfl,s0⟩:=h0;obtain ⟨A0,c0,rfl,_⟩:=id s0;have HL:Hid ((digs 4294967296 x.natAbs).length<=100000):=by show _<=_;unfold zC2 at hl;omega
 have HM:Hid ((digs 10000 x.natAbs).length<=100000):=by show _<=_;have:=yF x;omega
 go_enter func124,ntmps124
 go_upto_region 1 with (fail)
 obtain ⟨wx,hwx,bb,B0,B1,hsz⟩:=zK3 w 52 42 #[.bool (ngB x),.slice A0 (digs 10000 (x).natAbs).length c0] #[.bool false,.slice none 0 0];rw [hwx];clear hwx;have k0s:=s0.bQ bb;have k0:IsR wx (.agg #[.bool (ngB x),.slice A0 (digs 10000 (x).natAbs).length c0]) (x):=zZ2 k0s rfl rfl;have hszb:=bb.size;refine flow 6 [Pd.eq (.pointer (some ⟨w.heap.size,0,none⟩)),Pd.eq (.bool (ngB x)),Pd.eq (.pointer (some ⟨w.heap.size,1,none⟩)),Pd.eq (.slice A0 (digs 10000 (x).natAbs).length c0),ps .u64 (digs 4294967296 x.natAbs) wx.heap.size,pz (x) wx.heap.size] (by kernel_rfl) (by kernel_rfl) ?ob4 ?done4
 case ob4 =>
  refine zA (zC4 rfl (zB5 rfl) (zB7 rfl rfl) (fun _=>by kernel_rfl) (fun _=>rfl)) ?_;refine zA (zC1 rfl (zB5 rfl) (zB6 (j:=0) (by kernel_rfl) rfl rfl) (fun w2 hb=>zD underlying4 rfl ((B0.drew.bQ hb).cell 0)) (fun _ _=>rfl)) ?_;refine zA (zC4 rfl (zB5 rfl) (zB7 rfl rfl) (fun _=>by kernel_rfl) (fun _=>rfl)) ?_;refine zA (zC1 rfl (zB5 rfl) (zB6 (j:=2) (by kernel_rfl) rfl rfl) (fun w2 hb=>zD underlying50 rfl ((B0.drew.bQ hb).cell 1)) (fun _ _=>rfl)) ?_;refine zA (zE8 rfl func125 (by kernel_rfl) (zB5 rfl) (zB6 (j:=3) (by kernel_rfl) rfl rfl) (fun w2 u0 hb h0=>by obtain rfl:=h0;exact (yA5 _ _ _ (k0s.drew.bQ hb) HM.out HL.out).mono fun e w3 h=>zD7.pd h hb.size)) ?_;refine zA (jA0 rfl (zB5 rfl) (zB6 (j:=1) (by kernel_rfl) rfl rfl) (zB6 (j:=4) (by kernel_rfl) rfl rfl) (fun w2 u v hu hv=>by subst hu;obtain ⟨A7,c7,rfl,_⟩:=id hv.1;exact ⟨.agg #[.bool (ngB x),.slice A7 (digs 4294967296 x.natAbs).length c7],by kernel_rfl,⟨⟨_,rfl,hv.1⟩,zM3 hv.2⟩⟩)) ?_
  trivial
 case done4 =>
  refine fun w1 hb1 v0 h0 v1 h1 v2 h2 v3 h3 v4 h4 v5 h5 b hbf => ?_;obtain rfl:=h0;obtain rfl:=h1;obtain rfl:=h2;obtain rfl:=h3;obtain ⟨q4,f4⟩:=h4;obtain ⟨q5,f5⟩:=h5;simp only [Act.put,zA0,zA2,zA1] at hbf;subst hbf;obtain ⟨u5,rfl,q5⟩:=q5;obtain ⟨A9,c9,rfl,_⟩:=id q5;have B9:=B1.bQ hb1;refine zL8 (i:=6) (by kernel_rfl) rfl rfl rfl rfl rfl rfl (cells:=[.bool (ngB (x)),.slice A9 (digs 4294967296 (x).natAbs).length c9]) rfl B9 rfl (by kernel_rfl) (zJ1 rfl rfl) fun w9 hg9 BB9 => ?_;have k9:=off q5 B9 no_ints2 hg9;have f9:=(f5 _ _ rfl).mono (show w.heap.size<=wx.heap.size from bb.size);have bb9:=((bb.trans (hb1.mono bb.size)).trans ((Below.refl _ _).grown hg9 (zB4 bb.size hb1.size) (fun g hg=>by injection hg with hg;omega)));obtain ⟨c0,c1,_,_⟩:=Blk.two BB9;refine zJ0 (by kernel_rfl) ?_;go_wp2;exact bodyPost_ret (v:=.agg #[.bool (ngB (x)),.slice A9 (digs 4294967296 (x).natAbs).length c9]) (by simp [results,results124,go_sem,c0,c1]) rfl ⟨_,rfl,zG k9 rfl rfl,zM3 f9,bb9⟩
theorem yG (a0:Value) (x:Int) (a1:Value) (y:Int) (w:World) (h0:IsZ w a0 x) (h1:IsZ w a1 y) (hl:zC2 x<=30000) (hl2:zC2 y<=30000) :
  Calls prog 126 #[a0,a1] w (zE9 (x+y) w):=by
 have HL:Hid ((digs 4294967296 x.natAbs).length<=30000):=hl;have HL2:Hid ((digs 4294967296 y.natAbs).length<=30000):=hl2;have HS:Hid ((digs 4294967296 (x.natAbs+y.natAbs)).length<=1000000):=by show _<=_;have:=yC7 x.natAbs y.natAbs;unfold zC2 at hl hl2;omega
 obtain ⟨u0,rfl,s0⟩:=h0;obtain ⟨A0,c0,rfl,_⟩:=id s0;obtain ⟨u1,rfl,s1⟩:=h1;obtain ⟨A1,c1,rfl,_⟩:=id s1;rcases hs0:ngB x with _ | _<;>rcases hs1:ngB y with _ | _
 ·have HZ:Hid (sg false (x.natAbs+y.natAbs)=x+y):=by show _=_;have:=zZ1 hs0;have:=zZ1 hs1;rw [qB7];omega
  go_enter func126,ntmps126
  go_upto_region 1 with (fail)
  obtain ⟨wx,hwx,bb,B0,B1,B2,hsz⟩:=zQ7 w 42 42 42 #[.bool false,.slice A0 (digs 4294967296 (x).natAbs).length c0] #[.bool false,.slice A1 (digs 4294967296 (y).natAbs).length c1] #[.bool false,.slice none 0 0];rw [hwx];clear hwx;have k0s:=s0.bQ bb;have k0:IsZ wx (.agg #[.bool false,.slice A0 (digs 4294967296 (x).natAbs).length c0]) (x):=zG k0s rfl hs0.symm;have k1s:=s1.bQ bb;have k1:IsZ wx (.agg #[.bool false,.slice A1 (digs 4294967296 (y).natAbs).length c1]) (y):=zG k1s rfl hs1.symm;have hszb:=bb.size;refine zC6 6 [Pd.eq (.pointer (some ⟨w.heap.size,0,none⟩)),Pd.eq (.bool false),Pd.eq (.pointer (some ⟨w.heap.size+1,0,none⟩)),Pd.eq (.bool false),Pd.eq (.bool true),Pd.eq (.bool true)] (by kernel_rfl) ?ob6 ?done6
  case ob6 =>
   refine zA (zC4 rfl (zB5 rfl) (zB7 rfl rfl) (fun _=>by kernel_rfl) (fun _=>rfl)) ?_;refine zA (zC1 rfl (zB5 rfl) (zB6 (j:=0) (by kernel_rfl) rfl rfl) (fun w2 hb=>zD underlying4 rfl ((B0.bQ hb).cell 0)) (fun _ _=>rfl)) ?_;refine zA (zC4 rfl (zB5 rfl) (zB7 rfl rfl) (fun _=>by kernel_rfl) (fun _=>rfl)) ?_;refine zA (zC1 rfl (zB5 rfl) (zB6 (j:=2) (by kernel_rfl) rfl rfl) (fun w2 hb=>zD underlying4 rfl ((B1.bQ hb).cell 0)) (fun _ _=>rfl)) ?_;refine zA (zG3 rfl (zB5 rfl) (zB6 (j:=1) (by kernel_rfl) rfl rfl) (zB6 (j:=3) (by kernel_rfl) rfl rfl) (fun _ _ _ hx hy=>⟨.bool (false == false),by rw [hx,hy];exact zZ _ _ _ _ underlying4 _,rfl⟩)) ?_;refine zA (zE0 rfl (zB5 rfl) (zB6 (j:=4) (by kernel_rfl) rfl rfl) (fun _ _ h=>h)) ?_
   trivial
  case done6 =>
   refine fun w1 hb1 v0 h0 v1 h1 v2 h2 v3 h3 v4 h4 v5 h5 b hbf => ?_;obtain rfl:=h0;obtain rfl:=h1;obtain rfl:=h2;obtain rfl:=h3;obtain rfl:=h4;obtain rfl:=h5;simp only [Act.put,zA0,zA2,zA1] at hbf;subst hbf;replace B0:=B0.bQ hb1;replace B1:=B1.bQ hb1;replace B2:=B2.bQ hb1;replace k0s:=k0s.bQ hb1;replace k1s:=k1s.bQ hb1;replace k0:=k0.bQ hb1;replace k1:=k1.bQ hb1;replace bb:=bb.trans (hb1.mono bb.size);have hszb:=bb.size;obtain ⟨x00,x01,y00,y01⟩:=Blk.two B0;obtain ⟨x10,x11,y10,y11⟩:=Blk.two B1;obtain ⟨x20,x21,y20,y21⟩:=Blk.two B2;refine zC7 ?_;go_upto_region 2 with (fail);refine flow 8 [Pd.eq (.pointer (some ⟨w.heap.size,0,none⟩)),Pd.eq (.bool false),Pd.eq (.pointer (some ⟨w.heap.size,1,none⟩)),Pd.eq (.slice A0 (digs 4294967296 (x).natAbs).length c0),Pd.eq (.pointer (some ⟨w.heap.size+1,1,none⟩)),Pd.eq (.slice A1 (digs 4294967296 (y).natAbs).length c1),ps .u64 (digs 4294967296 (x.natAbs+y.natAbs)) w1.heap.size,pz (x+y) w1.heap.size] (by kernel_rfl) (by kernel_rfl) ?ob7 ?done7
   case ob7 =>
    refine zA (zC4 rfl (zB5 rfl) (zB7 rfl rfl) (fun _=>by kernel_rfl) (fun _=>rfl)) ?_;refine zA (zC1 rfl (zB5 rfl) (zB6 (j:=0) (by kernel_rfl) rfl rfl) (fun w2 hb=>zD underlying4 rfl ((B0.drew.bQ hb).cell 0)) (fun _ _=>rfl)) ?_;refine zA (zC4 rfl (zB5 rfl) (zB7 rfl rfl) (fun _=>by kernel_rfl) (fun _=>rfl)) ?_;refine zA (zC1 rfl (zB5 rfl) (zB6 (j:=2) (by kernel_rfl) rfl rfl) (fun w2 hb=>zD underlying40 rfl ((B0.drew.bQ hb).cell 1)) (fun _ _=>rfl)) ?_;refine zA (zC4 rfl (zB5 rfl) (zB7 rfl rfl) (fun _=>by kernel_rfl) (fun _=>rfl)) ?_;refine zA (zC1 rfl (zB5 rfl) (zB6 (j:=4) (by kernel_rfl) rfl rfl) (fun w2 hb=>zD underlying40 rfl ((B1.drew.bQ hb).cell 1)) (fun _ _=>rfl)) ?_;refine zA (zD8 rfl func144 (by kernel_rfl) (zB5 rfl) (zB6 (j:=3) (by kernel_rfl) rfl rfl) (zB6 (j:=5) (by kernel_rfl) rfl rfl) (fun w2 u0 u1 hb h0 h1=>by obtain rfl:=h0;obtain rfl:=h1;exact (add_any _ _ _ _ _ (k0s.drew.bQ hb) (k1s.drew.bQ hb) _ rfl HS.out).mono fun e w3 h=>zD7.pd h hb.size)) ?_;refine zA (zD8 rfl func66 (by kernel_rfl) (zB5 rfl) (zB6 (j:=1) (by kernel_rfl) rfl rfl) (zB6 (j:=6) (by kernel_rfl) rfl rfl) (fun w2 u0 u1 hb h0 h1=>by obtain rfl:=h0;exact qG3 _ _ _ (x+y) _ h1.1 h1.2 HZ.out)) ?_
    trivial
   case done7 =>
    refine fun w2 hb2 v0 h0 v1 h1 v2 h2 v3 h3 v4 h4 v5 h5 v6 h6 v7 h7 b hbf => ?_;obtain rfl:=h0;obtain rfl:=h1;obtain rfl:=h2;obtain rfl:=h3;obtain rfl:=h4;obtain rfl:=h5;obtain ⟨q6,f6⟩:=h6;obtain ⟨q7,f7⟩:=h7;simp only [Act.put,zA0,zA2,zA1] at hbf;subst hbf;obtain ⟨u7,rfl,q7⟩:=q7;obtain ⟨A9,c9,rfl,_⟩:=id q7;have B9:=B2.bQ hb2;refine zL8 (i:=8) (by kernel_rfl) rfl rfl rfl rfl rfl rfl (cells:=[.bool (ngB (x+y)),.slice A9 (digs 4294967296 (x+y).natAbs).length c9]) rfl B9 rfl (by kernel_rfl) (zJ1 rfl rfl) fun w9 hg9 BB9 => ?_;have k9:=off q7 B9 no_ints2 hg9;have f9:=(f7 _ _ rfl).mono (show w.heap.size<=w1.heap.size from bb.size);have bb9:=((bb.trans (hb2.mono bb.size)).trans ((Below.refl _ _).grown hg9 (zB4 bb.size hb2.size) (fun g hg=>by injection hg with hg;omega)));obtain ⟨c0,c1,_,_⟩:=Blk.two BB9;refine zJ0 (by kernel_rfl) ?_;go_wp2;exact bodyPost_ret (v:=.agg #[.bool (ngB (x+y)),.slice A9 (digs 4294967296 (x+y).natAbs).length c9]) (by simp [results,results126,go_sem,c0,c1]) rfl ⟨_,rfl,zG k9 rfl rfl,zM3 f9,bb9⟩
 ·have HZ:Hid (x+y=((x.natAbs:Nat):Int)-((y.natAbs:Nat):Int)):=by show _=_;have:=zZ1 hs0;have:=zW0 hs1;omega
  go_enter func126,ntmps126
  go_upto_region 1 with (fail)
  obtain ⟨wx,hwx,bb,B0,B1,B2,hsz⟩:=zQ7 w 42 42 42 #[.bool false,.slice A0 (digs 4294967296 (x).natAbs).length c0] #[.bool true,.slice A1 (digs 4294967296 (y).natAbs).length c1] #[.bool false,.slice none 0 0];rw [hwx];clear hwx;have k0s:=s0.bQ bb;have k0:IsZ wx (.agg #[.bool false,.slice A0 (digs 4294967296 (x).natAbs).length c0]) (x):=zG k0s rfl hs0.symm;have k1s:=s1.bQ bb;have k1:IsZ wx (.agg #[.bool true,.slice A1 (digs 4294967296 (y).natAbs).length c1]) (y):=zG k1s rfl hs1.symm;have hszb:=bb.size;refine zC6 6 [Pd.eq (.pointer (some ⟨w.heap.size,0,none⟩)),Pd.eq (.bool false),Pd.eq (.pointer (some ⟨w.heap.size+1,0,none⟩)),Pd.eq (.bool true),Pd.eq (.bool false),Pd.eq (.bool false)] (by kernel_rfl) ?ob8 ?done8
  case ob8 =>
   refine zA (zC4 rfl (zB5 rfl) (zB7 rfl rfl) (fun _=>by kernel_rfl) (fun _=>rfl)) ?_;refine zA (zC1 rfl (zB5 rfl) (zB6 (j:=0) (by kernel_rfl) rfl rfl) (fun w2 hb=>zD underlying4 rfl ((B0.bQ hb).cell 0)) (fun _ _=>rfl)) ?_;refine zA (zC4 rfl (zB5 rfl) (zB7 rfl rfl) (fun _=>by kernel_rfl) (fun _=>rfl)) ?_;refine zA (zC1 rfl (zB5 rfl) (zB6 (j:=2) (by kernel_rfl) rfl rfl) (fun w2 hb=>zD underlying4 rfl ((B1.bQ hb).cell 0)) (fun _ _=>rfl)) ?_;refine zA (zG3 rfl (zB5 rfl) (zB6 (j:=1) (by kernel_rfl) rfl rfl) (zB6 (j:=3) (by kernel_rfl) rfl rfl) (fun _ _ _ hx hy=>⟨.bool (false == true),by rw [hx,hy];exact zZ _ _ _ _ underlying4 _,rfl⟩)) ?_;refine zA (zE0 rfl (zB5 rfl) (zB6 (j:=4) (by kernel_rfl) rfl rfl) (fun _ _ h=>h)) ?_
   trivial
  case done8 =>
   refine fun w1 hb1 v0 h0 v1 h1 v2 h2 v3 h3 v4 h4 v5 h5 b hbf => ?_;obtain rfl:=h0;obtain rfl:=h1;obtain rfl:=h2;obtain rfl:=h3;obtain rfl:=h4;obtain rfl:=h5;simp only [Act.put,zA0,zA2,zA1] at hbf;subst hbf;replace B0:=B0.bQ hb1;replace B1:=B1.bQ hb1;replace B2:=B2.bQ hb1;replace k0s:=k0s.bQ hb1;replace k1s:=k1s.bQ hb1;replace k0:=k0.bQ hb1;replace k1:=k1.bQ hb1;replace bb:=bb.trans (hb1.mono bb.size);have hszb:=bb.size;obtain ⟨x00,x01,y00,y01⟩:=Blk.two B0;obtain ⟨x10,x11,y10,y11⟩:=Blk.two B1;obtain ⟨x20,x21,y20,y21⟩:=Blk.two B2;refine zC7 ?_;go_upto_region 5 with (fail);refine zC6 5 [Pd.eq (.pointer (some ⟨w.heap.size,1,none⟩)),Pd.eq (.slice A0 (digs 4294967296 (x).natAbs).length c0),Pd.eq (.pointer (some ⟨w.heap.size+1,1,none⟩)),Pd.eq (.slice A1 (digs 4294967296 (y).natAbs).length c1),pz (x+y) w1.heap.size] (by kernel_rfl) ?ob9 ?done9
   case ob9 =>
    refine zA (zC4 rfl (zB5 rfl) (zB7 rfl rfl) (fun _=>by kernel_rfl) (fun _=>rfl)) ?_;refine zA (zC1 rfl (zB5 rfl) (zB6 (j:=0) (by kernel_rfl) rfl rfl) (fun w2 hb=>zD underlying40 rfl ((B0.bQ hb).cell 1)) (fun _ _=>rfl)) ?_;refine zA (zC4 rfl (zB5 rfl) (zB7 rfl rfl) (fun _=>by kernel_rfl) (fun _=>rfl)) ?_;refine zA (zC1 rfl (zB5 rfl) (zB6 (j:=2) (by kernel_rfl) rfl rfl) (fun w2 hb=>zD underlying40 rfl ((B1.bQ hb).cell 1)) (fun _ _=>rfl)) ?_;refine zA (zD8 rfl func145 (by kernel_rfl) (zB5 rfl) (zB6 (j:=1) (by kernel_rfl) rfl rfl) (zB6 (j:=3) (by kernel_rfl) rfl rfl) (fun w2 u0 u1 hb h0 h1=>by obtain rfl:=h0;obtain rfl:=h1;exact (yF6 _ _ _ _ (x+y) _ (k0s.bQ hb) (k1s.bQ hb) (zB4 HL.out (by decide)) (zB4 HL2.out (by decide)) HZ.out).mono fun e w3 h=>zE9.pd h hb.size)) ?_
    trivial
   case done9 =>
    refine fun w2 hb2 v0 h0 v1 h1 v2 h2 v3 h3 v4 h4 b hbf => ?_;obtain rfl:=h0;obtain rfl:=h1;obtain rfl:=h2;obtain rfl:=h3;obtain ⟨q4,f4⟩:=h4;simp only [Act.put,zA0,zA2,zA1] at hbf;subst hbf;obtain ⟨u4,rfl,q4⟩:=q4;obtain ⟨A9,c9,rfl,_⟩:=id q4;have B9:=B2.bQ hb2;refine zG5 (i:=5) rfl rfl rfl rfl rfl rfl (cells:=[.bool (ngB (x+y)),.slice A9 (digs 4294967296 (x+y).natAbs).length c9]) rfl B9 rfl (by kernel_rfl) (zJ1 rfl rfl) fun w9 hg9 BB9 => ?_;have k9:=off q4 B9 no_ints2 hg9;have f9:=(f4 _ _ rfl).mono (show w.heap.size<=w1.heap.size from bb.size);have bb9:=((bb.trans (hb2.mono bb.size)).trans ((Below.refl _ _).grown hg9 (zB4 bb.size hb2.size) (fun g hg=>by injection hg with hg;omega)));obtain ⟨c0,c1,_,_⟩:=Blk.two BB9;refine zC7 ?_;go_wp2;exact bodyPost_ret (v:=.agg #[.bool (ngB (x+y)),.slice A9 (digs 4294967296 (x+y).natAbs).length c9]) (by simp [results,results126,go_sem,c0,c1]) rfl ⟨_,rfl,zG k9 rfl rfl,zM3 f9,bb9⟩
 ·have HZ:Hid (x+y=((y.natAbs:Nat):Int)-((x.natAbs:Nat):Int)):=by show _=_;have:=zW0 hs0;have:=zZ1 hs1;omega
  go_enter func126,ntmps126
  go_upto_region 1 with (fail)
  obtain ⟨wx,hwx,bb,B0,B1,B2,hsz⟩:=zQ7 w 42 42 42 #[.bool true,.slice A0 (digs 4294967296 (x).natAbs).length c0] #[.bool false,.slice A1 (digs 4294967296 (y).natAbs).length c1] #[.bool false,.slice none 0 0];rw [hwx];clear hwx;have k0s:=s0.bQ bb;have k0:IsZ wx (.agg #[.bool true,.slice A0 (digs 4294967296 (x).natAbs).length c0]) (x):=zG k0s rfl hs0.symm;have k1s:=s1.bQ bb;have k1:IsZ wx (.agg #[.bool false,.slice A1 (digs 4294967296 (y).natAbs).length c1]) (y):=zG k1s rfl hs1.symm;have hszb:=bb.size;refine zC6 6 [Pd.eq (.pointer (some ⟨w.heap.size,0,none⟩)),Pd.eq (.bool true),Pd.eq (.pointer (some ⟨w.heap.size+1,0,none⟩)),Pd.eq (.bool false),Pd.eq (.bool false),Pd.eq (.bool false)] (by kernel_rfl) ?ob10 ?done10
  case ob10 =>
   refine zA (zC4 rfl (zB5 rfl) (zB7 rfl rfl) (fun _=>by kernel_rfl) (fun _=>rfl)) ?_;refine zA (zC1 rfl (zB5 rfl) (zB6 (j:=0) (by kernel_rfl) rfl rfl) (fun w2 hb=>zD underlying4 rfl ((B0.bQ hb).cell 0)) (fun _ _=>rfl)) ?_;refine zA (zC4 rfl (zB5 rfl) (zB7 rfl rfl) (fun _=>by kernel_rfl) (fun _=>rfl)) ?_;refine zA (zC1 rfl (zB5 rfl) (zB6 (j:=2) (by kernel_rfl) rfl rfl) (fun w2 hb=>zD underlying4 rfl ((B1.bQ hb).cell 0)) (fun _ _=>rfl)) ?_;refine zA (zG3 rfl (zB5 rfl) (zB6 (j:=1) (by kernel_rfl) rfl rfl) (zB6 (j:=3) (by kernel_rfl) rfl rfl) (fun _ _ _ hx hy=>⟨.bool (true == false),by rw [hx,hy];exact zZ _ _ _ _ underlying4 _,rfl⟩)) ?_;refine zA (zE0 rfl (zB5 rfl) (zB6 (j:=4) (by kernel_rfl) rfl rfl) (fun _ _ h=>h)) ?_
   trivial
  case done10 =>
   refine fun w1 hb1 v0 h0 v1 h1 v2 h2 v3 h3 v4 h4 v5 h5 b hbf => ?_;obtain rfl:=h0;obtain rfl:=h1;obtain rfl:=h2;obtain rfl:=h3;obtain rfl:=h4;obtain rfl:=h5;simp only [Act.put,zA0,zA2,zA1] at hbf;subst hbf;replace B0:=B0.bQ hb1;replace B1:=B1.bQ hb1;replace B2:=B2.bQ hb1;replace k0s:=k0s.bQ hb1;replace k1s:=k1s.bQ hb1;replace k0:=k0.bQ hb1;replace k1:=k1.bQ hb1;replace bb:=bb.trans (hb1.mono bb.size);have hszb:=bb.size;obtain ⟨x00,x01,y00,y01⟩:=Blk.two B0;obtain ⟨x10,x11,y10,y11⟩:=Blk.two B1;obtain ⟨x20,x21,y20,y21⟩:=Blk.two B2;refine zC7 ?_;go_upto_region 4 with (fail);refine zC6 5 [Pd.eq (.pointer (some ⟨w.heap.size+1,1,none⟩)),Pd.eq (.slice A1 (digs 4294967296 (y).natAbs).length c1),Pd.eq (.pointer (some ⟨w.heap.size,1,none⟩)),Pd.eq (.slice A0 (digs 4294967296 (x).natAbs).length c0),pz (x+y) w1.heap.size] (by kernel_rfl) ?ob11 ?done11
   case ob11 =>
    refine zA (zC4 rfl (zB5 rfl) (zB7 rfl rfl) (fun _=>by kernel_rfl) (fun _=>rfl)) ?_;refine zA (zC1 rfl (zB5 rfl) (zB6 (j:=0) (by kernel_rfl) rfl rfl) (fun w2 hb=>zD underlying40 rfl ((B1.bQ hb).cell 1)) (fun _ _=>rfl)) ?_;refine zA (zC4 rfl (zB5 rfl) (zB7 rfl rfl) (fun _=>by kernel_rfl) (fun _=>rfl)) ?_;refine zA (zC1 rfl (zB5 rfl) (zB6 (j:=2) (by kernel_rfl) rfl rfl) (fun w2 hb=>zD underlying40 rfl ((B0.bQ hb).cell 1)) (fun _ _=>rfl)) ?_;refine zA (zD8 rfl func145 (by kernel_rfl) (zB5 rfl) (zB6 (j:=1) (by kernel_rfl) rfl rfl) (zB6 (j:=3) (by kernel_rfl) rfl rfl) (fun w2 u0 u1 hb h0 h1=>by obtain rfl:=h0;obtain rfl:=h1;exact (yF6 _ _ _ _ (x+y) _ (k1s.bQ hb) (k0s.bQ hb) (zB4 HL2.out (by decide)) (zB4 HL.out (by decide)) HZ.out).mono fun e w3 h=>zE9.pd h hb.size)) ?_
    trivial
   case done11 =>
    refine fun w2 hb2 v0 h0 v1 h1 v2 h2 v3 h3 v4 h4 b hbf => ?_;obtain rfl:=h0;obtain rfl:=h1;obtain rfl:=h2;obtain rfl:=h3;obtain ⟨q4,f4⟩:=h4;simp only [Act.put,zA0,zA2,zA1] at hbf;subst hbf;obtain ⟨u4,rfl,q4⟩:=q4;obtain ⟨A9,c9,rfl,_⟩:=id q4;have B9:=B2.bQ hb2;refine zG5 (i:=5) rfl rfl rfl rfl rfl rfl (cells:=[.bool (ngB (x+y)),.slice A9 (digs 4294967296 (x+y).natAbs).length c9]) rfl B9 rfl (by kernel_rfl) (zJ1 rfl rfl) fun w9 hg9 BB9 => ?_;have k9:=off q4 B9 no_ints2 hg9;have f9:=(f4 _ _ rfl).mono (show w.heap.size<=w1.heap.size from bb.size);have bb9:=((bb.trans (hb2.mono bb.size)).trans ((Below.refl _ _).grown hg9 (zB4 bb.size hb2.size) (fun g hg=>by injection hg with hg;omega)));obtain ⟨c0,c1,_,_⟩:=Blk.two BB9;refine zC7 ?_;go_wp2;exact bodyPost_ret (v:=.agg #[.bool (ngB (x+y)),.slice A9 (digs 4294967296 (x+y).natAbs).length c9]) (by simp [results,results126,go_sem,c0,c1]) rfl ⟨_,rfl,zG k9 rfl rfl,zM3 f9,bb9⟩
 ·have HZ:Hid (sg true (x.natAbs+y.natAbs)=x+y):=by show _=_;have:=zW0 hs0;have:=zW0 hs1;rw [qB6];omega
  go_enter func126,ntmps126
  go_upto_region 1 with (fail)
  obtain ⟨wx,hwx,bb,B0,B1,B2,hsz⟩:=zQ7 w 42 42 42 #[.bool true,.slice A0 (digs 4294967296 (x).natAbs).length c0] #[.bool true,.slice A1 (digs 4294967296 (y).natAbs).length c1] #[.bool false,.slice none 0 0];rw [hwx];clear hwx;have k0s:=s0.bQ bb;have k0:IsZ wx (.agg #[.bool true,.slice A0 (digs 4294967296 (x).natAbs).length c0]) (x):=zG k0s rfl hs0.symm;have k1s:=s1.bQ bb;have k1:IsZ wx (.agg #[.bool true,.slice A1 (digs 4294967296 (y).natAbs).length c1]) (y):=zG k1s rfl hs1.symm;have hszb:=bb.size;refine zC6 6 [Pd.eq (.pointer (some ⟨w.heap.size,0,none⟩)),Pd.eq (.bool true),Pd.eq (.pointer (some ⟨w.heap.size+1,0,none⟩)),Pd.eq (.bool true),Pd.eq (.bool true),Pd.eq (.bool true)] (by kernel_rfl) ?ob12 ?done12
  case ob12 =>
   refine zA (zC4 rfl (zB5 rfl) (zB7 rfl rfl) (fun _=>by kernel_rfl) (fun _=>rfl)) ?_;refine zA (zC1 rfl (zB5 rfl) (zB6 (j:=0) (by kernel_rfl) rfl rfl) (fun w2 hb=>zD underlying4 rfl ((B0.bQ hb).cell 0)) (fun _ _=>rfl)) ?_;refine zA (zC4 rfl (zB5 rfl) (zB7 rfl rfl) (fun _=>by kernel_rfl) (fun _=>rfl)) ?_;refine zA (zC1 rfl (zB5 rfl) (zB6 (j:=2) (by kernel_rfl) rfl rfl) (fun w2 hb=>zD underlying4 rfl ((B1.bQ hb).cell 0)) (fun _ _=>rfl)) ?_;refine zA (zG3 rfl (zB5 rfl) (zB6 (j:=1) (by kernel_rfl) rfl rfl) (zB6 (j:=3) (by kernel_rfl) rfl rfl) (fun _ _ _ hx hy=>⟨.bool (true == true),by rw [hx,hy];exact zZ _ _ _ _ underlying4 _,rfl⟩)) ?_;refine zA (zE0 rfl (zB5 rfl) (zB6 (j:=4) (by kernel_rfl) rfl rfl) (fun _ _ h=>h)) ?_
   trivial
  case done12 =>
   refine fun w1 hb1 v0 h0 v1 h1 v2 h2 v3 h3 v4 h4 v5 h5 b hbf => ?_;obtain rfl:=h0;obtain rfl:=h1;obtain rfl:=h2;obtain rfl:=h3;obtain rfl:=h4;obtain rfl:=h5;simp only [Act.put,zA0,zA2,zA1] at hbf;subst hbf;replace B0:=B0.bQ hb1;replace B1:=B1.bQ hb1;replace B2:=B2.bQ hb1;replace k0s:=k0s.bQ hb1;replace k1s:=k1s.bQ hb1;replace k0:=k0.bQ hb1;replace k1:=k1.bQ hb1;replace bb:=bb.trans (hb1.mono bb.size);have hszb:=bb.size;obtain ⟨x00,x01,y00,y01⟩:=Blk.two B0;obtain ⟨x10,x11,y10,y11⟩:=Blk.two B1;obtain ⟨x20,x21,y20,y21⟩:=Blk.two B2;refine zC7 ?_;go_upto_region 2 with (fail);refine flow 8 [Pd.eq (.pointer (some ⟨w.heap.size,0,none⟩)),Pd.eq (.bool true),Pd.eq (.pointer (some ⟨w.heap.size,1,none⟩)),Pd.eq (.slice A0 (digs 4294967296 (x).natAbs).length c0),Pd.eq (.pointer (some ⟨w.heap.size+1,1,none⟩)),Pd.eq (.slice A1 (digs 4294967296 (y).natAbs).length c1),ps .u64 (digs 4294967296 (x.natAbs+y.natAbs)) w1.heap.size,pz (x+y) w1.heap.size] (by kernel_rfl) (by kernel_rfl) ?ob13 ?done13
   case ob13 =>
    refine zA (zC4 rfl (zB5 rfl) (zB7 rfl rfl) (fun _=>by kernel_rfl) (fun _=>rfl)) ?_;refine zA (zC1 rfl (zB5 rfl) (zB6 (j:=0) (by kernel_rfl) rfl rfl) (fun w2 hb=>zD underlying4 rfl ((B0.drew.bQ hb).cell 0)) (fun _ _=>rfl)) ?_;refine zA (zC4 rfl (zB5 rfl) (zB7 rfl rfl) (fun _=>by kernel_rfl) (fun _=>rfl)) ?_;refine zA (zC1 rfl (zB5 rfl) (zB6 (j:=2) (by kernel_rfl) rfl rfl) (fun w2 hb=>zD underlying40 rfl ((B0.drew.bQ hb).cell 1)) (fun _ _=>rfl)) ?_;refine zA (zC4 rfl (zB5 rfl) (zB7 rfl rfl) (fun _=>by kernel_rfl) (fun _=>rfl)) ?_;refine zA (zC1 rfl (zB5 rfl) (zB6 (j:=4) (by kernel_rfl) rfl rfl) (fun w2 hb=>zD underlying40 rfl ((B1.drew.bQ hb).cell 1)) (fun _ _=>rfl)) ?_;refine zA (zD8 rfl func144 (by kernel_rfl) (zB5 rfl) (zB6 (j:=3) (by kernel_rfl) rfl rfl) (zB6 (j:=5) (by kernel_rfl) rfl rfl) (fun w2 u0 u1 hb h0 h1=>by obtain rfl:=h0;obtain rfl:=h1;exact (add_any _ _ _ _ _ (k0s.drew.bQ hb) (k1s.drew.bQ hb) _ rfl HS.out).mono fun e w3 h=>zD7.pd h hb.size)) ?_;refine zA (zD8 rfl func66 (by kernel_rfl) (zB5 rfl) (zB6 (j:=1) (by kernel_rfl) rfl rfl) (zB6 (j:=6) (by kernel_rfl) rfl rfl) (fun w2 u0 u1 hb h0 h1=>by obtain rfl:=h0;exact qG3 _ _ _ (x+y) _ h1.1 h1.2 HZ.out)) ?_
    trivial
   case done13 =>
    refine fun w2 hb2 v0 h0 v1 h1 v2 h2 v3 h3 v4 h4 v5 h5 v6 h6 v7 h7 b hbf => ?_;obtain rfl:=h0;obtain rfl:=h1;obtain rfl:=h2;obtain rfl:=h3;obtain rfl:=h4;obtain rfl:=h5;obtain ⟨q6,f6⟩:=h6;obtain ⟨q7,f7⟩:=h7;simp only [Act.put,zA0,zA2,zA1] at hbf;subst hbf;obtain ⟨u7,rfl,q7⟩:=q7;obtain ⟨A9,c9,rfl,_⟩:=id q7;have B9:=B2.bQ hb2;refine zL8 (i:=8) (by kernel_rfl) rfl rfl rfl rfl rfl rfl (cells:=[.bool (ngB (x+y)),.slice A9 (digs 4294967296 (x+y).natAbs).length c9]) rfl B9 rfl (by kernel_rfl) (zJ1 rfl rfl) fun w9 hg9 BB9 => ?_;have k9:=off q7 B9 no_ints2 hg9;have f9:=(f7 _ _ rfl).mono (show w.heap.size<=w1.heap.size from bb.size);have bb9:=((bb.trans (hb2.mono bb.size)).trans ((Below.refl _ _).grown hg9 (zB4 bb.size hb2.size) (fun g hg=>by injection hg with hg;omega)));obtain ⟨c0,c1,_,_⟩:=Blk.two BB9;refine zJ0 (by kernel_rfl) ?_;go_wp2;exact bodyPost_ret (v:=.agg #[.bool (ngB (x+y)),.slice A9 (digs 4294967296 (x+y).natAbs).length c9]) (by simp [results,results126,go_sem,c0,c1]) rfl ⟨_,rfl,zG k9 rfl rfl,zM3 f9,bb9⟩
theorem jA9 (a0:Value) (x:Int) (a1:Value) (y:Int) (w:World) (h0:IsZ w a0 x) (h1:IsZ w a1 y) (hl:zC2 x<=20000) (hl2:zC2 y<=20000) :
  Calls prog 111 #[a0,a1] w (zE9 (x-y) w):=by
 obtain ⟨u0,rfl,s0⟩:=h0;obtain ⟨A0,c0,rfl,_⟩:=id s0;obtain ⟨u1,rfl,s1⟩:=h1;obtain ⟨A1,c1,rfl,_⟩:=id s1;have HN:Hid (sg (!(ngB y)) y.natAbs = -y):=by show _=_;exact qT3 y
 have HL:Hid (zC2 x<=30000):=by show _<=_;omega
 have HL2:Hid (zC2 (-y)<=30000):=by show _<=_;rw [qG];omega
 go_enter func111,ntmps111
 go_upto_region 1 with (fail)
 obtain ⟨wx,hwx,bb,B0,B1,B2,hsz⟩:=zQ7 w 42 42 42 #[.bool (ngB x),.slice A0 (digs 4294967296 (x).natAbs).length c0] #[.bool (ngB y),.slice A1 (digs 4294967296 (y).natAbs).length c1] #[.bool false,.slice none 0 0];rw [hwx];clear hwx;have k0s:=s0.bQ bb;have k0:IsZ wx (.agg #[.bool (ngB x),.slice A0 (digs 4294967296 (x).natAbs).length c0]) (x):=zG k0s rfl rfl;have k1s:=s1.bQ bb;have k1:IsZ wx (.agg #[.bool (ngB y),.slice A1 (digs 4294967296 (y).natAbs).length c1]) (y):=zG k1s rfl rfl;have hszb:=bb.size;refine flow 8 [Pd.eq (.agg #[.bool (ngB x),.slice A0 (digs 4294967296 (x).natAbs).length c0]),Pd.eq (.pointer (some ⟨w.heap.size+1,0,none⟩)),Pd.eq (.bool (ngB y)),Pd.eq (.bool (!(ngB y))),Pd.eq (.pointer (some ⟨w.heap.size+1,1,none⟩)),Pd.eq (.slice A1 (digs 4294967296 (y).natAbs).length c1),pi (-y),pz (x-y) wx.heap.size] (by kernel_rfl) (by kernel_rfl) ?ob30 ?done30
 case ob30 =>
  refine zA (zC1 rfl (zB5 rfl) (zB7 rfl rfl) (fun w2 hb=>zF6 underlying42 rfl (by kernel_rfl) (B0.drew.bQ hb)) (fun _ _=>rfl)) ?_;refine zA (zC4 rfl (zB5 rfl) (zB7 rfl rfl) (fun _=>by kernel_rfl) (fun _=>rfl)) ?_;refine zA (zC1 rfl (zB5 rfl) (zB6 (j:=1) (by kernel_rfl) rfl rfl) (fun w2 hb=>zD underlying4 rfl ((B1.drew.bQ hb).cell 0)) (fun _ _=>rfl)) ?_;refine zA (zU5 rfl (zB5 rfl) (zB6 (j:=2) (by kernel_rfl) rfl rfl) (fun _=>zW _ _) (fun _=>rfl)) ?_;refine zA (zC4 rfl (zB5 rfl) (zB7 rfl rfl) (fun _=>by kernel_rfl) (fun _=>rfl)) ?_;refine zA (zC1 rfl (zB5 rfl) (zB6 (j:=4) (by kernel_rfl) rfl rfl) (fun w2 hb=>zD underlying40 rfl ((B1.drew.bQ hb).cell 1)) (fun _ _=>rfl)) ?_;refine zA (zD8 rfl func66 (by kernel_rfl) (zB5 rfl) (zB6 (j:=3) (by kernel_rfl) rfl rfl) (zB6 (j:=5) (by kernel_rfl) rfl rfl) (fun w2 u0 u1 hb h0 h1=>by obtain rfl:=h0;obtain rfl:=h1;exact jA7 _ _ _ (-y) _ (k1s.drew.bQ hb) HN.out)) ?_;refine zA (zD8 rfl func126 (by kernel_rfl) (zB5 rfl) (zB6 (j:=0) (by kernel_rfl) rfl rfl) (zB6 (j:=6) (by kernel_rfl) rfl rfl) (fun w2 u0 u1 hb h0 h1=>by obtain rfl:=h0;exact (yG _ _ _ _ _ (k0.drew.bQ hb) h1 HL.out HL2.out).mono fun e w3 h=>zE9.pd h hb.size)) ?_
  trivial
 case done30 =>
  refine fun w1 hb1 v0 h0 v1 h1 v2 h2 v3 h3 v4 h4 v5 h5 v6 h6 v7 h7 b hbf => ?_;obtain rfl:=h0;obtain rfl:=h1;obtain rfl:=h2;obtain rfl:=h3;obtain rfl:=h4;obtain rfl:=h5;have q6:=h6;obtain ⟨q7,f7⟩:=h7;simp only [Act.put,zA0,zA2,zA1] at hbf;subst hbf;obtain ⟨u7,rfl,q7⟩:=q7;obtain ⟨A9,c9,rfl,_⟩:=id q7;have B9:=B2.bQ hb1;refine zL8 (i:=8) (by kernel_rfl) rfl rfl rfl rfl rfl rfl (cells:=[.bool (ngB (x-y)),.slice A9 (digs 4294967296 (x-y).natAbs).length c9]) rfl B9 rfl (by kernel_rfl) (zJ1 rfl rfl) fun w9 hg9 BB9 => ?_;have k9:=off q7 B9 no_ints2 hg9;have f9:=(f7 _ _ rfl).mono (show w.heap.size<=wx.heap.size from bb.size);have bb9:=((bb.trans (hb1.mono bb.size)).trans ((Below.refl _ _).grown hg9 (zB4 bb.size hb1.size) (fun g hg=>by injection hg with hg;omega)));obtain ⟨c0,c1,_,_⟩:=Blk.two BB9;refine zJ0 (by kernel_rfl) ?_;go_wp2;exact bodyPost_ret (v:=.agg #[.bool (ngB (x-y)),.slice A9 (digs 4294967296 (x-y).natAbs).length c9]) (by simp [results,results111,go_sem,c0,c1]) rfl ⟨_,rfl,zG k9 rfl rfl,zM3 f9,bb9⟩
end whl
namespace flow
open Go.RowKit num mem
section
variable {P:Program}
theorem zW4 {t:TypeId} {g off:Nat} {cs es:List Value} {e:TypeId} {d:TypeDesc} {w:World} (hu:P.underlying t=some d) (hd:d.isRow=true) (hi:(P.info? t).map (·.size)=some cs.length) (hB:w.heap[g]?=some (.cells es.toArray e (0,0))) (hsub:(es.drop off).take cs.length=cs):(Instr.loadAt t (.pointer (some ⟨g,off,none⟩))).run P w=.ok (.agg cs.toArray) w :=
 run_loadAt_mid w g off t cs d (fun j v hj=>by
  rw [cell_of_row w g (off+j) es.toArray e (0,0) hB];have hj2:j<cs.length:=(zA4.1 hj).1;have h:=congrArg (·[j]?) hsub;simp only [List.getElem?_take_of_lt hj2,bW9] at h;rw [hj] at h;simpa using h) hu hd hi
end
section
variable {P:Program} {Q:Exit->Act->World->Prop} {ops:Array Oper} {L:List Oper} {Φ : List Pd} {w0:World} {a0:Act} {i:Nat} {o:Oper}
theorem jB {t:TypeId} {k:Nat} {x:Operand} {F:World->Value->Prop} (hop:o.op=.build t #[(k,x)]) (hw:Wt ops L Φ w0 a0 o true) (hx:Ev L Φ w0 a0 o x F)
  (hr:∀ w u,Below w0.heap.size w0 w->F w u -> ∃ v,(Instr.build t #[(k,u)]).run P w=.ok v w/\(ph Φ i).p w v):Ob P Q ops L Φ w0 a0 i o :=
 zO5 hw (by unfold isA;rw [hop]) fun ms w hS=>by
  obtain ⟨v,h1,h2⟩:=hr w _ hS.bQ (hx ms w hS);exact ⟨v,by unfold execOp;simp only [hop,Sem.run_bind,bX7,List.map_cons,List.map_nil,h1];rfl,h2⟩
end
theorem zH2 {x y z:Value} (hx:x.oneCell'=true) (hy:y.oneCell'=true) (hz:z.oneCell'=true):∀ c∈[x,y,z],c.oneCell'=true:=by
 intro c hc;rcases List.mem_cons.1 hc with rfl|hc
 ·exact hx
 ·exact zJ1 hy hz c hc
theorem zD3 {k:IntKind} {b:Bool} {A D:Option Addr} {n m i j:Nat}:∀ c∈(#[.bool b,.slice A n m,.slice D i j]:Array Value),∀ i,c ≠ .int k i:=by
 intro c hc i;simp at hc;rcases hc with rfl|rfl|rfl<;>simp
end flow
namespace rat
open Go.RowKit num mem nat txt str flow whl
theorem three {w:World} {g:Nat} {t:TypeId} {x y z:Value} (h:Blk w g t #[x,y,z]):w.cell? ⟨g,0,none⟩=some x/\w.cell? ⟨g,1,none⟩=some y/\w.cell? ⟨g,2,none⟩=some z/\w.frozen? ⟨g,0,none⟩=false/\w.frozen? ⟨g,1,none⟩=false/\w.frozen? ⟨g,2,none⟩=false :=
 ⟨h.cell 0,h.cell 1,h.cell 2,h.frozen 0,h.frozen 1,h.frozen 2⟩
theorem zR7.mono {B B':Nat} {v:Value} (h:zR7 B v) (hb:B'<=B):zR7 B' v:=fun n u t e=>⟨(h n u t e).1.mono hb,(h n u t e).2.mono hb⟩
theorem zM4 {B:Nat} {b:Bool} {u t:Value} (h:zE5 B u) (k:zE5 B t):zR7 B (.agg #[.bool b,u,t]):=by
 intro n u' t' e;injection e with e;have e:=congrArg Array.toList e;simp at e;obtain ⟨_,rfl,rfl⟩:=e;exact ⟨h,k⟩
def RetQ (q:Rat) (w:World) (e:Ending) (w':World):Prop:=∃ v,e=.returned v/\IsQ w' v q/\zR7 w.heap.size v/\Below w.heap.size w w'
def zZ5 (q:Rat) (w:World) (e:Ending) (w':World):Prop:=∃ v,e=.returned v/\IsP w' v q/\zR7 w.heap.size v/\Below w.heap.size w w'
def qG4 (q:Rat) (w:World) (e:Ending) (w':World):Prop:=∃ v,e=.returned v/\IsQ w' v q/\Below w.heap.size w w'
def zU7 (q:Rat) (n:Int) (w:World) (e:Ending) (w':World):Prop:=∃ v,e=.returned (.tuple #[v,.int .i64 n])/\IsQ w' v q/\Below w.heap.size w w'
def pqe (q:Rat) (n:Int):Pd:=⟨fun w t => ∃ v,t=.tuple #[v,.int .i64 n]/\IsQ w v q,fun h hb=>by obtain ⟨v,e,h1⟩:=h;exact ⟨v,e,h1.bQ hb⟩⟩
def pq (q:Rat) (B:Nat):Pd:=⟨fun w v=>IsQ w v q/\zR7 B v,fun h hb=>⟨h.1.bQ hb,h.2⟩⟩
def pqn (q:Rat):Pd:=⟨fun w v=>IsQ w v q,fun h hb=>h.bQ hb⟩
def pp (q:Rat):Pd:=⟨fun w v=>IsP w v q,fun h hb=>h.bQ hb⟩
def ppf (q:Rat) (B:Nat):Pd:=⟨fun w v=>IsP w v q/\zR7 B v,fun h hb=>⟨h.1.bQ hb,h.2⟩⟩
theorem RetQ.pd {q:Rat} {w:World} {e:Ending} {w':World} {B:Nat} (h:RetQ q w e w') (hB:B<=w.heap.size):zI2 (pq q B) w e w':=by
 obtain ⟨v,h1,h2,h3,h4⟩:=h;exact ⟨v,h1,⟨h2,h3.mono hB⟩,h4⟩
theorem qG4.pd {q:Rat} {w:World} {e:Ending} {w':World} (h:qG4 q w e w'):zI2 (pqn q) w e w':=h
theorem RetQ.n {q:Rat} {w:World} {e:Ending} {w':World} (h:RetQ q w e w'):qG4 q w e w':=by
 obtain ⟨v,h1,h2,_,h4⟩:=h;exact ⟨v,h1,h2,h4⟩
theorem zU7.pd {q:Rat} {n:Int} {w:World} {e:Ending} {w':World} (h:zU7 q n w e w'):zI2 (pqe q n) w e w':=by
 obtain ⟨v,h1,h2,h3⟩:=h;exact ⟨_,h1,⟨v,rfl,h2⟩,h3⟩
theorem zZ5.pdf {q:Rat} {w:World} {e:Ending} {w':World} {B:Nat} (h:zZ5 q w e w') (hB:B<=w.heap.size):zI2 (ppf q B) w e w':=by
 obtain ⟨v,h1,h2,h3,h4⟩:=h;exact ⟨v,h1,⟨h2,h3.mono hB⟩,h4⟩
theorem endQ {w w2:World} {u t x y z:Value} {q:Rat} {g B:Nat} (hb:Below w.heap.size w w2) (hg:w.heap.size<=g) (hgB:g<B) (hu:IsS w2 .u64 u (digs 4294967296 q.num.natAbs)) (ht:IsS w2 .u64 t (digs 4294967296 q.den)) (hf:zR7 B (.agg #[.bool (ngB q.num),u,t])) :
  RetQ q w (.returned (.agg #[.bool (ngB q.num),u,t])) (((w2.setCell ⟨g,0,none⟩ x).setCell ⟨g,1,none⟩ y).setCell ⟨g,2,none⟩ z):=by
 obtain ⟨f1,f2⟩:=hf _ _ _ rfl;exact ⟨_,rfl,⟨u,t,rfl,((hu.setCell f1 hgB _).setCell f1 hgB _).setCell f1 hgB _,((ht.setCell f2 hgB _).setCell f2 hgB _).setCell f2 hgB _⟩,hf.mono (by omega),((hb.setCell hg _).setCell hg _).setCell hg _⟩
theorem zE9.pi {z:Int} {w:World} {e:Ending} {w':World} (h:zE9 z w e w'):zI2 (pi z) w e w':=by
 obtain ⟨v,h1,h2,_,h4⟩:=h;exact ⟨v,h1,h2,h4⟩
end rat
namespace num
theorem gcd_mod (x y:Nat):Nat.gcd y (x % y)=Nat.gcd x y:=by
 rw [Nat.gcd_comm x y,Nat.gcd_rec y x,Nat.gcd_comm]
def odp (x:Nat):Nat:=x / 2^tz x
theorem zU8 {x:Nat} (h:0<x):x=2^tz x*odp x/\odp x % 2=1:=by
  induction x using Nat.strongRecOn with
  | ind x ih =>
    by_cases h1:x % 2=1
    · unfold odp;rw [yA h1];simp [h1]
    · have h2:x % 2=0:=by omega
      obtain ⟨e,o⟩:=ih (x / 2) (by omega) (by omega)
      have e2:odp x=odp (x / 2):=by
        unfold odp;rw [qE3 (by omega) h2,bY1,bY0,<- Nat.div_div_eq_div_mul]
      refine ⟨?_,by rw [e2];exact o⟩;rw [e2,qE3 (by omega) h2,bY1,Nat.mul_right_comm,<- e];omega
theorem odp_pos {x:Nat} (h:0<x):0<odp x:=by have:=(zU8 h).2;omega
theorem odp_le (x:Nat):odp x<=x:=Nat.div_le_self _ _
theorem jB0 {x:Nat} (h:0<x) (h2:x % 2=0):2*odp x<=x:=by
 obtain ⟨e,o⟩:=zU8 h;have ht:tz x=(tz x-1)+1:=by rw [qE3 (by omega) h2];omega
 rw [ht,bY1] at e
 have:=Nat.pow_pos (n:=tz x-1) (show 0<2 by omega)
 have h3:1*(2*odp x)<=2^(tz x-1)*(2*odp x):=bY4 _ this;rw [<- bX8] at h3;rw [<- bX8,Nat.one_mul] at h3;omega
theorem cop2 {o:Nat} (h:o % 2=1) (k:Nat):Nat.Coprime (2^k) o:=by
 refine Nat.Coprime.pow_left k ?_;show Nat.gcd 2 o=1
 rw [Nat.gcd_rec,h];rfl
theorem gcd_odp {x y:Nat} (hx:0<x) (hy:y % 2=1):Nat.gcd (odp x) y=Nat.gcd x y:=by
 have e:=(zU8 hx).1;have h:=Nat.Coprime.gcd_mul_left_cancel (odp x) (cop2 hy (tz x));rw [<- e] at h;exact h.symm
theorem yG0 (i j p q:Nat) (hp:p % 2=1) (hij:i<=j):Nat.gcd (2^i*p) (2^j*q)=2^i*Nat.gcd p q:=by
 have e:2^j*q=2^i*(2^(j-i)*q):=by rw [<- bX8,<- Nat.pow_add];congr 2;omega
 rw [e,Nat.gcd_mul_left,Nat.gcd_comm p,Nat.Coprime.gcd_mul_left_cancel q (cop2 hp (j-i)),Nat.gcd_comm]
theorem jB1 {x y:Nat} (hx:0<x) (hy:0<y):Nat.gcd x y=Nat.gcd (odp x) (odp y)*2^min (tz x) (tz y):=by
 obtain ⟨e1,o1⟩:=zU8 hx;obtain ⟨e2,o2⟩:=zU8 hy;rw [bY0];rcases Nat.le_total (tz x) (tz y) with h | h
 ·rw [Nat.min_eq_left h]
  conv=>lhs;rw [e1,e2]
  exact yG0 _ _ _ _ o1 h
 ·rw [Nat.min_eq_right h,Nat.gcd_comm x y,Nat.gcd_comm (odp x)]
  conv=>lhs;rw [e1,e2]
  exact yG0 _ _ _ _ o2 h
def BG (g x y:Nat):Prop:=x % 2=1/\y % 2=1/\Nat.gcd x y=g
theorem BG.swap {g x y:Nat} (h:BG g x y):BG g y x:=⟨h.2.1,h.1,by rw [Nat.gcd_comm];exact h.2.2⟩
theorem BG.step {g x y:Nat} (h:BG g x y) (hlt:y<x):BG g (odp (x-y)) y/\0<x-y/\odp (x-y)+y<x+y:=by
 obtain ⟨h1,h2,h3⟩:=h;have h0:0<x-y:=by omega
 refine ⟨⟨(zU8 h0).2,h2,?_⟩,h0,?_⟩
 ·rw [gcd_odp h0 h2,Nat.gcd_sub_self_left (by omega),h3]
 ·have:=jB0 h0 (by omega)
  omega
theorem BG.done {g x:Nat} (h:BG g x x):g=x:=by rw [<- h.2.2,Nat.gcd_self]
theorem BG.start {x y:Nat} (hx:0<x) (hy:0<y):BG (Nat.gcd (odp x) (odp y)) (odp x) (odp y):=⟨(zU8 hx).2,(zU8 hy).2,rfl⟩
def zN7 (l:List Nat):Nat:=l.foldl Nat.gcd 0
theorem jB2 (l:List Nat) (x:Nat):zN7 (l ++ [x])=Nat.gcd (zN7 l) x:=by simp [zN7]
theorem yG1 {x:Nat} (h:0<x):2^tz x<=x:=by
 have e:=(zU8 h).1;have h2:=odp_pos h;have h3:2^tz x*1<=2^tz x*odp x:=bY _ h2;omega
theorem jB3 (x:Nat):x / 4294967296^(tz x / 32) / 2^(tz x % 32)=odp x:=by
 have e:(4294967296:Nat)=2^32:=by decide
 unfold odp;rw [Nat.div_div_eq_div_mul,e,<- Nat.pow_mul,<- Nat.pow_add]
 congr 2;omega
theorem tz_limb {x:Nat} (h:0<x):tz x / 32<(digs 4294967296 x).length:=by
 have h1:=yG1 h;have h2:=zK6 (B:=4294967296) (by omega) x;have e:(4294967296:Nat)=2^32:=by decide
 rw [e,<- Nat.pow_mul] at h2;have h3:2^tz x<2^(32*(digs 4294967296 x).length):=by rw [<- e] at h2;exact Nat.lt_of_le_of_lt h1 h2
 have h4:=(Nat.pow_lt_pow_iff_right (show 1<2 by omega)).1 h3;omega
end num
namespace nat
open Go.RowKit num mem limb
def RetSs (k:IntKind) (l:List Nat) (w:World) (e:Ending) (w':World):Prop:=∃ v,e=.returned v/\IsS w' k v l/\Below w.heap.size w w'
theorem qG5 {B x:Nat} (hB:2<=B) (h:x=0):(digs B x).length<=0:=by rw [h,zJ];simp
theorem qG6 {B x:Nat} (hB:2<=B) (h:0<x):0<(digs B x).length:=by
 rcases bY3 (digs B x).length with h0 | h0
 ·have:=(qA8 hB).1 h0;omega
 ·exact h0
theorem yG2 (v u:Value) (x y:Nat) (w:World) (h:IsS w .i64 v (digs 10000 x)) (h':IsS w .i64 u (digs 10000 y)) (hl:(digs 10000 x).length<=100000) (hl':(digs 10000 y).length<=100000) :
  Calls prog 72 #[v,u] w (RetSs .i64 (digs 10000 (Nat.gcd x y)) w):=by
 go_enter func72,ntmps72
 go_wp2
 go_loopg [0,1] y (fun gk va vb wr => ∃ (p q:Nat),q<=gk/\IsS wr .i64 va (digs 10000 p)/\IsS wr .i64 vb (digs 10000 q)/\(digs 10000 p).length<=100000/\(digs 10000 q).length<=100000/\Hid (Nat.gcd p q=Nat.gcd x y)/\Below w.heap.size w wr)
 case atStart=>exact ⟨x,y,zB3 _,h,h',hl,hl',rfl,Below.refl _ _⟩
 case round =>
  obtain ⟨p,q,hq,hp,hqs,lp,lq,HG,hb⟩:=hrel;obtain ⟨A2,c2,rfl,_⟩:=id hqs;by_cases hq0:q=0
  ·have hz:=qG5 (B:=10000) (by omega) hq0;have HE:Hid (Nat.gcd x y=p):=by have h1:=HG.out;rw [hq0,Nat.gcd_zero_right] at h1;exact h1.symm
   clear hq0;go_wp2;go_ret;exact ⟨_,rfl,by rw [HE.out];exact hp,hb⟩
  ·have hz:=qG6 (B:=10000) (x:=q) (by omega) (by omega);have hml:=dec_mod p q;have hlt:p % q<q:=Nat.mod_lt _ (by omega);have HG2:Hid (Nat.gcd q (p % q)=Nat.gcd x y):=by show _=_;rw [gcd_mod];exact HG.out
   go_wp2_with fail
   refine (qE5 _ _ p q _ hp hqs lp lq (by omega)).mono ?_;rintro e w' ⟨v3,v4,rfl,k3,k4,f3,f4,b4⟩;have hb2:=hb.trans (b4.mono hb.size);go_wp2
   go_roundg (p % q)
   case rel=>exact ⟨q,p % q,zB3 _,hqs.bQ b4,k4,lq,by omega,HG2,hb2⟩
   case measure=>omega
theorem qC3 (v:Value) (x:Nat) (w:World) (h:IsS w .u64 v (digs 4294967296 x)) (hl:(digs 4294967296 x).length<=90000) :
  Calls prog 138 #[v] w (zD7 .u64 (digs 4294967296 x) w):=by
 go_enter func138,ntmps138;go_wp2_with fail
 refine (qK6 _ x _ _ 1 0 _ h (by omega) rfl rfl (by omega) (by omega) x (by omega)).mono ?_;rintro e w1 ⟨v1,rfl,k1,f1,b1⟩;go_wp2;go_ret;exact ⟨_,rfl,k1,f1,b1⟩
theorem digs_up {B:Nat} (hB:2<=B) (q:Nat) {y:Nat} (hy:0<y):digs B (B^q*y)=zB q 0 ++ digs B y:=by
  induction q with
  | zero=>simp
  | succ q ih =>
    have hp:0<B^q*y:=Nat.mul_pos (Nat.pow_pos (by omega)) hy;have e:B^(q+1)*y=B*(B^q*y):=by rw [bY1,bY0 (B^q) B,bX8]
    rw [e,zU hB (Nat.mul_pos (by omega) hp),Nat.mul_mod_right,Nat.mul_div_cancel_left _ (by omega),ih,List.replicate_succ,List.cons_append]
theorem qL6 (v:Value) (x:Nat) (w:World) (h:IsS w .u64 v (digs 4294967296 x)) (hl:(digs 4294967296 x).length<=90000) (hx:0<x) (y:Nat) (hy:y=odp x) :
  Calls prog 140 #[v] w (zD7 .u64 (digs 4294967296 y) w):=by
 obtain ⟨t,ht⟩:∃ t,t=tz x:=⟨_,rfl⟩;have hgl:t / 32<(digs 4294967296 x).length:=by rw [ht];exact tz_limb hx
 have HT:=hQ9 ht;have HY:Hid (y=x / 4294967296^(t / 32) / 2^(t % 32)):=by show _=_;rw [hy,ht,jB3]
 have HD:Hid ((digs 4294967296 x).drop (t / 32)=digs 4294967296 (x / 4294967296^(t / 32))):=qR7 (n:=t / 32) (by omega);have hdl:=zG1 (B:=4294967296) (by omega) (Nat.div_le_self x (4294967296^(t / 32)));clear ht hy;obtain ⟨A,c,rfl,hc,hm,hr⟩:=id h;have hm2:=hm;unfold maxLen at hm2;have hs:IsS w .u64 (.slice (A.map fun x=>x.add (t / 32)) ((digs 4294967296 x).length-t / 32) (c-t / 32)) (digs 4294967296 (x / 4294967296^(t / 32))):=by rw [<- HD.out];exact hr.isDrop hc hm (by omega)
 have hcap:t / 32<c:=by omega
 go_enter func140,ntmps140;go_wp2_with fail
 refine (zeros_any _ x t _ h (by omega) HT.out).mono ?_;rintro e w1 ⟨rfl,rfl⟩;go_wp2_with fail
 all_goals
  refine (yB1 _ (x / 4294967296^(t / 32)) _ (t % 32) _ (by omega) (by first | exact hs | skip) (by omega) (by omega) y HY.out).mono ?_
  rintro e w1 ⟨v1,rfl,k1,f1,b1⟩;go_wp2;go_ret;exact ⟨_,rfl,k1,f1,b1⟩
theorem jB4 (v:Value) (x:Nat) (nI:Int) (n:Nat) (w:World) (hnI:nI=(n:Int)) (h:IsS w .u64 v (digs 4294967296 x)) (hl:(digs 4294967296 x).length<=90000) (hx:0<x) (hn:n<=3000000) (y:Nat) (hy:y=x*2^n) :
  Calls prog 142 #[v,.int .i64 nI] w (zD7 .u64 (digs 4294967296 y) w):=by
 subst hnI;have hz:0<x*2^(n % 32):=Nat.mul_pos hx (Nat.pow_pos (by omega));have hzl:=qS1 (x:=x) (u:=n % 32) (by omega)
 have HE:Hid (digs 4294967296 y=zB (n / 32) 0 ++ digs 4294967296 (x*2^(n % 32))):=by
  show _=_
  rw [<- digs_up (by omega) _ hz,hy,qF0,Nat.mul_left_comm,<- Nat.pow_add]
  congr 3;omega
 clear hy
 go_enter func142,ntmps142;go_wp2_with fail
 refine (shl_ok _ x _ (n % 32) _ (by omega) h (by omega) (by omega) _ rfl).mono ?_;rintro e w1 ⟨v1,rfl,k1,f1,b1⟩;obtain ⟨A1,c1,rfl,hc1,hm1,hr1⟩:=k1
 go_wp2_with (first
  | (at_make;refine zR4 rfl _ _ rfl zK1 (n / 32) rfl rfl (by omega) (by omega) (by omega) (zB3 _) ?_;intro w2 hown2 hb2 hz2)
  | (at_builtin;refine qB rfl (.tmp 16) (.tmp 17) rfl zK1 rfl hown2 rfl (news:=digs 4294967296 (x*2^(n % 32))) rfl (hr1.bQ hb2) (by simp;omega) hb2.size ?_;intro v' w3 hown3 hb3 hg3))
 go_ret;exact ⟨_,rfl,by rw [HE.out];exact hown3.isS,hown3.fresh.mono b1.size,(b1.trans (hb2.mono b1.size)).trans (hb3.mono b1.size)⟩
theorem jB5 {x n:Nat} (h:(digs 4294967296 x).length<=n):x<2^(32*n):=by
 have h2:=zK6 (B:=4294967296) (by omega) x;rw [qF0] at h2;exact bY2 h2 (bX9 (by omega) (by omega))
theorem tz_le {x n:Nat} (hx:0<x) (h:(digs 4294967296 x).length<=n):tz x<=32*n:=by
 have h1:=Nat.lt_of_le_of_lt (yG1 hx) (jB5 h)
 have:=(Nat.pow_lt_pow_iff_right (show 1<2 by omega)).1 h1
 omega
theorem qL7 (x:Nat):(digs 4294967296 (odp x)).length<=(digs 4294967296 x).length:=zG1 (by omega) (odp_le x)
theorem yG3 (x y:Nat):(digs 4294967296 (x-y)).length<=(digs 4294967296 x).length:=zG1 (by omega) (Nat.sub_le _ _)
theorem qL8 (v u:Value) (x y:Nat) (w:World) (h:IsS w .u64 v (digs 4294967296 x)) (h':IsS w .u64 u (digs 4294967296 y)) (hl:(digs 4294967296 x).length<=90000) (hl':(digs 4294967296 y).length<=90000) (z:Nat) (hz:z=Nat.gcd x y) :
  Calls prog 123 #[v,u] w (zD7 .u64 (digs 4294967296 z) w):=by
 have HZ:=hQ9 hz;clear hz;by_cases hx0:x=0
 ·have hzl:=qG5 (B:=4294967296) (by omega) hx0;have HE:Hid (z=y):=by show _=_;rw [HZ.out,hx0,Nat.gcd_zero_left]
  clear hx0
  go_enter func123,ntmps123;go_wp2_with fail
  refine (qC3 _ x _ h hl).mono ?_;rintro e w1 ⟨v1,rfl,k1,f1,b1⟩;go_wp2_with fail
  refine (qC3 _ y _ (h'.bQ b1) hl').mono ?_;rintro e w2 ⟨v2,rfl,k2,f2,b2⟩;obtain ⟨A1,c1,rfl,_⟩:=id k1;go_wp2;go_ret;exact ⟨_,rfl,by rw [HE.out];exact k2,f2.mono b1.size,b1.trans (b2.mono b1.size)⟩
 ·have hxp:0<x:=by omega
  have hxl:=qG6 (B:=4294967296) (by omega) hxp;have hxl2:(((digs 4294967296 x).length:Int) == 0)=false:=by rw [beq_eq_false_iff_ne];omega
  clear hx0;by_cases hy0:y=0
  ·have hzl:=qG5 (B:=4294967296) (by omega) hy0;have HE:Hid (z=x):=by show _=_;rw [HZ.out,hy0,Nat.gcd_zero_right]
   clear hy0
   go_enter func123,ntmps123;go_wp2_with fail
   refine (qC3 _ x _ h hl).mono ?_;rintro e w1 ⟨v1,rfl,k1,f1,b1⟩;go_wp2_with fail
   refine (qC3 _ y _ (h'.bQ b1) hl').mono ?_;rintro e w2 ⟨v2,rfl,k2,f2,b2⟩;obtain ⟨A1,c1,rfl,_⟩:=id k1;obtain ⟨A2,c2,rfl,_⟩:=id k2;go_wp2;go_ret;exact ⟨_,rfl,by rw [HE.out];exact k1.bQ b2,f1,b1.trans (b2.mono b1.size)⟩
  ·have hyp:0<y:=by omega
   have hyl:=qG6 (B:=4294967296) (by omega) hyp;have hyl2:(((digs 4294967296 y).length:Int) == 0)=false:=by rw [beq_eq_false_iff_ne];omega
   clear hy0;obtain ⟨t,ht⟩:∃ t,t=tz x:=⟨_,rfl⟩;obtain ⟨s,hs⟩:∃ s,s=tz y:=⟨_,rfl⟩;have htl:=tz_le hxp hl;have hsl:=tz_le hyp hl';rw [<- ht] at htl;rw [<- hs] at hsl;obtain ⟨g,hg⟩:∃ g,g=Nat.gcd (odp x) (odp y):=⟨_,rfl⟩;have HG:Hid (z=g*2^min t s):=by show _=_;rw [HZ.out,jB1 hxp hyp,hg,ht,hs]
   obtain ⟨p0,hp0⟩:∃ p,p=odp x:=⟨_,rfl⟩;obtain ⟨q0,hq0⟩:∃ q,q=odp y:=⟨_,rfl⟩;have hpl:=qL7 x;have hql:=qL7 y;have HB:Hid (BG g p0 q0):=by show BG _ _ _;rw [hg,hp0,hq0];exact BG.start hxp hyp
   rw [<- hp0] at hpl;rw [<- hq0] at hql;have HT:=hQ9 ht;have HS:=hQ9 hs;have HP:=hQ9 hp0;have HQ:=hQ9 hq0;rcases (show (s<t/\min t s=s)\/(¬ s<t/\min t s=t) from by omega) with ⟨hst,hm⟩|⟨hst,hm⟩
   all_goals
    rw [hm] at HG;clear ht hs hg hp0 hq0 HZ hm
    go_enter func123,ntmps123;go_wp2_with fail
    refine (qC3 _ x _ h hl).mono ?_;rintro e w1 ⟨v1,rfl,k1,f1,b1⟩;go_wp2_with fail
    refine (qC3 _ y _ (h'.bQ b1) hl').mono ?_;rintro e w2 ⟨v2,rfl,k2,f2,b2⟩;replace k1:=k1.bQ b2;have b3:=b1.trans (b2.mono b1.size);obtain ⟨A1,c1,rfl,_⟩:=id k1;obtain ⟨A2,c2,rfl,_⟩:=id k2;clear h h' b1 b2 f1 f2;go_wp2_with fail
    refine (zeros_any _ x t _ k1 (by omega) HT.out).mono ?_;rintro e w3 ⟨rfl,rfl⟩;go_wp2_with fail
    refine (zeros_any _ y s _ k2 (by omega) HS.out).mono ?_;rintro e w3 ⟨rfl,rfl⟩;go_wp2_with fail
    refine (qL6 _ x _ k1 hl hxp p0 HP.out).mono ?_;rintro e w3 ⟨v3,rfl,k3,f3,b4⟩;have b5:=b3.trans (b4.mono b3.size);go_wp2_with fail
    refine (qL6 _ y _ (k2.bQ b4) hl' hyp q0 HQ.out).mono ?_;rintro e w4 ⟨v4,rfl,k4,f4,b6⟩;have b7:=b5.trans (b6.mono b5.size);replace k3:=k3.bQ b6;clear k1 k2 b3 b4 b5 b6 f3 f4;go_wp2_with fail
    refine (zU2 _ _ p0 q0 (ord p0 q0) _ k3 k4 rfl).mono ?_;rintro e w5 ⟨rfl,b8⟩;have b9:=b7.trans (b8.mono b7.size);replace k3:=k3.bQ b8;replace k4:=k4.bQ b8;clear b7 b8;go_wp2
    go_loopg [0,1,6] (p0+q0) (fun gk va vb vo wr => ∃ (p q:Nat) (o:Int),p+q<=gk/\IsS wr .u64 va (digs 4294967296 p)/\IsS wr .u64 vb (digs 4294967296 q)/\(digs 4294967296 p).length<=90000/\(digs 4294967296 q).length<=90000/\Hid (BG g p q)/\Hid (o=ord p q)/\vo=.int .i64 o/\Below w.heap.size w wr)
    case atStart=>exact ⟨p0,q0,_,zB3 _,k3,k4,by omega,by omega,HB,rfl,rfl,b9⟩
    case round =>
     clear k3 k4 b9;obtain ⟨p,q,o,hpq,kp,kq,lp,lq,HBG,HO,rfl,hb⟩:=hrel;rcases Nat.lt_trichotomy p q with hlt | heq | hlt
     ·obtain rfl:o = -1:=by rw [HO.out];exact zS4 hlt
      clear HO;obtain ⟨hs1,hs2,hs3⟩:=HBG.out.swap.step hlt;have HS1:=hQ9 hs1;have hs4:=yG3 q p;have hs5:=qL7 (q-p);clear hs1;go_wp2_with fail
      refine (qF1 _ _ q p _ kq kp (by omega) (by omega) (q-p) rfl).mono ?_;rintro e w5 ⟨v5,rfl,k5,f5,b5⟩;go_wp2_with fail
      refine (qL6 _ (q-p) _ k5 (by omega) hs2 (odp (q-p)) rfl).mono ?_;rintro e w6 ⟨v6,rfl,k6,f6,b6⟩;have kp2:=(kp.bQ b5).bQ b6;have b7:=(hb.trans (b5.mono hb.size));have b8:=b7.trans (b6.mono b7.size);go_wp2_with fail
      refine (zU2 _ _ (odp (q-p)) p (ord (odp (q-p)) p) _ k6 kp2 rfl).mono ?_;rintro e w7 ⟨rfl,b9⟩;have b10:=b8.trans (b9.mono b8.size);go_wp2
      go_roundg (odp (q-p)+p)
      case rel=>exact ⟨odp (q-p),p,_,zB3 _,k6.bQ b9,kp2.bQ b9,by omega,by omega,HS1,rfl,rfl,b10⟩
      case measure=>omega
     ·obtain rfl:o=0:=by rw [HO.out,heq];exact qE1 q
      subst heq;have HZ:=(fun m (hh:Hid (z=g*2^m))=>(show Hid (z=p*2^m) from by show _=_;rw [hh.out,HBG.out.done])) _ HG;have hpos:0<p:=by have:=HBG.out.1;omega
      clear HO;go_wp2_with fail
      refine (jB4 _ p _ _ _ rfl kp (by omega) hpos (by omega) z HZ.out).mono ?_;rintro e w5 ⟨v5,rfl,k5,f5,b5⟩;go_wp2;go_ret;exact ⟨_,rfl,k5,f5.mono hb.size,hb.trans (b5.mono hb.size)⟩
     ·obtain rfl:o=1:=by rw [HO.out];exact zU0 hlt
      clear HO;obtain ⟨hs1,hs2,hs3⟩:=HBG.out.step hlt;have HS1:=hQ9 hs1;have hs4:=yG3 p q;have hs5:=qL7 (p-q);clear hs1;go_wp2_with fail
      refine (qF1 _ _ p q _ kp kq (by omega) (by omega) (p-q) rfl).mono ?_;rintro e w5 ⟨v5,rfl,k5,f5,b5⟩;go_wp2_with fail
      refine (qL6 _ (p-q) _ k5 (by omega) hs2 (odp (p-q)) rfl).mono ?_;rintro e w6 ⟨v6,rfl,k6,f6,b6⟩;have kq2:=(kq.bQ b5).bQ b6;have b7:=(hb.trans (b5.mono hb.size));have b8:=b7.trans (b6.mono b7.size);go_wp2_with fail
      refine (zU2 _ _ (odp (p-q)) q (ord (odp (p-q)) q) _ k6 kq2 rfl).mono ?_;rintro e w7 ⟨rfl,b9⟩;have b10:=b8.trans (b9.mono b8.size);go_wp2
      go_roundg (odp (p-q)+q)
      case rel=>exact ⟨odp (p-q),q,_,zB3 _,k6.bQ b9,kq2.bQ b9,by omega,by omega,HS1,rfl,rfl,b10⟩
      case measure=>omega
theorem gcd_len {x y n:Nat} (hx:(digs 4294967296 x).length<=n) (hy:(digs 4294967296 y).length<=n):(digs 4294967296 (Nat.gcd x y)).length<=n:=by
 rcases bY3 x with h | h
 ·rw [h,Nat.gcd_zero_left];exact hy
 ·exact zB4 (zG1 (by omega) (Nat.gcd_le_left y h)) hx
def Lens (n:Nat) (xs:List Nat):Prop:=∀ x∈xs,(digs 4294967296 x).length<=n
theorem Lens.at {n:Nat} {xs:List Nat} (h:Lens n xs) {k x:Nat} (hk:xs[k]?=some x):(digs 4294967296 x).length<=n:=h x (zA5 hk)
theorem jB6 {xs:List Nat} {k x:Nat} (h:xs[k]?=some x):zN7 (xs.take (k+1))=Nat.gcd (zN7 (xs.take k)) x:=by rw [zY3 h,jB2]
theorem qT5 (V:Value) (vs:List Value) (xs:List Nat) (w:World) (hV:IsV w V vs) (hN:qF2 w vs xs) (hl:vs.length<=1000000) (hS:Lens 90000 xs) :
  Calls prog 100 #[V] w (zD7 .u64 (digs 4294967296 (zN7 xs)) w):=by
 obtain ⟨A,c,rfl,hc,hcells⟩:=hV;have HC:=hQ9 hcells;have HN:=hQ9 hN;have HX:Hid (vs.length=xs.length):=hN.1;have HS:=hQ9 hS;clear hcells hN hS
 go_enter func100,ntmps100
 go_wp2
 go_loopw [3,9] (fun vg vi wr => ∃ (k G:Nat),k<=vs.length/\Hid (G=zN7 (xs.take k))/\(digs 4294967296 G).length<=90000/\IsS wr .u64 vg (digs 4294967296 G)/\zE5 w.heap.size vg/\Below w.heap.size w wr/\vi=.int .i64 (k:Int)) (fun _ vi _=>vs.length-(intOf vi).toNat)
 case atStart=>exact ⟨0,0,by omega,rfl,by rw [zJ];simp,by rw [zJ];exact (zP w w.heap.size _ .u64 (zB3 _)).isS,qK1 (zB3 _),zC9 (zB3 _) _,rfl⟩
 case round =>
  obtain ⟨k,G,hk,HG,lG,kG,fG,hb,rfl⟩:=hrel;by_cases hp:k<vs.length
  ·obtain ⟨u,x,hu,hx,hv⟩:=HN.out.at_ hp;obtain ⟨ad,rfl,hcell⟩:=HC.out k u hu;have hcell2:=(hb.cell (bQ0 w _ hcell)).trans hcell;have lx:=HS.out.at hx;have hv2:=hv.bQ hb;have hlz:(digs 4294967296 (Nat.gcd G x)).length<=90000:=gcd_len lG lx;obtain ⟨z,hz⟩:∃ z,z=Nat.gcd G x:=⟨_,rfl⟩;rw [<- hz] at hlz;have HT:Hid (z=zN7 (xs.take (k+1))):=by show _=_;rw [jB6 hx,<- HG.out];exact hz
   obtain ⟨t,ht⟩:∃ t,t=ord x G:=⟨_,rfl⟩;have HO:=hQ9 ht;have HZ:=hQ9 hz;obtain ⟨A1,c1,rfl,_⟩:=id hv2;obtain ⟨A2,c2,rfl,_⟩:=id kG;clear hu hx hv hcell hz;by_cases hlt:x<G
   ·have ht0:t<0:=by rw [ht];exact qQ6.2 hlt
    clear ht;rcases bY3 x with hx0 | hx0
    ·have hzl:=qG5 (B:=4294967296) (by omega) hx0;clear hx0
     go_wp2_with fail
     refine (zU2 _ _ x G t _ hv2 kG HO.out).mono ?_;rintro e w1 ⟨rfl,b1⟩;go_wp2_with fail
     refine (qL8 _ _ G x _ (kG.bQ b1) (hv2.bQ b1) lG lx z HZ.out).mono ?_;rintro e w2 ⟨v2,rfl,k2,f2,b2⟩;have b3:=hb.trans (b1.mono hb.size);have b4:=b3.trans (b2.mono b3.size);go_wp2;go_roundw;case rel=>exact ⟨k+1,z,by omega,HT,hlz,k2,f2.mono b3.size,b4,by go_num⟩
     case measure=>simp [intOf];omega
    ·have hzl:=qG6 (B:=4294967296) (by omega) hx0;have hml:=yD5 (x:=G) (y:=x) hx0;have HZ2:Hid (z=Nat.gcd (G % x) x):=by show _=_;rw [HZ.out,Nat.gcd_comm G x,Nat.gcd_rec]
     go_wp2_with fail
     refine (zU2 _ _ x G t _ hv2 kG HO.out).mono ?_;rintro e w1 ⟨rfl,b1⟩;have b3:=hb.trans (b1.mono hb.size);replace hv2:=hv2.bQ b1;replace kG:=kG.bQ b1;go_wp2_with fail
     refine (yD7 _ _ G x _ kG hv2 lG lx hx0 (G % x) rfl).mono ?_;rintro e w2 ⟨v2,rfl,k2,f2,b2⟩;have b4:=b3.trans (b2.mono b3.size);go_wp2_with fail
     refine (qL8 _ _ (G % x) x _ k2 (hv2.bQ b2) (by omega) lx z HZ2.out).mono ?_;rintro e w3 ⟨v3,rfl,k3,f3,b5⟩;have b6:=b4.trans (b5.mono b4.size);go_wp2;go_roundw;case rel=>exact ⟨k+1,z,by omega,HT,hlz,k3,f3.mono b4.size,b6,by go_num⟩
     case measure=>simp [intOf];omega
   ·have ht0:¬ t<0:=by rw [ht,qQ6];exact hlt
    clear ht;rcases bY3 G with hx0 | hx0
    ·have hzl:=qG5 (B:=4294967296) (by omega) hx0;have HZ2:Hid (z=Nat.gcd x G):=by show _=_;rw [HZ.out,Nat.gcd_comm]
     clear hx0;go_wp2_with fail
     refine (zU2 _ _ x G t _ hv2 kG HO.out).mono ?_;rintro e w1 ⟨rfl,b1⟩;go_wp2_with fail
     refine (qL8 _ _ x G _ (hv2.bQ b1) (kG.bQ b1) lx lG z HZ2.out).mono ?_;rintro e w2 ⟨v2,rfl,k2,f2,b2⟩;have b3:=hb.trans (b1.mono hb.size);have b4:=b3.trans (b2.mono b3.size);go_wp2;go_roundw;case rel=>exact ⟨k+1,z,by omega,HT,hlz,k2,f2.mono b3.size,b4,by go_num⟩
     case measure=>simp [intOf];omega
    ·have hzl:=qG6 (B:=4294967296) (by omega) hx0;have hml:=yD5 (x:=x) (y:=G) hx0;have HZ2:Hid (z=Nat.gcd (x % G) G):=by show _=_;rw [HZ.out,Nat.gcd_rec]
     go_wp2_with fail
     refine (zU2 _ _ x G t _ hv2 kG HO.out).mono ?_;rintro e w1 ⟨rfl,b1⟩;have b3:=hb.trans (b1.mono hb.size);replace hv2:=hv2.bQ b1;replace kG:=kG.bQ b1;go_wp2_with fail
     refine (yD7 _ _ x G _ hv2 kG lx lG hx0 (x % G) rfl).mono ?_;rintro e w2 ⟨v2,rfl,k2,f2,b2⟩;have b4:=b3.trans (b2.mono b3.size);go_wp2_with fail
     refine (qL8 _ _ (x % G) G _ k2 (kG.bQ b2) (by omega) lG z HZ2.out).mono ?_;rintro e w3 ⟨v3,rfl,k3,f3,b5⟩;have b6:=b4.trans (b5.mono b4.size);go_wp2;go_roundw;case rel=>exact ⟨k+1,z,by omega,HT,hlz,k3,f3.mono b4.size,b6,by go_num⟩
     case measure=>simp [intOf];omega
  ·have HE:Hid (G=zN7 xs):=by have h1:=HG.out;rw [zA7 (by have:=HX.out;omega)] at h1;exact h1
   go_wp2;go_ret;exact ⟨_,rfl,by rw [<- HE.out];exact kG,fG,hb⟩
end nat
namespace whl
open Go.RowKit num mem nat txt str flow
def zU9 (b:Bool) (l:List Nat) (most:Nat):Int:=sg b (zY6 l most)
theorem yG4 (b:Bool) (l:List Nat) (most:Nat):zC2 (zU9 b l most)<=most:=by unfold zC2 zU9;rw [zU6];exact qR8 l most
theorem yG5 (b:Bool) (v:Value) (l:List Nat) (mI:Int) (most:Nat) (w:World) (hmI:mI=(most:Int)) (h:IsS w .u64 v l) (hu:Lt 18446744073709551616 l) (hmost:most<=1000000) :
  Calls prog 106 #[.agg #[.bool b,v],.int .i64 mI] w (zE9 (zU9 b l most) w):=by
 obtain ⟨A,c,rfl,_⟩:=id h;have HM:=hQ9 hmI;clear hmI;have hsh:Hid (IsS w .u64 (.slice A l.length c) l):=h
 go_enter func106,ntmps106
 go_upto_region 1 with (fail)
 obtain ⟨wx,hwx,bb,B0,B1,hsz⟩:=zK3 w 42 42 #[.bool b,.slice A l.length c] #[.bool false,.slice none 0 0];rw [hwx];clear hwx;have k0s:=h.bQ bb;obtain ⟨x00,x01,_,_⟩:=Blk.two B0;go_wp2_with fail
 refine (yC4 _ l _ most _ HM.out k0s hu hmost).mono ?_;rintro e w1 ⟨v1,rfl,k1,f1,b1⟩;obtain ⟨A1,c1,rfl,_⟩:=id k1;have B0':=B0.bQ b1;have B1':=B1.bQ b1;have bb1:=bb.trans (b1.mono bb.size);have hs:=b1.size;obtain ⟨x10,x11,z10,z11⟩:=Blk.two B0';obtain ⟨y10,y11,q10,q11⟩:=Blk.two B1';clear x00 x01 B0 B1;obtain ⟨y,hy⟩:∃ y,y=zY6 l most:=⟨_,rfl⟩;have HY:=hQ9 hy.symm;rw [<- hy] at k1 f1 |-;clear hy;by_cases hy0:0<y
 ·have hn:0<(digs 4294967296 y).length:=qF5 hy0;have HE:Hid (ngB (sg b y)=b):=qL5 hy0;have HAb:Hid ((sg b y).natAbs=y):=zU6 b y;have HC:Hid (zU9 b l most=sg b y):=by show _=_;unfold zU9;rw [HY.out]
  cases b
  all_goals
   go_wp2;refine bodyPost_ret (by simp [results,results106,go_sem,y10,y11];rfl) rfl ?_;rw [HC.out];exact zZ3 bb1 (by omega) (show w.heap.size+1<wx.heap.size from hsz) (by rw [HAb.out];exact k1) f1 HE.out.symm
 ·obtain rfl:y=0:=by omega
  have HC:Hid (zU9 b l most=sg b 0):=by show _=_;unfold zU9;rw [HY.out]
  have HE:Hid (ngB (sg b 0)=false):=qT0 b;have HAb:Hid ((sg b 0).natAbs=0):=zU6 b 0;have HD:Hid (digs 4294967296 0=[]):=zJ _;rw [HD.out] at k1 f1 |-;cases b
  all_goals
   go_wp2;refine bodyPost_ret (by simp [results,results106,go_sem,y10,y11];rfl) rfl ?_;rw [HC.out];exact zZ3 bb1 (by omega) (show w.heap.size+1<wx.heap.size from hsz) (by rw [HAb.out,HD.out];exact k1) f1 HE.out.symm
theorem exact_q {x y q:Int} (hy:y≠0) (h:x=q*y):x.natAbs % y.natAbs=0/\x.natAbs / y.natAbs=q.natAbs/\sg (!(ngB x == ngB y)) q.natAbs=q:=by
 have e:x.natAbs=q.natAbs*y.natAbs:=by rw [h,Int.natAbs_mul]
 have hp:0<y.natAbs:=by omega
 refine ⟨by rw [e];exact Nat.mul_mod_left _ _,by rw [e];exact Nat.mul_div_cancel _ hp,?_⟩;by_cases hq:q=0
 ·subst hq;cases (!(ngB x == ngB y))<;>rfl
 ·have hx:sg (!(ngB q == ngB y)) (q.natAbs*y.natAbs)=x:=by rw [h];exact yF7 q y
  have hs:ngB x=(!(ngB q == ngB y)):=by rw [<- hx];exact qL5 (Nat.mul_pos (by omega) hp)
  rw [hs];have h1:=zW1 q
  revert h1
  cases ngB q<;>cases ngB y<;>exact id
theorem yG6 (a0:Value) (x:Int) (a1:Value) (y:Int) (q:Int) (w:World) (h0:IsZ w a0 x) (h1:IsZ w a1 y) (hl:zC2 x<=20000) (hl2:zC2 y<=20000) (hy:y≠0) (hq:x=q*y) :
  Calls prog 101 #[a0,a1] w (qG1 q 0 w):=by
 obtain ⟨u0,rfl,s0⟩:=h0;obtain ⟨A0,c0,rfl,_⟩:=id s0;obtain ⟨u1,rfl,s1⟩:=h1;obtain ⟨A1,c1,rfl,_⟩:=id s1;have HL:Hid ((digs 4294967296 x.natAbs).length<=90000):=zB4 hl (by omega);have HL2:Hid ((digs 4294967296 y.natAbs).length<=90000):=zB4 hl2 (by omega);obtain ⟨hm1,hm2,hm3⟩:=exact_q hy hq;have HY:Hid (0<y.natAbs):=by show 0<_;omega
 have HM1:=hQ9 hm1;have HM2:=hQ9 hm2;have HZ:=hQ9 hm3;clear hm1 hm2 hm3 hy hq
 go_enter func101,ntmps101
 go_upto_region 1 with (fail)
 obtain ⟨wx,hwx,bb,B0,B1,B2,hsz⟩:=zQ7 w 42 42 42 #[.bool (ngB x),.slice A0 (digs 4294967296 (x).natAbs).length c0] #[.bool (ngB y),.slice A1 (digs 4294967296 (y).natAbs).length c1] #[.bool false,.slice none 0 0];rw [hwx];clear hwx;have k0s:=s0.bQ bb;have k0:IsZ wx (.agg #[.bool (ngB x),.slice A0 (digs 4294967296 (x).natAbs).length c0]) (x):=zG k0s rfl rfl;have k1s:=s1.bQ bb;have k1:IsZ wx (.agg #[.bool (ngB y),.slice A1 (digs 4294967296 (y).natAbs).length c1]) (y):=zG k1s rfl rfl;have hszb:=bb.size;have bb0:=bb.size;refine zC6 10 [Pd.eq (.pointer (some ⟨w.heap.size,1,none⟩)),Pd.eq (.slice A0 (digs 4294967296 (x).natAbs).length c0),Pd.eq (.pointer (some ⟨w.heap.size+1,1,none⟩)),Pd.eq (.slice A1 (digs 4294967296 (y).natAbs).length c1),pt .u64 (digs 4294967296 q.natAbs) 0 wx.heap.size,pt .u64 (digs 4294967296 q.natAbs) 0 wx.heap.size,ps .u64 (digs 4294967296 q.natAbs) wx.heap.size,Pd.eq (.int .i64 0),ps .u64 (digs 4294967296 q.natAbs) wx.heap.size,Pd.eq (.int .i64 0)] (by kernel_rfl) ?ob3 ?done3
 case ob3 =>
  refine zA (zC4 rfl (zB5 rfl) (zB7 rfl rfl) (fun _=>by kernel_rfl) (fun _=>rfl)) ?_;refine zA (zC1 rfl (zB5 rfl) (zB6 (j:=0) (by kernel_rfl) rfl rfl) (fun w2 hb=>zD underlying40 rfl ((B0.bQ hb).cell 1)) (fun _ _=>rfl)) ?_;refine zA (zC4 rfl (zB5 rfl) (zB7 rfl rfl) (fun _=>by kernel_rfl) (fun _=>rfl)) ?_;refine zA (zC1 rfl (zB5 rfl) (zB6 (j:=2) (by kernel_rfl) rfl rfl) (fun w2 hb=>zD underlying40 rfl ((B1.bQ hb).cell 1)) (fun _ _=>rfl)) ?_;refine zA (zD8 rfl func81 (by kernel_rfl) (zB5 rfl) (zB6 (j:=1) (by kernel_rfl) rfl rfl) (zB6 (j:=3) (by kernel_rfl) rfl rfl) (fun w2 u0 u1 hb h0 h1=>by obtain rfl:=h0;obtain rfl:=h1;exact (qB4 _ _ _ _ _ (k0s.bQ hb) (k1s.bQ hb) HL.out HL2.out HY.out _ HM1.out HM2.out.symm).mono fun e w3 h=>zO3.pd h hb.size)) ?_;refine zA (zC0 rfl (zB5 rfl) (zB6 (j:=4) (by kernel_rfl) rfl rfl) (fun _ _ h=>h)) ?_;refine zA (zF9 rfl (zB5 rfl) (zB6 (j:=5) (by kernel_rfl) rfl rfl) (fun w2 u hu=>by obtain ⟨v,rfl,q1,q2⟩:=hu;exact ⟨v,rfl,q1,q2⟩)) ?_;refine zA (zF9 rfl (zB5 rfl) (zB6 (j:=5) (by kernel_rfl) rfl rfl) (fun w2 u hu=>by obtain ⟨v,rfl,q1,q2⟩:=hu;exact ⟨_,rfl,rfl⟩)) ?_;refine zA (zE0 rfl (zB5 rfl) (zB6 (j:=6) (by kernel_rfl) rfl rfl) (fun _ _ h=>h)) ?_;refine zA (zE0 rfl (zB5 rfl) (zB6 (j:=7) (by kernel_rfl) rfl rfl) (fun _ _ h=>h)) ?_
  trivial
 case done3 =>
  refine fun w1 hb1 v0 h0 v1 h1 v2 h2 v3 h3 v4 h4 v5 h5 v6 h6 v7 h7 v8 h8 v9 h9 b hbf => ?_;obtain rfl:=h0;obtain rfl:=h1;obtain rfl:=h2;obtain rfl:=h3;obtain rfl:=h7;obtain rfl:=h9;clear h4;clear h5;obtain ⟨q6,f6⟩:=h6;obtain ⟨q8,f8⟩:=h8;simp only [Act.put,zA0,zA2,zA1] at hbf;subst hbf;obtain ⟨A6,c6,rfl,_⟩:=id q8;have kq:=q8;have kqf:=f8;replace B0:=B0.bQ hb1;replace B1:=B1.bQ hb1;replace B2:=B2.bQ hb1;replace k0s:=k0s.bQ hb1;replace k1s:=k1s.bQ hb1;replace k0:=k0.bQ hb1;replace k1:=k1.bQ hb1;replace bb:=bb.trans (hb1.mono bb.size);have hszb:=bb.size;obtain ⟨x00,x01,y00,y01⟩:=Blk.two B0;obtain ⟨x10,x11,y10,y11⟩:=Blk.two B1;obtain ⟨x20,x21,y20,y21⟩:=Blk.two B2;refine zC7 ?_;go_upto_region 4 with (fail);refine zC6 7 [Pd.eq (.pointer (some ⟨w.heap.size,0,none⟩)),Pd.eq (.bool (ngB x)),Pd.eq (.pointer (some ⟨w.heap.size+1,0,none⟩)),Pd.eq (.bool (ngB y)),Pd.eq (.bool (!((ngB x) == (ngB y)))),Pd.eq (.slice A6 (digs 4294967296 q.natAbs).length c6),pz (q) wx.heap.size] (by kernel_rfl) ?ob4 ?done4
  case ob4 =>
   refine zA (zC4 rfl (zB5 rfl) (zB7 rfl rfl) (fun _=>by kernel_rfl) (fun _=>rfl)) ?_;refine zA (zC1 rfl (zB5 rfl) (zB6 (j:=0) (by kernel_rfl) rfl rfl) (fun w2 hb=>zD underlying4 rfl ((B0.bQ hb).cell 0)) (fun _ _=>rfl)) ?_;refine zA (zC4 rfl (zB5 rfl) (zB7 rfl rfl) (fun _=>by kernel_rfl) (fun _=>rfl)) ?_;refine zA (zC1 rfl (zB5 rfl) (zB6 (j:=2) (by kernel_rfl) rfl rfl) (fun w2 hb=>zD underlying4 rfl ((B1.bQ hb).cell 0)) (fun _ _=>rfl)) ?_;refine zA (zG3 rfl (zB5 rfl) (zB6 (j:=1) (by kernel_rfl) rfl rfl) (zB6 (j:=3) (by kernel_rfl) rfl rfl) (fun _ _ _ hx hy=>⟨.bool (!((ngB x) == (ngB y))),by rw [hx,hy];exact qS7 _ _ _ _ underlying4 _,rfl⟩)) ?_;refine zA (zC0 rfl (zB5 rfl) (zB7 rfl rfl) (fun _ _ h=>h)) ?_;refine zA (zD8 rfl func66 (by kernel_rfl) (zB5 rfl) (zB6 (j:=4) (by kernel_rfl) rfl rfl) (zB6 (j:=5) (by kernel_rfl) rfl rfl) (fun w2 u0 u1 hb h0 h1=>by obtain rfl:=h0;obtain rfl:=h1;exact qG3 _ _ _ (q) _ (kq.bQ hb) kqf HZ.out)) ?_
   trivial
  case done4 =>
   refine fun w2 hb2 v0 h0 v1 h1 v2 h2 v3 h3 v4 h4 v5 h5 v6 h6 b hbf => ?_;obtain rfl:=h0;obtain rfl:=h1;obtain rfl:=h2;obtain rfl:=h3;obtain rfl:=h4;obtain rfl:=h5;obtain ⟨q6,f6⟩:=h6;simp only [Act.put,zA0,zA2,zA1] at hbf;subst hbf;obtain ⟨u6,rfl,q6⟩:=q6;obtain ⟨A9,c9,rfl,_⟩:=id q6;have B9:=B2.bQ hb2;refine zG5 (i:=7) rfl rfl rfl rfl rfl rfl (cells:=[.bool (ngB (q)),.slice A9 (digs 4294967296 (q).natAbs).length c9]) rfl B9 rfl (by kernel_rfl) (zJ1 rfl rfl) fun w9 hg9 BB9 => ?_;have k9:=off q6 B9 no_ints2 hg9;have f9:=(f6 _ _ rfl).mono bb0;have bb9:=((bb.trans (hb2.mono bb.size)).trans ((Below.refl _ _).grown hg9 (zB4 bb.size hb2.size) (fun g hg=>by injection hg with hg;omega)));obtain ⟨c0,c1,_,_⟩:=Blk.two BB9;refine zQ5 (i:=8) (.int .i64 0) rfl rfl rfl rfl rfl fun b hbf => ?_;simp only [Act.put,zA0,zA2,zA1] at hbf;subst hbf;refine zC7 ?_;go_wp2;exact bodyPost_ret (v:=.tuple #[.agg #[.bool (ngB (q)),.slice A9 (digs 4294967296 (q).natAbs).length c9],.int .i64 0]) (by simp [results,results101,go_sem,c0,c1]) rfl ⟨_,rfl,zG k9 rfl rfl,zM3 f9,bb9⟩
theorem qG7 (n:Int) (w:World) (h1 : -9223372036854775808<=n) (h2:n<=9223372036854775807) :
  Calls prog 35 #[.int .i64 n] w (zE9 n w):=by
 by_cases hn:n<0
 ·have HW:Hid (IntKind.u64.wrap (-IntKind.u64.wrap n)=((n.natAbs:Nat):Int)):=by
   show _=_
   rw [IntKind.wrap_u64,IntKind.wrap_u64];omega
  have HB:Hid (IntKind.u64.wrap (-IntKind.u64.wrap n)<=18446744073709551615):=by
   show _<=_
   rw [HW.out];omega
  have HZ:Hid (sg true n.natAbs=n):=by show _=_;rw [qB6];omega
  go_enter func35,ntmps35;go_wp2_with fail
  refine (qE8 _ n.natAbs _ HW.out HB.out).mono ?_;rintro e w1 ⟨v1,rfl,k1,f1,b1⟩;obtain ⟨A1,C1,rfl,_⟩:=id k1;go_wp2_with fail
  refine (qG3 true _ n.natAbs n _ k1 f1 HZ.out).mono ?_;rintro e w2 ⟨v2,rfl,⟨⟨u2,rfl,k2⟩,f2⟩,b2⟩;obtain ⟨A2,C2,rfl,_⟩:=id k2;have B2:=((Blk.new w 42 #[.bool false,.slice none 0 0]).bQ b1).bQ b2;obtain ⟨c0,c1,g0,g1⟩:=B2.two;have bb1:=(zC9 (zB3 w.heap.size) (.cells #[.bool false,.slice none 0 0] 42)).trans (b1.mono (by simp));have bb2:=bb1.trans (b2.mono bb1.size);go_wp2;exact bodyPost_ret (v:=.agg #[.bool (ngB n),.slice A2 (digs 4294967296 n.natAbs).length C2]) (by simp [results,results35,go_sem,c0,c1]) rfl (zZ3 bb2 (zB3 _) (by simp) k2 (f2 _ _ rfl) rfl)
 ·have HW:Hid (n=((n.natAbs:Nat):Int)):=by show _=_;omega
  have HZ:Hid (sg false n.natAbs=n):=by show _=_;rw [qB7];omega
  have hn0:0<=n:=by omega
  go_enter func35,ntmps35;go_wp2_with fail
  refine (qE8 _ n.natAbs _ HW.out (by omega)).mono ?_;rintro e w1 ⟨v1,rfl,k1,f1,b1⟩;obtain ⟨A1,C1,rfl,_⟩:=id k1;go_wp2_with fail
  refine (qG3 false _ n.natAbs n _ k1 f1 HZ.out).mono ?_;rintro e w2 ⟨v2,rfl,⟨⟨u2,rfl,k2⟩,f2⟩,b2⟩;obtain ⟨A2,C2,rfl,_⟩:=id k2;have B2:=((Blk.new w 42 #[.bool false,.slice none 0 0]).bQ b1).bQ b2;obtain ⟨c0,c1,g0,g1⟩:=B2.two;have bb1:=(zC9 (zB3 w.heap.size) (.cells #[.bool false,.slice none 0 0] 42)).trans (b1.mono (by simp));have bb2:=bb1.trans (b2.mono bb1.size);go_wp2;exact bodyPost_ret (v:=.agg #[.bool (ngB n),.slice A2 (digs 4294967296 n.natAbs).length C2]) (by simp [results,results35,go_sem,c0,c1]) rfl (zZ3 bb2 (zB3 _) (by simp) k2 (f2 _ _ rfl) rfl)
end whl
namespace whl
open Go.RowKit Go.ChangeShapes Go.WideShapes Go.ChangeAt Go.Joins Go.Deep num mem nat txt str flow
theorem yG7 {H:Type} {enc:TypeId × Value->H} {P:Program} {W:World} {t e:TypeId} {n:Nat} {v:Value} {y:DataW H × List MemPlace} (ht:P.underlying t=some (.slice e)) (he:P.underlying e=some (.int .u64)) (hc:P.cellsOf e=1)
  (h:DataW.trod enc P W 0 (fun _=>true) true n t [v]=some y):∃ l:List Nat,IsS W .u64 v l/\Lt 18446744073709551616 l:=by
 rcases open_ints ht he hc h with ⟨hcs,hx⟩|⟨a,len,cap,zs,hcs,_,hl,hm,hz,hx,hcell,hwz⟩
 ·injection hcs with hcs _;subst hcs;exact ⟨[],qJ9 _ _,Lt.nil _⟩
 ·injection hcs with hcs _;subst hcs;simp only [if_true] at hz;have hlen:((zs.take len).map Int.toNat).length=len:=by simp;omega
  refine ⟨(zs.take len).map Int.toNat,⟨some a,cap,by rw [hlen],by rw [hlen];exact hl,hm,?_⟩,?_⟩
  ·intro i d hd;have hi:i<len:=by rw [<- hlen];exact (zA4.1 hd).1
   have hi2:i<zs.length:=by omega
   refine ⟨a,rfl,?_⟩;rw [hcell i hi2];have hb:=yC3 (hwz _ (List.getElem_mem hi2))
   have hd2:d=(zs[i]).toNat:=by
    rw [zB1,List.getElem?_take_of_lt hi,zA3 hi2] at hd;simpa using hd.symm
   rw [zA6,zA3 hi2,hd2];simp only [Option.getD_some];rw [Int.toNat_of_nonneg hb.1]
  ·intro d hd;obtain ⟨z,hz1,rfl⟩:=List.mem_map.1 hd;have hb:=yC3 (hwz z (List.mem_of_mem_take hz1));omega
theorem jB7 {x y:Int} {m n:Nat} (h:zC2 x<=m) (h':zC2 y<=n):zC2 (x+y)<=m+n+1:=by have:=jA5 x y;omega
theorem zQ8 {x y:Int} {m n:Nat} (h:zC2 x<=m) (h':zC2 y<=n):zC2 (x*y)<=m+n:=by have:=qB8 x y;omega
theorem yG8 {x:Int} {m:Nat} (h:zC2 x<=m):zC2 (-x)<=m:=by rw [qG];exact h
def pn (t:TypeId) (cells:Array Value) (B:Nat):Pd:=⟨fun w v => ∃ g,v=.pointer (some ⟨g,0,none⟩)/\B<=g/\Blk w g t cells,fun h hb=>by obtain ⟨g,e,h1,h2⟩:=h;exact ⟨g,e,h1,h2.bQ hb⟩⟩
def pze (x:Int) (n:Int) (B:Nat):Pd:=⟨fun w t => ∃ v,t=.tuple #[v,.int .i64 n]/\IsZ w v x/\zQ6 B v,fun h hb=>by obtain ⟨v,e,h1,h2⟩:=h;exact ⟨v,e,h1.bQ hb,h2⟩⟩
theorem qG1.pd {x:Int} {n:Int} {w:World} {e:Ending} {w':World} {B:Nat} (h:qG1 x n w e w') (hB:B<=w.heap.size):zI2 (pze x n B) w e w':=by
 obtain ⟨v,rfl,h1,h2,h3⟩:=h;exact ⟨_,rfl,⟨v,rfl,h1,h2.mono hB⟩,h3⟩
end whl
end Go.Proofs.YtbfflcpmagjlnaaGreat
