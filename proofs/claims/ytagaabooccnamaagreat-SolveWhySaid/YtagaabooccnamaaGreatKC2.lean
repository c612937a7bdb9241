/- Plain mathematics of layer 4: a number divided by a limb, by a number limb by limb (Knuth's way), and bit by bit. Condition: as each says. -/
import Derived.Test.YtagaabooccnamaaGreatKC1
import Derived.Laws.Bits64b
import Derived.Deep.AppendLies
import Derived.Maps.AppendAt
import Derived.IntWalk
import Derived.Deep.RegionLaw
import Derived.RegionTactic
import Derived.Lib.OthersKept
import Derived.Deep.Cut
import Derived.Orders
import Derived.Deep.MidRow
import Derived.Deep.RegionHeld3
import Derived.Deep.DrawnRows
open Go.Proofs.Tryz
open Go.Lib renaming hid -> hQ9
set_option linter.unusedVariables false
set_option linter.unusedSimpArgs false
set_option maxRecDepth 100000
set_option maxHeartbeats 3200000
open And renaming intro -> zA
open List renaming setIfInBounds_toArray -> zA0, set_cons_succ -> zA1, set_cons_zero -> zA2, getElem?_eq_getElem -> zA3, getElem?_eq_some_iff -> zA4, mem_of_getElem? -> zA5, take_of_length_le -> zA7, length_append -> zA8, replicate -> zB, getElem?_append_left -> zB0
open Nat renaming le_refl -> zB1, le_trans -> zB2
open Go.World renaming block_lt_of_cell? -> bQ0
open List renaming getElem?_set_self -> bQ3, length_set -> bQ5, getElem?_append_right -> bW0, getElem?_set_ne -> bW1, getElem?_toArray -> bW8, getElem?_drop -> bW9, take_append_drop -> bX, ext_getElem? -> bX0, take_length -> bX1, length_drop -> bX2, length_cons -> bX3, map_toArray -> bX7
open Nat renaming mul_assoc -> bX8, pow_le_pow_right -> bX9, mul_le_mul_left -> bY, mul_comm -> bY0, pow_succ -> bY1, lt_of_lt_of_le -> bY2, eq_zero_or_pos -> bY3, mul_le_mul_right -> bY4, zero_add -> bY5, mul_le_mul -> bY6
namespace Go.Proofs.YtagaabooccnamaaGreat
namespace num
theorem qR4 {l:List Nat} {i x:Nat} : (l.set i x).drop (i+1)=l.drop (i+1):=by
 apply bX0;intro j;rw [bW9,bW9,bW1 (by omega)]
theorem yA7 {o:List Nat} {j x:Nat} (h:j<o.length):(o.set j x).drop j=x :: o.drop (j+1):=by
 rw [qQ1 (bQ3 h),qR4]
def DQ (B:Nat) (l:List Nat) (d k r:Nat) (o:List Nat):Prop:=Lt B o/\o.length=l.length/\val B (o.drop k)*d+r=val B (l.drop k)/\r<d
theorem DQ.start {B:Nat} (hB:0<B) (l:List Nat) {d:Nat} (hd:1<=d):DQ B l d l.length 0 (zB l.length 0):=by
 unfold DQ;exact ⟨Lt.rep hB _,by simp,by simp [val],by omega⟩
theorem DQ.step {B:Nat} {l o:List Nat} {d j r a q s:Nat} (h:DQ B l d (j+1) r o) (hl:l[j]?=some a) (hq:q<B) (hs:s<d) (he:q*d+s=B*r+a):DQ B l d j s (o.set j q):=by
 unfold DQ at h |-;obtain ⟨h1,h2,h3,h4⟩:=h;have hj:j<l.length:=(zA4.1 hl).1;refine ⟨h1.set hq j,by simpa using h2,?_,hs⟩;rw [yA7 (by omega),zM7,qC8 hl,<- h3,Nat.add_mul,bX8,Nat.mul_add];omega
theorem DQ.done {B:Nat} {l o:List Nat} {d r:Nat} (h:DQ B l d 0 r o):Lt B o/\o.length=l.length/\val B o=val B l / d/\r=val B l % d:=by
 unfold DQ at h;obtain ⟨h1,h2,h3,h4⟩:=h;simp only [List.drop_zero] at h3;refine ⟨h1,h2,?_,?_⟩
 ·rw [<- h3,bY0,Nat.mul_add_div (by omega),Nat.div_eq_of_lt h4,Nat.add_zero]
 ·rw [<- h3,bY0,Nat.mul_add_mod,Nat.mod_eq_of_lt h4]
def TO (B:Nat) (p0 b p:List Nat) (t i u kept:Nat):Prop:=Lt B p/\p.length=p0.length/\p.drop i=p0.drop i/\u<B/\kept<=1/\val B (p.take i)+B^i*kept+val B (b.take i)*t=val B (p0.take i)+B^i+B^i*u
theorem TO.start {B:Nat} {p:List Nat} (hp:Lt B p) (hB:0<B) (b:List Nat) (t:Nat):TO B p b p t 0 0 1:=⟨hp,rfl,rfl,hB,by omega,by simp [val]⟩
theorem qK4 {l m:List Nat} {i d:Nat} (h:l.drop i=m.drop i) (hd:l[i]?=some d):m[i]?=some d:=by
 have e:=congrArg (fun x=>x[0]?) h;simp only [bW9,Nat.add_zero] at e;rw [<- e];exact hd
theorem qK5 {l:List Nat} {i x:Nat} : (l.set i x).take i=l.take i:=by
 apply bX0;intro j;rw [List.getElem?_take,List.getElem?_take]
 split
 ·rw [bW1 (by omega)]
 ·rfl
theorem TO.next {B:Nat} {p0 b p:List Nat} {t i u kept d e low up s k':Nat} (h:TO B p0 b p t i u kept) (hd:p[i]?=some d) (he:b[i]?=some e) (hlow:low<B) (hup:up<B) (hm:low+B*up=e*t+u) (hs:s<B) (hk:s+B*k'=d+(B-1-low)+kept):TO B p0 b (p.set i s) t (i+1) up k':=by
 obtain ⟨h1,h2,h3,h4,h5,h6⟩:=h;have hi:i<p.length:=(zA4.1 hd).1;have hd1:=h1.at hd
 have hk1:k'<=1:=by
  rcases Nat.lt_or_ge 1 k' with h | h
  ·have:=bY B h;omega
  ·exact h
 refine ⟨h1.set hs i,by simpa using h2,?_,hup,hk1,?_⟩
 ·rw [qR4,<- List.drop_drop,<- List.drop_drop,h3]
 ·have e0:=qK4 h3 hd
  have e1:val B ((p.set i s).take (i+1))=val B (p.take i)+B^i*s:=by
   rw [zI2 (bQ3 hi),qK5]
  have e2:=zI2 (B:=B) e0;have e3:=zI2 (B:=B) he;rw [e1,e2,e3,Nat.add_mul,bY1]
  have a1:B^i*s+B^i*B*k'=B^i*d+B^i*(B-1-low)+B^i*kept:=by
   rw [bX8,<- Nat.mul_add,hk,Nat.mul_add,Nat.mul_add]
  have a2:B^i*low+B^i*B*up=B^i*e*t+B^i*u:=by
   rw [bX8,<- Nat.mul_add,hm,Nat.mul_add,bX8]
  have a3:B^i*(B-1-low)+B^i+B^i*low=B^i*B:=by
   have:B-1-low+1+low=B:=by omega
   rw [<- Nat.mul_succ,<- Nat.mul_add];congr 1
  omega
theorem TO.last {B:Nat} {p0 b p:List Nat} {t u kept d s k':Nat} (h:TO B p0 b p t b.length u kept) (hl:p0.length=b.length+1) (hd:p[b.length]?=some d) (hs:s<B) (hk:s+B*k'=d+(B-1-u)+kept):Lt B (p.set b.length s)/\(p.set b.length s).length=p0.length/\k'<=1/\val B (p.set b.length s)+B^p0.length*k'+val B b*t=val B p0+B^p0.length:=by
 obtain ⟨h1,h2,h3,h4,h5,h6⟩:=h;have hi:b.length<p.length:=(zA4.1 hd).1;have hd1:=h1.at hd
 have hk1:k'<=1:=by
  rcases Nat.lt_or_ge 1 k' with h | h
  ·have:=bY B h;omega
  ·exact h
 refine ⟨h1.set hs _,by simpa using h2,hk1,?_⟩;have e0:=qK4 h3 hd
 have e1:val B (p.set b.length s)=val B (p.take b.length)+B^b.length*s:=by
  have e:=zI2 (B:=B) (bQ3 (a:=s) hi);rw [qK5,zA7 (by rw [bQ5];omega)] at e;exact e
 have e2:val B p0=val B (p0.take b.length)+B^b.length*d:=by
  have e:=zI2 (B:=B) e0;rwa [zA7 (by omega)] at e
 rw [bX1] at h6;rw [e1,e2,hl,bY1]
 have a1:B^b.length*s+B^b.length*B*k'=B^b.length*d+B^b.length*(B-1-u)+B^b.length*kept:=by
  rw [bX8,<- Nat.mul_add,hk,Nat.mul_add,Nat.mul_add]
 have a3:B^b.length*(B-1-u)+B^b.length+B^b.length*u=B^b.length*B:=by
  have:B-1-u+1+u=B:=by omega
  rw [<- Nat.mul_succ,<- Nat.mul_add];congr 1
 omega
def PB (B:Nat) (p0 b p:List Nat) (i u:Nat):Prop:=Lt B p/\p.length=p0.length/\p.drop i=p0.drop i/\u<B/\val B (p.take i)+B^i*u=val B (p0.take i)+val B (b.take i)
theorem PB.start {B:Nat} {p:List Nat} (hp:Lt B p) (hB:0<B) (b:List Nat):PB B p b p 0 0:=⟨hp,rfl,rfl,hB,by simp [val]⟩
theorem PB.next {B:Nat} {p0 b p:List Nat} {i u d e s u':Nat} (h:PB B p0 b p i u) (hd:p[i]?=some d) (he:b[i]?=some e) (hs:s<B) (hu:u'<B) (hk:s+B*u'=d+e+u):PB B p0 b (p.set i s) (i+1) u':=by
 obtain ⟨h1,h2,h3,h4,h6⟩:=h;have hi:i<p.length:=(zA4.1 hd).1;refine ⟨h1.set hs i,by simpa using h2,?_,hu,?_⟩
 ·rw [qR4,<- List.drop_drop,<- List.drop_drop,h3]
 ·have e0:=qK4 h3 hd
  have e1:val B ((p.set i s).take (i+1))=val B (p.take i)+B^i*s:=by
   rw [zI2 (bQ3 hi),qK5]
  have e2:=zI2 (B:=B) e0;have e3:=zI2 (B:=B) he;rw [e1,e2,e3,bY1]
  have a1:B^i*s+B^i*B*u'=B^i*d+B^i*e+B^i*u:=by
   rw [bX8,<- Nat.mul_add,hk,Nat.mul_add,Nat.mul_add]
  omega
theorem PB.last {B:Nat} {p0 b p:List Nat} {u d s k:Nat} (h:PB B p0 b p b.length u) (hl:p0.length=b.length+1) (hd:p[b.length]?=some d) (hs:s<B) (hk:s+B*k=d+u):Lt B (p.set b.length s)/\(p.set b.length s).length=p0.length/\val B (p.set b.length s)+B^p0.length*k=val B p0+val B b:=by
 obtain ⟨h1,h2,h3,h4,h6⟩:=h;have hi:b.length<p.length:=(zA4.1 hd).1;refine ⟨h1.set hs _,by simpa using h2,?_⟩;have e0:=qK4 h3 hd
 have e1:val B (p.set b.length s)=val B (p.take b.length)+B^b.length*s:=by
  have e:=zI2 (B:=B) (bQ3 (a:=s) hi);rw [qK5,zA7 (by rw [bQ5];omega)] at e;exact e
 have e2:val B p0=val B (p0.take b.length)+B^b.length*d:=by
  have e:=zI2 (B:=B) e0;rwa [zA7 (by omega)] at e
 rw [bX1] at h6;rw [e1,e2,hl,bY1]
 have a1:B^b.length*s+B^b.length*B*k=B^b.length*d+B^b.length*u:=by
  rw [bX8,<- Nat.mul_add,hk,Nat.mul_add]
 omega
def zY2 (V D t:Nat):Prop:=V / D<=t/\t<=V / D+1
theorem zY2.right {V D t V':Nat} (h:zY2 V D t) (hD:0<D) (hv:V'+D*t=V):t=V / D/\V'=V % D:=by
 have h1:t<=V / D:=(Nat.le_div_iff_mul_le hD).2 (by rw [bY0];omega);have h2:t=V / D:=Nat.le_antisymm h1 h.1;refine ⟨h2,?_⟩
 have:=Nat.mod_add_div V D
 rw [<- h2] at this;omega
theorem zY2.more {V D t V' W M k:Nat} (h:zY2 V D t) (hD:0<D) (hV':V'<M) (hv:V'+D*t=V+M) (hW:W+M*k=V'+D) (hWM:W<M) (hVM:V<M):t=V / D+1/\W=V % D:=by
 have h1:V<D*t:=by omega
 have h2:V / D<t:=Nat.div_lt_of_lt_mul h1;have h3:t=V / D+1:=by have:=h.2;omega
 refine ⟨h3,?_⟩;have e:=Nat.mod_add_div V D;rw [h3,Nat.mul_add,Nat.mul_one] at hv;have h4:V'+D=V % D+M:=by omega
 have h5:V % D<M:=Nat.lt_of_le_of_lt (Nat.mod_le _ _) hVM
 have hk:k=1:=by
  rcases Nat.lt_or_ge k 1 with h | h
  ·have:k=0:=by omega
   subst this;omega
  ·rcases Nat.lt_or_ge 1 k with h' | h'
   ·have:=bY M h';omega
   ·omega
 subst hk;omega
theorem three {B:Nat} {p:List Nat} {n a b c:Nat} (hp:p.length=n+3) (ha:p[n+2]?=some a) (hb:p[n+1]?=some b) (hc:p[n]?=some c):val B p=val B (p.take n)+B^n*((a*B+b)*B+c):=by
 have e1:=zI2 (B:=B) ha;have e2:=zI2 (B:=B) hb;have e3:=zI2 (B:=B) hc;rw [zA7 (by omega)] at e1;rw [e1,show n+2=n+1+1 from rfl,e2,e3,Nat.add_mul,Nat.mul_add,Nat.mul_add];simp only [bY1];have x1:B^n*B*B*a=B^n*(a*B*B):=by simp only [bX8,Nat.mul_left_comm,bY0]
 have x2:B^n*B*b=B^n*(b*B):=by simp only [bX8,Nat.mul_left_comm,bY0]
 omega
theorem two {B:Nat} {p:List Nat} {n a b:Nat} (hp:p.length=n+2) (ha:p[n+1]?=some a) (hb:p[n]?=some b):val B p=val B (p.take n)+B^n*(a*B+b):=by
 have e1:=zI2 (B:=B) ha;have e2:=zI2 (B:=B) hb;rw [zA7 (by omega)] at e1;rw [e1,e2,Nat.mul_add,bY1];have x2:B^n*B*a=B^n*(a*B):=by simp only [bX8,Nat.mul_left_comm,bY0]
 omega
def GU (B V D u1 u0 v t left:Nat):Prop:=t*v+left=u1*B+u0/\V / D<=t/\t<B
theorem GU.step {B V D u1 u0 v t left c b2 n X Y:Nat} (h:GU B V D u1 u0 v t left) (hV:V=X+B^n*((u1*B+u0)*B+c)) (hX:X<B^n) (hD:D=Y+B^n*(v*B+b2)) (hc:left*B+c<t*b2):1<=t/\GU B V D u1 u0 v (t-1) (left+v):=by
 obtain ⟨h1,h2,h3⟩:=h
 have ht:1<=t:=by
  rcases bY3 t with h | h
  ·subst h;omega
  ·exact h
 have hp:0<B^n:=by omega
 have k1:(u1*B+u0)*B+c+1<=t*(v*B+b2):=by
  have:t*(v*B+b2)=(t*v)*B+t*b2:=by rw [Nat.mul_add,bX8]
  rw [this,<- h1,Nat.add_mul];omega
 have k2:=bY (B^n) k1
 have k3:V<D*t:=by
  have:D*t=Y*t+B^n*(t*(v*B+b2)):=by rw [hD,Nat.add_mul,bX8,bY0 t]
  rw [this,hV];rw [Nat.mul_succ] at k2;omega
 have k4:V / D<t:=Nat.div_lt_of_lt_mul k3;refine ⟨ht,?_,by omega,by omega⟩;have:(t-1)*v+v=t*v:=by rw [<- Nat.succ_mul];congr 1;omega
 omega
theorem GU.done {B V D u1 u0 v t left c b2 n X Y:Nat} (h:GU B V D u1 u0 v t left) (hV:V=X+B^n*((u1*B+u0)*B+c)) (hD:D=Y+B^n*(v*B+b2)) (hY:Y<B^n) (hv:0<v) (hc:t*b2<=left*B+c):zY2 V D t:=by
 obtain ⟨h1,h2,h3⟩:=h;refine ⟨h2,?_⟩
 have k1:t*(v*B+b2)<=(u1*B+u0)*B+c:=by
  have:t*(v*B+b2)=(t*v)*B+t*b2:=by rw [Nat.mul_add,bX8]
  rw [this,<- h1,Nat.add_mul];omega
 have k2:=bY (B^n) k1
 have hD0:B^n*B<=D:=by
  rw [hD]
  have:=bY (B^n) (show B<=v*B+b2 by have:=bY4 B hv;omega)
  omega
 have hp:0<B^n:=by omega
 have hDp:0<D:=by
  have:0<B^n*B:=Nat.mul_pos hp (by omega);omega
 have k3:D*t<=V+D:=by
  have e:D*t=Y*t+B^n*(t*(v*B+b2)):=by rw [hD,Nat.add_mul,bX8,bY0 t]
  have g:Y*t<=B^n*B:=bY6 (by omega) (by omega);have e2:B^n*(t*(v*B+b2))<=V:=by rw [hV];omega
  rw [e];omega
 rcases bY3 t with h | h
 ·subst h;exact Nat.zero_le _
 ·have:t-1<=V / D:=by
   rw [Nat.le_div_iff_mul_le hDp];have:D*(t-1)+D=D*t:=by rw [<- Nat.mul_succ];congr 1;omega
   rw [bY0];omega
  omega
theorem GU.start_div {B V D u1 u0 v c n X Y b2:Nat} (hV:V=X+B^n*((u1*B+u0)*B+c)) (hX:X<B^n) (hc:c<B) (h0:u0<B) (hD:D=Y+B^n*(v*B+b2)) (hu:u1<v):GU B V D u1 u0 v ((u1*B+u0) / v) ((u1*B+u0) % v):=by
 have hq:(u1*B+u0) / v<B:=Nat.div_lt_of_lt_mul (by
  have:(u1+1)*B<=v*B:=bY4 B hu;rw [Nat.add_mul] at this;omega)
 have hm:(u1*B+u0) / v*v+(u1*B+u0) % v=u1*B+u0:=by rw [bY0];exact Nat.div_add_mod _ _
 refine ⟨hm,?_,hq⟩;have hp:0<B^n:=by omega
 have hDp:0<D:=by
  have:0<B^n*(v*B+b2):=Nat.mul_pos hp (by have:=Nat.mul_pos (show 0<v by omega) (show 0<B by omega);omega);omega
 refine Nat.le_of_lt_succ (Nat.div_lt_of_lt_mul ?_);have hr:(u1*B+u0) % v<v:=Nat.mod_lt _ (by omega);obtain ⟨q,hqe⟩:∃ q,q=(u1*B+u0) / v:=⟨_,rfl⟩;rw [<- hqe] at hm |-;have k1:u1*B+u0+1<=(q+1)*v:=by rw [Nat.add_mul];omega
 have k2:(u1*B+u0)*B+c+1<=(q+1)*(v*B+b2):=by
  have a:=bY4 B k1;rw [Nat.add_mul] at a;rw [Nat.mul_add (q+1),<- bX8];omega
 have k3:=bY (B^n) k2;have e:(Y+B^n*(v*B+b2))*(q+1)=Y*(q+1)+B^n*((q+1)*(v*B+b2)):=by rw [Nat.add_mul,bX8,bY0 (v*B+b2)]
 show V<D*(q+1)
 rw [hV,hD,e];rw [Nat.mul_succ] at k3;omega
theorem GU.start_top {B V D u1 u0 v c n X Y b2:Nat} (hV:V=X+B^n*((u1*B+u0)*B+c)) (hD:D=Y+B^n*(v*B+b2)) (hY:Y<B^n) (hb2:b2<B) (hVD:V<B*D) (hu:v<=u1) (hv:0<v) (hB:0<B):u1=v/\GU B V D u1 u0 v (B-1) (u1+u0):=by
 have hDp:0<D:=by
  rcases bY3 D with h | h
  ·subst h;omega
  ·exact h
 have h1:u1=v:=by
  rcases Nat.lt_or_ge v u1 with h | h
  ·exfalso
   have a1:D<B^n*(v*B+B):=by
    have:=bY (B^n) (show v*B+b2+1<=v*B+B by omega)
    rw [Nat.mul_succ] at this;omega
   have a2:B*D<B*(B^n*((v+1)*B)):=Nat.mul_lt_mul_of_pos_left (by rw [Nat.add_mul,Nat.one_mul];exact a1) hB
   have a3:B*(B^n*((v+1)*B))<=B^n*((u1*B+u0)*B+c):=by
    have e:B*(B^n*((v+1)*B))=B^n*((v+1)*B*B):=by simp only [Nat.mul_left_comm,bY0]
    rw [e];refine bY _ ?_
    have:=bY4 B (bY4 B h)
    refine zB2 this ?_;rw [Nat.add_mul (u1*B)];exact zB2 (Nat.le_add_right _ _) (Nat.le_add_right _ _)
   omega
  ·omega
 refine ⟨h1,?_,?_,by omega⟩
 ·subst h1;have:(B-1)*u1+u1=u1*B:=by rw [<- Nat.succ_mul,bY0];congr 1;omega
  omega
 ·have:V / D<B:=Nat.div_lt_of_lt_mul (by rw [bY0];exact hVD);omega
def KD (B x D N:Nat) (P O:List Nat) (k:Nat):Prop:=Lt B P/\P.length=N/\Lt B O/\val B P+D*(B^k*val B (O.drop k))=x/\val B (P.drop k)<D
theorem KD.start {B x D m Q:Nat} (hB:2<=B) (hD:B^(m-1)<=D) (hQ:Q<=(digs B x).length) (hQm:(digs B x).length-Q<=m-1):KD B x D ((digs B x).length+1) (digs B x ++ [0]) (zB Q 0) Q:=by
 have h0:=zF4 hB x;have e1:(digs B x ++ [0]).drop Q=(digs B x).drop Q ++ [0]:=List.drop_append_of_le_length hQ;have h1:=zL1 (h0.drop Q);rw [bX2] at h1;have h2:=bX9 (n:=B) (by omega) hQm;refine ⟨h0.snoc (by omega),by simp,Lt.rep (by omega) Q,?_,?_⟩
 ·rw [zR2,zE3 hB,List.drop_of_length_le (by simp),zX5];simp
 ·rw [e1,zR2];omega
def seg (P:List Nat) (s m:Nat):List Nat:=(P.drop s).take (m+1)
theorem qR5 {P:List Nat} {s m N:Nat} (hN:P.length=N) (h:s+m+1<=N):(seg P s m).length=m+1:=by unfold seg;simp;omega
theorem yA8 {P:List Nat} {s m N:Nat} (hN:P.length=N) (h:s+m+1<=N):P.take s ++ seg P s m ++ P.drop (s+m+1)=P:=by
 unfold seg;have e:P.drop (s+m+1)=(P.drop s).drop (m+1):=by rw [List.drop_drop];congr 1
 rw [e,List.append_assoc,bX,bX]
theorem KD.at {B x D N:Nat} {P O:List Nat} {s m:Nat} (h:KD B x D N P O (s+1)) (hs:s+m+1<=N) (hD:D<=B^m):Lt B (seg P s m)/\val B (seg P s m)<B*D/\val B (P.drop (s+m+1))=0:=by
 obtain ⟨h1,h2,h3,h4,h5⟩:=h;obtain ⟨d,hd⟩:∃ d,P[s]?=some d:=⟨_,zA3 (by omega)⟩;have e1:=qC8 (B:=B) hd;have hd1:=h1.at hd
 have e2:val B (P.drop s)<B*D:=by
  have:=bY B (show val B (P.drop (s+1))+1<=D by omega)
  rw [Nat.mul_add] at this;omega
 have e3:=zL0 B (seg P s m) (P.drop (s+m+1))
 have e4:seg P s m ++ P.drop (s+m+1)=P.drop s:=by
  have e:P.drop (s+m+1)=(P.drop s).drop (m+1):=by rw [List.drop_drop];congr 1
  unfold seg;rw [e,bX]
 rw [e4,qR5 h2 hs] at e3;have e5:B*D<=B^(m+1):=by rw [bY1,bY0];exact bY4 B hD
 refine ⟨(h1.drop s).take _,by omega,?_⟩;rcases bY3 (val B (P.drop (s+m+1))) with h | h
 ·exact h
 ·have:=bY (B^(m+1)) h;omega
theorem KD.step {B x D N:Nat} {P O p':List Nat} {s m t:Nat} (h:KD B x D N P O (s+1)) (hs:s+m+1<=N) (hO:s<O.length) (hD:D<=B^m) (hDp:0<D) (ht:t=val B (seg P s m) / D) (htB:t<B) (hl:Lt B p') (hlen:p'.length=(seg P s m).length) (hv:val B p'=val B (seg P s m) % D):KD B x D N (P.take s ++ p' ++ P.drop (s+m+1)) (O.set s t) s:=by
 obtain ⟨a1,a2,a3⟩:=h.at hs hD;obtain ⟨h1,h2,h3,h4,h5⟩:=h;have hpl:=qR5 h2 hs;have hX:(P.take s).length=s:=by simp;omega
 have e0:=yA8 h2 hs
 have e1:val B P=val B (P.take s)+B^s*val B (seg P s m):=by
  have:=zL0 B (P.take s ++ seg P s m) (P.drop (s+m+1))
  rw [e0,a3,zL0,hX] at this;simpa using this
 have e2:val B (P.take s ++ p' ++ P.drop (s+m+1))=val B (P.take s)+B^s*val B p':=by
  rw [zL0,zL0,a3,hX];simp
 have e3:val B ((P.take s ++ p' ++ P.drop (s+m+1)).drop s)=val B p':=by
  rw [List.append_assoc,List.drop_left' hX,zL0,a3];simp
 have e4:=Nat.mod_add_div (val B (seg P s m)) D;rw [<- ht,<- hv] at e4;refine ⟨((h1.take s).append hl).append (h1.drop _),?_,h3.set htB s,?_,?_⟩
 ·simp only [zA8,hlen,hpl,hX,bX2];omega
 ·rw [yA7 hO,zM7,e2];rw [e1,<- e4,bY1] at h4
  have g1:D*(B^s*(t+B*val B (O.drop (s+1))))=B^s*(D*t)+D*(B^s*B*val B (O.drop (s+1))):=by
   rw [Nat.mul_add,Nat.mul_add,Nat.mul_left_comm,bX8 (B^s) B]
  rw [Nat.mul_add] at h4;omega
 ·rw [e3,hv];exact Nat.mod_lt _ hDp
theorem KD.done {B x D N:Nat} {P O:List Nat} (h:KD B x D N P O 0):Lt B P/\Lt B O/\val B O=x / D/\val B P=x % D:=by
 obtain ⟨h1,h2,h3,h4,h5⟩:=h;simp only [List.drop_zero,Nat.pow_zero,Nat.one_mul] at h4 h5;refine ⟨h1,h3,?_,?_⟩
 ·rw [<- h4,Nat.add_mul_div_left _ _ (by omega),Nat.div_eq_of_lt h5,bY5]
 ·rw [<- h4,Nat.add_mul_mod_self_left,Nat.mod_eq_of_lt h5]
end num
namespace num
end num
namespace limb
open Go.RowKit
def zT7 (hi lo d q r e:Int):Prop :=
 (d % 4294967296=0/\q=0/\r=0/\e=3)\/(0<d % 4294967296/\d % 4294967296<=hi % 4294967296/\q=0/\r=0/\e=2) \/
 (hi % 4294967296<d % 4294967296/\0<=q/\q<4294967296/\0<=r/\r<d % 4294967296/\q*(d % 4294967296)+r=(hi % 4294967296)*4294967296+lo % 4294967296/\e=0)
theorem zT7.of {hi lo d:Int} (h0:0<=hi % 4294967296) (h:hi % 4294967296<d % 4294967296) (l0:0<=lo % 4294967296/\lo % 4294967296<4294967296) :
  zT7 hi lo d ((hi % 4294967296*4294967296+lo % 4294967296) / (d % 4294967296)) ((hi % 4294967296*4294967296+lo % 4294967296) % (d % 4294967296)) 0:=by
 unfold zT7;refine Or.inr (Or.inr ⟨h,Int.ediv_nonneg (by omega) (by omega),?_,Int.emod_nonneg _ (by omega),Int.emod_lt_of_pos _ (by omega),?_,rfl⟩)
 ·exact Int.ediv_lt_of_lt_mul (by omega) (by omega)
 ·rw [Int.mul_comm];exact Int.mul_ediv_add_emod _ _
theorem div_any (hi lo d:Int) (a0:0<=hi) (a1:hi<=18446744073709551615) (b0:0<=lo) (b1:lo<=18446744073709551615) (c0:0<=d) (c1:d<=18446744073709551615) (w:World) :
  Calls prog 169 #[.int .u64 hi,.int .u64 lo,.int .u64 d] w fun e w' =>
   ∃ q r x,e=.returned (.tuple #[.int .u64 q,.int .u64 r,.int .i64 x])/\zT7 hi lo d q r x /\ ∃ n,w'=w.drewN n:=by
 by_cases hd:d % 4294967296=0
 ·go_enter func169,ntmps169
  go_wp2_with (first | (go_at_call 171;refine (zV2 _ (by omega) (by omega) _).mono ?_;rintro e w' ⟨rfl,rfl⟩))
  go_ret3
  exact ⟨_,_,_,rfl,by unfold zT7;omega,0,rfl⟩
 ·by_cases hh:d % 4294967296<=hi % 4294967296
  ·go_enter func169,ntmps169
   go_wp2_with (first | (go_at_call 171;refine (zV2 _ (by omega) (by omega) _).mono ?_;rintro e w' ⟨rfl,rfl⟩))
   go_ret3
   exact ⟨_,_,_,rfl,by unfold zT7;omega,0,rfl⟩
  ·go_enter func169,ntmps169
   go_wp2_with (first | (go_at_call 171;refine (zV2 _ (by omega) (by omega) _).mono ?_;rintro e w' ⟨rfl,rfl⟩))
   go_quiet (fail)
   go_wp2
   go_ret3
   exact ⟨_,_,_,rfl,zT7.of (by omega) (by omega) (by omega),nq,rfl⟩
end limb
namespace nat
open Go.RowKit num mem limb
theorem yA9 {D N q r:Nat} (hr:r<D) (h:q*D+r=N):q=N / D/\r=N % D:=by
 subst h
 constructor
 ·rw [bY0,Nat.mul_add_div (by omega),Nat.div_eq_of_lt hr,Nat.add_zero]
 ·rw [bY0,Nat.mul_add_mod,Nat.mod_eq_of_lt hr]
theorem yB (hiI loI dI:Int) (hi lo d q r:Nat) (w:World) (h1:hiI=(hi:Int)) (h2:loI=(lo:Int)) (h3:dI=(d:Int)) (lh:hi<d % 4294967296) (ll:lo<4294967296) (ld:d<18446744073709551616) (hr:r<d % 4294967296) (he:q*(d % 4294967296)+r=hi*4294967296+lo) :
  Calls prog 169 #[.int .u64 hiI,.int .u64 loI,.int .u64 dI] w fun e w'=>e=.returned (.tuple #[.int .u64 (q:Int),.int .u64 (r:Int),.int .i64 0]) /\ ∃ n,w'=w.drewN n:=by
 subst h1;subst h2;subst h3;refine (limb.div_any _ _ _ (by omega) (by omega) (by omega) (by omega) (by omega) (by omega) w).mono ?_;rintro e w' ⟨q',r',x,rfl,hs,hn⟩;unfold zT7 at hs;rcases hs with ⟨g,_⟩|⟨_,g,_⟩|⟨g1,g2,g3,g4,g5,g6,rfl⟩
 ·omega
 ·omega
 ·obtain ⟨q',rfl⟩:=Int.eq_ofNat_of_zero_le g2;obtain ⟨r',rfl⟩:=Int.eq_ofNat_of_zero_le g4;have e1:(d:Int) % 4294967296=((d % 4294967296:Nat):Int):=by omega
  have e2:((q'*(d % 4294967296):Nat):Int)=(q':Int)*((d % 4294967296:Nat):Int):=Int.natCast_mul _ _;rw [e1] at g5 g6;rw [<- e2] at g6;have a:=yA9 hr he;have b:=yA9 (q:=q') (r:=r') (D:=d % 4294967296) (by omega) (N:=hi*4294967296+lo) (by omega);rw [a.1,a.2,<- b.1,<- b.2];exact ⟨rfl,hn⟩
theorem div_top (hiI loI dI:Int) (hi lo d:Nat) (w:World) (h1:hiI=(hi:Int)) (h2:loI=(lo:Int)) (h3:dI=(d:Int)) (lh:d<=hi) (lh2:hi<4294967296) (ll:lo<4294967296) (hd:0<d) :
  Calls prog 169 #[.int .u64 hiI,.int .u64 loI,.int .u64 dI] w fun e w'=>e=.returned (.tuple #[.int .u64 0,.int .u64 0,.int .i64 2]) /\ ∃ n,w'=w.drewN n:=by
 subst h1;subst h2;subst h3;refine (limb.div_any _ _ _ (by omega) (by omega) (by omega) (by omega) (by omega) (by omega) w).mono ?_;rintro e w' ⟨q',r',x,rfl,hs,hn⟩;unfold zT7 at hs;obtain ⟨rfl,rfl,rfl⟩:q'=0/\r'=0/\x=2:=by omega
 exact ⟨rfl,hn⟩
theorem qE0 (A:Option Addr) (n c:Nat) (l:List Nat) (w:World) (hn:n=l.length) (hc:l.length<=c) (hm:c<=maxLen) (hr:Rd w A .u64 l) :
  Calls prog 170 #[.slice A n c] w (qZ7 A c l w):=by
 subst hn;unfold maxLen at hm
 go_enter func170,ntmps170
 go_wp2
 go_loop [0] (fun vs => ∃ n:Nat,n<=l.length/\Hid (trim (l.take n)=trim l)/\vs=.slice A n c) (fun vs=>lenOf vs)
 case atStart=>exact ⟨l.length,zB1 _,by rw [bX1];rfl,rfl⟩
 case round =>
  obtain ⟨n,hn,ht,rfl⟩:=hrel;by_cases hp:0<n
  ·obtain ⟨n,rfl⟩:∃ m,n=m+1:=⟨n-1,by omega⟩;obtain ⟨ad,d,rfl,hd,hcell⟩:=hr.at_ (i:=n) (by omega);have HD:=hQ9 hd;clear hd;by_cases hz:d=0
   ·subst hz;go_wp2
    go_round
    case rel=>exact ⟨n,by omega,by have h1:=ht.out;rw [qC6 HD.out] at h1;exact h1,rfl⟩
    case measure=>simp [lenOf]
   ·have hz1:((d:Int) == 0)=false:=by rw [beq_eq_false_iff_ne];omega
    have e:trim l=l.take (n+1):=by have h1:=ht.out;rw [zZ6 HD.out hz] at h1;exact h1.symm
    have el:(trim l).length=n+1:=by rw [e];simp;omega
    have HEL:=hQ9 el;clear e el hz;go_wp2;go_ret;exact ⟨by rw [HEL.out];rfl,rfl⟩
  ·obtain rfl:n=0:=by omega
   have e:trim l=[]:=by have h1:=ht.out;rw [List.take_zero] at h1;exact h1.symm
   have HE:=hQ9 e;clear e;go_wp2;go_ret;exact ⟨by rw [HE.out];rfl,rfl⟩
def RetSUE (l:List Nat) (r:Nat) (x:Int) (w:World) (e:Ending) (w':World):Prop:=∃ v,e=.returned (.tuple #[v,.int .u64 (r:Int),.int .i64 x])/\IsS w' .u64 v l/\zE1 w.heap.size v/\Below w.heap.size w w'
def RetSSE (l m:List Nat) (x:Int) (w:World) (e:Ending) (w':World):Prop:=∃ v u,e=.returned (.tuple #[v,u,.int .i64 x])/\IsS w' .u64 v l/\IsS w' .u64 u m/\zE1 w.heap.size v/\zE1 w.heap.size u/\Below w.heap.size w w'
theorem yT7 (v:Value) (x:Nat) (dI:Int) (d q r:Nat) (w:World) (hdI:dI=(d:Int)) (ld:d<18446744073709551616) (hd:0<d % 4294967296) (h:IsS w .u64 v (digs 4294967296 x)) (hl:(digs 4294967296 x).length<=1000000) (hq:q=x / (d % 4294967296)) (hr:r=x % (d % 4294967296)) :
  Calls prog 141 #[v,.int .u64 dI] w (RetSUE (digs 4294967296 q) r 0 w):=by
 subst hdI;have lx:=zF4 (B:=4294967296) (by omega) x;have HQ:Hid (q=val 4294967296 (digs 4294967296 x) / (d % 4294967296)):=by show _=_;rw [zE3 (by omega)];exact hq
 have HR:Hid (r=val 4294967296 (digs 4294967296 x) % (d % 4294967296)):=by show _=_;rw [zE3 (by omega)];exact hr
 clear hq hr
 generalize digs 4294967296 x=xl at h hl lx HQ HR
 obtain ⟨A,k,rfl,hk,hm,hr⟩:=h;unfold maxLen at hm;have h1:(d:Int)<=18446744073709551615:=by omega
 have h2:(((d:Int) % 4294967296) == 0)=false:=by rw [beq_eq_false_iff_ne];omega
 go_enter func141,ntmps141
 go_wp2_with (at_make;refine zQ0 rfl _ _ rfl zJ5 xl.length rfl rfl (by omega) (by omega) (by omega) (zB1 _) ?_;intro w1 hown1 hb1 hsz1)
 go_loopw [8,19] (fun vr vi wr => ∃ (i r:Nat) (P:List Nat),i<=xl.length/\r<d % 4294967296/\Hid (DQ 4294967296 xl (d % 4294967296) (xl.length-i) r P)/\Own wr w.heap.size 98 .u64 (.slice (some ⟨w.heap.size,0,none⟩) xl.length xl.length) P/\Below w.heap.size w wr/\vr=.int .u64 (r:Int)/\vi=.int .i64 (i:Int)) (fun _ vi _=>xl.length-(intOf vi).toNat)
 case atStart=>exact ⟨0,0,_,by omega,hd,DQ.start (by omega) xl hd,hown1,hb1,rfl,rfl⟩
 case round =>
  clear hown1 hb1 hsz1;obtain ⟨i,r0,P,hi,hr0,HDQ,hown,hb,rfl,rfl⟩:=hrel;by_cases hlt:i<xl.length
  ·obtain ⟨j,hj⟩:∃ j,j=xl.length-1-i:=⟨_,rfl⟩;have hj2:xl.length-i=j+1:=by omega
   have hjI:(xl.length:Int)-1-(i:Int)=(j:Int):=by omega
   have hjl:j<xl.length:=by omega
   obtain ⟨ad,x,rfl,hx,hcell⟩:=(hr.bQ hb).at_ hjl;have hx1:=lx.at hx;have hD:=HDQ.out;rw [hj2] at hD;have HJ:Hid (xl.length-(i+1)=j):=by show _=_;omega
   obtain ⟨a',ha'⟩:∃ a',P[j]?=some a':=⟨_,zA3 (by have:=hD.2.1;omega)⟩;have hc0:=hown.cellAt ha';have hf0:=hown.frozenAt j;obtain ⟨q1,hq1⟩:∃ q1,q1=(r0*4294967296+x) / (d % 4294967296):=⟨_,rfl⟩;obtain ⟨s1,hs1⟩:∃ s1,s1=(r0*4294967296+x) % (d % 4294967296):=⟨_,rfl⟩;have hs2:s1<d % 4294967296:=by rw [hs1];exact Nat.mod_lt _ hd
   have he:q1*(d % 4294967296)+s1=r0*4294967296+x:=by rw [hq1,hs1,bY0];exact Nat.div_add_mod _ _
   have hq2:q1<4294967296:=by rw [hq1];exact Nat.div_lt_of_lt_mul (by omega)
   have HS:Hid (DQ 4294967296 xl (d % 4294967296) j s1 (P.set j q1)):=hD.step hx hq2 hs2 (by rw [bY0 4294967296];exact he);have HE:=hQ9 he;clear hj hj2 hx ha' hq1 hs1 he hD;go_wp2_with fail
   refine (yB _ _ _ r0 x d q1 s1 _ rfl rfl rfl hr0 hx1 ld hs2 HE.out).mono ?_;rintro e1 w2 ⟨rfl,n2,rfl⟩;have hown2:=hown.stored j q1;have hb2:Below w.heap.size w (wr.setCell ⟨w.heap.size,j,none⟩ (.int .u64 (q1:Int))):=hb.setCell (zB1 _) _;go_wp2;go_roundw;case rel=>exact ⟨i+1,s1,_,by omega,hs2,by rw [HJ.out];exact HS,hown2,zN9 hb2 _,rfl,by go_num⟩
   case measure=>simp [intOf];omega
  ·obtain rfl:i=xl.length:=by omega
   have hD:=HDQ.out;rw [Nat.sub_self] at hD;obtain ⟨g1,g2,g3,g4⟩:=hD.done;rw [<- HQ.out] at g3;rw [<- HR.out] at g4;have hT:=zM (by omega) g1;rw [g3] at hT;have HT:=hQ9 hT;have H4:=hQ9 g4;obtain ⟨A2,c2,e2,hc2,hm2,hr2⟩:=hown.isS;injection e2 with e2 e3 e4;subst e2;subst e4;have hfr:=hown.fresh;have HL:=hQ9 e3;clear hT g2 g3 g4 hD e3;go_wp2_with fail
   refine (qE0 _ _ _ P _ HL.out hc2 hm2 hr2).mono ?_;rintro e w' ⟨rfl,rfl⟩;rw [HT.out];go_wp2
   go_ret3
   refine ⟨_,by rw [H4.out];rfl,?_,hfr.cut _ _,hb⟩
   have:=hr2.isTake (qC5 P) hc2 hm2
   rw [<- qI9,HT.out] at this;exact this
end nat
namespace mem
open Go.RowKit num
theorem mid_at {X p Y:List Nat} {i d:Nat} (h:p[i]?=some d):(X ++ p ++ Y)[X.length+i]?=some d:=by
 have hi:i<p.length:=(zA4.1 h).1;rw [List.append_assoc,bW0 (by omega),Nat.add_sub_cancel_left,zB0 hi];exact h
theorem mid_set {X p Y:List Nat} {i:Nat} (hi:i<p.length) (t:Nat):(X ++ p ++ Y).set (X.length+i) t=X ++ p.set i t ++ Y:=by
 rw [List.append_assoc,List.set_append_right _ _ (by omega),Nat.add_sub_cancel_left,List.set_append_left _ _ hi,List.append_assoc]
theorem zE9 (w:World) (g o:Nat) (v:Value):w.grownBy (w.setCell ⟨g,o,none⟩ v) (some g) :=
 ⟨rfl,rfl,rfl,by simp [World.setCell],fun k _ hk=>Below.heap_setCell _ _ _ k (fun e=>hk (by rw [e]))⟩
theorem yT8 {a w:World} {row:Option Nat} (h:a.grownBy w row) (n:Nat):a.grownBy (w.drewN n) row:=⟨h.os,h.tape,h.output,h.size,h.block⟩
def zO0 (g:Nat) (v:Value):Prop:=∀ ad n c,v=.slice (some ad) n c->0<n->ad.block≠g
theorem Rd.grown {w w':World} {A:Option Addr} {k:IntKind} {l:List Nat} {g c:Nat} (h:Rd w A k l) (hf:zO0 g (.slice A l.length c)) (hg:w.grownBy w' (some g)):Rd w' A k l:=by
 intro i d hd;obtain ⟨ad,rfl,hc⟩:=h i d hd;have hi:i<l.length:=(zA4.1 hd).1;refine ⟨ad,rfl,hg.cell hc ?_⟩;rw [block_add];intro e;exact hf ad _ _ rfl (by omega) (by simpa using e)
theorem IsS.grown {w w':World} {k:IntKind} {v:Value} {l:List Nat} {g:Nat} (h:IsS w k v l) (hf:zO0 g v) (hg:w.grownBy w' (some g)):IsS w' k v l:=by
 obtain ⟨A,c,rfl,h1,h2,h3⟩:=h;exact ⟨A,c,rfl,h1,h2,h3.grown hf hg⟩
def Mid (w:World) (base g n cap s:Nat) (X p Y:List Nat):Prop:=Own w base 98 .u64 (.slice (some ⟨g,0,none⟩) n cap) (X ++ p ++ Y)/\s=X.length
theorem Mid.cellAt {w:World} {base g n cap s:Nat} {X p Y:List Nat} (h:Mid w base g n cap s X p Y) {i d:Nat} (hd:p[i]?=some d):w.cell? ⟨g,s+i,none⟩=some (.int .u64 (d:Int)):=by
 obtain ⟨h1,rfl⟩:=h;exact h1.cellAt (mid_at hd)
theorem Mid.frozenAt {w:World} {base g n cap s:Nat} {X p Y:List Nat} (h:Mid w base g n cap s X p Y) (i:Nat):w.frozen? ⟨g,s+i,none⟩=false:=h.1.frozenAt _
theorem Mid.stored {w:World} {base g n cap s:Nat} {X p Y:List Nat} (h:Mid w base g n cap s X p Y) {i:Nat} (hi:i<p.length) (d:Nat):Mid (w.setCell ⟨g,s+i,none⟩ (.int .u64 (d:Int))) base g n cap s X (p.set i d) Y:=by
 obtain ⟨h1,rfl⟩:=h
 have:=h1.stored (X.length+i) d
 rw [mid_set hi] at this;exact ⟨this,rfl⟩
theorem Mid.rd {w:World} {base g n cap s:Nat} {X p Y:List Nat} (h:Mid w base g n cap s X p Y):Rd w (some ⟨g,s,none⟩) .u64 p:=by
 intro i d hd;refine ⟨_,rfl,?_⟩;rw [Addr.add_lit];exact h.cellAt hd
theorem Mid.drewN {w:World} {base g n cap s:Nat} {X p Y:List Nat} (h:Mid w base g n cap s X p Y) (k:Nat):Mid (w.drewN k) base g n cap s X p Y:=⟨h.1.drewN k,h.2⟩
end mem
namespace nat
open Go.RowKit num mem limb
theorem qK6 (aI bI cI:Int) (a b c:Nat) (w:World) (ha:aI=(a:Int)) (hb:bI=(b:Int)) (hc:cI=(c:Int)) (la:a<4294967296) (lb:b<4294967296) (lc:c<4294967296) :
  Calls prog 167 #[.int .u64 aI,.int .u64 bI,.int .u64 cI] w fun e w' => ∃ s o:Nat,e=.returned (.tuple #[.int .u64 (s:Int),.int .u64 (o:Int)])/\s<4294967296/\s+4294967296*o=a+b+c/\w=w':=by
 subst ha;subst hb;subst hc;refine (limb.add_any _ _ _ (by omega) (by omega) (by omega) (by omega) (by omega) (by omega) w).mono ?_;rintro e w' ⟨s,o,rfl,hs,rfl⟩;unfold qA at hs;obtain ⟨s0,s1,o0,o1,he⟩:=hs;obtain ⟨s,rfl⟩:=Int.eq_ofNat_of_zero_le s0;obtain ⟨o,rfl⟩:=Int.eq_ofNat_of_zero_le o0;exact ⟨s,o,rfl,by omega,by omega,rfl⟩
def RetTO (base g n cap s:Nat) (X p Y bl:List Nat) (t:Nat) (w:World) (e:Ending) (w':World):Prop:=∃ (k:Nat) (p':List Nat),k<=1/\e=.returned (.bool (k == 0))/\Lt 4294967296 p'/\p'.length=p.length/\val 4294967296 p'+4294967296^p.length*k+val 4294967296 bl*t=val 4294967296 p+4294967296^p.length/\Mid w' base g n cap s X p' Y/\w.grownBy w' (some g)
theorem yT9 (base g n cap s c:Nat) (X p Y bl:List Nat) (vb:Value) (tI:Int) (t:Nat) (w:World) (htI:tI=(t:Int)) (lt:t<4294967296) (hM:Mid w base g n cap s X p Y) (lp:Lt 4294967296 p) (hp:p.length=bl.length+1) (hpl:p.length<=1000000) (hb:IsS w .u64 vb bl) (lb:Lt 4294967296 bl) (hf:zO0 g vb) :
  Calls prog 191 #[.slice (some ⟨g,s,none⟩) p.length c,vb,.int .u64 tI] w (RetTO base g n cap s X p Y bl t w):=by
 subst htI;obtain ⟨A,k,rfl,hk,hm,hr⟩:=hb;unfold maxLen at hm;have hpI:(p.length:Int)=(bl.length:Int)+1:=by omega
 have HP:=hQ9 hp;have hbp:bl.length<p.length:=by omega
 have hbpI:(bl.length:Int)<(p.length:Int):=by omega
 clear hp hpI
 go_enter func191,ntmps191
 go_wp2
 go_loopw [8,9,14] (fun vu vk vi wr => ∃ (i u kept:Nat) (q:List Nat),i<=bl.length/\u<4294967296/\kept<=1/\Hid (TO 4294967296 p bl q t i u kept)/\Mid wr base g n cap s X q Y/\w.grownBy wr (some g)/\vu=.int .u64 (u:Int)/\vk=.int .u64 (kept:Int)/\vi=.int .i64 (i:Int)) (fun _ _ vi _=>bl.length-(intOf vi).toNat)
 case atStart=>exact ⟨0,0,1,p,by omega,by omega,by omega,TO.start lp (by omega) bl t,hM,World.grownBy.refl _ _,rfl,rfl,rfl⟩
 case round =>
  clear hM;obtain ⟨i,u,kept,q,hi,hu,hkept,HT,hM,hg,rfl,rfl,rfl⟩:=hrel;have hql:=HT.out.2.1;have hqi:i<q.length:=by omega
  obtain ⟨d,hd⟩:∃ d,q[i]?=some d:=⟨_,zA3 hqi⟩;have hd1:=HT.out.1.at hd;have hc0:=hM.cellAt hd;have hf0:=hM.frozenAt i;have HD:=hQ9 hd;have HQI:=hQ9 hqi;have hip:i<p.length:=by omega
  have hipI:(i:Int)<(p.length:Int):=by omega
  clear hql hd hqi;by_cases hlt:i<bl.length
  ·obtain ⟨ad,e,rfl,he,hcell⟩:=(hr.grown hf hg).at_ hlt;have he1:=lb.at he;have HE:=hQ9 he;clear he
   go_wp2_with fail
   refine (qR0 _ _ _ _ e t u 0 _ rfl rfl rfl rfl he1 (by omega) hu (by omega)).mono ?_;rintro e1 w2 ⟨low,up,rfl,hlow,hup,hm2,rfl⟩;rw [Nat.mod_eq_of_lt lt,Nat.add_zero] at hm2;have HM2:=hQ9 hm2;clear hm2;go_wp2_with fail
   refine (qK6 _ _ _ d (4294967296-1-low) kept _ rfl (by omega) rfl hd1 (by omega) (by omega)).mono ?_;rintro e1 w3 ⟨s1,k',rfl,hs1,hk',rfl⟩;have HT2:Hid (TO 4294967296 p bl (q.set i s1) t (i+1) up k'):=HT.out.next HD.out HE.out hlow hup HM2.out hs1 hk';have hk2:k'<=1:=HT2.out.2.2.2.2.1;have hM2:=hM.stored HQI.out s1;have hg2:=hg.trans (zE9 wr g (s+i) (.int .u64 (s1:Int)));clear hk';go_wp2;go_roundw;case rel=>exact ⟨i+1,up,k',_,by omega,hup,hk2,HT2,hM2,hg2,rfl,rfl,by go_num⟩
   case measure=>simp [intOf];omega
  ·obtain rfl:i=bl.length:=by omega
   go_wp2_with fail
   refine (qK6 _ _ _ d (4294967296-1-u) kept _ rfl (by omega) rfl hd1 (by omega) (by omega)).mono ?_;rintro e1 w3 ⟨s1,k',rfl,hs1,hk',rfl⟩;obtain ⟨z1,z2,z3,z4⟩:=HT.out.last HP.out HD.out hs1 hk';have hM2:=hM.stored HQI.out s1;have hg2:=hg.trans (zE9 wr g (s+bl.length) (.int .u64 (s1:Int)));have Z2:=hQ9 z2;have Z4:=hQ9 z4;clear hk' z2 z4;rcases (show k'=0\/k'=1 from by omega) with rfl|rfl
   all_goals
    go_wp2;go_ret;exact ⟨_,_,z3,rfl,z1,Z2.out,Z4.out,hM2,hg2⟩
def RetPB (base g n cap s:Nat) (X p Y bl:List Nat) (w:World) (e:Ending) (w':World):Prop:=∃ (k:Nat) (p':List Nat),e=.returned (.tuple #[])/\Lt 4294967296 p'/\p'.length=p.length/\val 4294967296 p'+4294967296^p.length*k=val 4294967296 p+val 4294967296 bl/\Mid w' base g n cap s X p' Y/\w.grownBy w' (some g)
theorem yU (base g n cap s c:Nat) (X p Y bl:List Nat) (vb:Value) (w:World) (hM:Mid w base g n cap s X p Y) (lp:Lt 4294967296 p) (hp:p.length=bl.length+1) (hpl:p.length<=1000000) (hb:IsS w .u64 vb bl) (lb:Lt 4294967296 bl) (hf:zO0 g vb) :
  Calls prog 192 #[.slice (some ⟨g,s,none⟩) p.length c,vb] w (RetPB base g n cap s X p Y bl w):=by
 obtain ⟨A,k,rfl,hk,hm,hr⟩:=hb;unfold maxLen at hm;have HP:=hQ9 hp;have hbp:bl.length<p.length:=by omega
 have hbpI:(bl.length:Int)<(p.length:Int):=by omega
 clear hp
 go_enter func192,ntmps192
 go_wp2
 go_loopw [4,9] (fun vu vi wr => ∃ (i u:Nat) (q:List Nat),i<=bl.length/\u<4294967296/\Hid (PB 4294967296 p bl q i u)/\Mid wr base g n cap s X q Y/\w.grownBy wr (some g)/\vu=.int .u64 (u:Int)/\vi=.int .i64 (i:Int)) (fun _ vi _=>bl.length-(intOf vi).toNat)
 case atStart=>exact ⟨0,0,p,by omega,by omega,PB.start lp (by omega) bl,hM,World.grownBy.refl _ _,rfl,rfl⟩
 case round =>
  clear hM;obtain ⟨i,u,q,hi,hu,HT,hM,hg,rfl,rfl⟩:=hrel;have hql:=HT.out.2.1;have hqi:i<q.length:=by omega
  obtain ⟨d,hd⟩:∃ d,q[i]?=some d:=⟨_,zA3 hqi⟩;have hd1:=HT.out.1.at hd;have hc0:=hM.cellAt hd;have hf0:=hM.frozenAt i;have HD:=hQ9 hd;have HQI:=hQ9 hqi;have hip:i<p.length:=by omega
  have hipI:(i:Int)<(p.length:Int):=by omega
  clear hql hd hqi;by_cases hlt:i<bl.length
  ·obtain ⟨ad,e,rfl,he,hcell⟩:=(hr.grown hf hg).at_ hlt;have he1:=lb.at he;have HE:=hQ9 he;clear he
   go_wp2_with fail
   refine (qK6 _ _ _ d e u _ rfl rfl rfl hd1 he1 (by omega)).mono ?_;rintro e1 w3 ⟨s1,k',rfl,hs1,hk',rfl⟩;have hk2:k'<4294967296:=by omega
   have HT2:Hid (PB 4294967296 p bl (q.set i s1) (i+1) k'):=HT.out.next HD.out HE.out hs1 hk2 hk';have hM2:=hM.stored HQI.out s1;have hg2:=hg.trans (zE9 wr g (s+i) (.int .u64 (s1:Int)));clear hk';go_wp2;go_roundw;case rel=>exact ⟨i+1,k',_,by omega,hk2,HT2,hM2,hg2,rfl,by go_num⟩
   case measure=>simp [intOf];omega
  ·obtain rfl:i=bl.length:=by omega
   go_wp2_with fail
   refine (qK6 _ _ _ d u 0 _ rfl rfl rfl hd1 (by omega) (by omega)).mono ?_;rintro e1 w3 ⟨s1,k',rfl,hs1,hk',rfl⟩;obtain ⟨z1,z2,z4⟩:=HT.out.last HP.out HD.out hs1 (by rw [hk'];rfl);have hM2:=hM.stored HQI.out s1;have hg2:=hg.trans (zE9 wr g (s+bl.length) (.int .u64 (s1:Int)));have Z2:=hQ9 z2;have Z4:=hQ9 z4;clear hk' z2 z4;go_wp2
   go_end0
   exact ⟨_,_,rfl,z1,Z2.out,Z4.out,hM2,hg2⟩
def RetGu (V D:Nat) (w:World) (e:Ending) (w':World):Prop:=∃ t k:Nat,e=.returned (.int .u64 (t:Int))/\zY2 V D t/\t<4294967296/\w'=w.drewN k
theorem yB0 {t b2 left c:Nat} (ht:t<4294967296) (hb:b2<4294967296) (hl:left<4294967296) (hc:c<4294967296):t*b2<=18446744073709551615/\left*4294967296<=18446744073709551615/\left*4294967296+c<=18446744073709551615:=by
 have h1:t*b2<=4294967295*4294967295:=bY6 (by omega) (by omega);omega
theorem yU0 (vp vb:Value) (p bl:List Nat) (w:World) (h:IsS w .u64 vp p) (h':IsS w .u64 vb bl) (lp:Lt 4294967296 p) (lb:Lt 4294967296 bl) (hp:p.length=bl.length+1) (hb2:2<=bl.length) (hbl:bl.length<=1000000) (hnz:∀ d,bl[bl.length-1]?=some d->0<d) (hVD:val 4294967296 p<4294967296*val 4294967296 bl) :
  Calls prog 190 #[vp,vb] w (RetGu (val 4294967296 p) (val 4294967296 bl) w):=by
 obtain ⟨A,k,rfl,hk,hm,hr⟩:=h;obtain ⟨A',k',rfl,hk',hm',hr'⟩:=h';unfold maxLen at hm hm';obtain ⟨m,hm0⟩:∃ m,m=bl.length:=⟨_,rfl⟩;have hpl:p.length=m+1:=by omega
 rw [hpl,<- hm0];rw [hpl] at hk;rw [<- hm0] at hk' hb2 hbl hnz;obtain ⟨ad,u1,rfl,hu1,cu1⟩:=hr.at_ (i:=m) (by omega);obtain ⟨_,u0,e0,hu0,cu0⟩:=hr.at_ (i:=m-1) (by omega);injection e0 with e0;subst e0;obtain ⟨_,c,e0,hc,cc⟩:=hr.at_ (i:=m-2) (by omega);injection e0 with e0;subst e0;obtain ⟨ad',v,rfl,hv,cv⟩:=hr'.at_ (i:=m-1) (by omega);obtain ⟨_,b2,e0,hb2',cb2⟩:=hr'.at_ (i:=m-2) (by omega);injection e0 with e0;subst e0;have hv0:=hnz v hv;have eV:=three (B:=4294967296) (n:=m-2) (by omega) (by rw [show m-2+2=m by omega];exact hu1) (by rw [show m-2+1=m-1 by omega];exact hu0) hc;have eD:=two (B:=4294967296) (n:=m-2) (by omega) (by rw [show m-2+1=m-1 by omega];exact hv) hb2'
 have hX:val 4294967296 (p.take (m-2))<4294967296^(m-2):=by
  have:=zL1 (lp.take (m-2));rwa [show (p.take (m-2)).length=m-2 from by simp;omega] at this
 have hY:val 4294967296 (bl.take (m-2))<4294967296^(m-2):=by
  have:=zL1 (lb.take (m-2));rwa [show (bl.take (m-2)).length=m-2 from by simp;omega] at this
 have lu1:=lp.at hu1;have lu0:=lp.at hu0;have lc:=lp.at hc;have lv:=lb.at hv;have lb2:=lb.at hb2';obtain ⟨V,hV⟩:∃ V,V=val 4294967296 p:=⟨_,rfl⟩;obtain ⟨D,hD⟩:∃ D,D=val 4294967296 bl:=⟨_,rfl⟩;rw [<- hV] at eV hVD |-;rw [<- hD] at eD hVD |-;have HV:=hQ9 eV;have HD:=hQ9 eD;have HX:=hQ9 hX;have HY:=hQ9 hY;have HVD:=hQ9 hVD;clear eV eD hX hY hVD hV hD hu1 hu0 hc hv hb2' hpl hm0 hr hr' hp hnz lp lb;have hL:Hid (∀ t left:Nat,GU 4294967296 V D u1 u0 v t left->left*4294967296+c<t*b2->1<=t/\GU 4294967296 V D u1 u0 v (t-1) (left+v)):=fun t left h1 h2=>h1.step HV.out HX.out HD.out h2;have hE:Hid (∀ t left:Nat,GU 4294967296 V D u1 u0 v t left->t*b2<=left*4294967296+c->zY2 V D t):=fun t left h1 h2=>h1.done HV.out HD.out HY.out hv0 h2;have hS1:Hid (u1<v->GU 4294967296 V D u1 u0 v ((u1*4294967296+u0) / v) ((u1*4294967296+u0) % v)):=fun h=>GU.start_div HV.out HX.out lc lu0 HD.out h;have hS2:Hid (v<=u1->u1=v/\GU 4294967296 V D u1 u0 v (4294967296-1) (u1+u0)):=fun h=>GU.start_top HV.out HD.out HY.out lb2 HVD.out h hv0 (by omega);clear HV HD HX HY HVD;have i1:IntKind.i64.wrap ((m:Int)-1)=(m:Int)-1:=IntWalk.i64_in _ (by omega);have i2:IntKind.i64.wrap ((m:Int)-2)=(m:Int)-2:=IntWalk.i64_in _ (by omega);have i3:(0:Int)<=(m:Int)-1:=by omega
 have i4:(0:Int)<=(m:Int)-2:=by omega
 have i5:((m:Int)-1).toNat=m-1:=by omega
 have i6:((m:Int)-2).toNat=m-2:=by omega
 rcases Nat.lt_or_ge u1 v with hc1 | hc1
 ·have hG:=hQ9 (hS1.out hc1);obtain ⟨t0,ht0⟩:∃ t,t=(u1*4294967296+u0) / v:=⟨_,rfl⟩;obtain ⟨r0,hr0⟩:∃ r,r=(u1*4294967296+u0) % v:=⟨_,rfl⟩;have hrv:r0<v:=by rw [hr0];exact Nat.mod_lt _ hv0
  have he:Hid (t0*(v % 4294967296)+r0=u1*4294967296+u0):=by show _=_;rw [Nat.mod_eq_of_lt lv,ht0,hr0,bY0];exact Nat.div_add_mod _ _
  rw [<- ht0,<- hr0] at hG;clear ht0 hr0 hS1 hS2
  go_enter func190,ntmps190
  go_wp2
  go_quiet ((go_at_call 169;exact Calls.quiet_of (yB _ _ _ u1 u0 v t0 r0 _ rfl rfl rfl (by omega) lu0 (by omega) (by omega) he.out)))
  go_wp2
  go_loopw [6,7] (fun vt vl wr => ∃ (t left j:Nat),t<4294967296/\left<8589934592/\Hid (GU 4294967296 V D u1 u0 v t left)/\wr=w.drewN j/\vt=.int .u64 (t:Int)/\vl=.int .u64 (left:Int)) (fun _ vl _=>4294967296-(intOf vl).toNat)
  case atStart=>exact ⟨t0,r0,nq,by have:=hG.out.2.2;exact this,by omega,hG,rfl,rfl,rfl⟩
  case round =>
   clear hG;obtain ⟨t,left,j,ht,hleft,hG,rfl,rfl,rfl⟩:=hrel;by_cases hlt:left<4294967296
   ·obtain ⟨b1,b3,b4⟩:=yB0 ht lb2 hlt lc;obtain ⟨M,hM⟩:∃ M,M=t*b2:=⟨_,rfl⟩;obtain ⟨S,hS⟩:∃ S,S=left*4294967296+c:=⟨_,rfl⟩;have w1:IntKind.u64.wrap ((t:Int)*(b2:Int))=(M:Int):=by rw [IntWalk.u64_in _ (by rw [<- Int.natCast_mul];omega),<- Int.natCast_mul,<- hM]
    have w2:IntKind.u64.wrap ((left:Int)*4294967296)=(left:Int)*4294967296:=IntWalk.u64_in _ (by omega);have w3:IntKind.u64.wrap ((left:Int)*4294967296+(c:Int))=(S:Int):=by rw [IntWalk.u64_in _ (by omega)];omega
    by_cases hcmp:S<M
    ·obtain ⟨g1,g2⟩:=hL.out t left hG.out (by omega);have hG2:=hQ9 g2;have c1:decide (S<M)=true:=decide_eq_true hcmp;have c2:decide ((S:Int)<(M:Int))=true:=decide_eq_true (by omega);have T1:Hid ((t:Int)-1=((t-1:Nat):Int)):=by show _=_;omega
     have hn1:¬ (4294967296:Int)<=(left:Int):=by omega
     have HLT:=hQ9 hlt;have HLE:=hQ9 hleft;clear b1 b3 b4 hM hS g2 hcmp hlt hleft;go_wp2
     go_quiet (fail)
     go_wp2;go_roundw;case rel=>exact ⟨t-1,left+v,_,by omega,by have:=HLT.out;omega,hG2,rfl,zO6 T1.out,by go_num⟩
     case measure=>have:=HLT.out;simp [intOf];omega
    ·have hGu:=hQ9 (hE.out t left hG.out (by omega));have c1:decide (S<M)=false:=decide_eq_false hcmp;have c2:decide ((S:Int)<(M:Int))=false:=decide_eq_false (by omega);have hn1:¬ (4294967296:Int)<=(left:Int):=by omega
     clear b1 b3 b4 hM hS hcmp hlt hleft;go_wp2
     go_quiet (fail)
     go_wp2;go_ret;exact ⟨t,_,rfl,hGu.out,ht,World.drewN_drewN _ _ _⟩
   ·have hGu:=hQ9 (hE.out t left hG.out (by
     have h1:t*b2<=4294967295*4294967295:=bY6 (by omega) (by omega)
     omega))
    have c1:decide (left<4294967296)=false:=decide_eq_false hlt;have c2:decide ((left:Int)<4294967296)=false:=decide_eq_false (by omega);go_wp2
    go_quiet (fail)
    go_wp2;go_ret;exact ⟨t,_,rfl,hGu.out,ht,World.drewN_drewN _ _ _⟩
 ·obtain ⟨huv,hG0⟩:=hS2.out hc1;have hG:=hQ9 hG0;have hsum:IntKind.u64.wrap ((u1:Int)+(u0:Int))=(u1:Int)+(u0:Int):=IntWalk.u64_in _ (by omega);clear hG0 huv hS1 hS2
  go_enter func190,ntmps190
  go_wp2
  go_quiet ((go_at_call 169;exact Calls.quiet_of (div_top _ _ _ u1 u0 v _ rfl rfl rfl hc1 (by omega) lu0 hv0)))
  go_wp2
  go_quiet (fail)
  go_wp2
  go_loopw [6,7] (fun vt vl wr => ∃ (t left j:Nat),t<4294967296/\left<8589934592/\Hid (GU 4294967296 V D u1 u0 v t left)/\wr=w.drewN j/\vt=.int .u64 (t:Int)/\vl=.int .u64 (left:Int)) (fun _ vl _=>4294967296-(intOf vl).toNat)
  case atStart=>exact ⟨4294967296-1,u1+u0,_,by omega,by omega,hG,World.drewN_drewN _ _ _,rfl,by go_num⟩
  case round =>
   clear hG;obtain ⟨t,left,j,ht,hleft,hG,rfl,rfl,rfl⟩:=hrel;by_cases hlt:left<4294967296
   ·obtain ⟨b1,b3,b4⟩:=yB0 ht lb2 hlt lc;obtain ⟨M,hM⟩:∃ M,M=t*b2:=⟨_,rfl⟩;obtain ⟨S,hS⟩:∃ S,S=left*4294967296+c:=⟨_,rfl⟩;have w1:IntKind.u64.wrap ((t:Int)*(b2:Int))=(M:Int):=by rw [IntWalk.u64_in _ (by rw [<- Int.natCast_mul];omega),<- Int.natCast_mul,<- hM]
    have w2:IntKind.u64.wrap ((left:Int)*4294967296)=(left:Int)*4294967296:=IntWalk.u64_in _ (by omega);have w3:IntKind.u64.wrap ((left:Int)*4294967296+(c:Int))=(S:Int):=by rw [IntWalk.u64_in _ (by omega)];omega
    by_cases hcmp:S<M
    ·obtain ⟨g1,g2⟩:=hL.out t left hG.out (by omega);have hG2:=hQ9 g2;have c1:decide (S<M)=true:=decide_eq_true hcmp;have c2:decide ((S:Int)<(M:Int))=true:=decide_eq_true (by omega);have T1:Hid ((t:Int)-1=((t-1:Nat):Int)):=by show _=_;omega
     have hn1:¬ (4294967296:Int)<=(left:Int):=by omega
     have HLT:=hQ9 hlt;have HLE:=hQ9 hleft;clear b1 b3 b4 hM hS g2 hcmp hlt hleft;go_wp2
     go_quiet (fail)
     go_wp2;go_roundw;case rel=>exact ⟨t-1,left+v,_,by omega,by have:=HLT.out;omega,hG2,rfl,zO6 T1.out,by go_num⟩
     case measure=>have:=HLT.out;simp [intOf];omega
    ·have hGu:=hQ9 (hE.out t left hG.out (by omega));have c1:decide (S<M)=false:=decide_eq_false hcmp;have c2:decide ((S:Int)<(M:Int))=false:=decide_eq_false (by omega);have hn1:¬ (4294967296:Int)<=(left:Int):=by omega
     clear b1 b3 b4 hM hS hcmp hlt hleft;go_wp2
     go_quiet (fail)
     go_wp2;go_ret;exact ⟨t,_,rfl,hGu.out,ht,World.drewN_drewN _ _ _⟩
   ·have hGu:=hQ9 (hE.out t left hG.out (by
     have h1:t*b2<=4294967295*4294967295:=bY6 (by omega) (by omega)
     omega))
    have c1:decide (left<4294967296)=false:=decide_eq_false hlt;have c2:decide ((left:Int)<4294967296)=false:=decide_eq_false (by omega);go_wp2
    go_quiet (fail)
    go_wp2;go_ret;exact ⟨t,_,rfl,hGu.out,ht,World.drewN_drewN _ _ _⟩
def RetSt (base g n cap s:Nat) (X p Y bl:List Nat) (w:World) (e:Ending) (w':World):Prop:=∃ (t:Nat) (p':List Nat),e=.returned (.int .u64 (t:Int))/\t=val 4294967296 p / val 4294967296 bl/\t<4294967296/\Lt 4294967296 p'/\p'.length=p.length/\val 4294967296 p'=val 4294967296 p % val 4294967296 bl/\Mid w' base g n cap s X p' Y/\w.grownBy w' (some g)
theorem yU1 (base g n cap s c:Nat) (X p Y bl:List Nat) (vb:Value) (w:World) (hM:Mid w base g n cap s X p Y) (lp:Lt 4294967296 p) (hp:p.length=bl.length+1) (hpc:p.length<=c) (hcm:c<=maxLen) (hb:IsS w .u64 vb bl) (lb:Lt 4294967296 bl) (hf:zO0 g vb) (hb2:2<=bl.length) (hbl:bl.length<=900000) (hnz:∀ d,bl[bl.length-1]?=some d->0<d) (hVD:val 4294967296 p<4294967296*val 4294967296 bl) :
  Calls prog 172 #[.slice (some ⟨g,s,none⟩) p.length c,vb] w (RetSt base g n cap s X p Y bl w):=by
 have hD:0<val 4294967296 bl:=by
  rcases bY3 (val 4294967296 bl) with h | h
  ·rw [h] at hVD;omega
  ·exact h
 have hVM:=zL1 lp;have HP:=hQ9 hp;have HNZ:=hQ9 hnz;clear hp hnz
 go_enter func172,ntmps172;go_wp2_with fail
 refine (yU0 _ vb p bl w ⟨_,c,rfl,hpc,hcm,hM.rd⟩ hb lp lb HP.out hb2 (by have:=HP.out;omega) HNZ.out hVD).mono ?_;rintro e w1 ⟨t,k1,rfl,hG,ht,rfl⟩;have hM1:=hM.drewN k1;have hb1:IsS (w.drewN k1) .u64 vb bl:=hb;have hg1:w.grownBy (w.drewN k1) (some g):=yT8 (World.grownBy.refl _ _) k1;go_wp2_with fail
 refine (yT9 base g n cap s c X p Y bl vb _ t _ rfl ht hM1 lp HP.out (by have:=HP.out;omega) hb1 lb hf).mono ?_;rintro e w2 ⟨k,p',hk,rfl,z1,z2,z4,hM2,hg2⟩;have hg3:=hg1.trans hg2;rcases (show k=0\/k=1 from by omega) with rfl|rfl
 ·have hb3:=hb.grown hf hg3;have Z2:=hQ9 z2;have Z4:Hid (val 4294967296 p'+val 4294967296 bl*t=val 4294967296 p+4294967296^p.length):=by show _=_;omega
  clear z2 z4;go_wp2_with fail
  rw [<- Z2.out];refine (yU base g n cap s c X p' Y bl vb _ hM2 z1 (by rw [Z2.out];exact HP.out) (by have:=Z2.out;have:=HP.out;omega) hb3 lb hf).mono ?_;rintro e w3 ⟨k,p2,rfl,y1,y2,y4,hM3,hg4⟩;rw [Z2.out] at y2 y4;have hV':=zL1 z1;have hW:=zL1 y1;rw [Z2.out] at hV';rw [y2] at hW;obtain ⟨q1,q2⟩:=hG.more hD hV' Z4.out y4 hW hVM;have Q1:Hid (t-1=val 4294967296 p / val 4294967296 bl):=by show _=_;rw [q1];exact Nat.add_sub_cancel _ _
  have ht1:1<=t:=by rw [q1];exact Nat.le_add_left _ _
  have T1:Hid ((t:Int)-1=((t-1:Nat):Int)):=by show _=_;omega
  have Q2:=hQ9 q2;have Y2:=hQ9 y2;clear y2 y4 q1 q2 hG;go_wp2;go_ret;exact ⟨t-1,p2,by rw [<- T1.out];rfl,Q1.out,by omega,y1,Y2.out,Q2.out,hM3,hg3.trans hg4⟩
 ·obtain ⟨q1,q2⟩:=hG.right (V':=val 4294967296 p') hD (by omega);have Q1:=hQ9 q1;have Q2:=hQ9 q2;have Z2:=hQ9 z2;clear q1 q2 z2 z4 hG;go_wp2;go_ret;exact ⟨t,p',rfl,Q1.out,ht,z1,Z2.out,Q2.out,hM2,hg3⟩
end nat
namespace mem
open Go.RowKit num
section
variable {P:Program}
theorem yB1 {w:World} {ops:Array Oper} {rest:List Oper} {o:Oper} {a:Act} {Q:Exit->Act->World->Prop} (hgd:o.guard=none) (s x:Operand) {t:TypeId}
  (ho:o.op=.call { callee:=.builtin .append,args:=#[s,x],argTypes:=#[t,t] })
  {base:Nat} {e:TypeId} {k:IntKind} (hT:SliceT P t e k) {v:Value} {l:List Nat} (d:Nat) {y:Int} (hs:a.eval s=v) (hown:Own w base e k v l) (hx:a.eval x=.slice (some ⟨w.heap.size,0,none⟩) 1 1) (hd:y=(d:Int))
  (hlen:l.length<=1000000000) (hbase:base<=w.heap.size)
  (h:∀ g cap w',Own w' base e k (.slice (some ⟨g,0,none⟩) (l.length+1) cap) (l ++ [d])->Below base w w'->w.grownBy w' v.ownBlock->(v.ownBlock=some g\/w.heap.size<=g)->base<=g->g<w'.heap.size->wpList P ops Q rest (a.put o.dst (.slice (some ⟨g,0,none⟩) (l.length+1) cap)) w'):wpList P ops Q (o :: rest) a (w.alloc (.cells #[.int k y] e)):=by
 obtain ⟨i,hi,hz,hsz,hby⟩:=hT.info;subst hd;refine wpList_append_lies (w.alloc (.cells #[.int k (d:Int)] e)) hgd s x t ho base e i (.int k 0) 1 8 hT.und hi hz hsz hby rfl (by omega) v l.length (nv k l) hs (World.ownsRow.alloc hown _) ⟨w.heap.size,0,none⟩ 1 1 [.int k (d:Int)] hx rfl ?_ ?_ (by omega) (by unfold maxLen;omega) (by omega) (by simp;omega) _ rfl ?_
 ·exact World.news_of_block (heap_alloc_new w _)
 ·intro u' hu';obtain rfl:=List.mem_singleton.1 hu'
  rfl
 ·intro g cap w' h1 h2 h3 h4;have h5:w.grownBy w' v.ownBlock:=qJ6 (World.grownBy_alloc w _ _) h2;have hown':Own w' base e k (.slice (some ⟨g,0,none⟩) (l.length+1) cap) (l ++ [d]):=Own.snoc h1;refine h g cap w' hown' ((Below.refl base w).grown h5 hbase hown.base_le) h5 ?_ (hown'.base_le g rfl) h4;rcases h3 with h3 | h3
  ·exact .inl h3
  ·right;simp at h3;omega
end
theorem IsS.apartNew {w:World} {k:IntKind} {u:Value} {l:List Nat} {g:Nat} (h:IsS w k u l) (hg:w.heap.size<=g):zO0 g u:=by
 rintro ad n c rfl hn e;obtain ⟨A,c',e1,h1,h2,h3⟩:=h;injection e1 with e1 e2 e3;subst e1;subst e2;obtain ⟨ad',he,hc⟩:=h3 0 _ (zA3 hn);injection he with he;subst he;have h4:=bQ0 w _ hc;rw [block_add] at h4;omega
theorem IsS.grownFar {w w':World} {k:IntKind} {u:Value} {l:List Nat} {row:Option Nat} (h:IsS w k u l) (hf:∀ g,row=some g->zO0 g u) (hg:w.grownBy w' row):IsS w' k u l:=by
 rcases row with _ | g
 ·exact h.grown (g:=w.heap.size) (h.apartNew (zB1 _)) ⟨hg.os,hg.tape,hg.output,hg.size,fun k hk _=>hg.block k hk (by simp)⟩
 ·exact h.grown (hf g rfl) hg
theorem Own.grown {w w':World} {base:Nat} {e:TypeId} {k:IntKind} {v:Value} {l:List Nat} {g:Nat} (h:Own w base e k v l) (hg:w.grownBy w' (some g)) (hne:v.ownBlock≠some g):Own w' base e k v l:=World.ownsRow.kept h hg (.inr hne)
theorem zE1.apart {B g:Nat} {u:Value} (h:zE1 B u) (hg:g<B):zO0 g u:=by
 rintro ad n c rfl hn e
 have:=h ad n c rfl
 omega
end mem
namespace nat
open Go.RowKit num mem limb
theorem yU2 (base g n cap s c ln:Nat) (X p Y bl:List Nat) (vb:Value) (w:World) (hln:ln=p.length) (hM:Mid w base g n cap s X p Y) (lp:Lt 4294967296 p) (hp:p.length=bl.length+1) (hpc:p.length<=c) (hcm:c<=maxLen) (hb:IsS w .u64 vb bl) (lb:Lt 4294967296 bl) (hf:zO0 g vb) (hb2:2<=bl.length) (hbl:bl.length<=900000) (hnz:∀ d,bl[bl.length-1]?=some d->0<d) (hVD:val 4294967296 p<4294967296*val 4294967296 bl) :
  Calls prog 172 #[.slice (some ⟨g,s,none⟩) ln c,vb] w (RetSt base g n cap s X p Y bl w):=by
 rw [hln];exact yU1 base g n cap s c X p Y bl vb w hM lp hp hpc hcm hb lb hf hb2 hbl hnz hVD
theorem yU3 (w0:World) (v vb:Value) (x y:Nat) (w:World) (hown:Own w w0.heap.size 98 .u64 v (digs 4294967296 x)) (hb0:Below w0.heap.size w0 w) (hvb:IsS w .u64 vb (digs 4294967296 y)) (hfar:∀ g,v.ownBlock=some g->zO0 g vb) (hl:(digs 4294967296 x).length<=100000) (hl':(digs 4294967296 y).length<=100000) (h2:2<=(digs 4294967296 y).length) :
  Calls prog 143 #[v,vb] w (zT4 .u64 (digs 4294967296 (x / y)) (digs 4294967296 (x % y)) w0):=by
 obtain ⟨Q,hQ⟩:∃ Q,Q=(digs 4294967296 x).length+1-(digs 4294967296 y).length:=⟨_,rfl⟩;have ly:=zF4 (B:=4294967296) (by omega) y;have hyp:=yP2 (B:=4294967296) (by omega) y (n:=(digs 4294967296 y).length-1) (by omega);have hym:=zK0 (B:=4294967296) (by omega) y;have hy0:0<y:=bY2 (Nat.pow_pos (by omega)) hyp;have HKD:Hid (KD 4294967296 x y ((digs 4294967296 x).length+1) (digs 4294967296 x ++ [0]) (zB Q 0) Q):=KD.start (by omega) hyp (by omega) (by omega)
 have hlast:Hid (∀ d,(digs 4294967296 y)[(digs 4294967296 y).length-1]?=some d->0<d):=fun d hd=>by
  have:=qJ (B:=4294967296) (by omega) y (n:=(digs 4294967296 y).length-1) (by omega) hd
  omega
 have HYM:=hQ9 hym;obtain ⟨A,k,rfl,hk,hmx,hr⟩:=id hvb;have hsz0:=hb0.size;have hQl:Q<=100001:=by omega
 obtain ⟨Aa,ca,rfl,_,_,_⟩:=id hown.isS;rcases (show ((digs 4294967296 y).length:Int)<(digs 4294967296 x).length+1\/((digs 4294967296 x).length:Int)+1<=((digs 4294967296 y).length:Int) from by omega) with hle | hle
 ·have HQ:Hid ((max 0 (((digs 4294967296 x).length:Int)+1-((digs 4294967296 y).length:Int)))=(Q:Int)/\(0<Q->Q+(digs 4294967296 y).length=(digs 4294967296 x).length+1)):=by refine ⟨?_,?_⟩<;>omega
  clear hQ hyp hym
  go_enter func143,ntmps143
  go_wp2_with (first
   | (at_builtin;refine yB1 rfl _ _ rfl zJ5 0 (v:=.slice Aa (digs 4294967296 x).length ca) rfl hown rfl rfl (by omega) hsz0 ?_;intro g cap w1 hown1 hb1 hg1 hlie hbg hgs)
   | (at_make;refine zQ0 rfl _ _ rfl zJ5 Q rfl rfl (by have:=HQ.out.1;omega) (by have:=HQ.out.1;omega) (by omega) (zB1 _) ?_;intro w2 hown2 hb2 hs2))
  have hap:zO0 g (.slice A (digs 4294967296 y).length k):=by
   rcases hlie with h | h
   ·exact hfar g h
   ·exact hvb.apartNew h
  have hvb1:=hvb.grownFar hfar hg1;have hap2:zO0 w1.heap.size (.slice A (digs 4294967296 y).length k):=hvb1.apartNew (zB1 _);have hvb2:=hvb1.bQ hb2;have hownP:=hown1.bQ hb2;have B1:=hb0.trans hb1;have hs1:=B1.size;have B2:=B1.trans (hb2.mono hs1)
  have hcap:(digs 4294967296 x).length+1<=cap/\cap<=maxLen:=by
   obtain ⟨_,_,e,h1,h2,_⟩:=hown1.isS;injection e with _ e1 e2;subst e2;rw [zA8] at h1;exact ⟨h1,h2⟩
  clear hown hfar hvb hr hown1 hvb1 hg1 hlie hb1 hb2 B1 hb0
  go_loopw [22] (fun vi wr => ∃ (i:Nat) (P O:List Nat),i<=Q/\Hid (KD 4294967296 x y ((digs 4294967296 x).length+1) P O (Q-i)/\O.length=Q)/\Own wr w0.heap.size 98 .u64 (.slice (some ⟨g,0,none⟩) ((digs 4294967296 x).length+1) cap) P/\Own wr w1.heap.size 98 .u64 (.slice (some ⟨w1.heap.size,0,none⟩) Q Q) O/\IsS wr .u64 (.slice A (digs 4294967296 y).length k) (digs 4294967296 y)/\Below w0.heap.size w0 wr/\vi=.int .i64 (i:Int)) (fun vi _=>Q-(intOf vi).toNat)
  case atStart=>exact ⟨0,_,_,by omega,⟨HKD.out,by simp⟩,hownP,hown2,hvb2,B2,rfl⟩
  case round =>
   clear hownP hown2 hvb2 B2 HKD;obtain ⟨i,P,O,hi,HK,hownP,hownO,hvbr,Br,rfl⟩:=hrel;by_cases hlt:i<Q
   ·obtain ⟨s,hs⟩:∃ s,s=Q-1-i:=⟨_,rfl⟩;have hsI:(Q:Int)-1-(i:Int)=(s:Int):=by omega
    have HS:Hid (Q-i=s+1/\Q-(i+1)=s):=⟨by omega,by omega⟩;have hsq:s<Q:=by omega
    have hfit:s+(digs 4294967296 y).length+1<=(digs 4294967296 x).length+1:=by have:=HQ.out.2 (by omega);omega
    have hfitI:(s:Int)+((digs 4294967296 y).length:Int)+1<=(cap:Int):=by omega
    have hk1:=HK.out.1;rw [HS.out.1] at hk1;have HO:Hid (O.length=Q):=HK.out.2;have HK1:=hQ9 hk1;have HPL:Hid ((seg P s (digs 4294967296 y).length).length=(digs 4294967296 y).length+1):=qR5 hk1.2.1 hfit;obtain ⟨q1,q2,q3⟩:=hk1.at hfit (Nat.le_of_lt HYM.out);have hM:Mid wr w0.heap.size g ((digs 4294967296 x).length+1) cap s (P.take s) (seg P s (digs 4294967296 y).length) (P.drop (s+(digs 4294967296 y).length+1)):=⟨by rw [yA8 hk1.2.1 hfit];exact hownP,by have:=hk1.2.1;simp;omega⟩;have Q2:Hid (val 4294967296 (seg P s (digs 4294967296 y).length)<4294967296*val 4294967296 (digs 4294967296 y)):=by show _<_;rw [zE3 (by omega)];exact q2
    clear hs hk1 q2 q3 HK;go_wp2_with fail
    refine (yU2 w0.heap.size g _ cap s _ _ _ _ _ (digs 4294967296 y) _ _ (by rw [HPL.out];omega) hM q1 HPL.out (by rw [HPL.out];omega) (by omega) hvbr ly hap h2 (by omega) hlast.out Q2.out).mono ?_;rintro e w3 ⟨t,p',rfl,ht,htB,lp',hlen',hv',hM3,hg3⟩;rw [zE3 (by omega)] at ht hv';have HK2:Hid (KD 4294967296 x y ((digs 4294967296 x).length+1) (P.take s ++ p' ++ P.drop (s+(digs 4294967296 y).length+1)) (O.set s t) s/\(O.set s t).length=Q):=⟨HK1.out.step hfit (by rw [HO.out];exact hsq) (Nat.le_of_lt HYM.out) hy0 ht htB lp' hlen' hv',by rw [bQ5];exact HO.out⟩;have hne:g≠w1.heap.size:=by omega
    have hownO3:=hownO.grown hg3 (by simp [Value.ownBlock];omega);obtain ⟨a',ha'⟩:∃ a',O[s]?=some a':=⟨_,zA3 (by rw [HO.out];exact hsq)⟩;have hc0:=hownO3.cellAt ha';have hf0:=hownO3.frozenAt s;have hgs:=zE9 w3 w1.heap.size s (.int .u64 (t:Int));have hownO4:=hownO3.stored s t;have hownP4:=Own.grown hM3.1 hgs (by simp [Value.ownBlock];omega);have hvb4:=(hvbr.grown hap hg3).grown hap2 hgs;have B4:Below w0.heap.size w0 (w3.setCell ⟨w1.heap.size,s,none⟩ (.int .u64 (t:Int))):=(Br.grown hg3 Br.size (fun k hk=>by injection hk with hk;omega)).setCell hs1 _;clear ht hv' hlen' ha' hgs hg3;go_wp2;go_roundw;case rel=>exact ⟨i+1,_,_,by omega,by rw [HS.out.2];exact HK2,hownP4,hownO4,hvb4,B4,by go_num⟩
    case measure=>simp [intOf];omega
   ·obtain rfl:i=Q:=by omega
    have hk1:=HK.out.1;rw [Nat.sub_self] at hk1;obtain ⟨z1,z2,z3,z4⟩:=hk1.done;have hT1:=zM (by omega) z2;have hT2:=zM (by omega) z1;rw [z3] at hT1;rw [z4] at hT2;have T1:=hQ9 hT1;have T2:=hQ9 hT2;obtain ⟨A1,c1,e1,hc1,hm1,hr1⟩:=hownO.isS;obtain ⟨A2,c2,e2,hc2,hm2,hr2⟩:=hownP.isS;injection e1 with e1 e3 e5;injection e2 with e2 e4 e6;subst e1;subst e2;subst e5;subst e6;have hf1:=hownO.fresh;have hf2:=hownP.fresh;have L1:=hQ9 e3;have L2:=hQ9 e4;clear hk1 z3 z4 hT1 hT2 HK e3 e4;go_wp2_with fail
    refine (qE0 _ _ _ O _ L1.out hc1 hm1 hr1).mono ?_;rintro e w' ⟨rfl,rfl⟩;rw [T1.out];go_wp2_with fail
    refine (qE0 _ _ _ P _ L2.out hc2 hm2 hr2).mono ?_;rintro e w' ⟨rfl,rfl⟩;rw [T2.out];go_wp2;go_ret2;refine ⟨_,_,rfl,?_,?_,(hf1.cut _ _).mono hs1,hf2.cut _ _,Br⟩
    ·rw [<- T1.out];exact hr1.isTrim hc1 hm1
    ·rw [<- T2.out];exact hr2.isTrim hc2 hm2
 ·have HQ:Hid ((max 0 (((digs 4294967296 x).length:Int)+1-((digs 4294967296 y).length:Int)))=(Q:Int)/\(0<Q->Q+(digs 4294967296 y).length=(digs 4294967296 x).length+1)):=by refine ⟨?_,?_⟩<;>omega
  clear hQ hyp hym
  go_enter func143,ntmps143
  go_wp2_with (first
   | (at_builtin;refine yB1 rfl _ _ rfl zJ5 0 (v:=.slice Aa (digs 4294967296 x).length ca) rfl hown rfl rfl (by omega) hsz0 ?_;intro g cap w1 hown1 hb1 hg1 hlie hbg hgs)
   | (at_make;refine zQ0 rfl _ _ rfl zJ5 Q rfl rfl (by have:=HQ.out.1;omega) (by have:=HQ.out.1;omega) (by omega) (zB1 _) ?_;intro w2 hown2 hb2 hs2))
  have hap:zO0 g (.slice A (digs 4294967296 y).length k):=by
   rcases hlie with h | h
   ·exact hfar g h
   ·exact hvb.apartNew h
  have hvb1:=hvb.grownFar hfar hg1;have hap2:zO0 w1.heap.size (.slice A (digs 4294967296 y).length k):=hvb1.apartNew (zB1 _);have hvb2:=hvb1.bQ hb2;have hownP:=hown1.bQ hb2;have B1:=hb0.trans hb1;have hs1:=B1.size;have B2:=B1.trans (hb2.mono hs1)
  have hcap:(digs 4294967296 x).length+1<=cap/\cap<=maxLen:=by
   obtain ⟨_,_,e,h1,h2,_⟩:=hown1.isS;injection e with _ e1 e2;subst e2;rw [zA8] at h1;exact ⟨h1,h2⟩
  clear hown hfar hvb hr hown1 hvb1 hg1 hlie hb1 hb2 B1 hb0
  go_loopw [22] (fun vi wr => ∃ (i:Nat) (P O:List Nat),i<=Q/\Hid (KD 4294967296 x y ((digs 4294967296 x).length+1) P O (Q-i)/\O.length=Q)/\Own wr w0.heap.size 98 .u64 (.slice (some ⟨g,0,none⟩) ((digs 4294967296 x).length+1) cap) P/\Own wr w1.heap.size 98 .u64 (.slice (some ⟨w1.heap.size,0,none⟩) Q Q) O/\IsS wr .u64 (.slice A (digs 4294967296 y).length k) (digs 4294967296 y)/\Below w0.heap.size w0 wr/\vi=.int .i64 (i:Int)) (fun vi _=>Q-(intOf vi).toNat)
  case atStart=>exact ⟨0,_,_,by omega,⟨HKD.out,by simp⟩,hownP,hown2,hvb2,B2,rfl⟩
  case round =>
   clear hownP hown2 hvb2 B2 HKD;obtain ⟨i,P,O,hi,HK,hownP,hownO,hvbr,Br,rfl⟩:=hrel;by_cases hlt:i<Q
   ·exfalso;have:=HQ.out.2 (by omega);omega
   ·obtain rfl:i=Q:=by omega
    have hk1:=HK.out.1;rw [Nat.sub_self] at hk1;obtain ⟨z1,z2,z3,z4⟩:=hk1.done;have hT1:=zM (by omega) z2;have hT2:=zM (by omega) z1;rw [z3] at hT1;rw [z4] at hT2;have T1:=hQ9 hT1;have T2:=hQ9 hT2;obtain ⟨A1,c1,e1,hc1,hm1,hr1⟩:=hownO.isS;obtain ⟨A2,c2,e2,hc2,hm2,hr2⟩:=hownP.isS;injection e1 with e1 e3 e5;injection e2 with e2 e4 e6;subst e1;subst e2;subst e5;subst e6;have hf1:=hownO.fresh;have hf2:=hownP.fresh;have L1:=hQ9 e3;have L2:=hQ9 e4;clear hk1 z3 z4 hT1 hT2 HK e3 e4;go_wp2_with fail
    refine (qE0 _ _ _ O _ L1.out hc1 hm1 hr1).mono ?_;rintro e w' ⟨rfl,rfl⟩;rw [T1.out];go_wp2_with fail
    refine (qE0 _ _ _ P _ L2.out hc2 hm2 hr2).mono ?_;rintro e w' ⟨rfl,rfl⟩;rw [T2.out];go_wp2;go_ret2;refine ⟨_,_,rfl,?_,?_,(hf1.cut _ _).mono hs1,hf2.cut _ _,Br⟩
    ·rw [<- T1.out];exact hr1.isTrim hc1 hm1
    ·rw [<- T2.out];exact hr2.isTrim hc2 hm2
end nat
namespace mem
open Go.RowKit
theorem IsS.drew {w:World} {k:IntKind} {v:Value} {l:List Nat} (h:IsS w k v l):IsS w.drew k v l:=by
 obtain ⟨A,c,e,h1,h2,h3⟩:=h;exact ⟨A,c,e,h1,h2,fun i d hd=>h3 i d hd⟩
end mem
namespace nat
open Go.RowKit num mem limb
theorem up_bits {d n:Nat} (hd:d<4294967296) (hd0:d≠0) (h:qA0 ((d:Int) % 4294967296) n) (hn:n<=32):1<=n/\n<=32:=by
 obtain ⟨h1,h2⟩:=qA0.nat hd h;refine ⟨?_,hn⟩;rcases bY3 n with h3 | h3
 ·subst h3;simp at h1;omega
 ·exact h3
theorem yB2 {u:Nat} (h:u<=31):2^u<=2147483648:=bX9 (n:=2) (j:=31) (by omega) h
theorem qR6 {x u:Nat} (h:u<=31):(digs 4294967296 (x*2^u)).length<=(digs 4294967296 x).length+1:=by
 have h1:=zT6 x (2^u);have h2:(digs 4294967296 (2^u)).length<=1:=zG5 (by omega) (by have:=yB2 h;omega);omega
theorem up_len2 {x u:Nat} : (digs 4294967296 x).length<=(digs 4294967296 (x*2^u)).length:=zG7 (by omega) (Nat.le_mul_of_pos_right _ (Nat.pow_pos (by omega)))
theorem div_len (x y:Nat):(digs 4294967296 (x / y)).length<=(digs 4294967296 x).length:=zG7 (by omega) (Nat.div_le_self _ _)
theorem yB3 (x y:Nat):(digs 4294967296 (x % y)).length<=(digs 4294967296 x).length:=zG7 (by omega) (Nat.mod_le _ _)
theorem yB4 {x y:Nat} (h:0<y):(digs 4294967296 (x % y)).length<=(digs 4294967296 y).length:=zG7 (by omega) (Nat.le_of_lt (Nat.mod_lt _ h))
theorem yB5 (v vb:Value) (x y:Nat) (w:World) (h:IsS w .u64 v (digs 4294967296 x)) (h':IsS w .u64 vb (digs 4294967296 y)) (hl:(digs 4294967296 x).length<=90000) (hl':(digs 4294967296 y).length<=90000) (hy:0<y) :
  Calls prog 104 #[v,vb] w (RetSSE (digs 4294967296 (x / y)) (digs 4294967296 (x % y)) 0 w):=by
 have hyl:0<(digs 4294967296 y).length:=by
  rcases bY3 (digs 4294967296 y).length with h0 | h0
  ·have:=(zX6 (B:=4294967296) (by omega)).1 h0;omega
  ·exact h0
 have hyl2:¬ digs 4294967296 y=[]:=by intro e;rw [e] at hyl;simp at hyl
 have hq1:=div_len x y;have hq2:=yB3 x y;by_cases hone:(digs 4294967296 y).length=1
 ·have hyB:y<4294967296:=by have:=zK0 (B:=4294967296) (by omega) y;rw [hone] at this;simpa using this
  have hdy:=digs_one y hyB hy;have DY:=hQ9 hdy;have hym:y % 4294967296=y:=Nat.mod_eq_of_lt hyB;have YM:=hQ9 hym;have hr1:x % y<4294967296:=Nat.lt_trans (Nat.mod_lt _ hy) hyB;have hz0:((digs 4294967296 y).length == 0)=false:=by rw [hone];rfl
  have hz1:(((digs 4294967296 y).length:Int) == 0)=false:=by rw [hone];rfl
  have hz2:(((digs 4294967296 y).length:Int) == 1)=true:=by rw [hone];rfl
  clear hdy hym hone;obtain ⟨R,hR⟩:∃ R,R=x % y:=⟨_,rfl⟩;rw [<- hR] at hr1 hq2 |-;have HR:=hQ9 hR;have hRI:(R:Int)<=18446744073709551615:=by omega
  clear hR
  go_enter func104,ntmps104;go_wp2_with fail
  refine (qK2 vb y _ _ 1 0 w h' (by omega) rfl rfl (by omega) (by omega) y (by omega)).mono ?_;rintro e w1 ⟨v1,rfl,k1,f1,b1⟩;have h1:=h.bQ b1;obtain ⟨A,c,rfl,hc,hm,hr⟩:=id k1;obtain ⟨ad,d,rfl,hd,hcell⟩:=hr.at_ (i:=0) (by omega);have hdy:d=y:=by rw [DY.out] at hd;simpa using hd.symm
  subst hdy;clear hd;rw [Addr.add_zero'] at hcell;go_wp2_with fail
  refine (yT7 _ x _ d (x / d) R _ rfl (by omega) (by rw [YM.out];exact hy) h1 (by omega) (by rw [YM.out]) (by rw [YM.out];exact HR.out)).mono ?_;rintro e w2 ⟨v2,rfl,k2,f2,b2⟩;go_wp2_with fail
  refine (qD5 _ R _ rfl hRI).mono ?_;rintro e w3 ⟨v3,rfl,k3,f3,b3⟩;have B2:=b1.trans (b2.mono b1.size);have B3:=B2.trans (b3.mono B2.size);go_wp2
  go_ret3
  exact ⟨_,_,rfl,k2.bQ b3,k3,f2.mono b1.size,f3.mono B2.size,B3⟩
 ·obtain ⟨m,hm⟩:∃ m,m=(digs 4294967296 y).length-1:=⟨_,rfl⟩;have hz1:(((digs 4294967296 y).length:Int) == 0)=false:=by rw [beq_eq_false_iff_ne];omega
  have hz2:(((digs 4294967296 y).length:Int) == 1)=false:=by rw [beq_eq_false_iff_ne];omega
  have h2:2<=(digs 4294967296 y).length:=by omega
  have HMod:Hid (∀ u,x*2^u % (y*2^u) / 2^u=x % y):=fun u=>by rw [Nat.mul_mod_mul_right,Nat.mul_div_cancel _ (Nat.pow_pos (by omega))]
  have HDiv:Hid (∀ u,x*2^u / (y*2^u)=x / y):=fun u=>Nat.mul_div_mul_right _ _ (Nat.pow_pos (by omega));clear hone hm
  go_enter func104,ntmps104;go_wp2_with fail
  refine (qK2 vb y _ _ 1 0 w h' (by omega) rfl rfl (by omega) (by omega) y (by omega)).mono ?_;rintro e w1 ⟨v1,rfl,k1,f1,b1⟩;have h1:=h.bQ b1;obtain ⟨A,c,rfl,hc,hmx,hr⟩:=id k1;obtain ⟨ad,d,rfl,hd,hcell⟩:=hr.at_ (i:=(digs 4294967296 y).length-1) (by omega);have hd1:=(zF4 (B:=4294967296) (by omega) y).at hd;have hd0:=qJ (B:=4294967296) (by omega) y (n:=(digs 4294967296 y).length-1) (by omega) hd;have HD0:=hQ9 hd0;clear hd hd0;go_wp2_with fail
  refine (limb.bits_any _ (by omega) (by omega) _).mono ?_;rintro e w2 ⟨n,rfl,hn,hs,rfl⟩;obtain ⟨hn1,_⟩:=up_bits hd1 HD0.out hs hn;obtain ⟨u,hu⟩:∃ u,u=32-n:=⟨_,rfl⟩;have hu31:u<=31:=by omega
  have huI:(32:Int)-(n:Int)=(u:Int):=by omega
  obtain ⟨p,hp⟩:∃ p,p=2^u:=⟨_,rfl⟩;have hpb:p<=2147483648:=by rw [hp];exact yB2 hu31
  have hw:IntKind.u64.wrap ((2:Int)^u)=(p:Int):=by rw [<- qD6,<- hp,IntKind.wrap_u64];omega
  have l1:=qR6 (x:=x) hu31;have l2:=qR6 (x:=y) hu31;have l3:=up_len2 (x:=y) (u:=u);have l4:=yB3 (x*2^u) (y*2^u);have hmd:=HMod.out u;have hdv:=HDiv.out u;rw [<- hp] at l1 l2 l3 l4 hmd hdv;have HP:=hQ9 hp;have HMD:=hQ9 hmd;have HDV:=hQ9 hdv;clear hu hp hs hmd hdv;have hz3:p % 4294967296=p:=Nat.mod_eq_of_lt (by omega);have HZ3:=hQ9 hz3;clear hz3;go_wp2;have HZX:Hid (x*p=x*(p % 4294967296)+0 % 4294967296):=by show _=_;rw [HZ3.out];omega
  have HZY:Hid (y*p=y*(p % 4294967296)+0 % 4294967296):=by show _=_;rw [HZ3.out];omega
  have hx1:(digs 4294967296 x).length<=1000000:=by omega
  have hx2:p<18446744073709551616:=by omega
  have hx3:0<18446744073709551616:=by omega
  have hy1:(digs 4294967296 y).length<=1000000:=by omega
  have hxp:(digs 4294967296 (x*p)).length<=100000:=by omega
  have hyp:(digs 4294967296 (y*p)).length<=100000:=by omega
  have hyp2:2<=(digs 4294967296 (y*p)).length:=by omega
  have con:=hQ9 (qZ9 v x (p:Int) 0 p 0 w1.drew h1.drew hx1 rfl rfl hx2 hx3 (x*p) HZX.out)
  go_region_law (first
   | (go_simp;go_at_call 140;(with_reducible refine con.out.mono ?_);rintro e w3 ⟨v3,rfl,own3,b3⟩;have con2:=hQ9 (qK2 _ y (p:Int) 0 p 0 w3 (k1.drew.bQ b3) hy1 rfl rfl hx2 hx3 (y*p) HZY.out))
   | (go_simp;go_at_call 140;(with_reducible refine con2.out.mono ?_);rintro e w4 ⟨v4,rfl,k4,f4,b4⟩;have con3:=hQ9 (yU3 w1.drew v3 v4 (x*p) (y*p) w4 (own3.bQ b4) (b3.trans (b4.mono b3.size)) k4 (fun g hg=>f4.apart (own3.under g hg)) hxp hyp hyp2))
   | (go_simp;go_at_call 143;(with_reducible refine con3.out.mono ?_);rintro e w5 ⟨v5,v6,rfl,k5,k6,f5,f6,b5⟩))
  all_goals
   have B1:Below w.heap.size w w1.drew:=b1.drew;have B5:=B1.trans (b5.mono B1.size);rw [HDV.out] at k5;go_wp2_with fail
   refine (qZ1 v6 (x*p % (y*p)) _ u _ rfl k6 (by omega) (by omega) (x % y) (by rw [<- HP.out];exact HMD.out.symm)).mono ?_;rintro e w6 ⟨v7,rfl,k7,f7,b6⟩;go_wp2
   go_ret3
   exact ⟨_,_,rfl,k5.bQ b6,k7,f5.mono B1.size,f7.mono B5.size,B5.trans (b6.mono B5.size)⟩
theorem yU4 {w:World} {v:Value} (h:IsS w .u64 v []):∃ A c,v=.slice A 0 c:=by
 obtain ⟨A,c,e,_⟩:=h;exact ⟨A,c,e⟩
theorem qA2 (v vb:Value) (x y:Nat) (w:World) (h:IsS w .u64 v (digs 4294967296 x)) (h':IsS w .u64 vb (digs 4294967296 y)) (hl:(digs 4294967296 x).length<=90000) (hl':(digs 4294967296 y).length<=90000) (hy:0<y) (q:Nat) (hm:x % y=0) (hq:q=x / y) :
  Calls prog 55 #[v,vb] w (zO .u64 (digs 4294967296 q) 0 w):=by
 have HM:=hQ9 hm;have HQ:=hQ9 hq;clear hm hq
 go_enter func55,ntmps55;go_wp2_with fail
 refine (yB5 v vb x y w h h' hl hl' hy).mono ?_;rintro e w1 ⟨v1,v2,rfl,k1,k2,f1,f2,b1⟩;rw [HM.out,zI9] at k2;rw [<- HQ.out] at k1;obtain ⟨A2,c2,rfl⟩:=yU4 k2;go_wp2;go_ret2;exact ⟨_,rfl,k1,f1,b1⟩
theorem yB6 (v vb:Value) (x y:Nat) (w:World) (h:IsS w .u64 v (digs 4294967296 x)) (h':IsS w .u64 vb (digs 4294967296 y)) (hl:(digs 4294967296 x).length<=90000) (hl':(digs 4294967296 y).length<=90000) (hy:0<y) (r:Nat) (hr:r=x % y) :
  Calls prog 137 #[v,vb] w (zO .u64 (digs 4294967296 r) 0 w):=by
 have HR:=hQ9 hr;clear hr
 go_enter func137,ntmps137;go_wp2_with fail
 refine (yB5 v vb x y w h h' hl hl' hy).mono ?_;rintro e w1 ⟨v1,v2,rfl,k1,k2,f1,f2,b1⟩;rw [<- HR.out] at k2;go_wp2;go_ret2;exact ⟨_,rfl,k2,f2,b1⟩
theorem dec_mod (x y:Nat):(digs 10000 (x % y)).length<=(digs 10000 x).length:=zG7 (by omega) (Nat.mod_le _ _)
theorem qE1 {y:Nat} (hy:0<y):0<(digs 4294967296 y).length:=by
 rcases bY3 (digs 4294967296 y).length with h0 | h0
 ·have:=(zX6 (B:=4294967296) (by omega)).1 h0;omega
 ·exact h0
end nat
namespace str
open Go.RowKit num mem txt
end str
namespace mem
open Go.RowKit num
section
variable {P:Program}
end
end mem
namespace str
open Go.RowKit num mem txt nat
def TX (p:Nat) (D:List Nat):List UInt8:=zB p 0 ++ D.reverse.map ch
end str
namespace mem
open Go.RowKit num
section
variable {P:Program}
end
end mem
namespace str
open Go.RowKit num mem txt nat
end str
namespace mem
open Go.RowKit num
section
variable {P:Program}
theorem qK7 {w w':World} {v v':Value} (hg:w.grownBy w' v.ownBlock) (h3:v'.ownBlock=v.ownBlock\/v'.ownBlock=some w.heap.size):qK3 w w' v v':=by
 intro k q l hq hf;refine ⟨hq.farKept hf hg,?_⟩;rintro ad n c rfl hn;rcases h3 with h3 | h3
 ·rw [h3];exact hf ad n c rfl hn
 ·rw [h3];intro e1;obtain ⟨A,c',e3,g1,g2,g3⟩:=hq;injection e3 with e3 e4 e5;subst e3;subst e4;obtain ⟨ad',he,hc⟩:=g3 0 _ (zA3 hn);injection he with he;subst he;have h6:=bQ0 w _ hc;rw [block_add] at h6;injection e1 with e1;omega
end
end mem
namespace str
open Go.RowKit num mem txt nat
end str
namespace mem
open Go.RowKit num
theorem zD.stored {w:World} {base:Nat} {e:TypeId} {g n cap:Nat} {vs:List Value} (h:zD w base e (.slice (some ⟨g,0,none⟩) n cap) vs) (i:Nat) (u:Value):zD (w.setCell ⟨g,i,none⟩ u) base e (.slice (some ⟨g,0,none⟩) n cap) (vs.set i u):=by
 unfold zD at h |-;rw [bQ5]
 have hn:n=vs.length:=by
  rcases h.2 with ⟨h1,h0⟩|⟨g',cap',cur,h1,_⟩
  ·injection h1 with h1 _ _;cases h1
  ·injection h1 with _ h1 _
 subst hn;exact (World.ownsRow.stored h i u).1
theorem zD.cellAt {w:World} {base:Nat} {e:TypeId} {g n cap:Nat} {vs:List Value} (h:zD w base e (.slice (some ⟨g,0,none⟩) n cap) vs) {i:Nat} {u:Value} (hu:vs[i]?=some u):w.cell? ⟨g,i,none⟩=some u:=by
 have:=World.ownsRow.cells h (g:=g) rfl i u hu
 have ha:(⟨g,0,none⟩:Addr).add i=⟨g,i,none⟩:=by unfold Addr.add;split<;>simp_all
 rwa [ha] at this
theorem zD.frozenAt {w:World} {base:Nat} {e:TypeId} {g n cap:Nat} {vs:List Value} (h:zD w base e (.slice (some ⟨g,0,none⟩) n cap) vs) (i:Nat):w.frozen? ⟨g,i,none⟩=false:=by
 unfold zD at h
 have hn:n=vs.length:=by
  rcases h.2 with ⟨h1,h0⟩|⟨g',cap',cur,h1,_⟩
  ·injection h1 with h1 _ _;cases h1
  ·injection h1 with _ h1 _
 subst hn;exact World.ownsRow.frozenAt h i
section
variable {P:Program}
end
end mem
namespace str
open Go.RowKit num mem txt nat
theorem rlenp {x:Nat} (h:0<x):0<(digs 10000 x).length:=by
 rcases bY3 (digs 10000 x).length with h0 | h0
 ·have:=(zX6 (B:=10000) (by omega)).1 h0;omega
 ·exact h0
end str
namespace flow
open Go.RowKit num mem
def zD5 (a:Act):List Oper->List (Option Value)->Act
 | o :: os,some v :: ms=>zD5 (a.put o.dst v) os ms
 | _ :: os,none :: ms=>zD5 a os ms
 | _,_=>a
def zL2:List Oper->Bool
 | []=>true
 | o :: os=>(match o.dst with | none=>true | some d=>os.all fun x=>x.dst != some d) && zL2 os
theorem yB7 {o:Oper} {os:List Oper} (h:zL2 (o :: os)=true):∀ x∈os,∀ d,o.dst=some d->x.dst≠some d:=by
 intro x hx d hd;simp only [zL2,hd,Bool.and_eq_true] at h
 have:=List.all_eq_true.1 h.1 x hx
 simpa using this
theorem qK8 {o:Oper} {os:List Oper} (h:zL2 (o :: os)=true):zL2 os=true:=by
 simp only [zL2,Bool.and_eq_true] at h;exact h.2
theorem qR7 (d:Option Tmp) (v:Value):∀ (L:List Oper) (ms:List (Option Value)) (a:Act),(∀ x∈L,∀ t,d=some t->x.dst≠some t)->(zD5 a L ms).put d v=zD5 (a.put d v) L ms
  | [],ms,a,_=>by cases ms<;>rfl
  | o :: os,[],a,_=>rfl
  | o :: os,none :: ms,a,h=>qR7 d v os ms a fun x hx=>h x (by simp [hx])
  | o :: os, some u :: ms, a, h => by
    show (zD5 (a.put o.dst u) os ms).put d v=zD5 ((a.put d v).put o.dst u) os ms
    rw [qR7 d v os ms _ fun x hx=>h x (by simp [hx])];rw [Act.put_comm a v u (x:=d) (y:=o.dst) (fun t ht=>h o (by simp) t ht)]
theorem zT8 (v:Value):∀ (L:List Oper) (ms:List (Option Value)) (a:Act) (i:Nat) (o:Oper),zL2 L=true->L[i]?=some o->ms[i]?=some none->(zD5 a L ms).put o.dst v=zD5 a L (ms.set i (some v))
  | [],ms,a,i,o,_,h,_=>by simp at h
  | x :: os,[],a,i,o,_,_,h=>by simp at h
  | x :: os, m :: ms, a, 0, o, hd, hi, hm => by
    obtain rfl:x=o:=by simpa using hi
    obtain rfl:m=none:=by simpa using hm
    show (zD5 a os ms).put x.dst v=zD5 (a.put x.dst v) os ms
    exact qR7 _ _ _ _ _ fun y hy t ht=>yB7 hd y hy t ht
  | x :: os, none :: ms, a, i + 1, o, hd, hi, hm => by
    show (zD5 a os ms).put o.dst v=zD5 a os (ms.set i (some v))
    exact zT8 v os ms a i o (qK8 hd) (by simpa using hi) (by simpa using hm)
  | x :: os, some u :: ms, a, i + 1, o, hd, hi, hm => by
    show (zD5 (a.put x.dst u) os ms).put o.dst v=zD5 (a.put x.dst u) os (ms.set i (some v))
    exact zT8 v os ms _ i o (qK8 hd) (by simpa using hi) (by simpa using hm)
theorem yU5 (a:Act) (d:Option Tmp) (v:Value):(a.put d v).tmps.size=a.tmps.size:=by cases d<;>simp [Act.put]
theorem qK9 {t:Nat}:∀ (L:List Oper) (ms:List (Option Value)) (a:Act),(∀ o∈L,o.dst≠some t)->(zD5 a L ms).tmps[t]?=a.tmps[t]?
  | [],ms,a,_=>by cases ms<;>rfl
  | o :: os,[],a,_=>rfl
  | o :: os,none :: ms,a,h=>qK9 os ms a fun x hx=>h x (by simp [hx])
  | o :: os, some u :: ms, a, h => by
    show (zD5 (a.put o.dst u) os ms).tmps[t]?=_
    rw [qK9 os ms _ fun x hx=>h x (by simp [hx])];have h1:=h o (by simp)
    cases hd:o.dst with
    | none=>rfl
    | some d =>
      have:d≠t:=fun e=>h1 (by rw [hd,e]);simp [Act.put,Array.getElem?_setIfInBounds_ne this]
theorem qR8 {d:Nat} {v:Value}:∀ (L:List Oper) (ms:List (Option Value)) (a:Act) (i:Nat) (o:Oper),zL2 L=true->L[i]?=some o->o.dst=some d->ms[i]?=some (some v)->d<a.tmps.size->(zD5 a L ms).tmps[d]?=some v
  | [],ms,a,i,o,_,h,_,_,_=>by simp at h
  | x :: os,[],a,i,o,_,_,_,h,_=>by simp at h
  | x :: os, m :: ms, a, 0, o, hd, hi, ho, hm, hs => by
    obtain rfl:x=o:=by simpa using hi
    obtain rfl:m=some v:=by simpa using hm
    show (zD5 (a.put x.dst v) os ms).tmps[d]?=some v
    rw [qK9 os ms _ fun y hy=>yB7 hd y hy d ho,ho];simp [Act.put,hs]
  | x :: os,none :: ms,a,i+1,o,hd,hi,ho,hm,hs=>qR8 os ms a i o (qK8 hd) (by simpa using hi) ho (by simpa using hm) hs
  | x :: os,some u :: ms,a,i+1,o,hd,hi,ho,hm,hs=>qR8 os ms _ i o (qK8 hd) (by simpa using hi) ho (by simpa using hm) (by rw [yU5];exact hs)
structure Pd where
 p:World->Value->Prop
 up:∀ {w w':World} {v:Value},p w v->Below w.heap.size w w'->p w' v
def Pd.eq (v:Value):Pd:=⟨fun _ u=>u=v,fun h _=>h⟩
def Pd.any:Pd:=⟨fun _ _=>True,fun h _=>h⟩
def ph (Φ : List Pd) (i:Nat):Pd:=Φ.getD i Pd.any
def isA (o:Oper):Bool:=match o.op with | .alloc _=>true | _=>false
structure St (L:List Oper) (Φ : List Pd) (w0:World) (o:Oper) (ms:List (Option Value)) (w:World):Prop where
 len:ms.length=L.length
 bQ:Below w0.heap.size w0 w
 ty:∀ (i:Nat) (v:Value),ms[i]?=some (some v)->(ph Φ i).p w v
 deps:∀ e∈o.after,Region.binds .any e=true -> ∃ v,ms[e.on]?=some (some v)
def Ob (P:Program) (Q:Exit->Act->World->Prop) (ops:Array Oper) (L:List Oper) (Φ : List Pd) (w0:World) (a0:Act) (i:Nat) (o:Oper):Prop :=
 ∀ ms w,St L Φ w0 o ms w ->
  if Region.wanted o (yielded ops (zD5 a0 L ms).tmps)=true then
   o.wp P (zD5 a0 L ms) w (fun a' w' => ∃ v,a'=(zD5 a0 L ms).put o.dst v/\Below w.heap.size w w'/\(ph Φ i).p w' v/\(isA o=true -> ∃ g,v=.pointer (some ⟨g,0,none⟩)/\w.heap.size<=g/\g<w'.heap.size)) Q
  else (ph Φ i).p w undef/\isA o=false
def Obs (P:Program) (Q:Exit->Act->World->Prop) (ops:Array Oper) (L:List Oper) (Φ : List Pd) (w0:World) (a0:Act):Nat->List Oper->Prop
 | _,[]=>True
 | i,o :: os=>Ob P Q ops L Φ w0 a0 i o/\Obs P Q ops L Φ w0 a0 (i+1) os
theorem Obs.at_ {P:Program} {Q:Exit->Act->World->Prop} {ops:Array Oper} {L:List Oper} {Φ : List Pd} {w0:World} {a0:Act}:∀ (M:List Oper) (k i:Nat) (o:Oper),Obs P Q ops L Φ w0 a0 k M->M[i]?=some o->Ob P Q ops L Φ w0 a0 (k+i) o
  | [],k,i,o,_,h=>by simp at h
  | x :: M, k, 0, o, h, hi => by
    obtain rfl:x=o:=by simpa using hi
    exact h.1
  | x :: M, k, i + 1, o, h, hi => by
    have:=Obs.at_ M (k+1) i o h.2 (by simpa using hi)
    rwa [show k+1+i=k+(i+1) from by omega] at this
def zR3 (o:Oper):List Nat:=(o.after.toList.filter fun e=>Region.binds .any e).map (·.on)
theorem zY3 {o:Oper} {j:Nat} : j∈zR3 o ↔ ∃ e∈o.after,Region.binds .any e=true/\e.on=j:=by
 simp [zR3,and_assoc]
def zQ3:Nat->List Oper->Bool
 | _,[]=>true
 | i,o :: os=>((zR3 o).all fun j=>decide (j<i)) && zQ3 (i+1) os
theorem zY4:∀ (L:List Oper) (k i:Nat) (o:Oper),zQ3 k L=true->L[i]?=some o -> ∀ e∈o.after,Region.binds .any e=true->e.on<k+i
  | [],k,i,o,_,h=>by simp at h
  | x :: L, k, 0, o, h, hi => by
    obtain rfl:x=o:=by simpa using hi
    simp only [zQ3,Bool.and_eq_true] at h;intro e he hb
    have:=List.all_eq_true.1 h.1 e.on (zY3.2 ⟨e,he,hb,rfl⟩)
    simpa using this
  | x :: L, k, i + 1, o, h, hi => by
    simp only [zQ3,Bool.and_eq_true] at h;intro e he hb
    have:=zY4 L (k+1) i o h.2 (by simpa using hi) e he hb
    omega
def zV4 (L:List Oper) (n:Nat) (o:Oper):Bool :=
 (zR3 o).any (fun j=>decide (n<=j)) || (List.range n).all fun i=>(zR3 o).contains i || (List.range n).any fun k=>decide (i<k) && ((L[k]?).map fun x=>(zR3 x).contains i).getD false
theorem yB8 {L:List Oper} {o:Oper} {ms:List (Option Value)} (hlen:ms.length=L.length) (h:zV4 L L.length o=true) (hdone:∀ e∈o.after,Region.binds .any e=true -> ∃ v,ms[e.on]?=some (some v))
    (hdc:∀ (j:Nat) (x:Oper) (v:Value),L[j]?=some x->ms[j]?=some (some v) -> ∀ e∈x.after,Region.binds .any e=true -> ∃ v,ms[e.on]?=some (some v)):∀ i,i<L.length -> ∃ v,ms[i]?=some (some v):=by
  unfold zV4 at h;rw [Bool.or_eq_true] at h;rcases h with h | h
  · obtain ⟨j,hj,hn⟩:=List.any_eq_true.1 h;obtain ⟨e,he,hb,rfl⟩:=zY3.1 hj;obtain ⟨v,hv⟩:=hdone e he hb
    have:=(zA4.1 hv).1
    simp at hn;omega
  · have key:∀ k i,i+k=L.length->i<L.length -> ∃ v,ms[i]?=some (some v):=by
      intro k
      induction k using Nat.strongRecOn with
      | ind k ih =>
        intro i hik hi;have h1:=List.all_eq_true.1 h i (by simp [hi]);rw [Bool.or_eq_true] at h1;rcases h1 with h1 | h1
        · obtain ⟨e,he,hb,rfl⟩:=zY3.1 (by simpa using h1);exact hdone e he hb
        · obtain ⟨m,hm,h2⟩:=List.any_eq_true.1 h1;rw [Bool.and_eq_true] at h2;have hm2:m<L.length:=by simpa using hm
          have him:i<m:=by simpa using h2.1
          obtain ⟨v,hv⟩:=ih (L.length-m) (by omega) m (by omega) hm2;have h3:=h2.2;rw [zA3 hm2] at h3;obtain ⟨e,he,hb,rfl⟩:=zY3.1 (by simpa using h3);exact hdc m _ v (zA3 hm2) hv e he hb
    intro i hi;exact key (L.length-i) i (by omega) hi
def lst (ms:List (Option Value)) (m:Nat):Array Bool:=(ms.map Option.isSome ++ zB m false).toArray
theorem zS5 {ms:List (Option Value)} {m i:Nat} (h:i<ms.length) (d:Bool):(lst ms m).getD i d=(ms[i]).isSome:=by
 unfold lst;rw [Array.getD_eq_getD_getElem?,bW8,zB0 (by simpa using h)];simp [h]
theorem yB9 {ms:List (Option Value)} {m i:Nat} (h:ms.length<=i):(lst ms m).getD i false=false:=by
 unfold lst;rw [Array.getD_eq_getD_getElem?,bW8,bW0 (by simpa using h)];rw [List.getElem?_replicate]
 split<;>rfl
theorem qE2 {ms:List (Option Value)} {m i:Nat} (v:Value) (h:i<ms.length):(lst ms m).setIfInBounds i true=lst (ms.set i (some v)) m:=by
 unfold lst;rw [zA0,List.set_append_left _ _ (by simpa using h),List.map_set]
 rfl
def Sep (L:List Oper) (ms:List (Option Value)):Prop:=∀ (i j:Nat) (oi oj:Oper) (u v:Value),i≠j->L[i]?=some oi->L[j]?=some oj->isA oi=true->isA oj=true->ms[i]?=some (some u)->ms[j]?=some (some v)->u≠v
def Ptr (L:List Oper) (ms:List (Option Value)) (w:World):Prop:=∀ (i:Nat) (oi:Oper) (u:Value),L[i]?=some oi->isA oi=true->ms[i]?=some (some u) -> ∃ g,u=.pointer (some ⟨g,0,none⟩)/\g<w.heap.size
structure Inv (L:List Oper) (Φ : List Pd) (w0:World) (ms:List (Option Value)) (w:World):Prop where
 len:ms.length=L.length
 bQ:Below w0.heap.size w0 w
 ty:∀ (i:Nat) (v:Value),ms[i]?=some (some v)->(ph Φ i).p w v
 dc:∀ (j:Nat) (x:Oper) (v:Value),L[j]?=some x->ms[j]?=some (some v) -> ∀ e∈x.after,Region.binds .any e=true -> ∃ v,ms[e.on]?=some (some v)
 sep:Sep L ms
 ptr:Ptr L ms w
theorem qA3 {ms:List (Option Value)} {i j:Nat} {v u:Value} (h:(ms.set i (some v))[j]?=some (some u)):(j=i/\u=v)\/(j≠i/\ms[j]?=some (some u)):=by
 rw [List.getElem?_set] at h;by_cases hij:i=j
 ·subst hij;rw [if_pos rfl] at h
  split at h
  ·left;simp at h;exact ⟨rfl,h.symm⟩
  ·cases h
 ·rw [if_neg hij] at h;exact .inr ⟨fun e=>hij e.symm,h⟩
theorem qR9 {ms:List (Option Value)} {i j:Nat} {v:Value} (h:∃ u,ms[j]?=some (some u)):∃ u,(ms.set i (some v))[j]?=some (some u):=by
 obtain ⟨u,hu⟩:=h;by_cases hij:i=j
 ·subst hij;exact ⟨v,by rw [bQ3 (zA4.1 hu).1]⟩
 ·exact ⟨u,by rw [bW1 hij];exact hu⟩
theorem Inv.step {L:List Oper} {Φ : List Pd} {w0:World} {ms:List (Option Value)} {w w':World} {i:Nat} {o:Oper} {v:Value} (h:Inv L Φ w0 ms w) (hi:L[i]?=some o) (hm:ms[i]?=some none)
  (hdeps:∀ e∈o.after,Region.binds .any e=true -> ∃ v,ms[e.on]?=some (some v)) (hb:Below w.heap.size w w') (hv:(ph Φ i).p w' v) (ha:isA o=true -> ∃ g,v=.pointer (some ⟨g,0,none⟩)/\w.heap.size<=g/\g<w'.heap.size):Inv L Φ w0 (ms.set i (some v)) w' where
 len:=by rw [bQ5];exact h.len
 bQ:=h.bQ.trans (hb.mono h.bQ.size)
 ty:=fun j u hu=>by
  rcases qA3 hu with ⟨rfl,rfl⟩|⟨_,h1⟩
  ·exact hv
  ·exact (ph Φ j).up (h.ty j u h1) hb
 dc:=fun j x u hx hu e he hbi=>by
  rcases qA3 hu with ⟨rfl,rfl⟩|⟨_,h1⟩
  ·obtain rfl:o=x:=by rw [hi] at hx;exact Option.some.inj hx
   exact qR9 (hdeps e he hbi)
  ·exact qR9 (h.dc j x u hx h1 e he hbi)
 sep:=by
  intro a b oa ob u x hab ha1 hb1 hA hB hu hx;rcases qA3 hu with ⟨rfl,rfl⟩|⟨_,h1⟩
  ·rcases qA3 hx with ⟨rfl,rfl⟩|⟨_,h2⟩
   ·exact absurd rfl hab
   ·obtain rfl:o=oa:=by rw [hi] at ha1;exact Option.some.inj ha1
    obtain ⟨g,rfl,hg,_⟩:=ha hA;obtain ⟨g',rfl,hg'⟩:=h.ptr _ _ _ hb1 hB h2;intro e;injection e with e;injection e with e;injection e with e _ _;omega
  ·rcases qA3 hx with ⟨rfl,rfl⟩|⟨_,h2⟩
   ·obtain rfl:o=ob:=by rw [hi] at hb1;exact Option.some.inj hb1
    obtain ⟨g,rfl,hg,_⟩:=ha hB;obtain ⟨g',rfl,hg'⟩:=h.ptr _ _ _ ha1 hA h1;intro e;injection e with e;injection e with e;injection e with e _ _;omega
   ·exact h.sep a b oa ob u x hab ha1 hb1 hA hB h1 h2
 ptr:=by
  intro j oj u hj hA hu;rcases qA3 hu with ⟨rfl,rfl⟩|⟨_,h1⟩
  ·obtain rfl:o=oj:=by rw [hi] at hj;exact Option.some.inj hj
   obtain ⟨g,e,_,hg⟩:=ha hA;exact ⟨g,e,hg⟩
  ·obtain ⟨g,e,hg⟩:=h.ptr j oj u hj hA h1;exact ⟨g,e,bY2 hg hb.size⟩
theorem yU6 {P:Program} {Q:Exit->Act->World->Prop} {ops:Array Oper} {L L2:List Oper} {Φ : List Pd} {w0:World} {a0:Act} (hop:ops.toList=L ++ L2) (hd:zL2 L=true) (hback:zQ3 0 L=true) (hcov:(L2.all fun o=>zV4 L L.length o)=true)
    (ob:Obs P Q ops L Φ w0 a0 0 L)
    (done:∀ ms w,(∀ i,i<L.length -> ∃ v,ms[i]?=some (some v))->Inv L Φ w0 ms w->wpAny P .any ops Q L2.length (lst ms L2.length) (zD5 a0 L ms) w) :
    ∀ (k:Nat) (ms:List (Option Value)) (w:World),(ms.filter Option.isNone).length=k->Inv L Φ w0 ms w->wpAny P .any ops Q (k+L2.length) (lst ms L2.length) (zD5 a0 L ms) w:=by
  have hsz:ops.size=L.length+L2.length:=by
    have:=congrArg List.length hop
    simpa using this
  have hat:∀ i,ops[i]?=(L ++ L2)[i]?:=fun i=>by rw [<- hop,Array.getElem?_toList]
  intro k
  induction k with
  | zero =>
    intro ms w hk hI;rw [bY5];refine done ms w (fun i hi => ?_) hI;have hi2:i<ms.length:=by rw [hI.len];exact hi
    rcases hm:ms[i] with _ | v
    · exfalso;have h1:ms[i]∈ms.filter Option.isNone:=List.mem_filter.2 ⟨List.getElem_mem hi2,by rw [hm];rfl⟩;rw [List.length_eq_zero_iff.1 hk] at h1;simp at h1
    · exact ⟨v,by rw [zA3 hi2,hm]⟩
  | succ k ih =>
    intro ms w hk hI
    -- some operation of L has not come up
    have hnot:¬ ∀ i,i<L.length -> ∃ v,ms[i]?=some (some v):=by
      intro hall
      have h0:ms.filter Option.isNone=[]:=by
        rw [List.filter_eq_nil_iff];intro m hm;obtain ⟨i,hi,rfl⟩:=List.mem_iff_getElem.1 hm;obtain ⟨v,hv⟩:=hall i (by rw [<- hI.len];exact hi);rw [zA3 hi] at hv;rw [Option.some.inj hv];simp
      rw [h0] at hk;simp at hk
    -- the least one that has not may come up
    have least:∀ n i,i<=n->i<L.length->Region.ready .any ops (lst ms L2.length)=[] -> ∃ v,ms[i]?=some (some v):=by
      intro n
      induction n with
      | zero =>
        intro i hin hi hr;obtain rfl:i=0:=by omega
        have hi2:0<ms.length:=by rw [hI.len];exact hi
        rcases hm:ms[0] with _ | v
        · exfalso
          have:0∈Region.ready .any ops (lst ms L2.length):=by
            rw [mem_ready];refine ⟨by rw [zS5 hi2,hm];rfl,L[0],by rw [hat,zB0 hi,zA3 hi],?_⟩;intro e he hb
            have:=zY4 L 0 0 _ hback (zA3 hi) e he hb
            omega
          rw [hr] at this;simp at this
        · exact ⟨v,by rw [zA3 hi2,hm]⟩
      | succ n ihn =>
        intro i hin hi hr;have hi2:i<ms.length:=by rw [hI.len];exact hi
        rcases hm:ms[i] with _ | v
        · exfalso
          have:i∈Region.ready .any ops (lst ms L2.length):=by
            rw [mem_ready];refine ⟨by rw [zS5 hi2,hm];rfl,L[i],by rw [hat,zB0 hi,zA3 hi],?_⟩;intro e he hb;have h1:=zY4 L 0 i _ hback (zA3 hi) e he hb;have h3:e.on<ms.length:=by rw [hI.len];omega
            obtain ⟨v,hv⟩:=ihn e.on (by omega) (by omega) hr;rw [zS5 h3];rw [zA3 h3] at hv;rw [Option.some.inj hv];rfl
          rw [hr] at this;simp at this
        · exact ⟨v,by rw [zA3 hi2,hm]⟩
    rw [show k+1+L2.length=(k+L2.length)+1 from by omega];refine ⟨fun hr=>absurd (fun i hi=>least i i (zB1 _) hi hr) hnot,fun i hi => ?_⟩;obtain ⟨h1,o,ho,haft⟩:=mem_ready.1 hi
    have hdeps:∀ e∈o.after,Region.binds .any e=true -> ∃ v,ms[e.on]?=some (some v):=by
      intro e he hb;have h2:=haft e he hb;by_cases h3:e.on<ms.length
      · rw [zS5 h3] at h2;obtain ⟨v,hv⟩:=Option.isSome_iff_exists.1 h2;exact ⟨v,by rw [zA3 h3,hv]⟩
      · rw [yB9 (by omega)] at h2;cases h2
    by_cases hiL:i<L.length
    · have hi2:i<ms.length:=by rw [hI.len];exact hiL
      rw [zS5 hi2] at h1
      have hmi:ms[i]?=some none:=by
        rw [zA3 hi2];rcases hm:ms[i] with _ | v
        · rfl
        · rw [hm] at h1;cases h1
      have hoL:L[i]?=some o:=by rw [hat,zB0 hiL] at ho;exact ho
      have hob:=ob.at_ L 0 i o hoL;rw [bY5] at hob;have hst:=hob ms w ⟨hI.len,hI.bQ,hI.ty,hdeps⟩
      have hcount:∀ v:Value,((ms.set i (some v)).filter Option.isNone).length=k:=by
        intro v
        have key:∀ (l:List (Option Value)) (i:Nat),l[i]?=some none->((l.set i (some v)).filter Option.isNone).length+1=(l.filter Option.isNone).length:=by
          intro l
          induction l with
          | nil=>intro i h;simp at h
          | cons m l ihl =>
            intro i h
            cases i with
            | zero =>
              obtain rfl:m=none:=by simpa using h
              simp
            | succ i =>
              have:=ihl i (by simpa using h)
              rw [zA1,List.filter_cons,List.filter_cons]
              split
              · simp only [bX3];omega
              · exact this
        have:=key ms i hmi
        omega
      unfold wpOp;rw [ho];simp only [];by_cases hw:Region.wanted o (yielded ops (zD5 a0 L ms).tmps)=true
      · rw [if_pos hw] at hst |-;refine .inl (Oper.wp_mono ?_ hst);rintro a' w' ⟨v,rfl,hb,hv,ha⟩;rw [qE2 v hi2,zT8 v L ms a0 i o hd hoL hmi];exact ih _ w' (hcount v) (hI.step hoL hmi hdeps hb hv ha)
      · rw [if_neg hw] at hst |-;rw [qE2 undef hi2,zT8 undef L ms a0 i o hd hoL hmi];exact ih _ w (hcount undef) (hI.step hoL hmi hdeps (Below.refl _ _) hst.1 (fun h=>by rw [hst.2] at h;cases h))
    · exfalso
      have ho2:o∈L2:=by
        rw [hat,bW0 (by omega)] at ho;exact zA5 ho
      have hc:=List.all_eq_true.1 hcov o ho2;exact hnot (yB8 hI.len hc hdeps hI.dc)
def zV5 (K:Act->World->Prop) (Φ : List Pd) (w:World):Nat->List Oper->List Value->Act->Prop
  | _,[],_,a => ∀ b,a=b->K b w
  | i, o :: os, ps, a => ∀ v, (ph Φ i).p w v -> match isA o with
    | true=>(∀ u∈ps,u≠v)->zV5 K Φ w (i+1) os (v :: ps) (a.put o.dst v)
    | false=>zV5 K Φ w (i+1) os ps (a.put o.dst v)
theorem qE3 {K:Act->World->Prop} {L:List Oper} {Φ : List Pd} {w0 w:World} {ms:List (Option Value)} (hI:Inv L Φ w0 ms w) (hall:∀ i,i<L.length -> ∃ v,ms[i]?=some (some v)) :
    ∀ (M:List Oper) (k:Nat) (a:Act) (ps:List Value),L.drop k=M->k<=L.length->(∀ u∈ps,∃ j oj,j<k/\L[j]?=some oj/\isA oj=true/\ms[j]?=some (some u))->zV5 K Φ w k M ps a->K (zD5 a M (ms.drop k)) w
  | [], k, a, ps, hM, hk, hps, h => by
    have e:zD5 a [] (ms.drop k)=a:=by cases ms.drop k<;>rfl
    rw [e];exact h a rfl
  | o :: M, k, a, ps, hM, hk, hps, h => by
    have hk2:k<L.length:=by
      rcases Nat.lt_or_ge k L.length with h1 | h1
      · exact h1
      · rw [List.drop_of_length_le h1] at hM;cases hM
    have e1:L.drop k=L[k] :: L.drop (k+1):=(List.getElem_cons_drop hk2).symm;rw [hM] at e1;injection e1 with e2 e3;obtain ⟨v,hv⟩:=hall k hk2;have hk3:k<ms.length:=(zA4.1 hv).1
    have e4:ms.drop k=some v :: ms.drop (k+1):=by
      rw [<- List.getElem_cons_drop hk3,(zA4.1 hv).2]
    rw [e4];have hL:L[k]?=some o:=by rw [zA3 hk2,e2]
    show K (zD5 (a.put o.dst v) M (ms.drop (k+1))) w
    have hd:=h v (hI.ty k v hv)
    cases ha:isA o with
    | true =>
      rw [ha] at hd;refine qE3 hI hall M (k+1) _ (v :: ps) e3.symm (by omega) ?_ (hd fun u hu => ?_)
      · intro u hu;rcases List.mem_cons.1 hu with rfl|hu
        · exact ⟨k,o,by omega,hL,ha,hv⟩
        · obtain ⟨j,oj,hj,h1⟩:=hps u hu;exact ⟨j,oj,by omega,h1⟩
      · obtain ⟨j,oj,hj,h1,h2,h3⟩:=hps u hu;exact hI.sep j k oj o u v (by omega) h1 hL h2 ha h3 hv
    | false =>
      rw [ha] at hd;refine qE3 hI hall M (k+1) _ ps e3.symm (by omega) (fun u hu => ?_) hd;obtain ⟨j,oj,hj,h1⟩:=hps u hu;exact ⟨j,oj,by omega,h1⟩
theorem qL (a:Act):∀ (L:List Oper),zD5 a L (zB L.length none)=a
 | []=>rfl
 | o :: os=>qL a os
theorem yC (n m:Nat):lst (zB n none) m=Array.replicate (n+m) false:=by
 unfold lst;rw [List.map_replicate];show (zB n false ++ zB m false).toArray=_
 rw [List.replicate_append_replicate,List.toArray_replicate]
theorem yC0 {ms:List (Option Value)} {n:Nat} (m:Nat) (hn:ms.length=n) (hall:∀ i,i<n -> ∃ v,ms[i]?=some (some v)):lst ms m=(zB n true ++ zB m false).toArray:=by
 unfold lst
 congr 2
 refine List.ext_getElem (by simp [hn]) fun i h1 h2 => ?_;obtain ⟨v,hv⟩:=hall i (by simpa using h2);have h3:i<ms.length:=by simpa using h1
 rw [zA3 h3] at hv;simp [Option.some.inj hv]
theorem yU7 {P:Program} {Q:Exit->Act->World->Prop} {ops:Array Oper} (n:Nat) (Φ : List Pd) {w:World} {a0:Act}
  (h1:zL2 (ops.toList.take n)=true) (h2:zQ3 0 (ops.toList.take n)=true) (h3:((ops.toList.drop n).all fun o=>zV4 (ops.toList.take n) (ops.toList.take n).length o)=true)
  (ob:Obs P Q ops (ops.toList.take n) Φ w a0 0 (ops.toList.take n))
  (done:∀ w',Below w.heap.size w w'->zV5 (fun a w'=>wpAny P .any ops Q (ops.toList.drop n).length (zB (ops.toList.take n).length true ++ zB (ops.toList.drop n).length false).toArray a w') Φ w' 0 (ops.toList.take n) [] a0):wpAny P .any ops Q ops.size (Array.replicate ops.size false) a0 w:=by
 have hop:ops.toList=ops.toList.take n ++ ops.toList.drop n:=(bX n _).symm
 generalize ops.toList.take n=L at *
 generalize ops.toList.drop n=L2 at *
 have hsz:ops.size=L.length+L2.length:=by
  have:=congrArg List.length hop
  simpa using this
 have none_:∀ (i:Nat) (v:Value),¬ (zB L.length (none:Option Value))[i]?=some (some v):=by
  intro i v h;rw [List.getElem?_replicate] at h
  split at h<;>cases h
 have hI0:Inv L Φ w (zB L.length none) w:=⟨by simp,Below.refl _ _,fun i v h=>absurd h (none_ i v),fun j x v _ h=>absurd h (none_ j v),fun i j oi oj u v _ _ _ _ _ h _=>absurd h (none_ i u),fun i oi u _ _ h=>absurd h (none_ i u)⟩
 have hmain:=yU6 (P:=P) (Q:=Q) (ops:=ops) (L:=L) (L2:=L2) (Φ:=Φ) (w0:=w) (a0:=a0) hop h1 h2 h3 ob (fun ms w' hall hI=>by
  rw [yC0 L2.length hI.len hall]
  have:=qE3 (K:=fun a w'=>wpAny P .any ops Q L2.length (zB L.length true ++ zB L2.length false).toArray a w') hI hall L 0 a0 [] (by simp) (by omega) (by simp) (done w' hI.bQ)
  simpa using this) L.length (zB L.length none) w (by simp) hI0
 rw [qL,yC,<- hsz] at hmain;exact hmain
theorem flow {P:Program} {Q:Exit->Act->World->Prop} {id:Nat} {ops:Array Oper} (n:Nat) (Φ : List Pd) {w:World} {a0:Act} (hm:P.follows .mixedOrders=true)
  (hB:(zL2 (ops.toList.take n) && zQ3 0 (ops.toList.take n) && (ops.toList.drop n).all (fun o=>zV4 (ops.toList.take n) (ops.toList.take n).length o))=true)
  (ob:Obs P Q ops (ops.toList.take n) Φ w.drew a0 0 (ops.toList.take n))
  (done:∀ w',Below w.heap.size w w'->zV5 (fun a w'=>wpAny P .any ops Q (ops.toList.drop n).length (zB (ops.toList.take n).length true ++ zB (ops.toList.drop n).length false).toArray a w') Φ w' 0 (ops.toList.take n) [] a0):(Code.region id ops true).wp P Q a0 w:=by
 simp only [Bool.and_eq_true] at hB;obtain ⟨⟨h1,h2⟩,h3⟩:=hB;exact wp_region_any hm (yU7 n Φ (w:=w.drew) h1 h2 h3 ob fun w' hb=>done w' ((Below.refl _ w).drew.trans hb))
theorem yC1 {P:Program} {Q:Exit->Act->World->Prop} {ops:Array Oper} {L L2:List Oper} {Φ : List Pd} {w0:World} {a0:Act} {rest:List Nat} (hop:ops.toList=L ++ L2) (hd:zL2 L=true) (hback:zQ3 0 L=true)
    (ob:Obs P Q ops L Φ w0 a0 0 L) (done:∀ ms w,(∀ i,i<L.length -> ∃ v,ms[i]?=some (some v))->Inv L Φ w0 ms w->wpOps P ops Q rest (zD5 a0 L ms) w) :
    ∀ (k i:Nat) (ms:List (Option Value)) (w:World),i+k=L.length->(∀ j,j<i -> ∃ v,ms[j]?=some (some v))->(∀ j,i<=j->j<L.length->ms[j]?=some none)->Inv L Φ w0 ms w->wpOps P ops Q (List.range' i k ++ rest) (zD5 a0 L ms) w
  | 0,i,ms,w,hk,h1,_,hI=>done ms w (fun j hj=>h1 j (by omega)) hI
  | k + 1, i, ms, w, hk, h1, h2, hI => by
    have hiL:i<L.length:=by omega
    have hat:ops[i]?=some L[i]:=by
      rw [<- Array.getElem?_toList,hop,zB0 hiL,zA3 hiL]
    have hoL:L[i]?=some L[i]:=zA3 hiL
    have hdeps:∀ e∈L[i].after,Region.binds .any e=true -> ∃ v,ms[e.on]?=some (some v):=fun e he hb=>by
      have:=zY4 L 0 i _ hback hoL e he hb
      exact h1 e.on (by omega)
    have hob:=ob.at_ L 0 i _ hoL;rw [bY5] at hob;have hst:=hob ms w ⟨hI.len,hI.bQ,hI.ty,hdeps⟩;have hmi:=h2 i (zB1 _) hiL
    have next:∀ v w',Inv L Φ w0 (ms.set i (some v)) w'->wpOps P ops Q (List.range' (i+1) k ++ rest) (zD5 a0 L (ms.set i (some v))) w':=fun v w' hI' =>
      yC1 hop hd hback ob done k (i+1) _ w' (by omega) (fun j hj=>by
        by_cases hji:j=i
        · subst hji;exact ⟨v,by rw [bQ3 (by rw [hI.len];exact hiL)]⟩
        · exact qR9 (h1 j (by omega))) (fun j hj hj2=>by rw [bW1 (by omega)];exact h2 j (by omega) hj2) hI'
    show wpOps P ops Q (i :: (List.range' (i+1) k ++ rest)) (zD5 a0 L ms) w
    rw [wpOps_cons];unfold wpOp;rw [hat];simp only [];by_cases hw:Region.wanted L[i] (yielded ops (zD5 a0 L ms).tmps)=true
    · rw [if_pos hw] at hst |-;refine .inl (Oper.wp_mono ?_ hst);rintro a' w' ⟨v,rfl,hb,hv,ha⟩;rw [zT8 v L ms a0 i _ hd hoL hmi];exact next v w' (hI.step hoL hmi hdeps hb hv ha)
    · rw [if_neg hw] at hst |-;rw [zT8 undef L ms a0 i _ hd hoL hmi];exact next undef w (hI.step hoL hmi hdeps (Below.refl _ _) hst.1 (fun h=>by rw [hst.2] at h;cases h))
theorem zC3 {P:Program} {Q:Exit->Act->World->Prop} {id:Nat} {ops:Array Oper} (n:Nat) (Φ : List Pd) {w:World} {a0:Act}
  (hB:(zL2 (ops.toList.take n) && zQ3 0 (ops.toList.take n))=true)
  (ob:Obs P Q ops (ops.toList.take n) Φ w a0 0 (ops.toList.take n))
  (done:∀ w',Below w.heap.size w w'->zV5 (fun a w'=>wpOps P ops Q (List.range' (ops.toList.take n).length (ops.toList.drop n).length) a w') Φ w' 0 (ops.toList.take n) [] a0):(Code.region id ops false).wp P Q a0 w:=by
 simp only [Bool.and_eq_true] at hB;obtain ⟨h1,h2⟩:=hB;refine wp_region ?_;have hop:ops.toList=ops.toList.take n ++ ops.toList.drop n:=(bX n _).symm
 generalize ops.toList.take n=L at *
 generalize ops.toList.drop n=L2 at *
 have hsz:ops.size=L.length+L2.length:=by
  have:=congrArg List.length hop
  simpa using this
 have none_:∀ (i:Nat) (v:Value),¬ (zB L.length (none:Option Value))[i]?=some (some v):=by
  intro i v h;rw [List.getElem?_replicate] at h
  split at h<;>cases h
 have hI0:Inv L Φ w (zB L.length none) w:=⟨by simp,Below.refl _ _,fun i v h=>absurd h (none_ i v),fun j x v _ h=>absurd h (none_ j v),fun i j oi oj u v _ _ _ _ _ h _=>absurd h (none_ i u),fun i oi u _ _ h=>absurd h (none_ i u)⟩
 have hmain:=yC1 (P:=P) (Q:=Q) (ops:=ops) (L:=L) (L2:=L2) (Φ:=Φ) (w0:=w) (a0:=a0) (rest:=List.range' L.length L2.length) hop h1 h2 ob (fun ms w' hall hI=>by
  have:=qE3 (K:=fun a w'=>wpOps P ops Q (List.range' L.length L2.length) a w') hI hall L 0 a0 [] (by simp) (by omega) (by simp) (done w' hI.bQ)
  simpa using this) L.length 0 (zB L.length none) w (by simp) (fun j hj=>absurd hj (by omega)) (fun j _ hj=>by rw [List.getElem?_replicate,if_pos hj]) hI0
 rw [qL] at hmain;rw [hsz,List.range_eq_range',<- List.range'_append_1];simpa using hmain
section
variable {P:Program} {Q:Exit->Act->World->Prop} {ops:Array Oper} {L:List Oper} {Φ : List Pd} {w0:World} {a0:Act} {i:Nat} {o:Oper}
def Ev (L:List Oper) (Φ : List Pd) (w0:World) (a0:Act) (o:Oper) (x:Operand) (F:World->Value->Prop):Prop:=∀ ms w,St L Φ w0 o ms w->F w ((zD5 a0 L ms).eval x)
theorem zF8 (v:Value):Ev L Φ w0 a0 o (.const v) (fun _ u=>u=v):=fun _ _ _=>rfl
theorem zB5 {t:Nat} {v:Value} (h:(L.all fun x=>x.dst != some t)=true) (ha:a0.tmps[t]?=some v):Ev L Φ w0 a0 o (.tmp t) (fun _ u=>u=v):=by
 intro ms w _;show (zD5 a0 L ms).tmps.getD t undef=v
 rw [Array.getD_eq_getD_getElem?,qK9 L ms a0 (fun x hx=>by have:=List.all_eq_true.1 h x hx;simpa using this),ha];rfl
theorem yC2 {ms:List (Option Value)} {w:World} (h:St L Φ w0 o ms w) {j t:Nat} {oj:Oper} (hB:((zR3 o).contains j && decide (t<a0.tmps.size) && zL2 L)=true) (hj:L[j]?=some oj) (hd:oj.dst=some t):∃ v,(zD5 a0 L ms).tmps[t]?=some v/\(ph Φ j).p w v:=by
 simp only [Bool.and_eq_true] at hB;obtain ⟨⟨h1,h2⟩,h3⟩:=hB;obtain ⟨e,he,hb,rfl⟩:=zY3.1 (by simpa using h1);obtain ⟨v,hv⟩:=h.deps e he hb;exact ⟨v,qR8 L ms a0 _ _ h3 hj hd hv (by simpa using h2),h.ty _ v hv⟩
theorem zB4 {j t:Nat} {oj:Oper} (hB:((zR3 o).contains j && decide (t<a0.tmps.size) && zL2 L)=true) (hj:L[j]?=some oj) (hd:oj.dst=some t):Ev L Φ w0 a0 o (.tmp t) (ph Φ j).p:=by
 intro ms w h;obtain ⟨v,h1,h2⟩:=yC2 h hB hj hd
 have e:(zD5 a0 L ms).eval (.tmp t)=v:=by
  show (zD5 a0 L ms).tmps.getD t undef=v
  rw [Array.getD_eq_getD_getElem?,h1];rfl
 rw [e];exact h2
def Wt (ops:Array Oper) (L:List Oper) (Φ : List Pd) (w0:World) (a0:Act) (o:Oper) (b:Bool):Prop:=∀ ms w,St L Φ w0 o ms w->Region.wanted o (yielded ops (zD5 a0 L ms).tmps)=b
theorem zB3 (h:o.guard=none):Wt ops L Φ w0 a0 o true:=fun ms w _=>by unfold Region.wanted;rw [h]
theorem zD8 {g t:Nat} {b c:Bool} {og:Oper} (h:o.guard=some (g,b)) (hB:((zR3 o).contains g && decide (t<a0.tmps.size) && zL2 L)=true) (hg:L[g]?=some og) (hg2:ops[g]?=some og) (hd:og.dst=some t) (hF:∀ w v,(ph Φ g).p w v->v=.bool c):Wt ops L Φ w0 a0 o (c == b):=by
 intro ms w hS;obtain ⟨v,h1,h2⟩:=yC2 hS hB hg hd;obtain rfl:=hF w v h2;unfold Region.wanted;rw [h];simp only [yielded,hg2,Option.bind_some,hd,h1];cases b<;>cases c<;>rfl
theorem zJ6 (hw:Wt ops L Φ w0 a0 o false) (hu:∀ w,(ph Φ i).p w undef) (ha:isA o=false):Ob P Q ops L Φ w0 a0 i o:=by
 intro ms w hS;rw [if_neg (by rw [hw ms w hS];simp)];exact ⟨hu w,ha⟩
theorem zO1 (hw:Wt ops L Φ w0 a0 o true) (ha:isA o=false) (h:∀ ms w,St L Φ w0 o ms w -> ∃ v,(execOp (zD5 a0 L ms).eval o).run P w=.ok (.value v) w/\(ph Φ i).p w v):Ob P Q ops L Φ w0 a0 i o:=by
 intro ms w hS;rw [if_pos (hw ms w hS)];obtain ⟨v,h1,h2⟩:=h ms w hS;unfold Oper.wp;rw [h1];exact ⟨v,rfl,Below.refl _ _,h2,fun h=>by rw [ha] at h;cases h⟩
theorem zB8 {x:Operand} {F:World->Value->Prop} (hop:o.op=.move x) (hw:Wt ops L Φ w0 a0 o true) (hx:Ev L Φ w0 a0 o x F) (hF:∀ w v,F w v->(ph Φ i).p w v):Ob P Q ops L Φ w0 a0 i o :=
 zO1 hw (by unfold isA;rw [hop]) fun ms w hS=>⟨_,by unfold execOp;simp only [hop];rfl,hF w _ (hx ms w hS)⟩
theorem zD6 {x:Operand} {F:World->Value->Prop} (hop:o.op=.assign x) (hw:Wt ops L Φ w0 a0 o true) (hx:Ev L Φ w0 a0 o x F) (hF:∀ w v,F w v->(ph Φ i).p w v):Ob P Q ops L Φ w0 a0 i o :=
 zO1 hw (by unfold isA;rw [hop]) fun ms w hS=>⟨_,by unfold execOp;simp only [hop];rfl,hF w _ (hx ms w hS)⟩
theorem zO2 {c x y:Operand} {b:Bool} {F:World->Value->Prop} (hop:o.op=.pick c x y) (hw:Wt ops L Φ w0 a0 o true) (hc:Ev L Φ w0 a0 o c (fun _ u=>u=.bool b)) (hx:Ev L Φ w0 a0 o (if b=true then x else y) F) (hF:∀ w v,F w v->(ph Φ i).p w v):Ob P Q ops L Φ w0 a0 i o :=
 zO1 hw (by unfold isA;rw [hop]) fun ms w hS=>⟨(zD5 a0 L ms).eval (if b=true then x else y),by
  unfold execOp;simp only [hop];rw [hc ms w hS];cases b<;>rfl,hF w _ (hx ms w hS)⟩
theorem zB9 {s:TypeId} {x:Operand} {k:Nat} {u v:Value} (hop:o.op=.fieldAddr s x k) (hw:Wt ops L Φ w0 a0 o true) (hx:Ev L Φ w0 a0 o x (fun _ y=>y=u)) (hr:∀ w,(Instr.fieldAt s u k).run P w=.ok v w) (hF:∀ w,(ph Φ i).p w v):Ob P Q ops L Φ w0 a0 i o :=
 zO1 hw (by unfold isA;rw [hop]) fun ms w hS=>⟨v,by unfold execOp;simp only [hop];rw [hx ms w hS,Sem.run_bind,hr];rfl,hF w⟩
theorem zB7 {t:TypeId} {x:Operand} {u v:Value} (hop:o.op=.load t x) (hw:Wt ops L Φ w0 a0 o true) (hx:Ev L Φ w0 a0 o x (fun _ y=>y=u)) (hr:∀ w,Below w0.heap.size w0 w->(Instr.loadAt t u).run P w=.ok v w) (hF:∀ w,Below w0.heap.size w0 w->(ph Φ i).p w v):Ob P Q ops L Φ w0 a0 i o :=
 zO1 hw (by unfold isA;rw [hop]) fun ms w hS=>⟨v,by unfold execOp;simp only [hop];rw [hx ms w hS,Sem.run_bind,hr w hS.bQ];rfl,hF w hS.bQ⟩
theorem zE6 {op:BinOp} {t t':TypeId} {x y:Operand} {F G:World->Value->Prop} (hop:o.op=.binOp op t x y t') (hw:Wt ops L Φ w0 a0 o true) (hx:Ev L Φ w0 a0 o x F) (hy:Ev L Φ w0 a0 o y G)
  (hr:∀ w u u',F w u->G w u' -> ∃ v,(do eqGuard op t x y u u';binOp op t u u').run P w=.ok v w/\(ph Φ i).p w v):Ob P Q ops L Φ w0 a0 i o :=
 zO1 hw (by unfold isA;rw [hop]) fun ms w hS=>by
  obtain ⟨v,h1,h2⟩:=hr w _ _ (hx ms w hS) (hy ms w hS);exact ⟨v,by unfold execOp;simp only [hop];rw [Sem.run_bind,h1];rfl,h2⟩
theorem zV6 {op:UnOp} {t:TypeId} {x:Operand} {u v:Value} (hop:o.op=.unOp op t x) (hw:Wt ops L Φ w0 a0 o true) (hx:Ev L Φ w0 a0 o x (fun _ y=>y=u)) (hr:∀ w,(Op.unary op u).run P w=.ok v w) (hF:∀ w,(ph Φ i).p w v):Ob P Q ops L Φ w0 a0 i o :=
 zO1 hw (by unfold isA;rw [hop]) fun ms w hS=>⟨v,by unfold execOp;simp only [hop];rw [hx ms w hS,Sem.run_bind,hr];rfl,hF w⟩
theorem zF9 {x:Operand} {k:Nat} {F:World->Value->Prop} (hop:o.op=.extract x k) (hw:Wt ops L Φ w0 a0 o true) (hx:Ev L Φ w0 a0 o x F) (hr:∀ w u,F w u -> ∃ v,(Instr.extract u k).run P w=.ok v w/\(ph Φ i).p w v):Ob P Q ops L Φ w0 a0 i o :=
 zO1 hw (by unfold isA;rw [hop]) fun ms w hS=>by
  obtain ⟨v,h1,h2⟩:=hr w _ (hx ms w hS);exact ⟨v,by unfold execOp;simp only [hop];rw [Sem.run_bind,h1];rfl,h2⟩
theorem zJ {x:Operand} {at_:Array TypeId} {F:World->Value->Prop} (hop:o.op=.call { callee:=.builtin .len,args:=#[x],argTypes:=at_ }) (hw:Wt ops L Φ w0 a0 o true) (hx:Ev L Φ w0 a0 o x F) (hr:∀ w u,F w u -> ∃ v,(Builtin.len_ at_ o.type #[u]).run P w=.ok v w/\(ph Φ i).p w v):Ob P Q ops L Φ w0 a0 i o :=
 zO1 hw (by unfold isA;rw [hop]) fun ms w hS=>by
  obtain ⟨v,h1,h2⟩:=hr w _ (hx ms w hS);exact ⟨v,by unfold execOp;simp only [hop,resolve,invoke,builtin,Sem.run_bind,Sem.run_pure,Result.andThen_ok,bX7,List.map_cons,List.map_nil,h1],h2⟩
theorem yU8 {t:TypeId} {k l:Nat} {x y:Operand} {F G:World->Value->Prop} (hop:o.op=.build t #[(k,x),(l,y)]) (hw:Wt ops L Φ w0 a0 o true) (hx:Ev L Φ w0 a0 o x F) (hy:Ev L Φ w0 a0 o y G)
  (hr:∀ w u u',F w u->G w u' -> ∃ v,(Instr.build t #[(k,u),(l,u')]).run P w=.ok v w/\(ph Φ i).p w v):Ob P Q ops L Φ w0 a0 i o :=
 zO1 hw (by unfold isA;rw [hop]) fun ms w hS=>by
  obtain ⟨v,h1,h2⟩:=hr w _ _ (hx ms w hS) (hy ms w hS);exact ⟨v,by unfold execOp;simp only [hop,Sem.run_bind,bX7,List.map_cons,List.map_nil,h1];rfl,h2⟩
def zH9 (F:Pd) (w:World) (e:Ending) (w':World):Prop:=∃ v,e=.returned v/\F.p w' v/\Below w.heap.size w w'
theorem yU9 {f : FuncId} {fn : Func} (hf : P.funcs[f]? = some fn) (hB : (!(fn.name == "runtime.NumGoroutine") && fn.body.isSome) = true) (args : Array Value) (w : World) : (callFunc f args).run P w = .ok (.enter f args) w := by
 simp only [Bool.and_eq_true,Bool.not_eq_true'] at hB
 have h1 : fn.name ≠ "runtime.NumGoroutine" := by simpa using hB.1
 obtain ⟨c,hc⟩:=Option.isSome_iff_exists.1 hB.2;simp [callFunc,hf,h1,hc]
theorem qL0 {f : FuncId} {fn : Func} (hf : P.funcs[f]? = some fn) (hB : (!(fn.name == "runtime.NumGoroutine") && fn.body.isSome) = true) (hw : Wt ops L Φ w0 a0 o true) (ha : isA o = false)
  (h:∀ ms w,St L Φ w0 o ms w -> ∃ args,(execOp (zD5 a0 L ms).eval o).run P w=(callFunc f args).run P w/\Calls P f args w (zH9 (ph Φ i) w)):Ob P Q ops L Φ w0 a0 i o:=by
 intro ms w hS;rw [if_pos (hw ms w hS)];obtain ⟨args,h1,h2⟩:=h ms w hS;unfold Oper.wp;rw [h1,yU9 hf hB,Oper.upon_enter];refine h2.mono fun e w' ⟨v,he,hv,hb⟩ => ?_;subst he;exact ⟨v,rfl,hb,hv,fun h=>by rw [ha] at h;cases h⟩
theorem qS {ρ : Operand->Value} {f:FuncId} {xs:Array Operand} {at_:Array TypeId} {w:World} (hop:o.op=.call { callee:=.value (.func f),args:=xs,argTypes:=at_ }) (hρ : ρ (.func f)=.func (.func f) #[] #[]) {args:Array Value} (ha:xs.map ρ = args):(execOp ρ o).run P w=(callFunc f args).run P w:=by
 subst ha;unfold execOp;simp [hop,resolve,hρ,Deferred.ofValue,invoke]
theorem zE7 {f : FuncId} {fn : Func} {x : Operand} {at_ : Array TypeId} {F : World -> Value -> Prop} (hop : o.op = .call { callee := .value (.func f), args := #[x], argTypes := at_ }) (hf : P.funcs[f]? = some fn) (hB : (!(fn.name == "runtime.NumGoroutine") && fn.body.isSome) = true) (hw : Wt ops L Φ w0 a0 o true)
  (hx:Ev L Φ w0 a0 o x F) (hc:∀ w u,Below w0.heap.size w0 w->F w u->Calls P f #[u] w (zH9 (ph Φ i) w)):Ob P Q ops L Φ w0 a0 i o :=
 qL0 hf hB hw (by unfold isA;rw [hop]) fun ms w hS=>⟨#[(zD5 a0 L ms).eval x],qS hop rfl (by simp),hc w _ hS.bQ (hx ms w hS)⟩
theorem zC7 {f : FuncId} {fn : Func} {x y : Operand} {at_ : Array TypeId} {F G : World -> Value -> Prop} (hop : o.op = .call { callee := .value (.func f), args := #[x, y], argTypes := at_ }) (hf : P.funcs[f]? = some fn) (hB : (!(fn.name == "runtime.NumGoroutine") && fn.body.isSome) = true) (hw : Wt ops L Φ w0 a0 o true)
  (hx:Ev L Φ w0 a0 o x F) (hy:Ev L Φ w0 a0 o y G) (hc:∀ w u v,Below w0.heap.size w0 w->F w u->G w v->Calls P f #[u,v] w (zH9 (ph Φ i) w)):Ob P Q ops L Φ w0 a0 i o :=
 qL0 hf hB hw (by unfold isA;rw [hop]) fun ms w hS=>⟨#[(zD5 a0 L ms).eval x,(zD5 a0 L ms).eval y],qS hop rfl (by simp),hc w _ _ hS.bQ (hx ms w hS) (hy ms w hS)⟩
theorem yC3 {f : FuncId} {fn : Func} {x y z : Operand} {at_ : Array TypeId} {F G H : World -> Value -> Prop} (hop : o.op = .call { callee := .value (.func f), args := #[x, y, z], argTypes := at_ }) (hf : P.funcs[f]? = some fn) (hB : (!(fn.name == "runtime.NumGoroutine") && fn.body.isSome) = true) (hw : Wt ops L Φ w0 a0 o true)
  (hx:Ev L Φ w0 a0 o x F) (hy:Ev L Φ w0 a0 o y G) (hz:Ev L Φ w0 a0 o z H) (hc:∀ w u v t,Below w0.heap.size w0 w->F w u->G w v->H w t->Calls P f #[u,v,t] w (zH9 (ph Φ i) w)):Ob P Q ops L Φ w0 a0 i o :=
 qL0 hf hB hw (by unfold isA;rw [hop]) fun ms w hS=>⟨#[(zD5 a0 L ms).eval x,(zD5 a0 L ms).eval y,(zD5 a0 L ms).eval z],qS hop rfl (by simp),hc w _ _ _ hS.bQ (hx ms w hS) (hy ms w hS) (hz ms w hS)⟩
theorem zL3 {t:TypeId} {z:Value} (hop:o.op=.alloc t) (hg:o.guard=none) (hz:∀ w,(zeroValue t).run P w=.ok z w) (hF:∀ w g,w0.heap.size<=g->w.heap[g]?=some (.cells z.cells t (0,0))->(ph Φ i).p w (.pointer (some ⟨g,0,none⟩))):Ob P Q ops L Φ w0 a0 i o:=by
 intro ms w hS;rw [if_pos (zB3 (ops:=ops) (L:=L) (Φ:=Φ) (w0:=w0) (a0:=a0) hg ms w hS)]
 have hr:(execOp (zD5 a0 L ms).eval o).run P w=.ok (.value (.pointer (some ⟨w.heap.size,0,none⟩))) (w.alloc (.cells z.cells t)):=by
  unfold execOp;simp [hop,Instr.alloc,Sem.run_bind,hz,newVar,newRow,go_sem]
 unfold Oper.wp;rw [hr];exact ⟨_,rfl,zC6 (zB1 _) _,hF _ _ hS.bQ.size (heap_alloc_new w _),fun _=>⟨_,rfl,zB1 _,by simp⟩⟩
theorem zC1 {t:TypeId} {A:Addr} {v:Value} {d:TypeDesc} (hu:P.underlying t=some d) (hd:d.isRow=false) {w:World} (hc:w.cell? A=some v):(Instr.loadAt t (.pointer (some A))).run P w=.ok v w:=by
 have hagg:(isAgg t).run P w=.ok false w:=by
  unfold isAgg;rw [Sem.run_bind,run_underlying hu w];cases d<;>simp_all
 simp [Instr.loadAt,Instr.sureAddr,loadVar,Sem.run_bind,hagg,go_sem,hc]
theorem zF0 {t:TypeId} {g:Nat} {cs:List Value} {e:TypeId} {d:TypeDesc} {w:World} (hu:P.underlying t=some d) (hd:d.isRow=true) (hi:(P.info? t).map (·.size)=some cs.length) (hB:w.heap[g]?=some (.cells cs.toArray e (0,0))):(Instr.loadAt t (.pointer (some ⟨g,0,none⟩))).run P w=.ok (.agg cs.toArray) w :=
 run_loadAt_mid w g 0 t cs d (fun j v hj=>by rw [bY5,cell_of_row w g j cs.toArray e (0,0) hB];simpa using hj) hu hd hi
theorem qL1 {t:TypeId} (x y:Operand) (a b:Bool) (hu:P.underlying t=some .bool) (w:World):(do eqGuard .neq t x y (.bool a) (.bool b);binOp .neq t (.bool a) (.bool b)).run P w=.ok (.bool (!(a == b))) w:=by
 have h:(eqGuard .neq t x y (.bool a) (.bool b)).run P w=.ok () w:=by simp [eqGuard]
 rw [Sem.run_bind,h,Result.andThen_ok,run_neq_bool _ t a b hu]
theorem zO8 {t:TypeId} (x y:Operand) (a b:Bool) (hu:P.underlying t=some .bool) (w:World):(do eqGuard .eql t x y (.bool a) (.bool b);binOp .eql t (.bool a) (.bool b)).run P w=.ok (.bool (a == b)) w:=by
 have h:(eqGuard .eql t x y (.bool a) (.bool b)).run P w=.ok () w:=by simp [eqGuard]
 rw [Sem.run_bind,h,Result.andThen_ok,run_eql_bool _ t a b hu]
theorem zM9 {t:TypeId} {k:IntKind} (x y:Operand) (a b:Int) (w:World):(do eqGuard .eql t x y (.int k a) (.int k b);binOp .eql t (.int k a) (.int k b)).run P w=.ok (.bool (a == b)) w:=by
 have h:(eqGuard .eql t x y (.int k a) (.int k b)).run P w=.ok () w:=by simp [eqGuard]
 rw [Sem.run_bind,h,Result.andThen_ok];simp [binOp,Op.intCmp,go_sem]
theorem zY5 {t:TypeId} {k:IntKind} (x y:Operand) (a b:Int) (w:World):(do eqGuard .neq t x y (.int k a) (.int k b);binOp .neq t (.int k a) (.int k b)).run P w=.ok (.bool (a != b)) w:=by
 have h:(eqGuard .neq t x y (.int k a) (.int k b)).run P w=.ok () w:=by simp [eqGuard]
 rw [Sem.run_bind,h,Result.andThen_ok];simp [binOp,Op.intCmp,go_sem]
theorem yC4 {t:TypeId} {k:IntKind} (x y:Operand) (a b:Int) (w:World):(do eqGuard .lss t x y (.int k a) (.int k b);binOp .lss t (.int k a) (.int k b)).run P w=.ok (.bool (decide (a<b))) w:=by
 have h:(eqGuard .lss t x y (.int k a) (.int k b)).run P w=.ok () w:=by simp [eqGuard]
 rw [Sem.run_bind,h,Result.andThen_ok];simp [binOp,Op.intCmp,go_sem]
theorem yC5 {t:TypeId} {k:IntKind} (x y:Operand) (a b:Int) (w:World):(do eqGuard .gtr t x y (.int k a) (.int k b);binOp .gtr t (.int k a) (.int k b)).run P w=.ok (.bool (decide (b<a))) w:=by
 have h:(eqGuard .gtr t x y (.int k a) (.int k b)).run P w=.ok () w:=by simp [eqGuard]
 rw [Sem.run_bind,h,Result.andThen_ok];simp [binOp,Op.intCmp,go_sem]
theorem qE4 {t:TypeId} {k:IntKind} (x y:Operand) (a b:Int) (w:World):(do eqGuard .geq t x y (.int k a) (.int k b);binOp .geq t (.int k a) (.int k b)).run P w=.ok (.bool (decide (b<=a))) w:=by
 have h:(eqGuard .geq t x y (.int k a) (.int k b)).run P w=.ok () w:=by simp [eqGuard]
 rw [Sem.run_bind,h,Result.andThen_ok];simp [binOp,Op.intCmp,go_sem]
theorem zV7 (b:Bool) (w:World):(Op.unary .not (.bool b)).run P w=.ok (.bool (!b)) w:=by simp [Op.unary]
theorem zJ0 {t ty:TypeId} {e:TypeId} (hu:P.underlying t=some (.slice e)) (A:Option Addr) (n c:Nat) (w:World):(Builtin.len_ #[t] ty #[.slice A n c]).run P w=.ok (.int .i64 (n:Int)) w:=by
 simp [Builtin.len_,go_sem,run_underlying hu]
theorem zG {fuel:Nat} {listed:Array Bool} {a:Act} {w:World} (hr:Region.ready .any ops listed=[]) (h:Q .normal a w):wpAny P .any ops Q fuel listed a w:=wpAny_done hr h fuel
theorem qL2 {fuel i:Nat} {listed:Array Bool} {a:Act} {w:World} (hr:Region.ready .any ops listed=[i]) (ho:ops[i]?=some o) (hg:o.guard=none) (h:o.wp P a w (wpAny P .any ops Q fuel (listed.setIfInBounds i true)) Q):wpAny P .any ops Q (fuel+1) listed a w:=by
 refine wpAny_all (rs:=[i]) hr (by simp) ?_;intro j hj;obtain rfl:=List.mem_singleton.1 hj;unfold wpOp;rw [ho];simp only [];rw [if_pos (by unfold Region.wanted;rw [hg])];exact .inl h
theorem yC6 {a:Act} {w:World} {x:Operand} {K:Act->World->Prop} (v:Value) (hop:o.op=.assign x) (hv:a.eval x=v) {d:Tmp} (hd:o.dst=some d) (h:∀ b,a.put (some d) v=b->K b w):o.wp P a w K Q:=by
 unfold Oper.wp execOp;simp only [hop];rw [hv];have h2:=h _ rfl;rw [<- hd] at h2;exact h2
theorem yC7 {a:Act} {w:World} {K:Act->World->Prop} {ty:TypeId} {x y:Operand} {g:Nat} {v:Value} {cells:List Value} {cs:Array Value} {e:TypeId} (hd:o.dst=none) (hop:o.op=.store ty x y)
    (hx:a.eval x=.pointer (some ⟨g,0,none⟩)) (hy:a.eval y=v) (hv:v.cells=cells.toArray) (hB:w.heap[g]?=some (.cells cs e (0,0))) (hs:cs.size=cells.length) (hi:(P.info? ty).map (·.size)=some cells.length) (h1:∀ c∈cells,c.oneCell'=true)
    (h:∀ w',w.grownBy w' (some g)->w'.heap[g]?=some (.cells cells.toArray e (0,0))->K a w'):o.wp P a w K Q:=by
  have hc:∀ j,j<cells.length->(w.cell? ⟨g,0+j,none⟩).isSome=true:=by
    intro j hj;rw [bY5,cell_of_row w g j cs e (0,0) hB,Array.getElem?_eq_getElem (by omega)];rfl
  have hf:∀ j,j<cells.length->w.frozen? ⟨g,0+j,none⟩=false:=by
    intro j hj;simp [World.frozen?,hB]
  have hrun:=run_storeCells_cells (P:=P) g 0 cells 0 w (fun j hj=>by simpa using hc j hj) (fun j hj=>by simpa using hf j hj) h1;simp only [Nat.add_zero] at hrun
  have hst:(storeVar ty ⟨g,0,none⟩ v).run P w=.ok () (w.setCells g 0 cells):=by
    cases hq:P.info? ty with
    | none=>simp [hq] at hi
    | some inf =>
      have hsz:cells.length=inf.size:=by simp [hq] at hi;omega
      simp [storeVar,sizeOf,typeInfo,hq,hv,hsz,hrun]
  unfold Oper.wp execOp;simp only [hop,hx,hy,Instr.storeAt,Instr.sureAddr,Sem.run_bind,Sem.run_pure,Result.andThen_ok,hst,Oper.upon_skip,hd];refine h _ ?_ ?_
  · have key:∀ (vs:List Value) (o:Nat) (w:World),w.grownBy (w.setCells g o vs) (some g):=by
      intro vs
      induction vs with
      | nil=>intro o w;exact World.grownBy.refl _ _
      | cons v vs ih =>
        intro o w;rw [World.setCells];have h0:w.grownBy (w.setCell ⟨g,o,none⟩ v) (some g):=⟨rfl,rfl,rfl,by simp [World.setCell],fun k _ hk=>Below.heap_setCell w ⟨g,o,none⟩ v k (fun e=>hk (by rw [e]))⟩;exact qJ6 h0 (ih (o+1) _)
    exact key cells 0 w
  · have key:∀ (vs:List Value) (o:Nat) (w:World) (A:Array Value),w.heap[g]?=some (.cells A e (0,0))->o+vs.length<=A.size->(w.setCells g o vs).heap[g]?=some (.cells (A.toList.take o ++ vs ++ A.toList.drop (o+vs.length)).toArray e (0,0)):=by
      intro vs
      induction vs with
      | nil=>intro o w A hA _;rw [World.setCells];simpa using hA
      | cons v vs ih =>
        intro o w A hA hl;rw [World.setCells];simp only [bX3] at hl
        have h2:(w.setCell ⟨g,o,none⟩ v).heap[g]?=some (.cells (A.setIfInBounds o v) e (0,0)):=by
          simp [World.setCell,Array.getElem?_modify,hA]
        rw [ih (o+1) _ (A.setIfInBounds o v) h2 (by simp;omega)];have ho:o<A.toList.length:=by simp;omega
        congr 2
        simp only [Array.toList_setIfInBounds];rw [List.take_add_one,bQ3 ho,List.take_set_of_le (zB1 _),List.drop_set_of_lt (by omega)];simp [Nat.add_assoc,Nat.add_comm 1]
    have:=key cells 0 w cs hB (by omega)
    rw [this];simp [List.drop_of_length_le,<- hs]
theorem qE5 {fuel i:Nat} {listed:Array Bool} {a:Act} {w:World} {x:Operand} (v:Value) (hr:Region.ready .any ops listed=[i]) (ho:ops[i]?=some o) (hg:o.guard=none) (hop:o.op=.assign x) (hv:a.eval x=v) {d:Tmp} (hd:o.dst=some d) (h:∀ b,a.put (some d) v=b->wpAny P .any ops Q fuel (listed.setIfInBounds i true) b w):wpAny P .any ops Q (fuel+1) listed a w :=
 qL2 hr ho hg (yC6 v hop hv hd h)
theorem zH7 {fuel i:Nat} {listed:Array Bool} {a:Act} {w:World} {ty:TypeId} {x y:Operand} {g:Nat} {v:Value} {cells:List Value} {cs:Array Value} {e:TypeId} (hr:Region.ready .any ops listed=[i]) (ho:ops[i]?=some o) (hg:o.guard=none) (hd:o.dst=none) (hop:o.op=.store ty x y)
  (hx:a.eval x=.pointer (some ⟨g,0,none⟩)) (hy:a.eval y=v) (hv:v.cells=cells.toArray) (hB:w.heap[g]?=some (.cells cs e (0,0))) (hs:cs.size=cells.length) (hi:(P.info? ty).map (·.size)=some cells.length) (h1:∀ c∈cells,c.oneCell'=true)
  (h:∀ w',w.grownBy w' (some g)->w'.heap[g]?=some (.cells cells.toArray e (0,0))->wpAny P .any ops Q fuel (listed.setIfInBounds i true) a w'):wpAny P .any ops Q (fuel+1) listed a w :=
 qL2 hr ho hg (yC7 hd hop hx hy hv hB hs hi h1 h)
theorem qL3 {i:Nat} {rest:List Nat} {a:Act} {w:World} (ho:ops[i]?=some o) (hg:o.guard=none) (h:o.wp P a w (wpOps P ops Q rest) Q):wpOps P ops Q (i :: rest) a w:=by
 rw [wpOps_cons];unfold wpOp;rw [ho];simp only [];rw [if_pos (by unfold Region.wanted;rw [hg])];exact .inl h
theorem zC4 {a:Act} {w:World} (h:Q .normal a w):wpOps P ops Q [] a w:=h
theorem zQ4 {i:Nat} {rest:List Nat} {a:Act} {w:World} {x:Operand} (v:Value) (ho:ops[i]?=some o) (hg:o.guard=none) (hop:o.op=.assign x) (hv:a.eval x=v) {d:Tmp} (hd:o.dst=some d) (h:∀ b,a.put (some d) v=b->wpOps P ops Q rest b w):wpOps P ops Q (i :: rest) a w :=
 qL3 ho hg (yC6 v hop hv hd h)
theorem zH0 {i:Nat} {rest:List Nat} {a:Act} {w:World} {ty:TypeId} {x y:Operand} {g:Nat} {v:Value} {cells:List Value} {cs:Array Value} {e:TypeId} (ho:ops[i]?=some o) (hg:o.guard=none) (hd:o.dst=none) (hop:o.op=.store ty x y)
  (hx:a.eval x=.pointer (some ⟨g,0,none⟩)) (hy:a.eval y=v) (hv:v.cells=cells.toArray) (hB:w.heap[g]?=some (.cells cs e (0,0))) (hs:cs.size=cells.length) (hi:(P.info? ty).map (·.size)=some cells.length) (h1:∀ c∈cells,c.oneCell'=true)
  (h:∀ w',w.grownBy w' (some g)->w'.heap[g]?=some (.cells cells.toArray e (0,0))->wpOps P ops Q rest a w'):wpOps P ops Q (i :: rest) a w :=
 qL3 ho hg (yC7 hd hop hx hy hv hB hs hi h1 h)
end
theorem zG8 {x y:Value} (hx:x.oneCell'=true) (hy:y.oneCell'=true):∀ c∈[x,y],c.oneCell'=true:=by
 intro c hc;rcases List.mem_cons.1 hc with rfl|hc
 ·exact hx
 ·obtain rfl:=List.mem_singleton.1 hc;exact hy
theorem no_ints2 {k:IntKind} {b:Bool} {A:Option Addr} {n m:Nat}:∀ c∈(#[.bool b,.slice A n m]:Array Value),∀ i,c ≠ .int k i:=by
 intro c hc i;simp at hc;rcases hc with rfl|rfl<;>simp
theorem off {w w':World} {k:IntKind} {v:Value} {l:List Nat} {g:Nat} {e:TypeId} {cs:Array Value} (h:IsS w k v l) (hB:w.heap[g]?=some (.cells cs e (0,0))) (hno:∀ c∈cs,∀ n,c ≠ .int k n) (hg:w.grownBy w' (some g)):IsS w' k v l:=by
 obtain ⟨A,c,rfl,h1,h2,h3⟩:=h;refine ⟨A,c,rfl,h1,h2,?_⟩;intro i d hd;obtain ⟨ad,rfl,hc⟩:=h3 i d hd;refine ⟨ad,rfl,hg.cell hc ?_⟩;intro e1;injection e1 with e1
 have hcell:∀ p:Addr,p.block=g->w.cell? p=some (.int k (d:Int))->False:=by
  intro p hp hpc;unfold World.cell? at hpc;rw [hp,hB] at hpc;simp only [] at hpc
  split at hpc
  ·cases hpc
  ·exact hno _ (Array.mem_of_getElem? hpc) _ rfl
 exact hcell _ e1 hc
end flow
namespace whl
open Go.RowKit num mem nat txt str
def ngB (z:Int):Bool:=decide (z<0)
theorem yC8 {z:Int} (h:z<0):ngB z=true:=decide_eq_true h
theorem qE6 {z:Int} (h:¬ z<0):ngB z=false:=decide_eq_false h
theorem zO3 {z:Int} (h:ngB z=true):z<0:=of_decide_eq_true h
theorem zO9 {z:Int} (h:ngB z=false):¬ z<0:=of_decide_eq_false h
theorem yV:ngB 0=false:=rfl
def sg (b:Bool) (x:Nat):Int:=if b=true then -(x:Int) else x
theorem zV8 (x:Nat):sg true x = -(x:Int):=rfl
theorem zV9 (x:Nat):sg false x=(x:Int):=rfl
theorem zT9 (b:Bool) (x:Nat):(sg b x).natAbs=x:=by cases b<;>simp [sg]
theorem zW (z:Int):sg (ngB z) z.natAbs=z:=by
 rcases h:ngB z with _ | _
 ·have:=zO9 h;rw [zV9];omega
 ·have:=zO3 h;rw [zV8];omega
theorem qE7 {b:Bool} {x:Nat} (h:0<x):ngB (sg b x)=b:=by
 cases b
 ·exact qE6 (by rw [zV9];omega)
 ·exact yC8 (by rw [zV8];omega)
theorem qS0 (b:Bool):ngB (sg b 0)=false:=by cases b<;>rfl
def zJ3 (x y:Int):Int:=if x<y then -1 else if y<x then 1 else 0
theorem qE8 {x y:Int} (h:x<y):zJ3 x y = -1:=if_pos h
theorem qE9 {x y:Int} (h:y<x):zJ3 x y=1:=by unfold zJ3;rw [if_neg (by omega),if_pos h]
theorem ordz_eq {x y:Int} (h:x=y):zJ3 x y=0:=by unfold zJ3;rw [if_neg (by omega),if_neg (by omega)]
def zC5 (z:Int):Nat:=(digs 4294967296 z.natAbs).length
theorem yV0 {x y:Int} (h:x.natAbs<=y.natAbs):zC5 x<=zC5 y:=zG7 (by omega) h
theorem yV1 (x y:Int):zC5 (x+y)<=zC5 x+zC5 y+1 :=
 zB2 (zG7 (by omega) (show (x+y).natAbs<=x.natAbs+y.natAbs by omega)) (yA6 _ _)
theorem yC9 (x:Int):zC5 (-x)=zC5 x:=by unfold zC5;rw [Int.natAbs_neg]
theorem qA4 (x y:Int):zC5 (x*y)<=zC5 x+zC5 y:=by
 unfold zC5;rw [Int.natAbs_mul];exact zT6 _ _
theorem qA5 (x:Int):(digs 10000 x.natAbs).length<=3*zC5 x:=zY1 _
theorem yD:zC5 0=0:=by unfold zC5;rw [Int.natAbs_zero,zI9];rfl
def IsZ (w:World) (v:Value) (z:Int):Prop:=∃ u,v=.agg #[.bool (ngB z),u]/\IsS w .u64 u (digs 4294967296 z.natAbs)
def IsR (w:World) (v:Value) (z:Int):Prop:=∃ u,v=.agg #[.bool (ngB z),u]/\IsS w .i64 u (digs 10000 z.natAbs)
def zQ5 (B:Nat) (v:Value):Prop:=∀ n u,v=.agg #[.bool n,u]->zE1 B u
theorem IsZ.bQ {w w':World} {v:Value} {z:Int} (h:IsZ w v z) (hb:Below w.heap.size w w'):IsZ w' v z:=by
 obtain ⟨u,e,h1⟩:=h;exact ⟨u,e,h1.bQ hb⟩
theorem IsR.bQ {w w':World} {v:Value} {z:Int} (h:IsR w v z) (hb:Below w.heap.size w w'):IsR w' v z:=by
 obtain ⟨u,e,h1⟩:=h;exact ⟨u,e,h1.bQ hb⟩
theorem IsZ.drew {w:World} {v:Value} {z:Int} (h:IsZ w v z):IsZ w.drew v z:=by
 obtain ⟨u,e,h1⟩:=h;exact ⟨u,e,h1.drew⟩
theorem IsR.drew {w:World} {v:Value} {z:Int} (h:IsR w v z):IsR w.drew v z:=by
 obtain ⟨u,e,h1⟩:=h;exact ⟨u,e,h1.drew⟩
theorem zQ5.mono {B B':Nat} {v:Value} (h:zQ5 B v) (hb:B'<=B):zQ5 B' v:=fun n u e=>(h n u e).mono hb
theorem zG9 {w:World} {u:Value} {z:Int} {x:Nat} {b:Bool} (h:IsS w .u64 u (digs 4294967296 x)) (hx:z.natAbs=x) (hb:b=ngB z):IsZ w (.agg #[.bool b,u]) z:=by
 subst hx;subst hb;exact ⟨u,rfl,h⟩
theorem zH3 {w:World} {u:Value} {z:Int} {x:Nat} {b:Bool} (h:IsS w .i64 u (digs 10000 x)) (hx:z.natAbs=x) (hb:b=ngB z):IsR w (.agg #[.bool b,u]) z:=by
 subst hx;subst hb;exact ⟨u,rfl,h⟩
theorem zL7 {B:Nat} {b:Bool} {u:Value} (h:zE1 B u):zQ5 B (.agg #[.bool b,u]):=by
 intro n u' e;injection e with e;have e1:=congrArg (fun a=>a[1]?) e;simp at e1;subst e1;exact h
def zF6 (z:Int) (w:World) (e:Ending) (w':World):Prop:=∃ v,e=.returned v/\IsZ w' v z/\zQ5 w.heap.size v/\Below w.heap.size w w'
def zR4 (z:Int) (w:World) (e:Ending) (w':World):Prop:=∃ v,e=.returned v/\IsR w' v z/\Below w.heap.size w w'
def qL4 (z:Int) (n:Int) (w:World) (e:Ending) (w':World):Prop:=∃ v,e=.returned (.tuple #[v,.int .i64 n])/\IsZ w' v z/\zQ5 w.heap.size v/\Below w.heap.size w w'
def Blk (w:World) (g:Nat) (t:TypeId) (cs:Array Value):Prop:=w.heap[g]?=some (.cells cs t (0,0))
theorem Blk.lt {w:World} {g:Nat} {t:TypeId} {cs:Array Value} (h:Blk w g t cs):g<w.heap.size:=(Array.getElem?_eq_some_iff.1 h).1
theorem Blk.cell {w:World} {g:Nat} {t:TypeId} {cs:Array Value} (h:Blk w g t cs) (i:Nat):w.cell? ⟨g,i,none⟩=cs[i]?:=cell_of_row w g i cs t (0,0) h
theorem Blk.frozen {w:World} {g:Nat} {t:TypeId} {cs:Array Value} (h:Blk w g t cs) (i:Nat):w.frozen? ⟨g,i,none⟩=false:=by
 unfold Blk at h;simp [World.frozen?,h]
theorem Blk.new (w:World) (t:TypeId) (cs:Array Value):Blk (w.alloc (.cells cs t)) w.heap.size t cs:=heap_alloc_new w _
theorem Blk.alloc {w:World} {g:Nat} {t:TypeId} {cs:Array Value} (h:Blk w g t cs) (o:Obj):Blk (w.alloc o) g t cs:=(Below.heap_alloc w o g h.lt).trans h
theorem Blk.drew {w:World} {g:Nat} {t:TypeId} {cs:Array Value} (h:Blk w g t cs):Blk w.drew g t cs:=h
theorem Blk.bQ {w w':World} {g:Nat} {t:TypeId} {cs:Array Value} (h:Blk w g t cs) (hb:Below w.heap.size w w'):Blk w' g t cs:=(hb.block g h.lt).trans h
theorem Blk.grown {w w':World} {g g':Nat} {t:TypeId} {cs:Array Value} (h:Blk w g t cs) (hb:w.grownBy w' (some g')) (hne:g≠g'):Blk w' g t cs:=(hb.block g h.lt (fun e=>hne (by injection e))).trans h
theorem Blk.two {w:World} {g:Nat} {t:TypeId} {x y:Value} (h:Blk w g t #[x,y]):w.cell? ⟨g,0,none⟩=some x/\w.cell? ⟨g,1,none⟩=some y/\w.frozen? ⟨g,0,none⟩=false/\w.frozen? ⟨g,1,none⟩=false :=
 ⟨h.cell 0,h.cell 1,h.frozen 0,h.frozen 1⟩
theorem zY6 {w w2:World} {b:Bool} {u x y:Value} {z:Int} {g B:Nat} (hb:Below w.heap.size w w2) (hg:w.heap.size<=g) (hgB:g<B) (hu:IsS w2 .u64 u (digs 4294967296 z.natAbs)) (hf:zE1 B u) (hz:b=ngB z) :
  zF6 z w (.returned (.agg #[.bool b,u])) ((w2.setCell ⟨g,0,none⟩ x).setCell ⟨g,1,none⟩ y):=by
 subst hz;exact ⟨_,rfl,⟨u,rfl,(hu.setCell hf hgB _).setCell hf hgB _⟩,zL7 (hf.mono (by omega)),(hb.setCell hg _).setCell hg _⟩
open flow
def pz (z:Int) (B:Nat):Pd:=⟨fun w v=>IsZ w v z/\zQ5 B v,fun h hb=>⟨h.1.bQ hb,h.2⟩⟩
def pr (z:Int):Pd:=⟨fun w v=>IsR w v z,fun h hb=>h.bQ hb⟩
def pi (z:Int):Pd:=⟨fun w v=>IsZ w v z,fun h hb=>h.bQ hb⟩
def ps (k:IntKind) (l:List Nat) (B:Nat):Pd:=⟨fun w v=>IsS w k v l/\zE1 B v,fun h hb=>⟨h.1.bQ hb,h.2⟩⟩
theorem zD1.pd {k:IntKind} {l:List Nat} {w:World} {e:Ending} {w':World} {B:Nat} (h:zD1 k l w e w') (hB:B<=w.heap.size):zH9 (ps k l B) w e w':=by
 obtain ⟨v,rfl,h1,h2,h3⟩:=h;exact ⟨v,rfl,⟨h1,h2.mono hB⟩,h3⟩
theorem zF6.pd {z:Int} {w:World} {e:Ending} {w':World} {B:Nat} (h:zF6 z w e w') (hB:B<=w.heap.size):zH9 (pz z B) w e w':=by
 obtain ⟨v,rfl,h1,h2,h3⟩:=h;exact ⟨v,rfl,⟨h1,h2.mono hB⟩,h3⟩
theorem zR4.pd {z:Int} {w:World} {e:Ending} {w':World} (h:zR4 z w e w'):zH9 (pr z) w e w':=h
def pt (k:IntKind) (l:List Nat) (n:Int) (B:Nat):Pd:=⟨fun w t => ∃ v,t=.tuple #[v,.int .i64 n]/\IsS w k v l/\zE1 B v,fun h hb=>by obtain ⟨v,e,h1,h2⟩:=h;exact ⟨v,e,h1.bQ hb,h2⟩⟩
def pt2 (k:IntKind) (l m:List Nat) (B:Nat):Pd:=⟨fun w t => ∃ v u,t=.tuple #[v,u]/\IsS w k v l/\IsS w k u m/\zE1 B v/\zE1 B u,fun h hb=>by obtain ⟨v,u,e,h1,h2,h3⟩:=h;exact ⟨v,u,e,h1.bQ hb,h2.bQ hb,h3⟩⟩
theorem zO.pd {k:IntKind} {l:List Nat} {n:Int} {w:World} {e:Ending} {w':World} {B:Nat} (h:zO k l n w e w') (hB:B<=w.heap.size):zH9 (pt k l n B) w e w':=by
 obtain ⟨v,rfl,h1,h2,h3⟩:=h;exact ⟨_,rfl,⟨v,rfl,h1,h2.mono hB⟩,h3⟩
theorem zT4.pd {k:IntKind} {l m:List Nat} {w:World} {e:Ending} {w':World} {B:Nat} (h:zT4 k l m w e w') (hB:B<=w.heap.size):zH9 (pt2 k l m B) w e w':=by
 obtain ⟨v,u,rfl,h1,h2,h3,h4,h5⟩:=h;exact ⟨_,rfl,⟨v,u,rfl,h1,h2,h3.mono hB,h4.mono hB⟩,h5⟩
theorem zD3.pd {u:Value} {w:World} {e:Ending} {w':World} (h:zD3 u w e w'):zH9 (Pd.eq u) w e w':=⟨u,h.1,rfl,h.2⟩
end whl
namespace rat
open Go.RowKit num mem nat txt str flow whl
theorem yD0 (z:Int) (g:Nat) (hg:0<g) (h:g∣z.natAbs):(z / (g:Int)).natAbs=z.natAbs / g/\(z / (g:Int)<0 ↔ z<0):=by
 obtain ⟨k,hk⟩:(g:Int)∣z:=Int.dvd_natAbs.1 (Int.natCast_dvd_natCast.2 h);have hg2:(g:Int)≠0:=by omega
 rw [hk,Int.mul_ediv_cancel_left _ hg2,Int.natAbs_mul,Int.natAbs_natCast,Nat.mul_div_cancel_left _ hg];refine ⟨rfl,?_⟩;have hg3:(0:Int)<g:=by omega
 constructor
 ·intro hk0;exact Int.mul_neg_of_pos_of_neg hg3 hk0
 ·intro hk0;rcases (by omega:k<0\/0<=k) with h1 | h1
  ·exact h1
  ·have:=Int.mul_nonneg (Int.le_of_lt hg3) h1
   omega
theorem yD1 (z:Int) {d:Nat} (hd:d≠0):(mkRat z d).num.natAbs=z.natAbs / z.natAbs.gcd d:=by
 rw [Rat.num_mkRat,if_neg hd,Nat.gcd_comm];exact (yD0 z _ (Nat.gcd_pos_of_pos_right _ (by omega)) (Nat.gcd_dvd_left _ _)).1
theorem mk_neg (z:Int) {d:Nat} (hd:d≠0):ngB (mkRat z d).num=ngB z:=by
 rw [Rat.num_mkRat,if_neg hd,Nat.gcd_comm];unfold ngB;rw [decide_eq_decide];exact (yD0 z _ (Nat.gcd_pos_of_pos_right _ (by omega)) (Nat.gcd_dvd_left _ _)).2
theorem zW0 (z:Int) {d:Nat} (hd:d≠0):(mkRat z d).den=d / z.natAbs.gcd d:=by
 rw [Rat.den_mkRat,if_neg hd,Nat.gcd_comm]
theorem den_pos (q:Rat):0<q.den:=Nat.pos_of_ne_zero q.den_nz
theorem zW1 {q:Rat} (h:q≠0):(q⁻¹).num=sg (ngB q.num) q.den/\(q⁻¹).den=q.num.natAbs:=by
 have hn:q.num≠0:=fun e=>h (Rat.num_eq_zero.1 e);rw [Rat.num_inv,Rat.den_inv,if_neg hn];refine ⟨?_,rfl⟩;unfold sg ngB;rcases Int.lt_or_gt_of_ne hn with h1 | h1
 ·rw [Int.sign_eq_neg_one_of_neg h1,if_pos (decide_eq_true h1)];omega
 ·rw [Int.sign_eq_one_of_pos h1,if_neg (by rw [decide_eq_true_eq];omega)];omega
theorem zW2 (q:Rat):(-q).num = -q.num/\(-q).den=q.den:=⟨Rat.neg_num q,Rat.neg_den q⟩
theorem yV2 {n d:Int} (h:d<0):Rat.divInt n d=mkRat (-n) d.natAbs:=by
 rw [<- Rat.neg_divInt_neg,show -d=((d.natAbs:Nat):Int) by omega,Rat.divInt_ofNat]
theorem yV3 {n d:Int} (h:0<d):Rat.divInt n d=mkRat n d.natAbs:=by
 conv=>lhs;rw [show d=((d.natAbs:Nat):Int) by omega,Rat.divInt_ofNat]
def zC2 (q:Rat) (m:Nat):Prop:=zC5 q.num<=m/\(digs 4294967296 q.den).length<=m
theorem zC2.mono {q:Rat} {m n:Nat} (h:zC2 q m) (hn:m<=n):zC2 q n:=⟨zB2 h.1 hn,zB2 h.2 hn⟩
theorem zU {z:Int} {d m:Nat} (hd:d≠0) (hz:zC5 z<=m) (hl:(digs 4294967296 d).length<=m):zC2 (mkRat z d) m:=by
 refine ⟨zB2 (yV0 ?_) hz,zB2 (zG7 (by omega) ?_) hl⟩
 ·rw [yD1 z hd];exact Nat.div_le_self _ _
 ·rw [zW0 z hd];exact Nat.div_le_self _ _
theorem zL8 (d:Nat):zC5 (d:Int)=(digs 4294967296 d).length:=by unfold zC5;rw [Int.natAbs_natCast]
theorem qA6 {x y:Rat} {m n:Nat} (h:zC2 x m) (h':zC2 y n):zC2 (x*y) (m+n):=by
 rw [Rat.mul_def'];have e1:=qA4 x.num y.num;have e4:=qA4 x.den y.den;have h1:=h.1;have h2:=h.2;have h3:=h'.1;have h4:=h'.2;rw [zL8,zL8,<- Int.natCast_mul,zL8] at e4;exact zU (Nat.mul_ne_zero x.den_nz y.den_nz) (by omega) (by omega)
theorem yD2 {q:Rat} {m:Nat} (hq:q≠0) (h:zC2 q m):zC2 q⁻¹ m:=by
 unfold zC2 zC5;rw [(zW1 hq).1,(zW1 hq).2,zT9];exact ⟨h.2,h.1⟩
theorem qL5 {q:Rat} {m:Nat} (h:zC2 q m):zC2 (-q) m:=by
 unfold zC2;rw [(zW2 q).1,(zW2 q).2,yC9];exact h
def IsQ (w:World) (v:Value) (q:Rat):Prop:=∃ u t,v=.agg #[.bool (ngB q.num),u,t]/\IsS w .u64 u (digs 4294967296 q.num.natAbs)/\IsS w .u64 t (digs 4294967296 q.den)
def IsP (w:World) (v:Value) (q:Rat):Prop:=∃ u t,v=.agg #[.bool (ngB q.num),u,t]/\IsS w .i64 u (digs 10000 q.num.natAbs)/\IsS w .i64 t (digs 10000 q.den)
def zR5 (B:Nat) (v:Value):Prop:=∀ n u t,v=.agg #[.bool n,u,t]->zE1 B u/\zE1 B t
theorem IsQ.bQ {w w':World} {v:Value} {q:Rat} (h:IsQ w v q) (hb:Below w.heap.size w w'):IsQ w' v q:=by
 obtain ⟨u,t,e,h1,h2⟩:=h;exact ⟨u,t,e,h1.bQ hb,h2.bQ hb⟩
theorem IsP.bQ {w w':World} {v:Value} {q:Rat} (h:IsP w v q) (hb:Below w.heap.size w w'):IsP w' v q:=by
 obtain ⟨u,t,e,h1,h2⟩:=h;exact ⟨u,t,e,h1.bQ hb,h2.bQ hb⟩
theorem zW3 {w:World} {b:Bool} {u t:Value} {x d:Nat} {q:Rat} (h:IsS w .u64 u (digs 4294967296 x)) (k:IsS w .u64 t (digs 4294967296 d)) (hb:b=ngB q.num) (hx:q.num.natAbs=x) (hd:q.den=d):IsQ w (.agg #[.bool b,u,t]) q:=by
 subst hb;subst hx;subst hd;exact ⟨u,t,rfl,h,k⟩
theorem qS1 {w:World} {b:Bool} {u t:Value} {x d:Nat} {q:Rat} (h:IsS w .i64 u (digs 10000 x)) (k:IsS w .i64 t (digs 10000 d)) (hb:b=ngB q.num) (hx:q.num.natAbs=x) (hd:q.den=d):IsP w (.agg #[.bool b,u,t]) q:=by
 subst hb;subst hx;subst hd;exact ⟨u,t,rfl,h,k⟩
end rat
namespace whl
open Go.RowKit num mem nat txt str
def RetSg (b:Bool) (x:Nat) (u:Value) (w:World) (e:Ending) (w':World):Prop:=e=.returned (.agg #[.bool (ngB (sg b x)),u])/\Below w.heap.size w w'
theorem qA7 {b c:Bool} {u:Value} (h:b=c):Ending.returned (.agg #[.bool b,u])=.returned (.agg #[.bool c,u]):=by rw [h]
theorem qF (b:Bool) (u:Value) (x:Nat) (w:World) (h:IsS w .u64 u (digs 4294967296 x)) :
  Calls prog 105 #[.bool b,u] w (RetSg b x u w):=by
 obtain ⟨A,c,rfl,_⟩:=h;by_cases hx:0<x
 ·have hn:0<(digs 4294967296 x).length:=qE1 hx;have HE:=hQ9 (qE7 (b:=b) hx)
  generalize (digs 4294967296 x).length=n at hn |-
  cases b
  ·go_enter func105,ntmps105
   go_wp2;exact bodyPost_ret (v:=.agg #[.bool false,.slice A n c]) (by simp [results,results105,go_sem]) rfl ⟨qA7 HE.out.symm,zC6 (zB1 _) _⟩
  ·go_enter func105,ntmps105
   go_wp2;exact bodyPost_ret (v:=.agg #[.bool true,.slice A n c]) (by simp [results,results105,go_sem]) rfl ⟨qA7 HE.out.symm,zC6 (zB1 _) _⟩
 ·obtain rfl:x=0:=by omega
  have HE:=hQ9 (qS0 b);rw [zI9];cases b
  all_goals
   go_enter func105,ntmps105
   go_wp2;exact bodyPost_ret (v:=.agg #[.bool false,.slice A 0 c]) (by simp [results,results105,go_sem]) rfl ⟨qA7 HE.out.symm,zC6 (zB1 _) _⟩
theorem yD3 (b:Bool) (u:Value) (x:Nat) (w:World) (h:IsS w .i64 u (digs 10000 x)) :
  Calls prog 135 #[.bool b,u] w (RetSg b x u w):=by
 obtain ⟨A,c,rfl,_⟩:=h;by_cases hx:0<x
 ·have hn:0<(digs 10000 x).length:=rlenp hx;have HE:=hQ9 (qE7 (b:=b) hx)
  generalize (digs 10000 x).length=n at hn |-
  cases b
  ·go_enter func135,ntmps135
   go_wp2;exact bodyPost_ret (v:=.agg #[.bool false,.slice A n c]) (by simp [results,results135,go_sem]) rfl ⟨qA7 HE.out.symm,zC6 (zB1 _) _⟩
  ·go_enter func135,ntmps135
   go_wp2;exact bodyPost_ret (v:=.agg #[.bool true,.slice A n c]) (by simp [results,results135,go_sem]) rfl ⟨qA7 HE.out.symm,zC6 (zB1 _) _⟩
 ·obtain rfl:x=0:=by omega
  have HE:=hQ9 (qS0 b);rw [zI9];cases b
  all_goals
   go_enter func135,ntmps135
   go_wp2;exact bodyPost_ret (v:=.agg #[.bool false,.slice A 0 c]) (by simp [results,results135,go_sem]) rfl ⟨qA7 HE.out.symm,zC6 (zB1 _) _⟩
theorem qF0 (v:Value) (z t:Int) (w:World) (h:IsZ w v z) (ht:t=zJ3 z 0) :
  Calls prog 74 #[v] w (zD3 (.int .i64 t) w):=by
 obtain ⟨u,rfl,A,c,rfl,_⟩:=h;rcases Int.lt_trichotomy z 0 with h | h | h
 ·have h1:t = -1:=by rw [ht];exact qE8 h
  have hn:0<(digs 4294967296 z.natAbs).length:=qE1 (by omega);rw [yC8 h];subst h1;clear ht
  generalize (digs 4294967296 z.natAbs).length=n at hn |-
  have hn1:((n:Int) == 0)=false:=by rw [beq_eq_false_iff_ne];omega
  go_enter func74,ntmps74
  go_wp2;go_ret;exact ⟨rfl,zC6 (zB1 _) _⟩
 ·have h1:t=0:=by rw [ht];exact ordz_eq h
  subst h;subst h1;clear ht;rw [yV,Int.natAbs_zero,zI9]
  go_enter func74,ntmps74
  go_wp2;go_ret;exact ⟨rfl,zC6 (zB1 _) _⟩
 ·have h1:t=1:=by rw [ht];exact qE9 h
  have hn:0<(digs 4294967296 z.natAbs).length:=qE1 (by omega);rw [qE6 (by omega)];subst h1;clear ht
  generalize (digs 4294967296 z.natAbs).length=n at hn |-
  have hn1:((n:Int) == 0)=false:=by rw [beq_eq_false_iff_ne];omega
  go_enter func74,ntmps74
  go_wp2;go_ret;exact ⟨rfl,zC6 (zB1 _) _⟩
theorem made_any (b:Bool) (v:Value) (x:Nat) (z:Int) (w:World) (h:IsS w .u64 v (digs 4294967296 x)) (hl:(digs 4294967296 x).length<=1000000) (hz:z=sg b x) :
  Calls prog 57 #[.bool b,v] w (zF6 z w):=by
 have HZ:=hQ9 hz;clear hz
 go_enter func57,ntmps57;go_wp2_with fail
 refine (zV3 _ _ _ (h.bQ (zC6 (zB1 _) _)) hl).mono ?_;rintro e w1 ⟨v1,rfl,k1,f1,b1⟩;obtain ⟨A1,C1,rfl,_⟩:=id k1;go_wp2_with fail
 refine (qF b _ x _ k1).mono ?_;rintro e w2 ⟨rfl,b2⟩;have B2:=((Blk.new w 60 #[.bool false,.slice none 0 0]).bQ b1).bQ b2;obtain ⟨c0,c1,g0,g1⟩:=B2.two;go_wp2
 exact bodyPost_ret (v:=.agg #[.bool (ngB (sg b x)),.slice A1 (digs 4294967296 x).length C1]) (by simp [results,results57,go_sem,c0,c1]) rfl (by
  rw [HZ.out];exact zY6 (((zC6 (zB1 _) _).trans (b1.mono (by simp))).trans (b2.mono (by have:=b1.size;simp at this;omega))) (zB1 _) (by simp) (by rw [zT9];exact k1.bQ b2) f1 rfl)
end whl
namespace whl
open Go.RowKit num mem nat txt str flow
theorem yD4 (v u:Value) (x y:Nat) (z:Int) (w:World) (h:IsS w .u64 v (digs 4294967296 x)) (h':IsS w .u64 u (digs 4294967296 y)) (hl:(digs 4294967296 x).length<=1000000) (hl':(digs 4294967296 y).length<=1000000) (hz:z=(x:Int)-(y:Int)) :
  Calls prog 193 #[v,u] w (zF6 z w):=by
 have H0:=h.bQ (zC6 (zB1 _) (.cells #[.bool false,.slice none 0 0] 60));have H0':=h'.bQ (zC6 (zB1 _) (.cells #[.bool false,.slice none 0 0] 60));rcases Nat.lt_or_ge x y with hxy | hxy
 ·have HZ:Hid (z=sg true (y-x)):=by show _=_;rw [hz,zV8];omega
  have HA:Hid (z.natAbs=y-x):=by show _=_;omega
  clear hz
  go_enter func193,ntmps193;go_wp2_with fail
  refine (yS1 _ _ x y _ H0 H0' hxy).mono ?_;rintro e w1 ⟨v1,rfl,k1,f1,b1⟩;obtain ⟨A1,C1,rfl,_⟩:=id k1;go_wp2_with fail
  refine (qD8 _ _ y x _ (H0'.bQ b1) (H0.bQ b1) hl' (by omega) (y-x) rfl).mono ?_;rintro e w2 ⟨v2,rfl,k2,f2,b2⟩;obtain ⟨A2,C2,rfl,_⟩:=id k2;go_wp2_with fail
  refine (qF true _ (y-x) _ k2).mono ?_;rintro e w3 ⟨rfl,b3⟩;have B2:=(((Blk.new w 60 #[.bool false,.slice none 0 0]).bQ b1).bQ b2).bQ b3;obtain ⟨c0,c1,g0,g1⟩:=B2.two;have bb1:=(zC6 (zB1 w.heap.size) (.cells #[.bool false,.slice none 0 0] 60)).trans (b1.mono (by simp));have bb2:=bb1.trans (b2.mono bb1.size);have bb3:=bb2.trans (b3.mono bb2.size);have hs:=b1.size;go_wp2;exact bodyPost_ret (v:=.agg #[.bool (ngB (sg true (y-x))),.slice A2 (digs 4294967296 (y-x)).length C2]) (by simp [results,results193,go_sem,c0,c1]) rfl (zY6 bb3 (zB1 _) (bY2 (by simp) hs) (by rw [HA.out];exact k2.bQ b3) f2 (by rw [HZ.out]))
 ·have HZ:Hid (z=sg false (x-y)):=by show _=_;rw [hz,zV9];omega
  have HA:Hid (z.natAbs=x-y):=by show _=_;omega
  clear hz
  go_enter func193,ntmps193;go_wp2_with fail
  refine (qD8 _ _ x y _ H0 H0' hl hxy (x-y) rfl).mono ?_;rintro e w2 ⟨v2,rfl,k2,f2,b2⟩;obtain ⟨A2,C2,rfl,_⟩:=id k2;go_wp2_with fail
  refine (qF false _ (x-y) _ k2).mono ?_;rintro e w3 ⟨rfl,b3⟩;have B2:=((Blk.new w 60 #[.bool false,.slice none 0 0]).bQ b2).bQ b3;obtain ⟨c0,c1,g0,g1⟩:=B2.two;have bb2:=(zC6 (zB1 w.heap.size) (.cells #[.bool false,.slice none 0 0] 60)).trans (b2.mono (by simp));have bb3:=bb2.trans (b3.mono bb2.size);go_wp2;exact bodyPost_ret (v:=.agg #[.bool (ngB (sg false (x-y))),.slice A2 (digs 4294967296 (x-y)).length C2]) (by simp [results,results193,go_sem,c0,c1]) rfl (zY6 bb3 (zB1 _) (by simp) (by rw [HA.out];exact k2.bQ b3) f2 (by rw [HZ.out]))
theorem qS2 (x y:Int):sg (!(ngB x == ngB y)) (x.natAbs*y.natAbs)=x*y:=by
 have e:∀ z:Int,z=sg (ngB z) z.natAbs:=fun z=>(zW z).symm
 conv=>rhs;rw [e x,e y]
 cases ngB x<;>cases ngB y<;>simp [sg,Int.neg_mul,Int.mul_neg]
theorem zK1 (w:World) (t1 t2 t3:TypeId) (x y z:Array Value):∃ wx,((w.alloc (.cells x t1)).alloc (.cells y t2)).alloc (.cells z t3)=wx/\Below w.heap.size w wx/\Blk wx w.heap.size t1 x/\Blk wx (w.heap.size+1) t2 y/\Blk wx (w.heap.size+1+1) t3 z/\w.heap.size+1+1<wx.heap.size:=by
 refine ⟨_,rfl,((zC6 (zB1 _) _).alloc (by simp) _).alloc (by simp;omega) _,((Blk.new w t1 x).alloc _).alloc _,?_,?_,by simp⟩
 ·have:=(Blk.new (w.alloc (.cells x t1)) t2 y).alloc (.cells z t3)
  simpa using this
 ·have:=Blk.new ((w.alloc (.cells x t1)).alloc (.cells y t2)) t3 z
  simpa using this
theorem qF1 (v u:Value) (x y z:Int) (w:World) (h:IsZ w v x) (h':IsZ w u y) (hl:zC5 x<=100000) (hl':zC5 y<=100000) (hz:z=x*y) :
  Calls prog 56 #[v,u] w (zF6 z w):=by
 obtain ⟨ua,rfl,ha⟩:=h;obtain ⟨ub,rfl,hb⟩:=h';obtain ⟨A,ca,rfl,_⟩:=id ha;obtain ⟨B,cb,rfl,_⟩:=id hb;unfold zC5 at hl hl';have HA:Hid (z.natAbs=x.natAbs*y.natAbs):=by show _=_;rw [hz,Int.natAbs_mul]
 have HZ:Hid (sg (!(ngB x == ngB y)) (x.natAbs*y.natAbs)=z):=by show _=_;rw [hz];exact qS2 x y
 clear hz
 go_enter func56,ntmps56
 go_wp2;obtain ⟨wx,hwx,bb,B0,B1,B2,hsz⟩:=zK1 w 60 60 60 #[.bool (ngB x),.slice A (digs 4294967296 x.natAbs).length ca] #[.bool (ngB y),.slice B (digs 4294967296 y.natAbs).length cb] #[.bool false,.slice none 0 0];rw [hwx];have hax:=ha.bQ bb;have hbx:=hb.bQ bb;clear hwx;refine flow 11 [Pd.eq (.pointer (some ⟨w.heap.size,0,none⟩)),Pd.eq (.bool (ngB x)),Pd.eq (.pointer (some ⟨w.heap.size+1,0,none⟩)),Pd.eq (.bool (ngB y)),Pd.eq (.bool (!(ngB x == ngB y))),Pd.eq (.pointer (some ⟨w.heap.size,1,none⟩)),Pd.eq (.slice A (digs 4294967296 x.natAbs).length ca),Pd.eq (.pointer (some ⟨w.heap.size+1,1,none⟩)),Pd.eq (.slice B (digs 4294967296 y.natAbs).length cb),ps .u64 (digs 4294967296 (x.natAbs*y.natAbs)) wx.heap.size,pz z wx.heap.size] (by kernel_rfl) (by kernel_rfl) ?ob ?done
 case ob =>
  refine zA (zB9 rfl (zB3 rfl) (zB5 rfl rfl) (fun _=>by kernel_rfl) (fun _=>rfl)) ?_;refine zA (zB7 rfl (zB3 rfl) (zB4 (j:=0) (by kernel_rfl) rfl rfl) (fun w' hb=>zC1 underlying4 rfl ((B0.drew.bQ hb).cell 0)) (fun _ _=>rfl)) ?_;refine zA (zB9 rfl (zB3 rfl) (zB5 rfl rfl) (fun _=>by kernel_rfl) (fun _=>rfl)) ?_;refine zA (zB7 rfl (zB3 rfl) (zB4 (j:=2) (by kernel_rfl) rfl rfl) (fun w' hb=>zC1 underlying4 rfl ((B1.drew.bQ hb).cell 0)) (fun _ _=>rfl)) ?_;refine zA (zE6 rfl (zB3 rfl) (zB4 (j:=1) (by kernel_rfl) rfl rfl) (zB4 (j:=3) (by kernel_rfl) rfl rfl) (fun w' u u' hu hu'=>⟨_,by rw [hu,hu'];exact qL1 _ _ _ _ underlying4 _,rfl⟩)) ?_;refine zA (zB9 rfl (zB3 rfl) (zB5 rfl rfl) (fun _=>by kernel_rfl) (fun _=>rfl)) ?_;refine zA (zB7 rfl (zB3 rfl) (zB4 (j:=5) (by kernel_rfl) rfl rfl) (fun w' hb=>zC1 underlying50 rfl ((B0.drew.bQ hb).cell 1)) (fun _ _=>rfl)) ?_;refine zA (zB9 rfl (zB3 rfl) (zB5 rfl rfl) (fun _=>by kernel_rfl) (fun _=>rfl)) ?_;refine zA (zB7 rfl (zB3 rfl) (zB4 (j:=7) (by kernel_rfl) rfl rfl) (fun w' hb=>zC1 underlying50 rfl ((B1.drew.bQ hb).cell 1)) (fun _ _=>rfl)) ?_;refine zA (zC7 rfl func103 (by kernel_rfl) (zB3 rfl) (zB4 (j:=6) (by kernel_rfl) rfl rfl) (zB4 (j:=8) (by kernel_rfl) rfl rfl) (fun w' u v hb h1 h2 => ?_)) ?_
  ·obtain rfl:=h1;obtain rfl:=h2;exact (mul_any _ _ _ _ _ (hax.drew.bQ hb) (hbx.drew.bQ hb) hl hl' _ rfl).mono fun e w'' h=>zD1.pd h hb.size
  refine zA (zC7 rfl func105 (by kernel_rfl) (zB3 rfl) (zB4 (j:=4) (by kernel_rfl) rfl rfl) (zB4 (j:=9) (by kernel_rfl) rfl rfl) (fun w' u v hb h1 h2 => ?_)) ?_
  ·obtain rfl:=h1;exact (qF _ v _ _ h2.1).mono fun e w'' h=>⟨_,h.1,⟨zG9 (h2.1.bQ h.2) HA.out (by rw [HZ.out]),zL7 h2.2⟩,h.2⟩
  trivial
 case done =>
  refine fun w' hb v0 h0 v1 h1 v2 h2 v3 h3 v4 h4 v5 h5 v6 h6 v7 h7 v8 h8 v9 h9 v10 h10 b hbf => ?_;simp only [Act.put,zA0,zA2,zA1] at hbf;subst hbf;obtain rfl:=h0;obtain rfl:=h1;obtain rfl:=h2;obtain rfl:=h3;obtain rfl:=h4;obtain rfl:=h5;obtain rfl:=h6;obtain rfl:=h7;obtain rfl:=h8;obtain ⟨⟨u10,rfl,k10⟩,f10⟩:=h10;obtain ⟨A10,c10,rfl,_⟩:=id k10;have B3:=B2.bQ hb;refine zH7 (i:=11) (by kernel_rfl) rfl rfl rfl rfl rfl rfl (cells:=[.bool (ngB z),.slice A10 (digs 4294967296 z.natAbs).length c10]) rfl B3 rfl (by kernel_rfl) (zG8 rfl rfl) fun w2 hg2 B4 => ?_;have k11:=off k10 B3 no_ints2 hg2;have f11:=(f10 _ _ rfl).mono (show w.heap.size<=wx.heap.size from bb.size);have bb2:=((bb.trans (hb.mono bb.size)).trans ((Below.refl _ _).grown hg2 (zB2 bb.size hb.size) (fun g hg=>by injection hg with hg;omega)));obtain ⟨c0,c1,_,_⟩:=Blk.two B4;refine zG (by kernel_rfl) ?_;go_wp2;exact bodyPost_ret (v:=.agg #[.bool (ngB z),.slice A10 (digs 4294967296 z.natAbs).length c10]) (by simp [results,results56,go_sem,c0,c1]) rfl ⟨_,rfl,zG9 k11 rfl rfl,zL7 f11,bb2⟩
theorem qS3 (x:Int):sg (!(ngB x)) x.natAbs = -x:=by
 conv=>rhs;rw [<- zW x]
 cases ngB x<;>simp [sg]
theorem qF2 (b:Bool) (u:Value) (x:Nat) (z:Int) (w:World) {B:Nat} (h:IsS w .u64 u (digs 4294967296 x)) (hf:zE1 B u) (hz:sg b x=z):Calls prog 105 #[.bool b,u] w (zH9 (pz z B) w) :=
 (qF b u x w h).mono fun e w' h'=>⟨_,h'.1,⟨zG9 (h.bQ h'.2) (by rw [<- hz,zT9]) (by rw [hz]),zL7 hf⟩,h'.2⟩
theorem zU0 (b:Bool) (u:Value) (x:Nat) (z:Int) (w:World) (h:IsS w .i64 u (digs 10000 x)) (hz:sg b x=z):Calls prog 135 #[.bool b,u] w (zH9 (pr z) w) :=
 (yD3 b u x w h).mono fun e w' h'=>⟨_,h'.1,zH3 (h.bQ h'.2) (by rw [<- hz,zT9]) (by rw [hz]),h'.2⟩
theorem zI4 (w:World) (t1 t2:TypeId) (x y:Array Value):∃ wx,(w.alloc (.cells x t1)).alloc (.cells y t2)=wx/\Below w.heap.size w wx/\Blk wx w.heap.size t1 x/\Blk wx (w.heap.size+1) t2 y/\w.heap.size+1<wx.heap.size:=by
 refine ⟨_,rfl,(zC6 (zB1 _) _).alloc (by simp) _,(Blk.new w t1 x).alloc _,?_,by simp⟩
 have:=Blk.new (w.alloc (.cells x t1)) t2 y
 simpa using this
theorem yD5 (a0:Value) (x:Int) (w:World) (h0:IsZ w a0 x) (hl:zC5 x<=100000) :
  Calls prog 121 #[a0] w (zF6 (-x) w):=by
 obtain ⟨u0,rfl,s0⟩:=h0;obtain ⟨A0,c0,rfl,_⟩:=id s0;have HZ:Hid (sg (!(ngB x)) x.natAbs = -x):=by show _=_;exact qS3 x
 have HL:Hid ((digs 4294967296 x.natAbs).length<=1000000):=by show _<=_;unfold zC5 at hl;omega
 go_enter func121,ntmps121
 go_upto_region 1 with (fail)
 obtain ⟨wx,hwx,bb,B0,B1,hsz⟩:=zI4 w 60 60 #[.bool (ngB x),.slice A0 (digs 4294967296 (x).natAbs).length c0] #[.bool false,.slice none 0 0];rw [hwx];clear hwx;have k0s:=s0.bQ bb;have k0:IsZ wx (.agg #[.bool (ngB x),.slice A0 (digs 4294967296 (x).natAbs).length c0]) (x):=zG9 k0s rfl rfl;have hszb:=bb.size;refine zC3 6 [Pd.eq (.pointer (some ⟨w.heap.size,0,none⟩)),Pd.eq (.bool (ngB x)),Pd.eq (.bool (!(ngB x))),Pd.eq (.pointer (some ⟨w.heap.size,1,none⟩)),Pd.eq (.slice A0 (digs 4294967296 (x).natAbs).length c0),pz (-x) wx.heap.size] (by kernel_rfl) ?ob1 ?done1
 case ob1 =>
  refine zA (zB9 rfl (zB3 rfl) (zB5 rfl rfl) (fun _=>by kernel_rfl) (fun _=>rfl)) ?_;refine zA (zB7 rfl (zB3 rfl) (zB4 (j:=0) (by kernel_rfl) rfl rfl) (fun w2 hb=>zC1 underlying4 rfl ((B0.bQ hb).cell 0)) (fun _ _=>rfl)) ?_;refine zA (zV6 rfl (zB3 rfl) (zB4 (j:=1) (by kernel_rfl) rfl rfl) (fun _=>zV7 _ _) (fun _=>rfl)) ?_;refine zA (zB9 rfl (zB3 rfl) (zB5 rfl rfl) (fun _=>by kernel_rfl) (fun _=>rfl)) ?_;refine zA (zB7 rfl (zB3 rfl) (zB4 (j:=3) (by kernel_rfl) rfl rfl) (fun w2 hb=>zC1 underlying50 rfl ((B0.bQ hb).cell 1)) (fun _ _=>rfl)) ?_;refine zA (zC7 rfl func57 (by kernel_rfl) (zB3 rfl) (zB4 (j:=2) (by kernel_rfl) rfl rfl) (zB4 (j:=4) (by kernel_rfl) rfl rfl) (fun w2 u0 u1 hb h0 h1=>by obtain rfl:=h0;obtain rfl:=h1;exact (made_any _ _ _ (-x) _ (k0s.bQ hb) HL.out HZ.out.symm).mono fun e w3 h=>zF6.pd h hb.size)) ?_
  trivial
 case done1 =>
  refine fun w1 hb1 v0 h0 v1 h1 v2 h2 v3 h3 v4 h4 v5 h5 b hbf => ?_;obtain rfl:=h0;obtain rfl:=h1;obtain rfl:=h2;obtain rfl:=h3;obtain rfl:=h4;obtain ⟨q5,f5⟩:=h5;simp only [Act.put,zA0,zA2,zA1] at hbf;subst hbf;obtain ⟨u5,rfl,q5⟩:=q5;obtain ⟨A9,c9,rfl,_⟩:=id q5;have B9:=B1.bQ hb1;refine zH0 (i:=6) rfl rfl rfl rfl rfl rfl (cells:=[.bool (ngB (-x)),.slice A9 (digs 4294967296 (-x).natAbs).length c9]) rfl B9 rfl (by kernel_rfl) (zG8 rfl rfl) fun w9 hg9 BB9 => ?_;have k9:=off q5 B9 no_ints2 hg9;have f9:=(f5 _ _ rfl).mono (show w.heap.size<=wx.heap.size from bb.size);have bb9:=((bb.trans (hb1.mono bb.size)).trans ((Below.refl _ _).grown hg9 (zB2 bb.size hb1.size) (fun g hg=>by injection hg with hg;omega)));obtain ⟨c0,c1,_,_⟩:=Blk.two BB9;refine zC4 ?_;go_wp2;exact bodyPost_ret (v:=.agg #[.bool (ngB (-x)),.slice A9 (digs 4294967296 (-x).natAbs).length c9]) (by simp [results,results121,go_sem,c0,c1]) rfl ⟨_,rfl,zG9 k9 rfl rfl,zL7 f9,bb9⟩
theorem yV4 (a0:Value) (x:Int) (w:World) (h0:IsR w a0 x)  :
  Calls prog 178 #[a0] w (zR4 (-x) w):=by
 obtain ⟨u0,rfl,s0⟩:=h0;obtain ⟨A0,c0,rfl,_⟩:=id s0;have HZ:Hid (sg (!(ngB x)) x.natAbs = -x):=by show _=_;exact qS3 x
 go_enter func178,ntmps178
 go_upto_region 1 with (fail)
 obtain ⟨wx,hwx,bb,B0,B1,hsz⟩:=zI4 w 63 63 #[.bool (ngB x),.slice A0 (digs 10000 (x).natAbs).length c0] #[.bool false,.slice none 0 0];rw [hwx];clear hwx;have k0s:=s0.bQ bb;have k0:IsR wx (.agg #[.bool (ngB x),.slice A0 (digs 10000 (x).natAbs).length c0]) (x):=zH3 k0s rfl rfl;have hszb:=bb.size;refine zC3 6 [Pd.eq (.pointer (some ⟨w.heap.size,0,none⟩)),Pd.eq (.bool (ngB x)),Pd.eq (.bool (!(ngB x))),Pd.eq (.pointer (some ⟨w.heap.size,1,none⟩)),Pd.eq (.slice A0 (digs 10000 (x).natAbs).length c0),pr (-x)] (by kernel_rfl) ?ob2 ?done2
 case ob2 =>
  refine zA (zB9 rfl (zB3 rfl) (zB5 rfl rfl) (fun _=>by kernel_rfl) (fun _=>rfl)) ?_;refine zA (zB7 rfl (zB3 rfl) (zB4 (j:=0) (by kernel_rfl) rfl rfl) (fun w2 hb=>zC1 underlying4 rfl ((B0.bQ hb).cell 0)) (fun _ _=>rfl)) ?_;refine zA (zV6 rfl (zB3 rfl) (zB4 (j:=1) (by kernel_rfl) rfl rfl) (fun _=>zV7 _ _) (fun _=>rfl)) ?_;refine zA (zB9 rfl (zB3 rfl) (zB5 rfl rfl) (fun _=>by kernel_rfl) (fun _=>rfl)) ?_;refine zA (zB7 rfl (zB3 rfl) (zB4 (j:=3) (by kernel_rfl) rfl rfl) (fun w2 hb=>zC1 underlying53 rfl ((B0.bQ hb).cell 1)) (fun _ _=>rfl)) ?_;refine zA (zC7 rfl func135 (by kernel_rfl) (zB3 rfl) (zB4 (j:=2) (by kernel_rfl) rfl rfl) (zB4 (j:=4) (by kernel_rfl) rfl rfl) (fun w2 u0 u1 hb h0 h1=>by obtain rfl:=h0;obtain rfl:=h1;exact zU0 _ _ _ (-x) _ (k0s.bQ hb) HZ.out)) ?_
  trivial
 case done2 =>
  refine fun w1 hb1 v0 h0 v1 h1 v2 h2 v3 h3 v4 h4 v5 h5 b hbf => ?_;obtain rfl:=h0;obtain rfl:=h1;obtain rfl:=h2;obtain rfl:=h3;obtain rfl:=h4;have q5:=h5;simp only [Act.put,zA0,zA2,zA1] at hbf;subst hbf;obtain ⟨u5,rfl,q5⟩:=q5;obtain ⟨A9,c9,rfl,_⟩:=id q5;have B9:=B1.bQ hb1;refine zH0 (i:=6) rfl rfl rfl rfl rfl rfl (cells:=[.bool (ngB (-x)),.slice A9 (digs 10000 (-x).natAbs).length c9]) rfl B9 rfl (by kernel_rfl) (zG8 rfl rfl) fun w9 hg9 BB9 => ?_;have k9:=off q5 B9 no_ints2 hg9;have bb9:=((bb.trans (hb1.mono bb.size)).trans ((Below.refl _ _).grown hg9 (zB2 bb.size hb1.size) (fun g hg=>by injection hg with hg;omega)));obtain ⟨c0,c1,_,_⟩:=Blk.two BB9;refine zC4 ?_;go_wp2;exact bodyPost_ret (v:=.agg #[.bool (ngB (-x)),.slice A9 (digs 10000 (-x).natAbs).length c9]) (by simp [results,results178,go_sem,c0,c1]) rfl ⟨_,rfl,zH3 k9 rfl rfl,bb9⟩
theorem yD6 (a0:Value) (x:Int) (w:World) (h0:IsZ w a0 x) (hl:zC5 x<=30000) :
  Calls prog 98 #[a0] w (zR4 x w):=by
 obtain ⟨u0,rfl,s0⟩:=h0;obtain ⟨A0,c0,rfl,_⟩:=id s0;have HL:Hid ((digs 4294967296 x.natAbs).length<=100000):=by show _<=_;unfold zC5 at hl;omega
 have HZ:Hid (sg (ngB x) x.natAbs=x):=by show _=_;exact zW x
 go_enter func98,ntmps98
 go_upto_region 1 with (fail)
 obtain ⟨wx,hwx,bb,B0,B1,hsz⟩:=zI4 w 60 63 #[.bool (ngB x),.slice A0 (digs 4294967296 (x).natAbs).length c0] #[.bool false,.slice none 0 0];rw [hwx];clear hwx;have k0s:=s0.bQ bb;have k0:IsZ wx (.agg #[.bool (ngB x),.slice A0 (digs 4294967296 (x).natAbs).length c0]) (x):=zG9 k0s rfl rfl;have hszb:=bb.size;refine flow 6 [Pd.eq (.pointer (some ⟨w.heap.size,0,none⟩)),Pd.eq (.bool (ngB x)),Pd.eq (.pointer (some ⟨w.heap.size,1,none⟩)),Pd.eq (.slice A0 (digs 4294967296 (x).natAbs).length c0),ps .i64 (digs 10000 x.natAbs) wx.heap.size,pr (x)] (by kernel_rfl) (by kernel_rfl) ?ob3 ?done3
 case ob3 =>
  refine zA (zB9 rfl (zB3 rfl) (zB5 rfl rfl) (fun _=>by kernel_rfl) (fun _=>rfl)) ?_;refine zA (zB7 rfl (zB3 rfl) (zB4 (j:=0) (by kernel_rfl) rfl rfl) (fun w2 hb=>zC1 underlying4 rfl ((B0.drew.bQ hb).cell 0)) (fun _ _=>rfl)) ?_;refine zA (zB9 rfl (zB3 rfl) (zB5 rfl rfl) (fun _=>by kernel_rfl) (fun _=>rfl)) ?_;refine zA (zB7 rfl (zB3 rfl) (zB4 (j:=2) (by kernel_rfl) rfl rfl) (fun w2 hb=>zC1 underlying50 rfl ((B0.drew.bQ hb).cell 1)) (fun _ _=>rfl)) ?_;refine zA (zE7 rfl func100 (by kernel_rfl) (zB3 rfl) (zB4 (j:=3) (by kernel_rfl) rfl rfl) (fun w2 u0 hb h0=>by obtain rfl:=h0;exact (qD0 _ _ _ (k0s.drew.bQ hb) HL.out).mono fun e w3 h=>zD1.pd h hb.size)) ?_;refine zA (zC7 rfl func135 (by kernel_rfl) (zB3 rfl) (zB4 (j:=1) (by kernel_rfl) rfl rfl) (zB4 (j:=4) (by kernel_rfl) rfl rfl) (fun w2 u0 u1 hb h0 h1=>by obtain rfl:=h0;exact zU0 _ _ _ (x) _ h1.1 HZ.out)) ?_
  trivial
 case done3 =>
  refine fun w1 hb1 v0 h0 v1 h1 v2 h2 v3 h3 v4 h4 v5 h5 b hbf => ?_;obtain rfl:=h0;obtain rfl:=h1;obtain rfl:=h2;obtain rfl:=h3;obtain ⟨q4,f4⟩:=h4;have q5:=h5;simp only [Act.put,zA0,zA2,zA1] at hbf;subst hbf;obtain ⟨u5,rfl,q5⟩:=q5;obtain ⟨A9,c9,rfl,_⟩:=id q5;have B9:=B1.bQ hb1;refine zH7 (i:=6) (by kernel_rfl) rfl rfl rfl rfl rfl rfl (cells:=[.bool (ngB (x)),.slice A9 (digs 10000 (x).natAbs).length c9]) rfl B9 rfl (by kernel_rfl) (zG8 rfl rfl) fun w9 hg9 BB9 => ?_;have k9:=off q5 B9 no_ints2 hg9;have bb9:=((bb.trans (hb1.mono bb.size)).trans ((Below.refl _ _).grown hg9 (zB2 bb.size hb1.size) (fun g hg=>by injection hg with hg;omega)));obtain ⟨c0,c1,_,_⟩:=Blk.two BB9;refine zG (by kernel_rfl) ?_;go_wp2;exact bodyPost_ret (v:=.agg #[.bool (ngB (x)),.slice A9 (digs 10000 (x).natAbs).length c9]) (by simp [results,results98,go_sem,c0,c1]) rfl ⟨_,rfl,zH3 k9 rfl rfl,bb9⟩
theorem yV5 (a0:Value) (x:Int) (w:World) (h0:IsR w a0 x) (hl:zC5 x<=30000) :
  Calls prog 25 #[a0] w (zF6 x w):=by
 obtain ⟨u0,rfl,s0⟩:=h0;obtain ⟨A0,c0,rfl,_⟩:=id s0;have HL:Hid ((digs 4294967296 x.natAbs).length<=100000):=by show _<=_;unfold zC5 at hl;omega
 have HM:Hid ((digs 10000 x.natAbs).length<=100000):=by show _<=_;have:=qA5 x;omega
 go_enter func25,ntmps25
 go_upto_region 1 with (fail)
 obtain ⟨wx,hwx,bb,B0,B1,hsz⟩:=zI4 w 63 60 #[.bool (ngB x),.slice A0 (digs 10000 (x).natAbs).length c0] #[.bool false,.slice none 0 0];rw [hwx];clear hwx;have k0s:=s0.bQ bb;have k0:IsR wx (.agg #[.bool (ngB x),.slice A0 (digs 10000 (x).natAbs).length c0]) (x):=zH3 k0s rfl rfl;have hszb:=bb.size;refine flow 6 [Pd.eq (.pointer (some ⟨w.heap.size,0,none⟩)),Pd.eq (.bool (ngB x)),Pd.eq (.pointer (some ⟨w.heap.size,1,none⟩)),Pd.eq (.slice A0 (digs 10000 (x).natAbs).length c0),ps .u64 (digs 4294967296 x.natAbs) wx.heap.size,pz (x) wx.heap.size] (by kernel_rfl) (by kernel_rfl) ?ob4 ?done4
 case ob4 =>
  refine zA (zB9 rfl (zB3 rfl) (zB5 rfl rfl) (fun _=>by kernel_rfl) (fun _=>rfl)) ?_;refine zA (zB7 rfl (zB3 rfl) (zB4 (j:=0) (by kernel_rfl) rfl rfl) (fun w2 hb=>zC1 underlying4 rfl ((B0.drew.bQ hb).cell 0)) (fun _ _=>rfl)) ?_;refine zA (zB9 rfl (zB3 rfl) (zB5 rfl rfl) (fun _=>by kernel_rfl) (fun _=>rfl)) ?_;refine zA (zB7 rfl (zB3 rfl) (zB4 (j:=2) (by kernel_rfl) rfl rfl) (fun w2 hb=>zC1 underlying53 rfl ((B0.drew.bQ hb).cell 1)) (fun _ _=>rfl)) ?_;refine zA (zE7 rfl func23 (by kernel_rfl) (zB3 rfl) (zB4 (j:=3) (by kernel_rfl) rfl rfl) (fun w2 u0 hb h0=>by obtain rfl:=h0;exact (qY6 _ _ _ (k0s.drew.bQ hb) HM.out HL.out).mono fun e w3 h=>zD1.pd h hb.size)) ?_;refine zA (yU8 rfl (zB3 rfl) (zB4 (j:=1) (by kernel_rfl) rfl rfl) (zB4 (j:=4) (by kernel_rfl) rfl rfl) (fun w2 u v hu hv=>by subst hu;obtain ⟨A7,c7,rfl,_⟩:=id hv.1;exact ⟨.agg #[.bool (ngB x),.slice A7 (digs 4294967296 x.natAbs).length c7],by kernel_rfl,⟨⟨_,rfl,hv.1⟩,zL7 hv.2⟩⟩)) ?_
  trivial
 case done4 =>
  refine fun w1 hb1 v0 h0 v1 h1 v2 h2 v3 h3 v4 h4 v5 h5 b hbf => ?_;obtain rfl:=h0;obtain rfl:=h1;obtain rfl:=h2;obtain rfl:=h3;obtain ⟨q4,f4⟩:=h4;obtain ⟨q5,f5⟩:=h5;simp only [Act.put,zA0,zA2,zA1] at hbf;subst hbf;obtain ⟨u5,rfl,q5⟩:=q5;obtain ⟨A9,c9,rfl,_⟩:=id q5;have B9:=B1.bQ hb1;refine zH7 (i:=6) (by kernel_rfl) rfl rfl rfl rfl rfl rfl (cells:=[.bool (ngB (x)),.slice A9 (digs 4294967296 (x).natAbs).length c9]) rfl B9 rfl (by kernel_rfl) (zG8 rfl rfl) fun w9 hg9 BB9 => ?_;have k9:=off q5 B9 no_ints2 hg9;have f9:=(f5 _ _ rfl).mono (show w.heap.size<=wx.heap.size from bb.size);have bb9:=((bb.trans (hb1.mono bb.size)).trans ((Below.refl _ _).grown hg9 (zB2 bb.size hb1.size) (fun g hg=>by injection hg with hg;omega)));obtain ⟨c0,c1,_,_⟩:=Blk.two BB9;refine zG (by kernel_rfl) ?_;go_wp2;exact bodyPost_ret (v:=.agg #[.bool (ngB (x)),.slice A9 (digs 4294967296 (x).natAbs).length c9]) (by simp [results,results25,go_sem,c0,c1]) rfl ⟨_,rfl,zG9 k9 rfl rfl,zL7 f9,bb9⟩
theorem qS4 (a0:Value) (x:Int) (a1:Value) (y:Int) (w:World) (h0:IsR w a0 x) (h1:IsR w a1 y) (hl:zC5 x<=30000) (hl2:zC5 y<=30000) :
  Calls prog 110 #[a0,a1] w (zR4 (x*y) w):=by
 obtain ⟨u0,rfl,s0⟩:=h0;obtain ⟨A0,c0,rfl,_⟩:=id s0;obtain ⟨u1,rfl,s1⟩:=h1;obtain ⟨A1,c1,rfl,_⟩:=id s1;have HZ:Hid (sg (!(ngB x == ngB y)) (x.natAbs*y.natAbs)=x*y):=by show _=_;exact qS2 x y
 have HL:Hid ((digs 10000 x.natAbs).length<=1000000):=by show _<=_;have:=qA5 x;omega
 have HL2:Hid ((digs 10000 y.natAbs).length<=1000000):=by show _<=_;have:=qA5 y;omega
 go_enter func110,ntmps110
 go_upto_region 1 with (fail)
 obtain ⟨wx,hwx,bb,B0,B1,B2,hsz⟩:=zK1 w 63 63 63 #[.bool (ngB x),.slice A0 (digs 10000 (x).natAbs).length c0] #[.bool (ngB y),.slice A1 (digs 10000 (y).natAbs).length c1] #[.bool false,.slice none 0 0];rw [hwx];clear hwx;have k0s:=s0.bQ bb;have k0:IsR wx (.agg #[.bool (ngB x),.slice A0 (digs 10000 (x).natAbs).length c0]) (x):=zH3 k0s rfl rfl;have k1s:=s1.bQ bb;have k1:IsR wx (.agg #[.bool (ngB y),.slice A1 (digs 10000 (y).natAbs).length c1]) (y):=zH3 k1s rfl rfl;have hszb:=bb.size;refine flow 11 [Pd.eq (.pointer (some ⟨w.heap.size,0,none⟩)),Pd.eq (.bool (ngB x)),Pd.eq (.pointer (some ⟨w.heap.size+1,0,none⟩)),Pd.eq (.bool (ngB y)),Pd.eq (.bool (!((ngB x) == (ngB y)))),Pd.eq (.pointer (some ⟨w.heap.size,1,none⟩)),Pd.eq (.slice A0 (digs 10000 (x).natAbs).length c0),Pd.eq (.pointer (some ⟨w.heap.size+1,1,none⟩)),Pd.eq (.slice A1 (digs 10000 (y).natAbs).length c1),ps .i64 (digs 10000 (x.natAbs*y.natAbs)) wx.heap.size,pr (x*y)] (by kernel_rfl) (by kernel_rfl) ?ob5 ?done5
 case ob5 =>
  refine zA (zB9 rfl (zB3 rfl) (zB5 rfl rfl) (fun _=>by kernel_rfl) (fun _=>rfl)) ?_;refine zA (zB7 rfl (zB3 rfl) (zB4 (j:=0) (by kernel_rfl) rfl rfl) (fun w2 hb=>zC1 underlying4 rfl ((B0.drew.bQ hb).cell 0)) (fun _ _=>rfl)) ?_;refine zA (zB9 rfl (zB3 rfl) (zB5 rfl rfl) (fun _=>by kernel_rfl) (fun _=>rfl)) ?_;refine zA (zB7 rfl (zB3 rfl) (zB4 (j:=2) (by kernel_rfl) rfl rfl) (fun w2 hb=>zC1 underlying4 rfl ((B1.drew.bQ hb).cell 0)) (fun _ _=>rfl)) ?_;refine zA (zE6 rfl (zB3 rfl) (zB4 (j:=1) (by kernel_rfl) rfl rfl) (zB4 (j:=3) (by kernel_rfl) rfl rfl) (fun _ _ _ hx hy=>⟨.bool (!((ngB x) == (ngB y))),by rw [hx,hy];exact qL1 _ _ _ _ underlying4 _,rfl⟩)) ?_;refine zA (zB9 rfl (zB3 rfl) (zB5 rfl rfl) (fun _=>by kernel_rfl) (fun _=>rfl)) ?_;refine zA (zB7 rfl (zB3 rfl) (zB4 (j:=5) (by kernel_rfl) rfl rfl) (fun w2 hb=>zC1 underlying53 rfl ((B0.drew.bQ hb).cell 1)) (fun _ _=>rfl)) ?_;refine zA (zB9 rfl (zB3 rfl) (zB5 rfl rfl) (fun _=>by kernel_rfl) (fun _=>rfl)) ?_;refine zA (zB7 rfl (zB3 rfl) (zB4 (j:=7) (by kernel_rfl) rfl rfl) (fun w2 hb=>zC1 underlying53 rfl ((B1.drew.bQ hb).cell 1)) (fun _ _=>rfl)) ?_;refine zA (zC7 rfl func60 (by kernel_rfl) (zB3 rfl) (zB4 (j:=6) (by kernel_rfl) rfl rfl) (zB4 (j:=8) (by kernel_rfl) rfl rfl) (fun w2 u0 u1 hb h0 h1=>by obtain rfl:=h0;obtain rfl:=h1;exact (qQ4 _ _ _ _ _ (k0s.drew.bQ hb) (k1s.drew.bQ hb) HL.out HL2.out).mono fun e w3 h=>zD1.pd h hb.size)) ?_;refine zA (zC7 rfl func135 (by kernel_rfl) (zB3 rfl) (zB4 (j:=4) (by kernel_rfl) rfl rfl) (zB4 (j:=9) (by kernel_rfl) rfl rfl) (fun w2 u0 u1 hb h0 h1=>by obtain rfl:=h0;exact zU0 _ _ _ (x*y) _ h1.1 HZ.out)) ?_
  trivial
 case done5 =>
  refine fun w1 hb1 v0 h0 v1 h1 v2 h2 v3 h3 v4 h4 v5 h5 v6 h6 v7 h7 v8 h8 v9 h9 v10 h10 b hbf => ?_;obtain rfl:=h0;obtain rfl:=h1;obtain rfl:=h2;obtain rfl:=h3;obtain rfl:=h4;obtain rfl:=h5;obtain rfl:=h6;obtain rfl:=h7;obtain rfl:=h8;obtain ⟨q9,f9⟩:=h9;have q10:=h10;simp only [Act.put,zA0,zA2,zA1] at hbf;subst hbf;obtain ⟨u10,rfl,q10⟩:=q10;obtain ⟨A9,c9,rfl,_⟩:=id q10;have B9:=B2.bQ hb1;refine zH7 (i:=11) (by kernel_rfl) rfl rfl rfl rfl rfl rfl (cells:=[.bool (ngB (x*y)),.slice A9 (digs 10000 (x*y).natAbs).length c9]) rfl B9 rfl (by kernel_rfl) (zG8 rfl rfl) fun w9 hg9 BB9 => ?_;have k9:=off q10 B9 no_ints2 hg9;have bb9:=((bb.trans (hb1.mono bb.size)).trans ((Below.refl _ _).grown hg9 (zB2 bb.size hb1.size) (fun g hg=>by injection hg with hg;omega)));obtain ⟨c0,c1,_,_⟩:=Blk.two BB9;refine zG (by kernel_rfl) ?_;go_wp2;exact bodyPost_ret (v:=.agg #[.bool (ngB (x*y)),.slice A9 (digs 10000 (x*y).natAbs).length c9]) (by simp [results,results110,go_sem,c0,c1]) rfl ⟨_,rfl,zH3 k9 rfl rfl,bb9⟩
theorem yV6 (a0:Value) (x:Int) (a1:Value) (y:Int) (w:World) (h0:IsZ w a0 x) (h1:IsZ w a1 y) (hl:zC5 x<=30000) (hl2:zC5 y<=30000) :
  Calls prog 176 #[a0,a1] w (zF6 (x+y) w):=by
 have HL:Hid ((digs 4294967296 x.natAbs).length<=30000):=hl;have HL2:Hid ((digs 4294967296 y.natAbs).length<=30000):=hl2;have HS:Hid ((digs 4294967296 (x.natAbs+y.natAbs)).length<=1000000):=by show _<=_;have:=yA6 x.natAbs y.natAbs;unfold zC5 at hl hl2;omega
 obtain ⟨u0,rfl,s0⟩:=h0;obtain ⟨A0,c0,rfl,_⟩:=id s0;obtain ⟨u1,rfl,s1⟩:=h1;obtain ⟨A1,c1,rfl,_⟩:=id s1;rcases hs0:ngB x with _ | _<;>rcases hs1:ngB y with _ | _
 ·have HZ:Hid (sg false (x.natAbs+y.natAbs)=x+y):=by show _=_;have:=zO9 hs0;have:=zO9 hs1;rw [zV9];omega
  go_enter func176,ntmps176
  go_upto_region 1 with (fail)
  obtain ⟨wx,hwx,bb,B0,B1,B2,hsz⟩:=zK1 w 60 60 60 #[.bool false,.slice A0 (digs 4294967296 (x).natAbs).length c0] #[.bool false,.slice A1 (digs 4294967296 (y).natAbs).length c1] #[.bool false,.slice none 0 0];rw [hwx];clear hwx;have k0s:=s0.bQ bb;have k0:IsZ wx (.agg #[.bool false,.slice A0 (digs 4294967296 (x).natAbs).length c0]) (x):=zG9 k0s rfl hs0.symm;have k1s:=s1.bQ bb;have k1:IsZ wx (.agg #[.bool false,.slice A1 (digs 4294967296 (y).natAbs).length c1]) (y):=zG9 k1s rfl hs1.symm;have hszb:=bb.size;refine zC3 6 [Pd.eq (.pointer (some ⟨w.heap.size,0,none⟩)),Pd.eq (.bool false),Pd.eq (.pointer (some ⟨w.heap.size+1,0,none⟩)),Pd.eq (.bool false),Pd.eq (.bool true),Pd.eq (.bool true)] (by kernel_rfl) ?ob6 ?done6
  case ob6 =>
   refine zA (zB9 rfl (zB3 rfl) (zB5 rfl rfl) (fun _=>by kernel_rfl) (fun _=>rfl)) ?_;refine zA (zB7 rfl (zB3 rfl) (zB4 (j:=0) (by kernel_rfl) rfl rfl) (fun w2 hb=>zC1 underlying4 rfl ((B0.bQ hb).cell 0)) (fun _ _=>rfl)) ?_;refine zA (zB9 rfl (zB3 rfl) (zB5 rfl rfl) (fun _=>by kernel_rfl) (fun _=>rfl)) ?_;refine zA (zB7 rfl (zB3 rfl) (zB4 (j:=2) (by kernel_rfl) rfl rfl) (fun w2 hb=>zC1 underlying4 rfl ((B1.bQ hb).cell 0)) (fun _ _=>rfl)) ?_;refine zA (zE6 rfl (zB3 rfl) (zB4 (j:=1) (by kernel_rfl) rfl rfl) (zB4 (j:=3) (by kernel_rfl) rfl rfl) (fun _ _ _ hx hy=>⟨.bool (false == false),by rw [hx,hy];exact zO8 _ _ _ _ underlying4 _,rfl⟩)) ?_;refine zA (zD6 rfl (zB3 rfl) (zB4 (j:=4) (by kernel_rfl) rfl rfl) (fun _ _ h=>h)) ?_
   trivial
  case done6 =>
   refine fun w1 hb1 v0 h0 v1 h1 v2 h2 v3 h3 v4 h4 v5 h5 b hbf => ?_;obtain rfl:=h0;obtain rfl:=h1;obtain rfl:=h2;obtain rfl:=h3;obtain rfl:=h4;obtain rfl:=h5;simp only [Act.put,zA0,zA2,zA1] at hbf;subst hbf;replace B0:=B0.bQ hb1;replace B1:=B1.bQ hb1;replace B2:=B2.bQ hb1;replace k0s:=k0s.bQ hb1;replace k1s:=k1s.bQ hb1;replace k0:=k0.bQ hb1;replace k1:=k1.bQ hb1;replace bb:=bb.trans (hb1.mono bb.size);have hszb:=bb.size;obtain ⟨x00,x01,y00,y01⟩:=Blk.two B0;obtain ⟨x10,x11,y10,y11⟩:=Blk.two B1;obtain ⟨x20,x21,y20,y21⟩:=Blk.two B2;refine zC4 ?_;go_upto_region 2 with (fail);refine flow 8 [Pd.eq (.pointer (some ⟨w.heap.size,0,none⟩)),Pd.eq (.bool false),Pd.eq (.pointer (some ⟨w.heap.size,1,none⟩)),Pd.eq (.slice A0 (digs 4294967296 (x).natAbs).length c0),Pd.eq (.pointer (some ⟨w.heap.size+1,1,none⟩)),Pd.eq (.slice A1 (digs 4294967296 (y).natAbs).length c1),ps .u64 (digs 4294967296 (x.natAbs+y.natAbs)) w1.heap.size,pz (x+y) w1.heap.size] (by kernel_rfl) (by kernel_rfl) ?ob7 ?done7
   case ob7 =>
    refine zA (zB9 rfl (zB3 rfl) (zB5 rfl rfl) (fun _=>by kernel_rfl) (fun _=>rfl)) ?_;refine zA (zB7 rfl (zB3 rfl) (zB4 (j:=0) (by kernel_rfl) rfl rfl) (fun w2 hb=>zC1 underlying4 rfl ((B0.drew.bQ hb).cell 0)) (fun _ _=>rfl)) ?_;refine zA (zB9 rfl (zB3 rfl) (zB5 rfl rfl) (fun _=>by kernel_rfl) (fun _=>rfl)) ?_;refine zA (zB7 rfl (zB3 rfl) (zB4 (j:=2) (by kernel_rfl) rfl rfl) (fun w2 hb=>zC1 underlying50 rfl ((B0.drew.bQ hb).cell 1)) (fun _ _=>rfl)) ?_;refine zA (zB9 rfl (zB3 rfl) (zB5 rfl rfl) (fun _=>by kernel_rfl) (fun _=>rfl)) ?_;refine zA (zB7 rfl (zB3 rfl) (zB4 (j:=4) (by kernel_rfl) rfl rfl) (fun w2 hb=>zC1 underlying50 rfl ((B1.drew.bQ hb).cell 1)) (fun _ _=>rfl)) ?_;refine zA (zC7 rfl func165 (by kernel_rfl) (zB3 rfl) (zB4 (j:=3) (by kernel_rfl) rfl rfl) (zB4 (j:=5) (by kernel_rfl) rfl rfl) (fun w2 u0 u1 hb h0 h1=>by obtain rfl:=h0;obtain rfl:=h1;exact (add_any _ _ _ _ _ (k0s.drew.bQ hb) (k1s.drew.bQ hb) _ rfl HS.out).mono fun e w3 h=>zD1.pd h hb.size)) ?_;refine zA (zC7 rfl func105 (by kernel_rfl) (zB3 rfl) (zB4 (j:=1) (by kernel_rfl) rfl rfl) (zB4 (j:=6) (by kernel_rfl) rfl rfl) (fun w2 u0 u1 hb h0 h1=>by obtain rfl:=h0;exact qF2 _ _ _ (x+y) _ h1.1 h1.2 HZ.out)) ?_
    trivial
   case done7 =>
    refine fun w2 hb2 v0 h0 v1 h1 v2 h2 v3 h3 v4 h4 v5 h5 v6 h6 v7 h7 b hbf => ?_;obtain rfl:=h0;obtain rfl:=h1;obtain rfl:=h2;obtain rfl:=h3;obtain rfl:=h4;obtain rfl:=h5;obtain ⟨q6,f6⟩:=h6;obtain ⟨q7,f7⟩:=h7;simp only [Act.put,zA0,zA2,zA1] at hbf;subst hbf;obtain ⟨u7,rfl,q7⟩:=q7;obtain ⟨A9,c9,rfl,_⟩:=id q7;have B9:=B2.bQ hb2;refine zH7 (i:=8) (by kernel_rfl) rfl rfl rfl rfl rfl rfl (cells:=[.bool (ngB (x+y)),.slice A9 (digs 4294967296 (x+y).natAbs).length c9]) rfl B9 rfl (by kernel_rfl) (zG8 rfl rfl) fun w9 hg9 BB9 => ?_;have k9:=off q7 B9 no_ints2 hg9;have f9:=(f7 _ _ rfl).mono (show w.heap.size<=w1.heap.size from bb.size);have bb9:=((bb.trans (hb2.mono bb.size)).trans ((Below.refl _ _).grown hg9 (zB2 bb.size hb2.size) (fun g hg=>by injection hg with hg;omega)));obtain ⟨c0,c1,_,_⟩:=Blk.two BB9;refine zG (by kernel_rfl) ?_;go_wp2;exact bodyPost_ret (v:=.agg #[.bool (ngB (x+y)),.slice A9 (digs 4294967296 (x+y).natAbs).length c9]) (by simp [results,results176,go_sem,c0,c1]) rfl ⟨_,rfl,zG9 k9 rfl rfl,zL7 f9,bb9⟩
 ·have HZ:Hid (x+y=((x.natAbs:Nat):Int)-((y.natAbs:Nat):Int)):=by show _=_;have:=zO9 hs0;have:=zO3 hs1;omega
  go_enter func176,ntmps176
  go_upto_region 1 with (fail)
  obtain ⟨wx,hwx,bb,B0,B1,B2,hsz⟩:=zK1 w 60 60 60 #[.bool false,.slice A0 (digs 4294967296 (x).natAbs).length c0] #[.bool true,.slice A1 (digs 4294967296 (y).natAbs).length c1] #[.bool false,.slice none 0 0];rw [hwx];clear hwx;have k0s:=s0.bQ bb;have k0:IsZ wx (.agg #[.bool false,.slice A0 (digs 4294967296 (x).natAbs).length c0]) (x):=zG9 k0s rfl hs0.symm;have k1s:=s1.bQ bb;have k1:IsZ wx (.agg #[.bool true,.slice A1 (digs 4294967296 (y).natAbs).length c1]) (y):=zG9 k1s rfl hs1.symm;have hszb:=bb.size;refine zC3 6 [Pd.eq (.pointer (some ⟨w.heap.size,0,none⟩)),Pd.eq (.bool false),Pd.eq (.pointer (some ⟨w.heap.size+1,0,none⟩)),Pd.eq (.bool true),Pd.eq (.bool false),Pd.eq (.bool false)] (by kernel_rfl) ?ob8 ?done8
  case ob8 =>
   refine zA (zB9 rfl (zB3 rfl) (zB5 rfl rfl) (fun _=>by kernel_rfl) (fun _=>rfl)) ?_;refine zA (zB7 rfl (zB3 rfl) (zB4 (j:=0) (by kernel_rfl) rfl rfl) (fun w2 hb=>zC1 underlying4 rfl ((B0.bQ hb).cell 0)) (fun _ _=>rfl)) ?_;refine zA (zB9 rfl (zB3 rfl) (zB5 rfl rfl) (fun _=>by kernel_rfl) (fun _=>rfl)) ?_;refine zA (zB7 rfl (zB3 rfl) (zB4 (j:=2) (by kernel_rfl) rfl rfl) (fun w2 hb=>zC1 underlying4 rfl ((B1.bQ hb).cell 0)) (fun _ _=>rfl)) ?_;refine zA (zE6 rfl (zB3 rfl) (zB4 (j:=1) (by kernel_rfl) rfl rfl) (zB4 (j:=3) (by kernel_rfl) rfl rfl) (fun _ _ _ hx hy=>⟨.bool (false == true),by rw [hx,hy];exact zO8 _ _ _ _ underlying4 _,rfl⟩)) ?_;refine zA (zD6 rfl (zB3 rfl) (zB4 (j:=4) (by kernel_rfl) rfl rfl) (fun _ _ h=>h)) ?_
   trivial
  case done8 =>
   refine fun w1 hb1 v0 h0 v1 h1 v2 h2 v3 h3 v4 h4 v5 h5 b hbf => ?_;obtain rfl:=h0;obtain rfl:=h1;obtain rfl:=h2;obtain rfl:=h3;obtain rfl:=h4;obtain rfl:=h5;simp only [Act.put,zA0,zA2,zA1] at hbf;subst hbf;replace B0:=B0.bQ hb1;replace B1:=B1.bQ hb1;replace B2:=B2.bQ hb1;replace k0s:=k0s.bQ hb1;replace k1s:=k1s.bQ hb1;replace k0:=k0.bQ hb1;replace k1:=k1.bQ hb1;replace bb:=bb.trans (hb1.mono bb.size);have hszb:=bb.size;obtain ⟨x00,x01,y00,y01⟩:=Blk.two B0;obtain ⟨x10,x11,y10,y11⟩:=Blk.two B1;obtain ⟨x20,x21,y20,y21⟩:=Blk.two B2;refine zC4 ?_;go_upto_region 5 with (fail);refine zC3 5 [Pd.eq (.pointer (some ⟨w.heap.size,1,none⟩)),Pd.eq (.slice A0 (digs 4294967296 (x).natAbs).length c0),Pd.eq (.pointer (some ⟨w.heap.size+1,1,none⟩)),Pd.eq (.slice A1 (digs 4294967296 (y).natAbs).length c1),pz (x+y) w1.heap.size] (by kernel_rfl) ?ob9 ?done9
   case ob9 =>
    refine zA (zB9 rfl (zB3 rfl) (zB5 rfl rfl) (fun _=>by kernel_rfl) (fun _=>rfl)) ?_;refine zA (zB7 rfl (zB3 rfl) (zB4 (j:=0) (by kernel_rfl) rfl rfl) (fun w2 hb=>zC1 underlying50 rfl ((B0.bQ hb).cell 1)) (fun _ _=>rfl)) ?_;refine zA (zB9 rfl (zB3 rfl) (zB5 rfl rfl) (fun _=>by kernel_rfl) (fun _=>rfl)) ?_;refine zA (zB7 rfl (zB3 rfl) (zB4 (j:=2) (by kernel_rfl) rfl rfl) (fun w2 hb=>zC1 underlying50 rfl ((B1.bQ hb).cell 1)) (fun _ _=>rfl)) ?_;refine zA (zC7 rfl func193 (by kernel_rfl) (zB3 rfl) (zB4 (j:=1) (by kernel_rfl) rfl rfl) (zB4 (j:=3) (by kernel_rfl) rfl rfl) (fun w2 u0 u1 hb h0 h1=>by obtain rfl:=h0;obtain rfl:=h1;exact (yD4 _ _ _ _ (x+y) _ (k0s.bQ hb) (k1s.bQ hb) (zB2 HL.out (by decide)) (zB2 HL2.out (by decide)) HZ.out).mono fun e w3 h=>zF6.pd h hb.size)) ?_
    trivial
   case done9 =>
    refine fun w2 hb2 v0 h0 v1 h1 v2 h2 v3 h3 v4 h4 b hbf => ?_;obtain rfl:=h0;obtain rfl:=h1;obtain rfl:=h2;obtain rfl:=h3;obtain ⟨q4,f4⟩:=h4;simp only [Act.put,zA0,zA2,zA1] at hbf;subst hbf;obtain ⟨u4,rfl,q4⟩:=q4;obtain ⟨A9,c9,rfl,_⟩:=id q4;have B9:=B2.bQ hb2;refine zH0 (i:=5) rfl rfl rfl rfl rfl rfl (cells:=[.bool (ngB (x+y)),.slice A9 (digs 4294967296 (x+y).natAbs).length c9]) rfl B9 rfl (by kernel_rfl) (zG8 rfl rfl) fun w9 hg9 BB9 => ?_;have k9:=off q4 B9 no_ints2 hg9;have f9:=(f4 _ _ rfl).mono (show w.heap.size<=w1.heap.size from bb.size);have bb9:=((bb.trans (hb2.mono bb.size)).trans ((Below.refl _ _).grown hg9 (zB2 bb.size hb2.size) (fun g hg=>by injection hg with hg;omega)));obtain ⟨c0,c1,_,_⟩:=Blk.two BB9;refine zC4 ?_;go_wp2;exact bodyPost_ret (v:=.agg #[.bool (ngB (x+y)),.slice A9 (digs 4294967296 (x+y).natAbs).length c9]) (by simp [results,results176,go_sem,c0,c1]) rfl ⟨_,rfl,zG9 k9 rfl rfl,zL7 f9,bb9⟩
 ·have HZ:Hid (x+y=((y.natAbs:Nat):Int)-((x.natAbs:Nat):Int)):=by show _=_;have:=zO3 hs0;have:=zO9 hs1;omega
  go_enter func176,ntmps176
  go_upto_region 1 with (fail)
  obtain ⟨wx,hwx,bb,B0,B1,B2,hsz⟩:=zK1 w 60 60 60 #[.bool true,.slice A0 (digs 4294967296 (x).natAbs).length c0] #[.bool false,.slice A1 (digs 4294967296 (y).natAbs).length c1] #[.bool false,.slice none 0 0];rw [hwx];clear hwx;have k0s:=s0.bQ bb;have k0:IsZ wx (.agg #[.bool true,.slice A0 (digs 4294967296 (x).natAbs).length c0]) (x):=zG9 k0s rfl hs0.symm;have k1s:=s1.bQ bb;have k1:IsZ wx (.agg #[.bool false,.slice A1 (digs 4294967296 (y).natAbs).length c1]) (y):=zG9 k1s rfl hs1.symm;have hszb:=bb.size;refine zC3 6 [Pd.eq (.pointer (some ⟨w.heap.size,0,none⟩)),Pd.eq (.bool true),Pd.eq (.pointer (some ⟨w.heap.size+1,0,none⟩)),Pd.eq (.bool false),Pd.eq (.bool false),Pd.eq (.bool false)] (by kernel_rfl) ?ob10 ?done10
  case ob10 =>
   refine zA (zB9 rfl (zB3 rfl) (zB5 rfl rfl) (fun _=>by kernel_rfl) (fun _=>rfl)) ?_;refine zA (zB7 rfl (zB3 rfl) (zB4 (j:=0) (by kernel_rfl) rfl rfl) (fun w2 hb=>zC1 underlying4 rfl ((B0.bQ hb).cell 0)) (fun _ _=>rfl)) ?_;refine zA (zB9 rfl (zB3 rfl) (zB5 rfl rfl) (fun _=>by kernel_rfl) (fun _=>rfl)) ?_;refine zA (zB7 rfl (zB3 rfl) (zB4 (j:=2) (by kernel_rfl) rfl rfl) (fun w2 hb=>zC1 underlying4 rfl ((B1.bQ hb).cell 0)) (fun _ _=>rfl)) ?_;refine zA (zE6 rfl (zB3 rfl) (zB4 (j:=1) (by kernel_rfl) rfl rfl) (zB4 (j:=3) (by kernel_rfl) rfl rfl) (fun _ _ _ hx hy=>⟨.bool (true == false),by rw [hx,hy];exact zO8 _ _ _ _ underlying4 _,rfl⟩)) ?_;refine zA (zD6 rfl (zB3 rfl) (zB4 (j:=4) (by kernel_rfl) rfl rfl) (fun _ _ h=>h)) ?_
   trivial
  case done10 =>
   refine fun w1 hb1 v0 h0 v1 h1 v2 h2 v3 h3 v4 h4 v5 h5 b hbf => ?_;obtain rfl:=h0;obtain rfl:=h1;obtain rfl:=h2;obtain rfl:=h3;obtain rfl:=h4;obtain rfl:=h5;simp only [Act.put,zA0,zA2,zA1] at hbf;subst hbf;replace B0:=B0.bQ hb1;replace B1:=B1.bQ hb1;replace B2:=B2.bQ hb1;replace k0s:=k0s.bQ hb1;replace k1s:=k1s.bQ hb1;replace k0:=k0.bQ hb1;replace k1:=k1.bQ hb1;replace bb:=bb.trans (hb1.mono bb.size);have hszb:=bb.size;obtain ⟨x00,x01,y00,y01⟩:=Blk.two B0;obtain ⟨x10,x11,y10,y11⟩:=Blk.two B1;obtain ⟨x20,x21,y20,y21⟩:=Blk.two B2;refine zC4 ?_;go_upto_region 4 with (fail);refine zC3 5 [Pd.eq (.pointer (some ⟨w.heap.size+1,1,none⟩)),Pd.eq (.slice A1 (digs 4294967296 (y).natAbs).length c1),Pd.eq (.pointer (some ⟨w.heap.size,1,none⟩)),Pd.eq (.slice A0 (digs 4294967296 (x).natAbs).length c0),pz (x+y) w1.heap.size] (by kernel_rfl) ?ob11 ?done11
   case ob11 =>
    refine zA (zB9 rfl (zB3 rfl) (zB5 rfl rfl) (fun _=>by kernel_rfl) (fun _=>rfl)) ?_;refine zA (zB7 rfl (zB3 rfl) (zB4 (j:=0) (by kernel_rfl) rfl rfl) (fun w2 hb=>zC1 underlying50 rfl ((B1.bQ hb).cell 1)) (fun _ _=>rfl)) ?_;refine zA (zB9 rfl (zB3 rfl) (zB5 rfl rfl) (fun _=>by kernel_rfl) (fun _=>rfl)) ?_;refine zA (zB7 rfl (zB3 rfl) (zB4 (j:=2) (by kernel_rfl) rfl rfl) (fun w2 hb=>zC1 underlying50 rfl ((B0.bQ hb).cell 1)) (fun _ _=>rfl)) ?_;refine zA (zC7 rfl func193 (by kernel_rfl) (zB3 rfl) (zB4 (j:=1) (by kernel_rfl) rfl rfl) (zB4 (j:=3) (by kernel_rfl) rfl rfl) (fun w2 u0 u1 hb h0 h1=>by obtain rfl:=h0;obtain rfl:=h1;exact (yD4 _ _ _ _ (x+y) _ (k1s.bQ hb) (k0s.bQ hb) (zB2 HL2.out (by decide)) (zB2 HL.out (by decide)) HZ.out).mono fun e w3 h=>zF6.pd h hb.size)) ?_
    trivial
   case done11 =>
    refine fun w2 hb2 v0 h0 v1 h1 v2 h2 v3 h3 v4 h4 b hbf => ?_;obtain rfl:=h0;obtain rfl:=h1;obtain rfl:=h2;obtain rfl:=h3;obtain ⟨q4,f4⟩:=h4;simp only [Act.put,zA0,zA2,zA1] at hbf;subst hbf;obtain ⟨u4,rfl,q4⟩:=q4;obtain ⟨A9,c9,rfl,_⟩:=id q4;have B9:=B2.bQ hb2;refine zH0 (i:=5) rfl rfl rfl rfl rfl rfl (cells:=[.bool (ngB (x+y)),.slice A9 (digs 4294967296 (x+y).natAbs).length c9]) rfl B9 rfl (by kernel_rfl) (zG8 rfl rfl) fun w9 hg9 BB9 => ?_;have k9:=off q4 B9 no_ints2 hg9;have f9:=(f4 _ _ rfl).mono (show w.heap.size<=w1.heap.size from bb.size);have bb9:=((bb.trans (hb2.mono bb.size)).trans ((Below.refl _ _).grown hg9 (zB2 bb.size hb2.size) (fun g hg=>by injection hg with hg;omega)));obtain ⟨c0,c1,_,_⟩:=Blk.two BB9;refine zC4 ?_;go_wp2;exact bodyPost_ret (v:=.agg #[.bool (ngB (x+y)),.slice A9 (digs 4294967296 (x+y).natAbs).length c9]) (by simp [results,results176,go_sem,c0,c1]) rfl ⟨_,rfl,zG9 k9 rfl rfl,zL7 f9,bb9⟩
 ·have HZ:Hid (sg true (x.natAbs+y.natAbs)=x+y):=by show _=_;have:=zO3 hs0;have:=zO3 hs1;rw [zV8];omega
  go_enter func176,ntmps176
  go_upto_region 1 with (fail)
  obtain ⟨wx,hwx,bb,B0,B1,B2,hsz⟩:=zK1 w 60 60 60 #[.bool true,.slice A0 (digs 4294967296 (x).natAbs).length c0] #[.bool true,.slice A1 (digs 4294967296 (y).natAbs).length c1] #[.bool false,.slice none 0 0];rw [hwx];clear hwx;have k0s:=s0.bQ bb;have k0:IsZ wx (.agg #[.bool true,.slice A0 (digs 4294967296 (x).natAbs).length c0]) (x):=zG9 k0s rfl hs0.symm;have k1s:=s1.bQ bb;have k1:IsZ wx (.agg #[.bool true,.slice A1 (digs 4294967296 (y).natAbs).length c1]) (y):=zG9 k1s rfl hs1.symm;have hszb:=bb.size;refine zC3 6 [Pd.eq (.pointer (some ⟨w.heap.size,0,none⟩)),Pd.eq (.bool true),Pd.eq (.pointer (some ⟨w.heap.size+1,0,none⟩)),Pd.eq (.bool true),Pd.eq (.bool true),Pd.eq (.bool true)] (by kernel_rfl) ?ob12 ?done12
  case ob12 =>
   refine zA (zB9 rfl (zB3 rfl) (zB5 rfl rfl) (fun _=>by kernel_rfl) (fun _=>rfl)) ?_;refine zA (zB7 rfl (zB3 rfl) (zB4 (j:=0) (by kernel_rfl) rfl rfl) (fun w2 hb=>zC1 underlying4 rfl ((B0.bQ hb).cell 0)) (fun _ _=>rfl)) ?_;refine zA (zB9 rfl (zB3 rfl) (zB5 rfl rfl) (fun _=>by kernel_rfl) (fun _=>rfl)) ?_;refine zA (zB7 rfl (zB3 rfl) (zB4 (j:=2) (by kernel_rfl) rfl rfl) (fun w2 hb=>zC1 underlying4 rfl ((B1.bQ hb).cell 0)) (fun _ _=>rfl)) ?_;refine zA (zE6 rfl (zB3 rfl) (zB4 (j:=1) (by kernel_rfl) rfl rfl) (zB4 (j:=3) (by kernel_rfl) rfl rfl) (fun _ _ _ hx hy=>⟨.bool (true == true),by rw [hx,hy];exact zO8 _ _ _ _ underlying4 _,rfl⟩)) ?_;refine zA (zD6 rfl (zB3 rfl) (zB4 (j:=4) (by kernel_rfl) rfl rfl) (fun _ _ h=>h)) ?_
   trivial
  case done12 =>
   refine fun w1 hb1 v0 h0 v1 h1 v2 h2 v3 h3 v4 h4 v5 h5 b hbf => ?_;obtain rfl:=h0;obtain rfl:=h1;obtain rfl:=h2;obtain rfl:=h3;obtain rfl:=h4;obtain rfl:=h5;simp only [Act.put,zA0,zA2,zA1] at hbf;subst hbf;replace B0:=B0.bQ hb1;replace B1:=B1.bQ hb1;replace B2:=B2.bQ hb1;replace k0s:=k0s.bQ hb1;replace k1s:=k1s.bQ hb1;replace k0:=k0.bQ hb1;replace k1:=k1.bQ hb1;replace bb:=bb.trans (hb1.mono bb.size);have hszb:=bb.size;obtain ⟨x00,x01,y00,y01⟩:=Blk.two B0;obtain ⟨x10,x11,y10,y11⟩:=Blk.two B1;obtain ⟨x20,x21,y20,y21⟩:=Blk.two B2;refine zC4 ?_;go_upto_region 2 with (fail);refine flow 8 [Pd.eq (.pointer (some ⟨w.heap.size,0,none⟩)),Pd.eq (.bool true),Pd.eq (.pointer (some ⟨w.heap.size,1,none⟩)),Pd.eq (.slice A0 (digs 4294967296 (x).natAbs).length c0),Pd.eq (.pointer (some ⟨w.heap.size+1,1,none⟩)),Pd.eq (.slice A1 (digs 4294967296 (y).natAbs).length c1),ps .u64 (digs 4294967296 (x.natAbs+y.natAbs)) w1.heap.size,pz (x+y) w1.heap.size] (by kernel_rfl) (by kernel_rfl) ?ob13 ?done13
   case ob13 =>
    refine zA (zB9 rfl (zB3 rfl) (zB5 rfl rfl) (fun _=>by kernel_rfl) (fun _=>rfl)) ?_;refine zA (zB7 rfl (zB3 rfl) (zB4 (j:=0) (by kernel_rfl) rfl rfl) (fun w2 hb=>zC1 underlying4 rfl ((B0.drew.bQ hb).cell 0)) (fun _ _=>rfl)) ?_;refine zA (zB9 rfl (zB3 rfl) (zB5 rfl rfl) (fun _=>by kernel_rfl) (fun _=>rfl)) ?_;refine zA (zB7 rfl (zB3 rfl) (zB4 (j:=2) (by kernel_rfl) rfl rfl) (fun w2 hb=>zC1 underlying50 rfl ((B0.drew.bQ hb).cell 1)) (fun _ _=>rfl)) ?_;refine zA (zB9 rfl (zB3 rfl) (zB5 rfl rfl) (fun _=>by kernel_rfl) (fun _=>rfl)) ?_;refine zA (zB7 rfl (zB3 rfl) (zB4 (j:=4) (by kernel_rfl) rfl rfl) (fun w2 hb=>zC1 underlying50 rfl ((B1.drew.bQ hb).cell 1)) (fun _ _=>rfl)) ?_;refine zA (zC7 rfl func165 (by kernel_rfl) (zB3 rfl) (zB4 (j:=3) (by kernel_rfl) rfl rfl) (zB4 (j:=5) (by kernel_rfl) rfl rfl) (fun w2 u0 u1 hb h0 h1=>by obtain rfl:=h0;obtain rfl:=h1;exact (add_any _ _ _ _ _ (k0s.drew.bQ hb) (k1s.drew.bQ hb) _ rfl HS.out).mono fun e w3 h=>zD1.pd h hb.size)) ?_;refine zA (zC7 rfl func105 (by kernel_rfl) (zB3 rfl) (zB4 (j:=1) (by kernel_rfl) rfl rfl) (zB4 (j:=6) (by kernel_rfl) rfl rfl) (fun w2 u0 u1 hb h0 h1=>by obtain rfl:=h0;exact qF2 _ _ _ (x+y) _ h1.1 h1.2 HZ.out)) ?_
    trivial
   case done13 =>
    refine fun w2 hb2 v0 h0 v1 h1 v2 h2 v3 h3 v4 h4 v5 h5 v6 h6 v7 h7 b hbf => ?_;obtain rfl:=h0;obtain rfl:=h1;obtain rfl:=h2;obtain rfl:=h3;obtain rfl:=h4;obtain rfl:=h5;obtain ⟨q6,f6⟩:=h6;obtain ⟨q7,f7⟩:=h7;simp only [Act.put,zA0,zA2,zA1] at hbf;subst hbf;obtain ⟨u7,rfl,q7⟩:=q7;obtain ⟨A9,c9,rfl,_⟩:=id q7;have B9:=B2.bQ hb2;refine zH7 (i:=8) (by kernel_rfl) rfl rfl rfl rfl rfl rfl (cells:=[.bool (ngB (x+y)),.slice A9 (digs 4294967296 (x+y).natAbs).length c9]) rfl B9 rfl (by kernel_rfl) (zG8 rfl rfl) fun w9 hg9 BB9 => ?_;have k9:=off q7 B9 no_ints2 hg9;have f9:=(f7 _ _ rfl).mono (show w.heap.size<=w1.heap.size from bb.size);have bb9:=((bb.trans (hb2.mono bb.size)).trans ((Below.refl _ _).grown hg9 (zB2 bb.size hb2.size) (fun g hg=>by injection hg with hg;omega)));obtain ⟨c0,c1,_,_⟩:=Blk.two BB9;refine zG (by kernel_rfl) ?_;go_wp2;exact bodyPost_ret (v:=.agg #[.bool (ngB (x+y)),.slice A9 (digs 4294967296 (x+y).natAbs).length c9]) (by simp [results,results176,go_sem,c0,c1]) rfl ⟨_,rfl,zG9 k9 rfl rfl,zL7 f9,bb9⟩
theorem yV7 (a0:Value) (x:Int) (a1:Value) (y:Int) (w:World) (h0:IsR w a0 x) (h1:IsR w a1 y) (hl:zC5 x<=30000) (hl2:zC5 y<=30000) :
  Calls prog 177 #[a0,a1] w (zR4 (x+y) w):=by
 have HL:Hid ((digs 10000 x.natAbs).length<=1000000):=zB2 (qA5 x) (by omega);have HL2:Hid ((digs 10000 y.natAbs).length<=1000000):=zB2 (qA5 y) (by omega);obtain ⟨u0,rfl,s0⟩:=h0;obtain ⟨A0,c0,rfl,_⟩:=id s0;obtain ⟨u1,rfl,s1⟩:=h1;obtain ⟨A1,c1,rfl,_⟩:=id s1;rcases hs0:ngB x with _ | _<;>rcases hs1:ngB y with _ | _
 ·have HZ:Hid (sg false (x.natAbs+y.natAbs)=x+y):=by show _=_;have:=zO9 hs0;have:=zO9 hs1;rw [zV9];omega
  go_enter func177,ntmps177
  go_upto_region 1 with (fail)
  obtain ⟨wx,hwx,bb,B0,B1,B2,hsz⟩:=zK1 w 63 63 63 #[.bool false,.slice A0 (digs 10000 (x).natAbs).length c0] #[.bool false,.slice A1 (digs 10000 (y).natAbs).length c1] #[.bool false,.slice none 0 0];rw [hwx];clear hwx;have k0s:=s0.bQ bb;have k0:IsR wx (.agg #[.bool false,.slice A0 (digs 10000 (x).natAbs).length c0]) (x):=zH3 k0s rfl hs0.symm;have k1s:=s1.bQ bb;have k1:IsR wx (.agg #[.bool false,.slice A1 (digs 10000 (y).natAbs).length c1]) (y):=zH3 k1s rfl hs1.symm;have hszb:=bb.size;refine zC3 5 [Pd.eq (.pointer (some ⟨w.heap.size,0,none⟩)),Pd.eq (.bool false),Pd.eq (.pointer (some ⟨w.heap.size+1,0,none⟩)),Pd.eq (.bool false),Pd.eq (.bool true)] (by kernel_rfl) ?ob14 ?done14
  case ob14 =>
   refine zA (zB9 rfl (zB3 rfl) (zB5 rfl rfl) (fun _=>by kernel_rfl) (fun _=>rfl)) ?_;refine zA (zB7 rfl (zB3 rfl) (zB4 (j:=0) (by kernel_rfl) rfl rfl) (fun w2 hb=>zC1 underlying4 rfl ((B0.bQ hb).cell 0)) (fun _ _=>rfl)) ?_;refine zA (zB9 rfl (zB3 rfl) (zB5 rfl rfl) (fun _=>by kernel_rfl) (fun _=>rfl)) ?_;refine zA (zB7 rfl (zB3 rfl) (zB4 (j:=2) (by kernel_rfl) rfl rfl) (fun w2 hb=>zC1 underlying4 rfl ((B1.bQ hb).cell 0)) (fun _ _=>rfl)) ?_;refine zA (zE6 rfl (zB3 rfl) (zB4 (j:=1) (by kernel_rfl) rfl rfl) (zB4 (j:=3) (by kernel_rfl) rfl rfl) (fun _ _ _ hx hy=>⟨.bool (false == false),by rw [hx,hy];exact zO8 _ _ _ _ underlying4 _,rfl⟩)) ?_
   trivial
  case done14 =>
   refine fun w1 hb1 v0 h0 v1 h1 v2 h2 v3 h3 v4 h4 b hbf => ?_;obtain rfl:=h0;obtain rfl:=h1;obtain rfl:=h2;obtain rfl:=h3;obtain rfl:=h4;simp only [Act.put,zA0,zA2,zA1] at hbf;subst hbf;replace B0:=B0.bQ hb1;replace B1:=B1.bQ hb1;replace B2:=B2.bQ hb1;replace k0s:=k0s.bQ hb1;replace k1s:=k1s.bQ hb1;replace k0:=k0.bQ hb1;replace k1:=k1.bQ hb1;replace bb:=bb.trans (hb1.mono bb.size);have hszb:=bb.size;obtain ⟨x00,x01,y00,y01⟩:=Blk.two B0;obtain ⟨x10,x11,y10,y11⟩:=Blk.two B1;obtain ⟨x20,x21,y20,y21⟩:=Blk.two B2;refine zC4 ?_;go_upto_region 2 with (fail);refine flow 8 [Pd.eq (.pointer (some ⟨w.heap.size,0,none⟩)),Pd.eq (.bool false),Pd.eq (.pointer (some ⟨w.heap.size,1,none⟩)),Pd.eq (.slice A0 (digs 10000 (x).natAbs).length c0),Pd.eq (.pointer (some ⟨w.heap.size+1,1,none⟩)),Pd.eq (.slice A1 (digs 10000 (y).natAbs).length c1),ps .i64 (digs 10000 (x.natAbs+y.natAbs)) w1.heap.size,pr (x+y)] (by kernel_rfl) (by kernel_rfl) ?ob15 ?done15
   case ob15 =>
    refine zA (zB9 rfl (zB3 rfl) (zB5 rfl rfl) (fun _=>by kernel_rfl) (fun _=>rfl)) ?_;refine zA (zB7 rfl (zB3 rfl) (zB4 (j:=0) (by kernel_rfl) rfl rfl) (fun w2 hb=>zC1 underlying4 rfl ((B0.drew.bQ hb).cell 0)) (fun _ _=>rfl)) ?_;refine zA (zB9 rfl (zB3 rfl) (zB5 rfl rfl) (fun _=>by kernel_rfl) (fun _=>rfl)) ?_;refine zA (zB7 rfl (zB3 rfl) (zB4 (j:=2) (by kernel_rfl) rfl rfl) (fun w2 hb=>zC1 underlying53 rfl ((B0.drew.bQ hb).cell 1)) (fun _ _=>rfl)) ?_;refine zA (zB9 rfl (zB3 rfl) (zB5 rfl rfl) (fun _=>by kernel_rfl) (fun _=>rfl)) ?_;refine zA (zB7 rfl (zB3 rfl) (zB4 (j:=4) (by kernel_rfl) rfl rfl) (fun w2 hb=>zC1 underlying53 rfl ((B1.drew.bQ hb).cell 1)) (fun _ _=>rfl)) ?_;refine zA (zC7 rfl func194 (by kernel_rfl) (zB3 rfl) (zB4 (j:=3) (by kernel_rfl) rfl rfl) (zB4 (j:=5) (by kernel_rfl) rfl rfl) (fun w2 u0 u1 hb h0 h1=>by obtain rfl:=h0;obtain rfl:=h1;exact (qY8 _ _ _ _ _ (k0s.drew.bQ hb) (k1s.drew.bQ hb) HL.out HL2.out).mono fun e w3 h=>zD1.pd h hb.size)) ?_;refine zA (zC7 rfl func135 (by kernel_rfl) (zB3 rfl) (zB4 (j:=1) (by kernel_rfl) rfl rfl) (zB4 (j:=6) (by kernel_rfl) rfl rfl) (fun w2 u0 u1 hb h0 h1=>by obtain rfl:=h0;exact zU0 _ _ _ (x+y) _ h1.1 HZ.out)) ?_
    trivial
   case done15 =>
    refine fun w2 hb2 v0 h0 v1 h1 v2 h2 v3 h3 v4 h4 v5 h5 v6 h6 v7 h7 b hbf => ?_;obtain rfl:=h0;obtain rfl:=h1;obtain rfl:=h2;obtain rfl:=h3;obtain rfl:=h4;obtain rfl:=h5;obtain ⟨q6,f6⟩:=h6;have q7:=h7;simp only [Act.put,zA0,zA2,zA1] at hbf;subst hbf;obtain ⟨u7,rfl,q7⟩:=q7;obtain ⟨A9,c9,rfl,_⟩:=id q7;have B9:=B2.bQ hb2;refine zH7 (i:=8) (by kernel_rfl) rfl rfl rfl rfl rfl rfl (cells:=[.bool (ngB (x+y)),.slice A9 (digs 10000 (x+y).natAbs).length c9]) rfl B9 rfl (by kernel_rfl) (zG8 rfl rfl) fun w9 hg9 BB9 => ?_;have k9:=off q7 B9 no_ints2 hg9;have bb9:=((bb.trans (hb2.mono bb.size)).trans ((Below.refl _ _).grown hg9 (zB2 bb.size hb2.size) (fun g hg=>by injection hg with hg;omega)));obtain ⟨c0,c1,_,_⟩:=Blk.two BB9;refine zG (by kernel_rfl) ?_;go_wp2;exact bodyPost_ret (v:=.agg #[.bool (ngB (x+y)),.slice A9 (digs 10000 (x+y).natAbs).length c9]) (by simp [results,results177,go_sem,c0,c1]) rfl ⟨_,rfl,zH3 k9 rfl rfl,bb9⟩
 ·by_cases hle:y.natAbs<=x.natAbs
  ·have HZ:Hid (sg false (x.natAbs-y.natAbs)=x+y):=by show _=_;have:=zO9 hs0;have:=zO3 hs1;rw [zV9];omega
   have HO:Hid ((0:Int)<=ord x.natAbs y.natAbs):=by show (0:Int)<=_;have:=qJ0 x.natAbs y.natAbs;have h3:=@zZ7 y.natAbs x.natAbs;have h4:=@zX7 x.natAbs y.natAbs;omega
   have HLE:Hid (y.natAbs<=x.natAbs):=by show _<=_;omega
   clear hle
   go_enter func177,ntmps177
   go_upto_region 1 with (fail)
   obtain ⟨wx,hwx,bb,B0,B1,B2,hsz⟩:=zK1 w 63 63 63 #[.bool false,.slice A0 (digs 10000 (x).natAbs).length c0] #[.bool true,.slice A1 (digs 10000 (y).natAbs).length c1] #[.bool false,.slice none 0 0];rw [hwx];clear hwx;have k0s:=s0.bQ bb;have k0:IsR wx (.agg #[.bool false,.slice A0 (digs 10000 (x).natAbs).length c0]) (x):=zH3 k0s rfl hs0.symm;have k1s:=s1.bQ bb;have k1:IsR wx (.agg #[.bool true,.slice A1 (digs 10000 (y).natAbs).length c1]) (y):=zH3 k1s rfl hs1.symm;have hszb:=bb.size;refine zC3 5 [Pd.eq (.pointer (some ⟨w.heap.size,0,none⟩)),Pd.eq (.bool false),Pd.eq (.pointer (some ⟨w.heap.size+1,0,none⟩)),Pd.eq (.bool true),Pd.eq (.bool false)] (by kernel_rfl) ?ob16 ?done16
   case ob16 =>
    refine zA (zB9 rfl (zB3 rfl) (zB5 rfl rfl) (fun _=>by kernel_rfl) (fun _=>rfl)) ?_;refine zA (zB7 rfl (zB3 rfl) (zB4 (j:=0) (by kernel_rfl) rfl rfl) (fun w2 hb=>zC1 underlying4 rfl ((B0.bQ hb).cell 0)) (fun _ _=>rfl)) ?_;refine zA (zB9 rfl (zB3 rfl) (zB5 rfl rfl) (fun _=>by kernel_rfl) (fun _=>rfl)) ?_;refine zA (zB7 rfl (zB3 rfl) (zB4 (j:=2) (by kernel_rfl) rfl rfl) (fun w2 hb=>zC1 underlying4 rfl ((B1.bQ hb).cell 0)) (fun _ _=>rfl)) ?_;refine zA (zE6 rfl (zB3 rfl) (zB4 (j:=1) (by kernel_rfl) rfl rfl) (zB4 (j:=3) (by kernel_rfl) rfl rfl) (fun _ _ _ hx hy=>⟨.bool (false == true),by rw [hx,hy];exact zO8 _ _ _ _ underlying4 _,rfl⟩)) ?_
    trivial
   case done16 =>
    refine fun w1 hb1 v0 h0 v1 h1 v2 h2 v3 h3 v4 h4 b hbf => ?_;obtain rfl:=h0;obtain rfl:=h1;obtain rfl:=h2;obtain rfl:=h3;obtain rfl:=h4;simp only [Act.put,zA0,zA2,zA1] at hbf;subst hbf;replace B0:=B0.bQ hb1;replace B1:=B1.bQ hb1;replace B2:=B2.bQ hb1;replace k0s:=k0s.bQ hb1;replace k1s:=k1s.bQ hb1;replace k0:=k0.bQ hb1;replace k1:=k1.bQ hb1;replace bb:=bb.trans (hb1.mono bb.size);have hszb:=bb.size;obtain ⟨x00,x01,y00,y01⟩:=Blk.two B0;obtain ⟨x10,x11,y10,y11⟩:=Blk.two B1;obtain ⟨x20,x21,y20,y21⟩:=Blk.two B2;refine zC4 ?_;go_upto_region 3 with (fail);refine zC3 6 [Pd.eq (.pointer (some ⟨w.heap.size,1,none⟩)),Pd.eq (.slice A0 (digs 10000 (x).natAbs).length c0),Pd.eq (.pointer (some ⟨w.heap.size+1,1,none⟩)),Pd.eq (.slice A1 (digs 10000 (y).natAbs).length c1),Pd.eq (.int .i64 (ord x.natAbs y.natAbs)),Pd.eq (.bool true)] (by kernel_rfl) ?ob17 ?done17
    case ob17 =>
     refine zA (zB9 rfl (zB3 rfl) (zB5 rfl rfl) (fun _=>by kernel_rfl) (fun _=>rfl)) ?_;refine zA (zB7 rfl (zB3 rfl) (zB4 (j:=0) (by kernel_rfl) rfl rfl) (fun w2 hb=>zC1 underlying53 rfl ((B0.bQ hb).cell 1)) (fun _ _=>rfl)) ?_;refine zA (zB9 rfl (zB3 rfl) (zB5 rfl rfl) (fun _=>by kernel_rfl) (fun _=>rfl)) ?_;refine zA (zB7 rfl (zB3 rfl) (zB4 (j:=2) (by kernel_rfl) rfl rfl) (fun w2 hb=>zC1 underlying53 rfl ((B1.bQ hb).cell 1)) (fun _ _=>rfl)) ?_;refine zA (zC7 rfl func26 (by kernel_rfl) (zB3 rfl) (zB4 (j:=1) (by kernel_rfl) rfl rfl) (zB4 (j:=3) (by kernel_rfl) rfl rfl) (fun w2 u0 u1 hb h0 h1=>by obtain rfl:=h0;obtain rfl:=h1;exact (zZ9 _ _ _ _ _ _ (k0s.bQ hb) (k1s.bQ hb) rfl).mono fun e w3 h=>zD3.pd h)) ?_;refine zA (zE6 rfl (zB3 rfl) (zB4 (j:=4) (by kernel_rfl) rfl rfl) (zF8 _) (fun _ _ _ hx hy=>⟨_,by rw [hx,hy];exact qE4 _ _ _ _ _,congrArg Value.bool (decide_eq_true HO.out)⟩)) ?_
     trivial
    case done17 =>
     refine fun w2 hb2 v0 h0 v1 h1 v2 h2 v3 h3 v4 h4 v5 h5 b hbf => ?_;obtain rfl:=h0;obtain rfl:=h1;obtain rfl:=h2;obtain rfl:=h3;obtain rfl:=h4;obtain rfl:=h5;simp only [Act.put,zA0,zA2,zA1] at hbf;subst hbf;replace B0:=B0.bQ hb2;replace B1:=B1.bQ hb2;replace B2:=B2.bQ hb2;replace k0s:=k0s.bQ hb2;replace k1s:=k1s.bQ hb2;replace k0:=k0.bQ hb2;replace k1:=k1.bQ hb2;replace bb:=bb.trans (hb2.mono bb.size);have hszb:=bb.size;obtain ⟨x00,x01,y00,y01⟩:=Blk.two B0;obtain ⟨x10,x11,y10,y11⟩:=Blk.two B1;obtain ⟨x20,x21,y20,y21⟩:=Blk.two B2;refine zC4 ?_;go_upto_region 4 with (fail);refine flow 8 [Pd.eq (.pointer (some ⟨w.heap.size,0,none⟩)),Pd.eq (.bool false),Pd.eq (.pointer (some ⟨w.heap.size,1,none⟩)),Pd.eq (.slice A0 (digs 10000 (x).natAbs).length c0),Pd.eq (.pointer (some ⟨w.heap.size+1,1,none⟩)),Pd.eq (.slice A1 (digs 10000 (y).natAbs).length c1),ps .i64 (digs 10000 (x.natAbs-y.natAbs)) w2.heap.size,pr (x+y)] (by kernel_rfl) (by kernel_rfl) ?ob18 ?done18
     case ob18 =>
      refine zA (zB9 rfl (zB3 rfl) (zB5 rfl rfl) (fun _=>by kernel_rfl) (fun _=>rfl)) ?_;refine zA (zB7 rfl (zB3 rfl) (zB4 (j:=0) (by kernel_rfl) rfl rfl) (fun w2 hb=>zC1 underlying4 rfl ((B0.drew.bQ hb).cell 0)) (fun _ _=>rfl)) ?_;refine zA (zB9 rfl (zB3 rfl) (zB5 rfl rfl) (fun _=>by kernel_rfl) (fun _=>rfl)) ?_;refine zA (zB7 rfl (zB3 rfl) (zB4 (j:=2) (by kernel_rfl) rfl rfl) (fun w2 hb=>zC1 underlying53 rfl ((B0.drew.bQ hb).cell 1)) (fun _ _=>rfl)) ?_;refine zA (zB9 rfl (zB3 rfl) (zB5 rfl rfl) (fun _=>by kernel_rfl) (fun _=>rfl)) ?_;refine zA (zB7 rfl (zB3 rfl) (zB4 (j:=4) (by kernel_rfl) rfl rfl) (fun w2 hb=>zC1 underlying53 rfl ((B1.drew.bQ hb).cell 1)) (fun _ _=>rfl)) ?_;refine zA (zC7 rfl func108 (by kernel_rfl) (zB3 rfl) (zB4 (j:=3) (by kernel_rfl) rfl rfl) (zB4 (j:=5) (by kernel_rfl) rfl rfl) (fun w2 u0 u1 hb h0 h1=>by obtain rfl:=h0;obtain rfl:=h1;exact (qD1 _ _ _ _ _ (k0s.drew.bQ hb) (k1s.drew.bQ hb) HL.out HLE.out _ rfl).mono fun e w3 h=>zD1.pd h hb.size)) ?_;refine zA (zC7 rfl func135 (by kernel_rfl) (zB3 rfl) (zB4 (j:=1) (by kernel_rfl) rfl rfl) (zB4 (j:=6) (by kernel_rfl) rfl rfl) (fun w2 u0 u1 hb h0 h1=>by obtain rfl:=h0;exact zU0 _ _ _ (x+y) _ h1.1 HZ.out)) ?_
      trivial
     case done18 =>
      refine fun w3 hb3 v0 h0 v1 h1 v2 h2 v3 h3 v4 h4 v5 h5 v6 h6 v7 h7 b hbf => ?_;obtain rfl:=h0;obtain rfl:=h1;obtain rfl:=h2;obtain rfl:=h3;obtain rfl:=h4;obtain rfl:=h5;obtain ⟨q6,f6⟩:=h6;have q7:=h7;simp only [Act.put,zA0,zA2,zA1] at hbf;subst hbf;obtain ⟨u7,rfl,q7⟩:=q7;obtain ⟨A9,c9,rfl,_⟩:=id q7;have B9:=B2.bQ hb3;refine zH7 (i:=8) (by kernel_rfl) rfl rfl rfl rfl rfl rfl (cells:=[.bool (ngB (x+y)),.slice A9 (digs 10000 (x+y).natAbs).length c9]) rfl B9 rfl (by kernel_rfl) (zG8 rfl rfl) fun w9 hg9 BB9 => ?_;have k9:=off q7 B9 no_ints2 hg9;have bb9:=((bb.trans (hb3.mono bb.size)).trans ((Below.refl _ _).grown hg9 (zB2 bb.size hb3.size) (fun g hg=>by injection hg with hg;omega)));obtain ⟨c0,c1,_,_⟩:=Blk.two BB9;refine zG (by kernel_rfl) ?_;go_wp2;exact bodyPost_ret (v:=.agg #[.bool (ngB (x+y)),.slice A9 (digs 10000 (x+y).natAbs).length c9]) (by simp [results,results177,go_sem,c0,c1]) rfl ⟨_,rfl,zH3 k9 rfl rfl,bb9⟩
  ·have HZ:Hid (sg true (y.natAbs-x.natAbs)=x+y):=by show _=_;have:=zO9 hs0;have:=zO3 hs1;rw [zV8];omega
   have HO:Hid (¬ (0:Int)<=ord x.natAbs y.natAbs):=by show ¬ _;have:=qJ0 x.natAbs y.natAbs;have h3:=@zZ7 y.natAbs x.natAbs;have h4:=@zX7 x.natAbs y.natAbs;omega
   have HLE:Hid (x.natAbs<=y.natAbs):=by show _<=_;omega
   clear hle
   go_enter func177,ntmps177
   go_upto_region 1 with (fail)
   obtain ⟨wx,hwx,bb,B0,B1,B2,hsz⟩:=zK1 w 63 63 63 #[.bool false,.slice A0 (digs 10000 (x).natAbs).length c0] #[.bool true,.slice A1 (digs 10000 (y).natAbs).length c1] #[.bool false,.slice none 0 0];rw [hwx];clear hwx;have k0s:=s0.bQ bb;have k0:IsR wx (.agg #[.bool false,.slice A0 (digs 10000 (x).natAbs).length c0]) (x):=zH3 k0s rfl hs0.symm;have k1s:=s1.bQ bb;have k1:IsR wx (.agg #[.bool true,.slice A1 (digs 10000 (y).natAbs).length c1]) (y):=zH3 k1s rfl hs1.symm;have hszb:=bb.size;refine zC3 5 [Pd.eq (.pointer (some ⟨w.heap.size,0,none⟩)),Pd.eq (.bool false),Pd.eq (.pointer (some ⟨w.heap.size+1,0,none⟩)),Pd.eq (.bool true),Pd.eq (.bool false)] (by kernel_rfl) ?ob19 ?done19
   case ob19 =>
    refine zA (zB9 rfl (zB3 rfl) (zB5 rfl rfl) (fun _=>by kernel_rfl) (fun _=>rfl)) ?_;refine zA (zB7 rfl (zB3 rfl) (zB4 (j:=0) (by kernel_rfl) rfl rfl) (fun w2 hb=>zC1 underlying4 rfl ((B0.bQ hb).cell 0)) (fun _ _=>rfl)) ?_;refine zA (zB9 rfl (zB3 rfl) (zB5 rfl rfl) (fun _=>by kernel_rfl) (fun _=>rfl)) ?_;refine zA (zB7 rfl (zB3 rfl) (zB4 (j:=2) (by kernel_rfl) rfl rfl) (fun w2 hb=>zC1 underlying4 rfl ((B1.bQ hb).cell 0)) (fun _ _=>rfl)) ?_;refine zA (zE6 rfl (zB3 rfl) (zB4 (j:=1) (by kernel_rfl) rfl rfl) (zB4 (j:=3) (by kernel_rfl) rfl rfl) (fun _ _ _ hx hy=>⟨.bool (false == true),by rw [hx,hy];exact zO8 _ _ _ _ underlying4 _,rfl⟩)) ?_
    trivial
   case done19 =>
    refine fun w1 hb1 v0 h0 v1 h1 v2 h2 v3 h3 v4 h4 b hbf => ?_;obtain rfl:=h0;obtain rfl:=h1;obtain rfl:=h2;obtain rfl:=h3;obtain rfl:=h4;simp only [Act.put,zA0,zA2,zA1] at hbf;subst hbf;replace B0:=B0.bQ hb1;replace B1:=B1.bQ hb1;replace B2:=B2.bQ hb1;replace k0s:=k0s.bQ hb1;replace k1s:=k1s.bQ hb1;replace k0:=k0.bQ hb1;replace k1:=k1.bQ hb1;replace bb:=bb.trans (hb1.mono bb.size);have hszb:=bb.size;obtain ⟨x00,x01,y00,y01⟩:=Blk.two B0;obtain ⟨x10,x11,y10,y11⟩:=Blk.two B1;obtain ⟨x20,x21,y20,y21⟩:=Blk.two B2;refine zC4 ?_;go_upto_region 3 with (fail);refine zC3 6 [Pd.eq (.pointer (some ⟨w.heap.size,1,none⟩)),Pd.eq (.slice A0 (digs 10000 (x).natAbs).length c0),Pd.eq (.pointer (some ⟨w.heap.size+1,1,none⟩)),Pd.eq (.slice A1 (digs 10000 (y).natAbs).length c1),Pd.eq (.int .i64 (ord x.natAbs y.natAbs)),Pd.eq (.bool false)] (by kernel_rfl) ?ob20 ?done20
    case ob20 =>
     refine zA (zB9 rfl (zB3 rfl) (zB5 rfl rfl) (fun _=>by kernel_rfl) (fun _=>rfl)) ?_;refine zA (zB7 rfl (zB3 rfl) (zB4 (j:=0) (by kernel_rfl) rfl rfl) (fun w2 hb=>zC1 underlying53 rfl ((B0.bQ hb).cell 1)) (fun _ _=>rfl)) ?_;refine zA (zB9 rfl (zB3 rfl) (zB5 rfl rfl) (fun _=>by kernel_rfl) (fun _=>rfl)) ?_;refine zA (zB7 rfl (zB3 rfl) (zB4 (j:=2) (by kernel_rfl) rfl rfl) (fun w2 hb=>zC1 underlying53 rfl ((B1.bQ hb).cell 1)) (fun _ _=>rfl)) ?_;refine zA (zC7 rfl func26 (by kernel_rfl) (zB3 rfl) (zB4 (j:=1) (by kernel_rfl) rfl rfl) (zB4 (j:=3) (by kernel_rfl) rfl rfl) (fun w2 u0 u1 hb h0 h1=>by obtain rfl:=h0;obtain rfl:=h1;exact (zZ9 _ _ _ _ _ _ (k0s.bQ hb) (k1s.bQ hb) rfl).mono fun e w3 h=>zD3.pd h)) ?_;refine zA (zE6 rfl (zB3 rfl) (zB4 (j:=4) (by kernel_rfl) rfl rfl) (zF8 _) (fun _ _ _ hx hy=>⟨_,by rw [hx,hy];exact qE4 _ _ _ _ _,congrArg Value.bool (decide_eq_false HO.out)⟩)) ?_
     trivial
    case done20 =>
     refine fun w2 hb2 v0 h0 v1 h1 v2 h2 v3 h3 v4 h4 v5 h5 b hbf => ?_;obtain rfl:=h0;obtain rfl:=h1;obtain rfl:=h2;obtain rfl:=h3;obtain rfl:=h4;obtain rfl:=h5;simp only [Act.put,zA0,zA2,zA1] at hbf;subst hbf;replace B0:=B0.bQ hb2;replace B1:=B1.bQ hb2;replace B2:=B2.bQ hb2;replace k0s:=k0s.bQ hb2;replace k1s:=k1s.bQ hb2;replace k0:=k0.bQ hb2;replace k1:=k1.bQ hb2;replace bb:=bb.trans (hb2.mono bb.size);have hszb:=bb.size;obtain ⟨x00,x01,y00,y01⟩:=Blk.two B0;obtain ⟨x10,x11,y10,y11⟩:=Blk.two B1;obtain ⟨x20,x21,y20,y21⟩:=Blk.two B2;refine zC4 ?_;go_upto_region 5 with (fail);refine flow 8 [Pd.eq (.pointer (some ⟨w.heap.size+1,0,none⟩)),Pd.eq (.bool true),Pd.eq (.pointer (some ⟨w.heap.size+1,1,none⟩)),Pd.eq (.slice A1 (digs 10000 (y).natAbs).length c1),Pd.eq (.pointer (some ⟨w.heap.size,1,none⟩)),Pd.eq (.slice A0 (digs 10000 (x).natAbs).length c0),ps .i64 (digs 10000 (y.natAbs-x.natAbs)) w2.heap.size,pr (x+y)] (by kernel_rfl) (by kernel_rfl) ?ob21 ?done21
     case ob21 =>
      refine zA (zB9 rfl (zB3 rfl) (zB5 rfl rfl) (fun _=>by kernel_rfl) (fun _=>rfl)) ?_;refine zA (zB7 rfl (zB3 rfl) (zB4 (j:=0) (by kernel_rfl) rfl rfl) (fun w2 hb=>zC1 underlying4 rfl ((B1.drew.bQ hb).cell 0)) (fun _ _=>rfl)) ?_;refine zA (zB9 rfl (zB3 rfl) (zB5 rfl rfl) (fun _=>by kernel_rfl) (fun _=>rfl)) ?_;refine zA (zB7 rfl (zB3 rfl) (zB4 (j:=2) (by kernel_rfl) rfl rfl) (fun w2 hb=>zC1 underlying53 rfl ((B1.drew.bQ hb).cell 1)) (fun _ _=>rfl)) ?_;refine zA (zB9 rfl (zB3 rfl) (zB5 rfl rfl) (fun _=>by kernel_rfl) (fun _=>rfl)) ?_;refine zA (zB7 rfl (zB3 rfl) (zB4 (j:=4) (by kernel_rfl) rfl rfl) (fun w2 hb=>zC1 underlying53 rfl ((B0.drew.bQ hb).cell 1)) (fun _ _=>rfl)) ?_;refine zA (zC7 rfl func108 (by kernel_rfl) (zB3 rfl) (zB4 (j:=3) (by kernel_rfl) rfl rfl) (zB4 (j:=5) (by kernel_rfl) rfl rfl) (fun w2 u0 u1 hb h0 h1=>by obtain rfl:=h0;obtain rfl:=h1;exact (qD1 _ _ _ _ _ (k1s.drew.bQ hb) (k0s.drew.bQ hb) HL2.out HLE.out _ rfl).mono fun e w3 h=>zD1.pd h hb.size)) ?_;refine zA (zC7 rfl func135 (by kernel_rfl) (zB3 rfl) (zB4 (j:=1) (by kernel_rfl) rfl rfl) (zB4 (j:=6) (by kernel_rfl) rfl rfl) (fun w2 u0 u1 hb h0 h1=>by obtain rfl:=h0;exact zU0 _ _ _ (x+y) _ h1.1 HZ.out)) ?_
      trivial
     case done21 =>
      refine fun w3 hb3 v0 h0 v1 h1 v2 h2 v3 h3 v4 h4 v5 h5 v6 h6 v7 h7 b hbf => ?_;obtain rfl:=h0;obtain rfl:=h1;obtain rfl:=h2;obtain rfl:=h3;obtain rfl:=h4;obtain rfl:=h5;obtain ⟨q6,f6⟩:=h6;have q7:=h7;simp only [Act.put,zA0,zA2,zA1] at hbf;subst hbf;obtain ⟨u7,rfl,q7⟩:=q7;obtain ⟨A9,c9,rfl,_⟩:=id q7;have B9:=B2.bQ hb3;refine zH7 (i:=8) (by kernel_rfl) rfl rfl rfl rfl rfl rfl (cells:=[.bool (ngB (x+y)),.slice A9 (digs 10000 (x+y).natAbs).length c9]) rfl B9 rfl (by kernel_rfl) (zG8 rfl rfl) fun w9 hg9 BB9 => ?_;have k9:=off q7 B9 no_ints2 hg9;have bb9:=((bb.trans (hb3.mono bb.size)).trans ((Below.refl _ _).grown hg9 (zB2 bb.size hb3.size) (fun g hg=>by injection hg with hg;omega)));obtain ⟨c0,c1,_,_⟩:=Blk.two BB9;refine zG (by kernel_rfl) ?_;go_wp2;exact bodyPost_ret (v:=.agg #[.bool (ngB (x+y)),.slice A9 (digs 10000 (x+y).natAbs).length c9]) (by simp [results,results177,go_sem,c0,c1]) rfl ⟨_,rfl,zH3 k9 rfl rfl,bb9⟩
 ·by_cases hle:y.natAbs<=x.natAbs
  ·have HZ:Hid (sg true (x.natAbs-y.natAbs)=x+y):=by show _=_;have:=zO3 hs0;have:=zO9 hs1;rw [zV8];omega
   have HO:Hid ((0:Int)<=ord x.natAbs y.natAbs):=by show (0:Int)<=_;have:=qJ0 x.natAbs y.natAbs;have h3:=@zZ7 y.natAbs x.natAbs;have h4:=@zX7 x.natAbs y.natAbs;omega
   have HLE:Hid (y.natAbs<=x.natAbs):=by show _<=_;omega
   clear hle
   go_enter func177,ntmps177
   go_upto_region 1 with (fail)
   obtain ⟨wx,hwx,bb,B0,B1,B2,hsz⟩:=zK1 w 63 63 63 #[.bool true,.slice A0 (digs 10000 (x).natAbs).length c0] #[.bool false,.slice A1 (digs 10000 (y).natAbs).length c1] #[.bool false,.slice none 0 0];rw [hwx];clear hwx;have k0s:=s0.bQ bb;have k0:IsR wx (.agg #[.bool true,.slice A0 (digs 10000 (x).natAbs).length c0]) (x):=zH3 k0s rfl hs0.symm;have k1s:=s1.bQ bb;have k1:IsR wx (.agg #[.bool false,.slice A1 (digs 10000 (y).natAbs).length c1]) (y):=zH3 k1s rfl hs1.symm;have hszb:=bb.size;refine zC3 5 [Pd.eq (.pointer (some ⟨w.heap.size,0,none⟩)),Pd.eq (.bool true),Pd.eq (.pointer (some ⟨w.heap.size+1,0,none⟩)),Pd.eq (.bool false),Pd.eq (.bool false)] (by kernel_rfl) ?ob22 ?done22
   case ob22 =>
    refine zA (zB9 rfl (zB3 rfl) (zB5 rfl rfl) (fun _=>by kernel_rfl) (fun _=>rfl)) ?_;refine zA (zB7 rfl (zB3 rfl) (zB4 (j:=0) (by kernel_rfl) rfl rfl) (fun w2 hb=>zC1 underlying4 rfl ((B0.bQ hb).cell 0)) (fun _ _=>rfl)) ?_;refine zA (zB9 rfl (zB3 rfl) (zB5 rfl rfl) (fun _=>by kernel_rfl) (fun _=>rfl)) ?_;refine zA (zB7 rfl (zB3 rfl) (zB4 (j:=2) (by kernel_rfl) rfl rfl) (fun w2 hb=>zC1 underlying4 rfl ((B1.bQ hb).cell 0)) (fun _ _=>rfl)) ?_;refine zA (zE6 rfl (zB3 rfl) (zB4 (j:=1) (by kernel_rfl) rfl rfl) (zB4 (j:=3) (by kernel_rfl) rfl rfl) (fun _ _ _ hx hy=>⟨.bool (true == false),by rw [hx,hy];exact zO8 _ _ _ _ underlying4 _,rfl⟩)) ?_
    trivial
   case done22 =>
    refine fun w1 hb1 v0 h0 v1 h1 v2 h2 v3 h3 v4 h4 b hbf => ?_;obtain rfl:=h0;obtain rfl:=h1;obtain rfl:=h2;obtain rfl:=h3;obtain rfl:=h4;simp only [Act.put,zA0,zA2,zA1] at hbf;subst hbf;replace B0:=B0.bQ hb1;replace B1:=B1.bQ hb1;replace B2:=B2.bQ hb1;replace k0s:=k0s.bQ hb1;replace k1s:=k1s.bQ hb1;replace k0:=k0.bQ hb1;replace k1:=k1.bQ hb1;replace bb:=bb.trans (hb1.mono bb.size);have hszb:=bb.size;obtain ⟨x00,x01,y00,y01⟩:=Blk.two B0;obtain ⟨x10,x11,y10,y11⟩:=Blk.two B1;obtain ⟨x20,x21,y20,y21⟩:=Blk.two B2;refine zC4 ?_;go_upto_region 3 with (fail);refine zC3 6 [Pd.eq (.pointer (some ⟨w.heap.size,1,none⟩)),Pd.eq (.slice A0 (digs 10000 (x).natAbs).length c0),Pd.eq (.pointer (some ⟨w.heap.size+1,1,none⟩)),Pd.eq (.slice A1 (digs 10000 (y).natAbs).length c1),Pd.eq (.int .i64 (ord x.natAbs y.natAbs)),Pd.eq (.bool true)] (by kernel_rfl) ?ob23 ?done23
    case ob23 =>
     refine zA (zB9 rfl (zB3 rfl) (zB5 rfl rfl) (fun _=>by kernel_rfl) (fun _=>rfl)) ?_;refine zA (zB7 rfl (zB3 rfl) (zB4 (j:=0) (by kernel_rfl) rfl rfl) (fun w2 hb=>zC1 underlying53 rfl ((B0.bQ hb).cell 1)) (fun _ _=>rfl)) ?_;refine zA (zB9 rfl (zB3 rfl) (zB5 rfl rfl) (fun _=>by kernel_rfl) (fun _=>rfl)) ?_;refine zA (zB7 rfl (zB3 rfl) (zB4 (j:=2) (by kernel_rfl) rfl rfl) (fun w2 hb=>zC1 underlying53 rfl ((B1.bQ hb).cell 1)) (fun _ _=>rfl)) ?_;refine zA (zC7 rfl func26 (by kernel_rfl) (zB3 rfl) (zB4 (j:=1) (by kernel_rfl) rfl rfl) (zB4 (j:=3) (by kernel_rfl) rfl rfl) (fun w2 u0 u1 hb h0 h1=>by obtain rfl:=h0;obtain rfl:=h1;exact (zZ9 _ _ _ _ _ _ (k0s.bQ hb) (k1s.bQ hb) rfl).mono fun e w3 h=>zD3.pd h)) ?_;refine zA (zE6 rfl (zB3 rfl) (zB4 (j:=4) (by kernel_rfl) rfl rfl) (zF8 _) (fun _ _ _ hx hy=>⟨_,by rw [hx,hy];exact qE4 _ _ _ _ _,congrArg Value.bool (decide_eq_true HO.out)⟩)) ?_
     trivial
    case done23 =>
     refine fun w2 hb2 v0 h0 v1 h1 v2 h2 v3 h3 v4 h4 v5 h5 b hbf => ?_;obtain rfl:=h0;obtain rfl:=h1;obtain rfl:=h2;obtain rfl:=h3;obtain rfl:=h4;obtain rfl:=h5;simp only [Act.put,zA0,zA2,zA1] at hbf;subst hbf;replace B0:=B0.bQ hb2;replace B1:=B1.bQ hb2;replace B2:=B2.bQ hb2;replace k0s:=k0s.bQ hb2;replace k1s:=k1s.bQ hb2;replace k0:=k0.bQ hb2;replace k1:=k1.bQ hb2;replace bb:=bb.trans (hb2.mono bb.size);have hszb:=bb.size;obtain ⟨x00,x01,y00,y01⟩:=Blk.two B0;obtain ⟨x10,x11,y10,y11⟩:=Blk.two B1;obtain ⟨x20,x21,y20,y21⟩:=Blk.two B2;refine zC4 ?_;go_upto_region 4 with (fail);refine flow 8 [Pd.eq (.pointer (some ⟨w.heap.size,0,none⟩)),Pd.eq (.bool true),Pd.eq (.pointer (some ⟨w.heap.size,1,none⟩)),Pd.eq (.slice A0 (digs 10000 (x).natAbs).length c0),Pd.eq (.pointer (some ⟨w.heap.size+1,1,none⟩)),Pd.eq (.slice A1 (digs 10000 (y).natAbs).length c1),ps .i64 (digs 10000 (x.natAbs-y.natAbs)) w2.heap.size,pr (x+y)] (by kernel_rfl) (by kernel_rfl) ?ob24 ?done24
     case ob24 =>
      refine zA (zB9 rfl (zB3 rfl) (zB5 rfl rfl) (fun _=>by kernel_rfl) (fun _=>rfl)) ?_;refine zA (zB7 rfl (zB3 rfl) (zB4 (j:=0) (by kernel_rfl) rfl rfl) (fun w2 hb=>zC1 underlying4 rfl ((B0.drew.bQ hb).cell 0)) (fun _ _=>rfl)) ?_;refine zA (zB9 rfl (zB3 rfl) (zB5 rfl rfl) (fun _=>by kernel_rfl) (fun _=>rfl)) ?_;refine zA (zB7 rfl (zB3 rfl) (zB4 (j:=2) (by kernel_rfl) rfl rfl) (fun w2 hb=>zC1 underlying53 rfl ((B0.drew.bQ hb).cell 1)) (fun _ _=>rfl)) ?_;refine zA (zB9 rfl (zB3 rfl) (zB5 rfl rfl) (fun _=>by kernel_rfl) (fun _=>rfl)) ?_;refine zA (zB7 rfl (zB3 rfl) (zB4 (j:=4) (by kernel_rfl) rfl rfl) (fun w2 hb=>zC1 underlying53 rfl ((B1.drew.bQ hb).cell 1)) (fun _ _=>rfl)) ?_;refine zA (zC7 rfl func108 (by kernel_rfl) (zB3 rfl) (zB4 (j:=3) (by kernel_rfl) rfl rfl) (zB4 (j:=5) (by kernel_rfl) rfl rfl) (fun w2 u0 u1 hb h0 h1=>by obtain rfl:=h0;obtain rfl:=h1;exact (qD1 _ _ _ _ _ (k0s.drew.bQ hb) (k1s.drew.bQ hb) HL.out HLE.out _ rfl).mono fun e w3 h=>zD1.pd h hb.size)) ?_;refine zA (zC7 rfl func135 (by kernel_rfl) (zB3 rfl) (zB4 (j:=1) (by kernel_rfl) rfl rfl) (zB4 (j:=6) (by kernel_rfl) rfl rfl) (fun w2 u0 u1 hb h0 h1=>by obtain rfl:=h0;exact zU0 _ _ _ (x+y) _ h1.1 HZ.out)) ?_
      trivial
     case done24 =>
      refine fun w3 hb3 v0 h0 v1 h1 v2 h2 v3 h3 v4 h4 v5 h5 v6 h6 v7 h7 b hbf => ?_;obtain rfl:=h0;obtain rfl:=h1;obtain rfl:=h2;obtain rfl:=h3;obtain rfl:=h4;obtain rfl:=h5;obtain ⟨q6,f6⟩:=h6;have q7:=h7;simp only [Act.put,zA0,zA2,zA1] at hbf;subst hbf;obtain ⟨u7,rfl,q7⟩:=q7;obtain ⟨A9,c9,rfl,_⟩:=id q7;have B9:=B2.bQ hb3;refine zH7 (i:=8) (by kernel_rfl) rfl rfl rfl rfl rfl rfl (cells:=[.bool (ngB (x+y)),.slice A9 (digs 10000 (x+y).natAbs).length c9]) rfl B9 rfl (by kernel_rfl) (zG8 rfl rfl) fun w9 hg9 BB9 => ?_;have k9:=off q7 B9 no_ints2 hg9;have bb9:=((bb.trans (hb3.mono bb.size)).trans ((Below.refl _ _).grown hg9 (zB2 bb.size hb3.size) (fun g hg=>by injection hg with hg;omega)));obtain ⟨c0,c1,_,_⟩:=Blk.two BB9;refine zG (by kernel_rfl) ?_;go_wp2;exact bodyPost_ret (v:=.agg #[.bool (ngB (x+y)),.slice A9 (digs 10000 (x+y).natAbs).length c9]) (by simp [results,results177,go_sem,c0,c1]) rfl ⟨_,rfl,zH3 k9 rfl rfl,bb9⟩
  ·have HZ:Hid (sg false (y.natAbs-x.natAbs)=x+y):=by show _=_;have:=zO3 hs0;have:=zO9 hs1;rw [zV9];omega
   have HO:Hid (¬ (0:Int)<=ord x.natAbs y.natAbs):=by show ¬ _;have:=qJ0 x.natAbs y.natAbs;have h3:=@zZ7 y.natAbs x.natAbs;have h4:=@zX7 x.natAbs y.natAbs;omega
   have HLE:Hid (x.natAbs<=y.natAbs):=by show _<=_;omega
   clear hle
   go_enter func177,ntmps177
   go_upto_region 1 with (fail)
   obtain ⟨wx,hwx,bb,B0,B1,B2,hsz⟩:=zK1 w 63 63 63 #[.bool true,.slice A0 (digs 10000 (x).natAbs).length c0] #[.bool false,.slice A1 (digs 10000 (y).natAbs).length c1] #[.bool false,.slice none 0 0];rw [hwx];clear hwx;have k0s:=s0.bQ bb;have k0:IsR wx (.agg #[.bool true,.slice A0 (digs 10000 (x).natAbs).length c0]) (x):=zH3 k0s rfl hs0.symm;have k1s:=s1.bQ bb;have k1:IsR wx (.agg #[.bool false,.slice A1 (digs 10000 (y).natAbs).length c1]) (y):=zH3 k1s rfl hs1.symm;have hszb:=bb.size;refine zC3 5 [Pd.eq (.pointer (some ⟨w.heap.size,0,none⟩)),Pd.eq (.bool true),Pd.eq (.pointer (some ⟨w.heap.size+1,0,none⟩)),Pd.eq (.bool false),Pd.eq (.bool false)] (by kernel_rfl) ?ob25 ?done25
   case ob25 =>
    refine zA (zB9 rfl (zB3 rfl) (zB5 rfl rfl) (fun _=>by kernel_rfl) (fun _=>rfl)) ?_;refine zA (zB7 rfl (zB3 rfl) (zB4 (j:=0) (by kernel_rfl) rfl rfl) (fun w2 hb=>zC1 underlying4 rfl ((B0.bQ hb).cell 0)) (fun _ _=>rfl)) ?_;refine zA (zB9 rfl (zB3 rfl) (zB5 rfl rfl) (fun _=>by kernel_rfl) (fun _=>rfl)) ?_;refine zA (zB7 rfl (zB3 rfl) (zB4 (j:=2) (by kernel_rfl) rfl rfl) (fun w2 hb=>zC1 underlying4 rfl ((B1.bQ hb).cell 0)) (fun _ _=>rfl)) ?_;refine zA (zE6 rfl (zB3 rfl) (zB4 (j:=1) (by kernel_rfl) rfl rfl) (zB4 (j:=3) (by kernel_rfl) rfl rfl) (fun _ _ _ hx hy=>⟨.bool (true == false),by rw [hx,hy];exact zO8 _ _ _ _ underlying4 _,rfl⟩)) ?_
    trivial
   case done25 =>
    refine fun w1 hb1 v0 h0 v1 h1 v2 h2 v3 h3 v4 h4 b hbf => ?_;obtain rfl:=h0;obtain rfl:=h1;obtain rfl:=h2;obtain rfl:=h3;obtain rfl:=h4;simp only [Act.put,zA0,zA2,zA1] at hbf;subst hbf;replace B0:=B0.bQ hb1;replace B1:=B1.bQ hb1;replace B2:=B2.bQ hb1;replace k0s:=k0s.bQ hb1;replace k1s:=k1s.bQ hb1;replace k0:=k0.bQ hb1;replace k1:=k1.bQ hb1;replace bb:=bb.trans (hb1.mono bb.size);have hszb:=bb.size;obtain ⟨x00,x01,y00,y01⟩:=Blk.two B0;obtain ⟨x10,x11,y10,y11⟩:=Blk.two B1;obtain ⟨x20,x21,y20,y21⟩:=Blk.two B2;refine zC4 ?_;go_upto_region 3 with (fail);refine zC3 6 [Pd.eq (.pointer (some ⟨w.heap.size,1,none⟩)),Pd.eq (.slice A0 (digs 10000 (x).natAbs).length c0),Pd.eq (.pointer (some ⟨w.heap.size+1,1,none⟩)),Pd.eq (.slice A1 (digs 10000 (y).natAbs).length c1),Pd.eq (.int .i64 (ord x.natAbs y.natAbs)),Pd.eq (.bool false)] (by kernel_rfl) ?ob26 ?done26
    case ob26 =>
     refine zA (zB9 rfl (zB3 rfl) (zB5 rfl rfl) (fun _=>by kernel_rfl) (fun _=>rfl)) ?_;refine zA (zB7 rfl (zB3 rfl) (zB4 (j:=0) (by kernel_rfl) rfl rfl) (fun w2 hb=>zC1 underlying53 rfl ((B0.bQ hb).cell 1)) (fun _ _=>rfl)) ?_;refine zA (zB9 rfl (zB3 rfl) (zB5 rfl rfl) (fun _=>by kernel_rfl) (fun _=>rfl)) ?_;refine zA (zB7 rfl (zB3 rfl) (zB4 (j:=2) (by kernel_rfl) rfl rfl) (fun w2 hb=>zC1 underlying53 rfl ((B1.bQ hb).cell 1)) (fun _ _=>rfl)) ?_;refine zA (zC7 rfl func26 (by kernel_rfl) (zB3 rfl) (zB4 (j:=1) (by kernel_rfl) rfl rfl) (zB4 (j:=3) (by kernel_rfl) rfl rfl) (fun w2 u0 u1 hb h0 h1=>by obtain rfl:=h0;obtain rfl:=h1;exact (zZ9 _ _ _ _ _ _ (k0s.bQ hb) (k1s.bQ hb) rfl).mono fun e w3 h=>zD3.pd h)) ?_;refine zA (zE6 rfl (zB3 rfl) (zB4 (j:=4) (by kernel_rfl) rfl rfl) (zF8 _) (fun _ _ _ hx hy=>⟨_,by rw [hx,hy];exact qE4 _ _ _ _ _,congrArg Value.bool (decide_eq_false HO.out)⟩)) ?_
     trivial
    case done26 =>
     refine fun w2 hb2 v0 h0 v1 h1 v2 h2 v3 h3 v4 h4 v5 h5 b hbf => ?_;obtain rfl:=h0;obtain rfl:=h1;obtain rfl:=h2;obtain rfl:=h3;obtain rfl:=h4;obtain rfl:=h5;simp only [Act.put,zA0,zA2,zA1] at hbf;subst hbf;replace B0:=B0.bQ hb2;replace B1:=B1.bQ hb2;replace B2:=B2.bQ hb2;replace k0s:=k0s.bQ hb2;replace k1s:=k1s.bQ hb2;replace k0:=k0.bQ hb2;replace k1:=k1.bQ hb2;replace bb:=bb.trans (hb2.mono bb.size);have hszb:=bb.size;obtain ⟨x00,x01,y00,y01⟩:=Blk.two B0;obtain ⟨x10,x11,y10,y11⟩:=Blk.two B1;obtain ⟨x20,x21,y20,y21⟩:=Blk.two B2;refine zC4 ?_;go_upto_region 5 with (fail);refine flow 8 [Pd.eq (.pointer (some ⟨w.heap.size+1,0,none⟩)),Pd.eq (.bool false),Pd.eq (.pointer (some ⟨w.heap.size+1,1,none⟩)),Pd.eq (.slice A1 (digs 10000 (y).natAbs).length c1),Pd.eq (.pointer (some ⟨w.heap.size,1,none⟩)),Pd.eq (.slice A0 (digs 10000 (x).natAbs).length c0),ps .i64 (digs 10000 (y.natAbs-x.natAbs)) w2.heap.size,pr (x+y)] (by kernel_rfl) (by kernel_rfl) ?ob27 ?done27
     case ob27 =>
      refine zA (zB9 rfl (zB3 rfl) (zB5 rfl rfl) (fun _=>by kernel_rfl) (fun _=>rfl)) ?_;refine zA (zB7 rfl (zB3 rfl) (zB4 (j:=0) (by kernel_rfl) rfl rfl) (fun w2 hb=>zC1 underlying4 rfl ((B1.drew.bQ hb).cell 0)) (fun _ _=>rfl)) ?_;refine zA (zB9 rfl (zB3 rfl) (zB5 rfl rfl) (fun _=>by kernel_rfl) (fun _=>rfl)) ?_;refine zA (zB7 rfl (zB3 rfl) (zB4 (j:=2) (by kernel_rfl) rfl rfl) (fun w2 hb=>zC1 underlying53 rfl ((B1.drew.bQ hb).cell 1)) (fun _ _=>rfl)) ?_;refine zA (zB9 rfl (zB3 rfl) (zB5 rfl rfl) (fun _=>by kernel_rfl) (fun _=>rfl)) ?_;refine zA (zB7 rfl (zB3 rfl) (zB4 (j:=4) (by kernel_rfl) rfl rfl) (fun w2 hb=>zC1 underlying53 rfl ((B0.drew.bQ hb).cell 1)) (fun _ _=>rfl)) ?_;refine zA (zC7 rfl func108 (by kernel_rfl) (zB3 rfl) (zB4 (j:=3) (by kernel_rfl) rfl rfl) (zB4 (j:=5) (by kernel_rfl) rfl rfl) (fun w2 u0 u1 hb h0 h1=>by obtain rfl:=h0;obtain rfl:=h1;exact (qD1 _ _ _ _ _ (k1s.drew.bQ hb) (k0s.drew.bQ hb) HL2.out HLE.out _ rfl).mono fun e w3 h=>zD1.pd h hb.size)) ?_;refine zA (zC7 rfl func135 (by kernel_rfl) (zB3 rfl) (zB4 (j:=1) (by kernel_rfl) rfl rfl) (zB4 (j:=6) (by kernel_rfl) rfl rfl) (fun w2 u0 u1 hb h0 h1=>by obtain rfl:=h0;exact zU0 _ _ _ (x+y) _ h1.1 HZ.out)) ?_
      trivial
     case done27 =>
      refine fun w3 hb3 v0 h0 v1 h1 v2 h2 v3 h3 v4 h4 v5 h5 v6 h6 v7 h7 b hbf => ?_;obtain rfl:=h0;obtain rfl:=h1;obtain rfl:=h2;obtain rfl:=h3;obtain rfl:=h4;obtain rfl:=h5;obtain ⟨q6,f6⟩:=h6;have q7:=h7;simp only [Act.put,zA0,zA2,zA1] at hbf;subst hbf;obtain ⟨u7,rfl,q7⟩:=q7;obtain ⟨A9,c9,rfl,_⟩:=id q7;have B9:=B2.bQ hb3;refine zH7 (i:=8) (by kernel_rfl) rfl rfl rfl rfl rfl rfl (cells:=[.bool (ngB (x+y)),.slice A9 (digs 10000 (x+y).natAbs).length c9]) rfl B9 rfl (by kernel_rfl) (zG8 rfl rfl) fun w9 hg9 BB9 => ?_;have k9:=off q7 B9 no_ints2 hg9;have bb9:=((bb.trans (hb3.mono bb.size)).trans ((Below.refl _ _).grown hg9 (zB2 bb.size hb3.size) (fun g hg=>by injection hg with hg;omega)));obtain ⟨c0,c1,_,_⟩:=Blk.two BB9;refine zG (by kernel_rfl) ?_;go_wp2;exact bodyPost_ret (v:=.agg #[.bool (ngB (x+y)),.slice A9 (digs 10000 (x+y).natAbs).length c9]) (by simp [results,results177,go_sem,c0,c1]) rfl ⟨_,rfl,zH3 k9 rfl rfl,bb9⟩
 ·have HZ:Hid (sg true (x.natAbs+y.natAbs)=x+y):=by show _=_;have:=zO3 hs0;have:=zO3 hs1;rw [zV8];omega
  go_enter func177,ntmps177
  go_upto_region 1 with (fail)
  obtain ⟨wx,hwx,bb,B0,B1,B2,hsz⟩:=zK1 w 63 63 63 #[.bool true,.slice A0 (digs 10000 (x).natAbs).length c0] #[.bool true,.slice A1 (digs 10000 (y).natAbs).length c1] #[.bool false,.slice none 0 0];rw [hwx];clear hwx;have k0s:=s0.bQ bb;have k0:IsR wx (.agg #[.bool true,.slice A0 (digs 10000 (x).natAbs).length c0]) (x):=zH3 k0s rfl hs0.symm;have k1s:=s1.bQ bb;have k1:IsR wx (.agg #[.bool true,.slice A1 (digs 10000 (y).natAbs).length c1]) (y):=zH3 k1s rfl hs1.symm;have hszb:=bb.size;refine zC3 5 [Pd.eq (.pointer (some ⟨w.heap.size,0,none⟩)),Pd.eq (.bool true),Pd.eq (.pointer (some ⟨w.heap.size+1,0,none⟩)),Pd.eq (.bool true),Pd.eq (.bool true)] (by kernel_rfl) ?ob28 ?done28
  case ob28 =>
   refine zA (zB9 rfl (zB3 rfl) (zB5 rfl rfl) (fun _=>by kernel_rfl) (fun _=>rfl)) ?_;refine zA (zB7 rfl (zB3 rfl) (zB4 (j:=0) (by kernel_rfl) rfl rfl) (fun w2 hb=>zC1 underlying4 rfl ((B0.bQ hb).cell 0)) (fun _ _=>rfl)) ?_;refine zA (zB9 rfl (zB3 rfl) (zB5 rfl rfl) (fun _=>by kernel_rfl) (fun _=>rfl)) ?_;refine zA (zB7 rfl (zB3 rfl) (zB4 (j:=2) (by kernel_rfl) rfl rfl) (fun w2 hb=>zC1 underlying4 rfl ((B1.bQ hb).cell 0)) (fun _ _=>rfl)) ?_;refine zA (zE6 rfl (zB3 rfl) (zB4 (j:=1) (by kernel_rfl) rfl rfl) (zB4 (j:=3) (by kernel_rfl) rfl rfl) (fun _ _ _ hx hy=>⟨.bool (true == true),by rw [hx,hy];exact zO8 _ _ _ _ underlying4 _,rfl⟩)) ?_
   trivial
  case done28 =>
   refine fun w1 hb1 v0 h0 v1 h1 v2 h2 v3 h3 v4 h4 b hbf => ?_;obtain rfl:=h0;obtain rfl:=h1;obtain rfl:=h2;obtain rfl:=h3;obtain rfl:=h4;simp only [Act.put,zA0,zA2,zA1] at hbf;subst hbf;replace B0:=B0.bQ hb1;replace B1:=B1.bQ hb1;replace B2:=B2.bQ hb1;replace k0s:=k0s.bQ hb1;replace k1s:=k1s.bQ hb1;replace k0:=k0.bQ hb1;replace k1:=k1.bQ hb1;replace bb:=bb.trans (hb1.mono bb.size);have hszb:=bb.size;obtain ⟨x00,x01,y00,y01⟩:=Blk.two B0;obtain ⟨x10,x11,y10,y11⟩:=Blk.two B1;obtain ⟨x20,x21,y20,y21⟩:=Blk.two B2;refine zC4 ?_;go_upto_region 2 with (fail);refine flow 8 [Pd.eq (.pointer (some ⟨w.heap.size,0,none⟩)),Pd.eq (.bool true),Pd.eq (.pointer (some ⟨w.heap.size,1,none⟩)),Pd.eq (.slice A0 (digs 10000 (x).natAbs).length c0),Pd.eq (.pointer (some ⟨w.heap.size+1,1,none⟩)),Pd.eq (.slice A1 (digs 10000 (y).natAbs).length c1),ps .i64 (digs 10000 (x.natAbs+y.natAbs)) w1.heap.size,pr (x+y)] (by kernel_rfl) (by kernel_rfl) ?ob29 ?done29
   case ob29 =>
    refine zA (zB9 rfl (zB3 rfl) (zB5 rfl rfl) (fun _=>by kernel_rfl) (fun _=>rfl)) ?_;refine zA (zB7 rfl (zB3 rfl) (zB4 (j:=0) (by kernel_rfl) rfl rfl) (fun w2 hb=>zC1 underlying4 rfl ((B0.drew.bQ hb).cell 0)) (fun _ _=>rfl)) ?_;refine zA (zB9 rfl (zB3 rfl) (zB5 rfl rfl) (fun _=>by kernel_rfl) (fun _=>rfl)) ?_;refine zA (zB7 rfl (zB3 rfl) (zB4 (j:=2) (by kernel_rfl) rfl rfl) (fun w2 hb=>zC1 underlying53 rfl ((B0.drew.bQ hb).cell 1)) (fun _ _=>rfl)) ?_;refine zA (zB9 rfl (zB3 rfl) (zB5 rfl rfl) (fun _=>by kernel_rfl) (fun _=>rfl)) ?_;refine zA (zB7 rfl (zB3 rfl) (zB4 (j:=4) (by kernel_rfl) rfl rfl) (fun w2 hb=>zC1 underlying53 rfl ((B1.drew.bQ hb).cell 1)) (fun _ _=>rfl)) ?_;refine zA (zC7 rfl func194 (by kernel_rfl) (zB3 rfl) (zB4 (j:=3) (by kernel_rfl) rfl rfl) (zB4 (j:=5) (by kernel_rfl) rfl rfl) (fun w2 u0 u1 hb h0 h1=>by obtain rfl:=h0;obtain rfl:=h1;exact (qY8 _ _ _ _ _ (k0s.drew.bQ hb) (k1s.drew.bQ hb) HL.out HL2.out).mono fun e w3 h=>zD1.pd h hb.size)) ?_;refine zA (zC7 rfl func135 (by kernel_rfl) (zB3 rfl) (zB4 (j:=1) (by kernel_rfl) rfl rfl) (zB4 (j:=6) (by kernel_rfl) rfl rfl) (fun w2 u0 u1 hb h0 h1=>by obtain rfl:=h0;exact zU0 _ _ _ (x+y) _ h1.1 HZ.out)) ?_
    trivial
   case done29 =>
    refine fun w2 hb2 v0 h0 v1 h1 v2 h2 v3 h3 v4 h4 v5 h5 v6 h6 v7 h7 b hbf => ?_;obtain rfl:=h0;obtain rfl:=h1;obtain rfl:=h2;obtain rfl:=h3;obtain rfl:=h4;obtain rfl:=h5;obtain ⟨q6,f6⟩:=h6;have q7:=h7;simp only [Act.put,zA0,zA2,zA1] at hbf;subst hbf;obtain ⟨u7,rfl,q7⟩:=q7;obtain ⟨A9,c9,rfl,_⟩:=id q7;have B9:=B2.bQ hb2;refine zH7 (i:=8) (by kernel_rfl) rfl rfl rfl rfl rfl rfl (cells:=[.bool (ngB (x+y)),.slice A9 (digs 10000 (x+y).natAbs).length c9]) rfl B9 rfl (by kernel_rfl) (zG8 rfl rfl) fun w9 hg9 BB9 => ?_;have k9:=off q7 B9 no_ints2 hg9;have bb9:=((bb.trans (hb2.mono bb.size)).trans ((Below.refl _ _).grown hg9 (zB2 bb.size hb2.size) (fun g hg=>by injection hg with hg;omega)));obtain ⟨c0,c1,_,_⟩:=Blk.two BB9;refine zG (by kernel_rfl) ?_;go_wp2;exact bodyPost_ret (v:=.agg #[.bool (ngB (x+y)),.slice A9 (digs 10000 (x+y).natAbs).length c9]) (by simp [results,results177,go_sem,c0,c1]) rfl ⟨_,rfl,zH3 k9 rfl rfl,bb9⟩
end whl
namespace flow
open Go.RowKit num mem
section
variable {P:Program}
theorem zP {t:TypeId} {g off:Nat} {cs es:List Value} {e:TypeId} {d:TypeDesc} {w:World} (hu:P.underlying t=some d) (hd:d.isRow=true) (hi:(P.info? t).map (·.size)=some cs.length) (hB:w.heap[g]?=some (.cells es.toArray e (0,0))) (hsub:(es.drop off).take cs.length=cs):(Instr.loadAt t (.pointer (some ⟨g,off,none⟩))).run P w=.ok (.agg cs.toArray) w :=
 run_loadAt_mid w g off t cs d (fun j v hj=>by
  rw [cell_of_row w g (off+j) es.toArray e (0,0) hB];have hj2:j<cs.length:=(zA4.1 hj).1;have h:=congrArg (·[j]?) hsub;simp only [List.getElem?_take_of_lt hj2,bW9] at h;rw [hj] at h;simpa using h) hu hd hi
end
section
variable {P:Program} {Q:Exit->Act->World->Prop} {ops:Array Oper} {L:List Oper} {Φ : List Pd} {w0:World} {a0:Act} {i:Nat} {o:Oper}
theorem qS5 {t:TypeId} {k:Nat} {x:Operand} {F:World->Value->Prop} (hop:o.op=.build t #[(k,x)]) (hw:Wt ops L Φ w0 a0 o true) (hx:Ev L Φ w0 a0 o x F)
  (hr:∀ w u,Below w0.heap.size w0 w->F w u -> ∃ v,(Instr.build t #[(k,u)]).run P w=.ok v w/\(ph Φ i).p w v):Ob P Q ops L Φ w0 a0 i o :=
 zO1 hw (by unfold isA;rw [hop]) fun ms w hS=>by
  obtain ⟨v,h1,h2⟩:=hr w _ hS.bQ (hx ms w hS);exact ⟨v,by unfold execOp;simp only [hop,Sem.run_bind,bX7,List.map_cons,List.map_nil,h1];rfl,h2⟩
end
theorem zH {x y z:Value} (hx:x.oneCell'=true) (hy:y.oneCell'=true) (hz:z.oneCell'=true):∀ c∈[x,y,z],c.oneCell'=true:=by
 intro c hc;rcases List.mem_cons.1 hc with rfl|hc
 ·exact hx
 ·exact zG8 hy hz c hc
theorem zC9 {k:IntKind} {b:Bool} {A D:Option Addr} {n m i j:Nat}:∀ c∈(#[.bool b,.slice A n m,.slice D i j]:Array Value),∀ i,c ≠ .int k i:=by
 intro c hc i;simp at hc;rcases hc with rfl|rfl|rfl<;>simp
end flow
namespace rat
open Go.RowKit num mem nat txt str flow whl
theorem three {w:World} {g:Nat} {t:TypeId} {x y z:Value} (h:Blk w g t #[x,y,z]):w.cell? ⟨g,0,none⟩=some x/\w.cell? ⟨g,1,none⟩=some y/\w.cell? ⟨g,2,none⟩=some z/\w.frozen? ⟨g,0,none⟩=false/\w.frozen? ⟨g,1,none⟩=false/\w.frozen? ⟨g,2,none⟩=false :=
 ⟨h.cell 0,h.cell 1,h.cell 2,h.frozen 0,h.frozen 1,h.frozen 2⟩
theorem zR5.mono {B B':Nat} {v:Value} (h:zR5 B v) (hb:B'<=B):zR5 B' v:=fun n u t e=>⟨(h n u t e).1.mono hb,(h n u t e).2.mono hb⟩
theorem zL4 {B:Nat} {b:Bool} {u t:Value} (h:zE1 B u) (k:zE1 B t):zR5 B (.agg #[.bool b,u,t]):=by
 intro n u' t' e;injection e with e;have e:=congrArg Array.toList e;simp at e;obtain ⟨_,rfl,rfl⟩:=e;exact ⟨h,k⟩
def RetQ (q:Rat) (w:World) (e:Ending) (w':World):Prop:=∃ v,e=.returned v/\IsQ w' v q/\zR5 w.heap.size v/\Below w.heap.size w w'
def qA8 (q:Rat) (w:World) (e:Ending) (w':World):Prop:=∃ v,e=.returned v/\IsP w' v q/\Below w.heap.size w w'
def zN (q:Rat) (w:World) (e:Ending) (w':World):Prop:=∃ v,e=.returned v/\IsP w' v q/\zR5 w.heap.size v/\Below w.heap.size w w'
def qF3 (q:Rat) (w:World) (e:Ending) (w':World):Prop:=∃ v,e=.returned v/\IsQ w' v q/\Below w.heap.size w w'
def zU1 (q:Rat) (n:Int) (w:World) (e:Ending) (w':World):Prop:=∃ v,e=.returned (.tuple #[v,.int .i64 n])/\IsQ w' v q/\Below w.heap.size w w'
def pqe (q:Rat) (n:Int):Pd:=⟨fun w t => ∃ v,t=.tuple #[v,.int .i64 n]/\IsQ w v q,fun h hb=>by obtain ⟨v,e,h1⟩:=h;exact ⟨v,e,h1.bQ hb⟩⟩
def pq (q:Rat) (B:Nat):Pd:=⟨fun w v=>IsQ w v q/\zR5 B v,fun h hb=>⟨h.1.bQ hb,h.2⟩⟩
def pqn (q:Rat):Pd:=⟨fun w v=>IsQ w v q,fun h hb=>h.bQ hb⟩
def pp (q:Rat):Pd:=⟨fun w v=>IsP w v q,fun h hb=>h.bQ hb⟩
def ppf (q:Rat) (B:Nat):Pd:=⟨fun w v=>IsP w v q/\zR5 B v,fun h hb=>⟨h.1.bQ hb,h.2⟩⟩
theorem RetQ.pd {q:Rat} {w:World} {e:Ending} {w':World} {B:Nat} (h:RetQ q w e w') (hB:B<=w.heap.size):zH9 (pq q B) w e w':=by
 obtain ⟨v,h1,h2,h3,h4⟩:=h;exact ⟨v,h1,⟨h2,h3.mono hB⟩,h4⟩
theorem qF3.pd {q:Rat} {w:World} {e:Ending} {w':World} (h:qF3 q w e w'):zH9 (pqn q) w e w':=h
theorem RetQ.n {q:Rat} {w:World} {e:Ending} {w':World} (h:RetQ q w e w'):qF3 q w e w':=by
 obtain ⟨v,h1,h2,_,h4⟩:=h;exact ⟨v,h1,h2,h4⟩
theorem zU1.pd {q:Rat} {n:Int} {w:World} {e:Ending} {w':World} (h:zU1 q n w e w'):zH9 (pqe q n) w e w':=by
 obtain ⟨v,h1,h2,h3⟩:=h;exact ⟨_,h1,⟨v,rfl,h2⟩,h3⟩
theorem qA8.pd {q:Rat} {w:World} {e:Ending} {w':World} (h:qA8 q w e w'):zH9 (pp q) w e w':=h
theorem zN.pd {q:Rat} {w:World} {e:Ending} {w':World} (h:zN q w e w'):zH9 (pp q) w e w':=by
 obtain ⟨v,h1,h2,h3,h4⟩:=h;exact ⟨v,h1,h2,h4⟩
theorem zN.pdf {q:Rat} {w:World} {e:Ending} {w':World} {B:Nat} (h:zN q w e w') (hB:B<=w.heap.size):zH9 (ppf q B) w e w':=by
 obtain ⟨v,h1,h2,h3,h4⟩:=h;exact ⟨v,h1,⟨h2,h3.mono hB⟩,h4⟩
theorem endQ {w w2:World} {u t x y z:Value} {q:Rat} {g B:Nat} (hb:Below w.heap.size w w2) (hg:w.heap.size<=g) (hgB:g<B) (hu:IsS w2 .u64 u (digs 4294967296 q.num.natAbs)) (ht:IsS w2 .u64 t (digs 4294967296 q.den)) (hf:zR5 B (.agg #[.bool (ngB q.num),u,t])) :
  RetQ q w (.returned (.agg #[.bool (ngB q.num),u,t])) (((w2.setCell ⟨g,0,none⟩ x).setCell ⟨g,1,none⟩ y).setCell ⟨g,2,none⟩ z):=by
 obtain ⟨f1,f2⟩:=hf _ _ _ rfl;exact ⟨_,rfl,⟨u,t,rfl,((hu.setCell f1 hgB _).setCell f1 hgB _).setCell f1 hgB _,((ht.setCell f2 hgB _).setCell f2 hgB _).setCell f2 hgB _⟩,hf.mono (by omega),((hb.setCell hg _).setCell hg _).setCell hg _⟩
theorem zF6.pi {z:Int} {w:World} {e:Ending} {w':World} (h:zF6 z w e w'):zH9 (pi z) w e w':=by
 obtain ⟨v,h1,h2,_,h4⟩:=h;exact ⟨v,h1,h2,h4⟩
end rat
end Go.Proofs.YtagaabooccnamaaGreat
