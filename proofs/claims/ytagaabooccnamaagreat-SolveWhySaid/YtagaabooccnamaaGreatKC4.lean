/- Tables of fractions as lists under changes of rows; how long their numbers grow; what goes down keeps. Condition: as each says. -/
import Derived.Test.YtagaabooccnamaaGreatKC3
open Go.Proofs.Tryz
open Go.Lib renaming hid -> hQ9
set_option linter.unusedVariables false
set_option linter.unusedSimpArgs false
set_option maxRecDepth 100000
set_option maxHeartbeats 3200000
open And renaming intro -> zA
open List renaming setIfInBounds_toArray -> zA0, set_cons_succ -> zA1, set_cons_zero -> zA2, getElem?_eq_getElem -> zA3, getElem?_eq_some_iff -> zA4, mem_of_getElem? -> zA5, getD_eq_getElem?_getD -> zA6, take_of_length_le -> zA7, length_append -> zA8, length_map -> zA9, replicate -> zB, getElem?_append_left -> zB0
open Nat renaming le_refl -> zB1, le_trans -> zB2
open Go.World renaming block_lt_of_cell? -> bQ0
open List renaming getElem?_set_self -> bQ3, length_set -> bQ5, length_take -> bQ7, getElem?_map -> bQ8, getElem?_set_ne -> bW1, mem_or_eq_of_mem_set -> bW3, getElem?_eq_none -> bW4, getElem?_toArray -> bW8, ext_getElem? -> bX0, length_cons -> bX3
open Nat renaming lt_of_lt_of_le -> bY2, zero_add -> bY5
namespace Go.Proofs.YtagaabooccnamaaGreat
namespace rat
open Go.RowKit num mem nat txt str flow whl
def zB6 (T:List (List Rat)):Nat->Nat->Rat:=fun i j=>(T.getD i []).getD j 0
theorem zJ2 {T:List (List Rat)} {i:Nat} {r:List Rat} (h:T[i]?=some r):T.getD i []=r:=by
 rw [zA6,h];rfl
theorem zP5 {T:List (List Rat)} {i:Nat} {r:List Rat} (h:T[i]?=some r) (j:Nat):zB6 T i j=r.getD j 0:=by
 unfold zB6;rw [zJ2 h]
theorem qN4 {T:List (List Rat)} {i j:Nat} {r:List Rat} {q:Rat} (h:T[i]?=some r) (hq:r[j]?=some q):zB6 T i j=q:=by
 rw [zP5 h,zA6,hq];rfl
theorem zR8 {T:List (List Rat)} {n C i j:Nat} (hs:shp T n C) (hi:i<n) (hj:j<C):∃ r,T[i]?=some r/\r.length=C/\r[j]?=some (zB6 T i j):=by
 obtain ⟨r,h1,h2⟩:=zI0 hs hi;have h3:r[j]?=some (r[j]'(by rw [h2];exact hj)):=zA3 _;exact ⟨r,h1,h2,by rw [qN4 h1 h3];exact h3⟩
theorem qN5 {T:List (List Rat)} {i:Nat} (r:List Rat) (hi:i<T.length) (j:Nat):zB6 (T.set i r) i j=r.getD j 0:=zP5 (bQ3 hi) j
theorem qN6 {T:List (List Rat)} {i k:Nat} (r:List Rat) (h:i≠k) (j:Nat):zB6 (T.set k r) i j=zB6 T i j:=by
 have e:(T.set k r).getD i []=T.getD i []:=by
  rw [zA6,bW1 (fun e=>h e.symm),<- zA6]
 unfold zB6;rw [e]
theorem qB6 {T:List (List Rat)} {n C i:Nat} {r:List Rat} (hs:shp T n C) (hr:r.length=C):shp (T.set i r) n C :=
 ⟨by rw [bQ5]; exact hs.1, fun x hx => by
  rcases bW3 hx with hx | rfl
  ·exact hs.2 x hx
  ·exact hr⟩
theorem yG1 {T U:List (List Rat)} {n C:Nat} (h:shp T n C) (h':shp U n C) (he:∀ i j,i<n->j<C->zB6 T i j=zB6 U i j):T=U :=
 shp_ext h h' fun i j hi hj=>by
  obtain ⟨r,h1,_,h2⟩:=zR8 h hi hj;obtain ⟨s,h3,_,h4⟩:=zR8 h' hi hj;rw [yF4 h1 h2,yF4 h3 h4,he i j hi hj]
theorem jC {p q:List Rat} {k:Rat} {j:Nat} (h:p.length=q.length) (hj:j<p.length):(zG2 p k q).getD j 0=p.getD j 0-k*q.getD j 0:=by
 unfold zG2;rw [zA6,List.getElem?_zipWith,zA3 hj,zA3 (by omega:j<q.length),zA6,zA6,zA3 hj,zA3 (by omega:j<q.length)]
 rfl
theorem jC0 {p:List Rat} {k:Rat} {j:Nat} (hj:j<p.length):(zF1 p k).getD j 0=p.getD j 0*k:=by
 unfold zF1;rw [zA6,bQ8,zA3 hj,zA6,zA3 hj]
 rfl
theorem jC1 {p q:List Rat} (h:p.length=q.length):zG2 p 0 q=p:=by
 refine bX0 fun j => ?_;unfold zG2;rw [List.getElem?_zipWith];by_cases hj:j<p.length
 ·rw [zA3 hj,zA3 (by omega:j<q.length)];show some _=_
  congr 1
  grind
 ·rw [bW4 (by omega)]
def zG4 (T:List (List Rat)) (a b:Nat):List (List Rat):=(T.set a (T.getD b [])).set b (T.getD a [])
theorem qG6 {T:List (List Rat)} {n C a b:Nat} (hs:shp T n C) (ha:a<n) (hb:b<n):shp (zG4 T a b) n C:=by
 obtain ⟨r,h1,h2⟩:=zI0 hs ha;obtain ⟨s,h3,h4⟩:=zI0 hs hb;unfold zG4;rw [zA6,h3,zA6,h1];exact qB6 (qB6 hs h4) h2
theorem qN7 {T:List (List Rat)} {n C a b:Nat} (hs:shp T n C) (ha:a<n) (hb:b<n) (i j:Nat):zB6 (zG4 T a b) i j=zD9 (zB6 T) a b i j:=by
 unfold zG4 zD9;by_cases e2:i=b
 ·subst e2;rw [qN5 _ (by rw [bQ5,hs.1];exact hb)];by_cases e1:i=a
  ·subst e1;rw [if_pos rfl];rfl
  ·rw [if_neg e1,if_pos rfl];rfl
 ·rw [qN6 _ e2];by_cases e1:i=a
  ·subst e1;rw [qN5 _ (by rw [hs.1];exact ha),if_pos rfl];rfl
  ·rw [qN6 _ e1,if_neg e1,if_neg e2]
def zN4 (T:List (List Rat)) (a:Nat) (c:Rat):List (List Rat):=T.set a (zF1 (T.getD a []) c)
theorem yG2 {T:List (List Rat)} {n C a:Nat} (c:Rat) (hs:shp T n C) (ha:a<n):shp (zN4 T a c) n C:=by
 obtain ⟨r,h1,h2⟩:=zI0 hs ha;unfold zN4;rw [zA6,h1];exact qB6 hs (by rw [qB0];exact h2)
theorem jC2 {T:List (List Rat)} {n C a:Nat} (c:Rat) (hs:shp T n C) (ha:a<n) (i j:Nat) (hj:j<C):zB6 (zN4 T a c) i j=zE8 (zB6 T) a c i j:=by
 unfold zN4 zE8;by_cases e:i=a
 ·subst e;obtain ⟨r,h1,h2⟩:=zI0 hs ha;rw [qN5 _ (by rw [hs.1];exact ha),if_pos rfl,zP5 h1,zJ2 h1];exact jC0 (by omega)
 ·rw [qN6 _ e,if_neg e]
def zF7 (T:List (List Rat)) (P:Nat->Bool) (p:List Rat) (a:Nat):Nat->List (List Rat)
 | 0=>T
 | x+1=>if P x then (zF7 T P p a x).set x (zG2 (T.getD x []) (zB6 T x a) p) else zF7 T P p a x
theorem qN8 (T:List (List Rat)) (P:Nat->Bool) (p:List Rat) (a:Nat):∀ x,(zF7 T P p a x).length=T.length
  | 0=>rfl
  | x + 1 => by
    unfold zF7
    split
    · rw [bQ5];exact qN8 T P p a x
    · exact qN8 T P p a x
theorem qG7 (T:List (List Rat)) (P:Nat->Bool) (p:List Rat) (a:Nat):∀ (x i:Nat),x<=i->(zF7 T P p a x)[i]?=T[i]?
  | 0,_,_=>rfl
  | x + 1, i, h => by
    unfold zF7
    split
    · rw [bW1 (by omega)];exact qG7 T P p a x i (by omega)
    · exact qG7 T P p a x i (by omega)
theorem qU6 {T:List (List Rat)} {P:Nat->Bool} {p:List Rat} {a i:Nat} (h:P i=false):∀ x,(zF7 T P p a x)[i]?=T[i]?
  | 0=>rfl
  | x + 1 => by
    unfold zF7
    split
    · rename_i h1
      rw [bW1 (fun e=>by rw [e,h] at h1;cases h1)];exact qU6 h x
    · exact qU6 h x
theorem qG8 {T:List (List Rat)} {P:Nat->Bool} {p:List Rat} {n C a:Nat} (hs:shp T n C) (hp:p.length=C):∀ x,x<=n->shp (zF7 T P p a x) n C
  | 0,_=>hs
  | x + 1, h => by
    unfold zF7
    split
    · obtain ⟨r,h1,h2⟩:=zI0 hs (show x<n by omega);refine qB6 (qG8 hs hp x (by omega)) ?_;rw [zA6,h1];show (zG2 r _ p).length=C
      rw [qM7 (by omega)];exact h2
    · exact qG8 hs hp x (by omega)
theorem yG3 {T:List (List Rat)} {P:Nat->Bool} {p:List Rat} {n C a:Nat} (hs:shp T n C) (hp:p.length=C):∀ (x i j:Nat),x<=n->j<C->zB6 (zF7 T P p a x) i j=if i<x/\P i=true then zB6 T i j-zB6 T i a*p.getD j 0 else zB6 T i j
  | 0,i,j,_,_=>by rw [if_neg (by omega)];rfl
  | x + 1, i, j, h, hj => by
    have ih:=yG3 (P:=P) (a:=a) hs hp x i j (by omega) hj;unfold zF7;by_cases hP:P x=true
    · rw [if_pos hP];by_cases e:i=x
      · subst e;obtain ⟨r,h1,h2⟩:=zI0 hs (show i<n by omega);rw [qN5 _ (by rw [qN8,hs.1];omega),if_pos ⟨by omega,hP⟩,zJ2 h1,zP5 h1 j];exact jC (by omega) (by omega)
      · rw [qN6 _ e,ih];by_cases e2:i<x/\P i=true
        · rw [if_pos e2,if_pos ⟨by omega,e2.2⟩]
        · rw [if_neg e2,if_neg (fun e3=>e2 ⟨by omega,e3.2⟩)]
    · rw [if_neg hP, ih];by_cases e2:i<x/\P i=true
      · rw [if_pos e2,if_pos ⟨by omega,e2.2⟩]
      · rw [if_neg e2,if_neg (fun e3=>e2 ⟨by
          have:=e3.1
          by_cases e4:i=x
          · subst e4;exact absurd e3.2 hP
          · omega,e3.2⟩)]
theorem qN9 {T:List (List Rat)} {P:Nat->Bool} {p r:List Rat} {a x:Nat} (hP:P x=true) (hr:T[x]?=some r):zF7 T P p a (x+1)=(zF7 T P p a x).set x (zG2 r (zB6 T x a) p):=by
 show (if P x=true then _ else _)=_
 rw [if_pos hP,zJ2 hr]
theorem jC3 {T:List (List Rat)} {P:Nat->Bool} {p r:List Rat} {a x:Nat} (hP:P x=true) (hr:T[x]?=some r) (h0:zB6 T x a=0) (hl:r.length=p.length):zF7 T P p a (x+1)=zF7 T P p a x:=by
 rw [qN9 hP hr,h0,jC1 hl];apply bX0;intro k;rw [List.getElem?_set];by_cases e:x=k
 ·subst e;rw [if_pos rfl,qG7 T P p a x x (zB1 _),hr,if_pos (by rw [qN8];exact (zA4.1 hr).1)]
 ·rw [if_neg e]
theorem qU7 {T:List (List Rat)} {P:Nat->Bool} {p:List Rat} {a x:Nat} (hP:P x=false):zF7 T P p a (x+1)=zF7 T P p a x:=by
 show (if P x=true then _ else _)=_
 rw [if_neg (by rw [hP];decide)]
def zK8 (r:List Rat) (S:Nat):Prop:=∃ d:Nat,0<d/\(digs 4294967296 d).length<=S /\ ∀ x∈r,∃ z:Int,x=mkRat z d/\zC5 z<=S
theorem zK8.mono {r:List Rat} {S S':Nat} (h:zK8 r S) (hS:S<=S'):zK8 r S':=by
 obtain ⟨d,h1,h2,h3⟩:=h;exact ⟨d,h1,by omega,fun x hx=>by obtain ⟨z,e,hz⟩:=h3 x hx;exact ⟨z,e,by omega⟩⟩
theorem zK8.len {r:List Rat} {S:Nat} (h:zK8 r S):∀ x∈r,zC2 x S:=fun x hx=>by
 obtain ⟨d,h1,h2,h3⟩:=h;obtain ⟨z,rfl,hz⟩:=h3 x hx;exact zU (by omega) hz h2
theorem qO:∀ {r:List Rat} {m:Nat},(∀ x∈r,zC2 x m)->zK8 r (m*r.length+1)
  | [],m,_=>⟨1,by omega,by
      have:=zG5 (B:=4294967296) (x:=1) (k:=1) (by omega) (by decide +kernel)
      omega,fun x hx=>by simp at hx⟩
  | q :: r, m, h => by
    obtain ⟨d,h1,h2,h3⟩:=qO (r:=r) (m:=m) fun x hx=>h x (List.mem_cons_of_mem _ hx);have hq:=h q List.mem_cons_self;have e:m*(q :: r).length+1=m*r.length+1+m:=by rw [bX3,Nat.mul_succ];omega
    rw [e];refine ⟨d*q.den,Nat.mul_pos h1 q.den_pos,?_,fun x hx => ?_⟩
    · have h4:=zT6 d q.den;have h5:=hq.2;omega
    · rcases List.mem_cons.1 hx with rfl|hx
      · refine ⟨x.num*(d:Int),?_,?_⟩
        · rw [Nat.mul_comm d x.den,Rat.mkRat_mul_right (by omega),Rat.mkRat_self]
        · have h4:=zU4 hq.1 (show zC5 ((d:Nat):Int)<=m*r.length+1 by rw [zL8];exact h2);omega
      · obtain ⟨z,rfl,hz⟩:=h3 x hx;refine ⟨z*(q.den:Int),?_,?_⟩
        · rw [Rat.mkRat_mul_right q.den_nz]
        · have h4:=zU4 hz (show zC5 ((q.den:Nat):Int)<=m by rw [zL8];exact hq.2);omega
theorem zS8 (z:Int) {d:Nat} (h:d≠0):mkRat z d=(z:Rat) / (d:Rat):=Rat.mkRat_eq_div z d
theorem zK8.scale {r:List Rat} {S:Nat} {x:Rat} (h:zK8 r S) (hx:x∈r) (h0:x≠0):zK8 (zF1 r x⁻¹) S:=by
 obtain ⟨d,h1,h2,h3⟩:=h;obtain ⟨b,rfl,hb⟩:=h3 x hx;have hb0:b≠0:=fun e=>h0 (by rw [e];exact Rat.zero_mkRat d)
 have hd:((d:Nat):Rat)≠0:=by
  intro e;have:d=0:=by exact_mod_cast e
  omega
 have hbr:((b:Int):Rat)≠0:=by
  intro e;have:b=0:=by exact_mod_cast e
  exact hb0 this
 refine ⟨b.natAbs,by omega,hb,fun y hy => ?_⟩;obtain ⟨u,hu,rfl⟩:=List.mem_map.1 hy;obtain ⟨a,rfl,ha⟩:=h3 u hu;rcases Int.natAbs_eq b with e | e
 ·refine ⟨a,?_,ha⟩
  have e2:((b.natAbs:Nat):Rat)=((b:Int):Rat):=by
   conv=>rhs;rw [e]
   exact (Rat.intCast_natCast _).symm
  rw [zS8 a (by omega),zS8 b (by omega),zS8 a (by omega),e2]
  grind
 ·refine ⟨-a,?_,by rw [yC9];exact ha⟩
  have e2:((b.natAbs:Nat):Rat) = -((b:Int):Rat):=by
   conv=>rhs;rw [e]
   rw [Rat.intCast_neg];show _ = - -(((b.natAbs:Nat):Int):Rat)
   rw [Rat.intCast_natCast];grind
  rw [zS8 a (by omega),zS8 b (by omega),zS8 (-a) (by omega),e2,Rat.intCast_neg]
  grind
theorem jC4 {x y:Int} {m:Nat} (h:zC5 x<=m) (h':zC5 y<=m):zC5 (x-y)<=m+1:=by
 have h1:=yE7 h h';unfold zC5;refine zB2 (zG7 (by omega) ?_) h1;omega
theorem zK8.less {r p:List Rat} {S S':Nat} {x:Rat} (h:zK8 r S) (hp:zK8 p S') (hx:x∈r):zK8 (zG2 r x p) (S+S'+1):=by
 obtain ⟨d,h1,h2,h3⟩:=h;obtain ⟨e,g1,g2,g3⟩:=hp;obtain ⟨b,rfl,hb⟩:=h3 x hx
 have hd:((d:Nat):Rat)≠0:=by
  intro e;have:d=0:=by exact_mod_cast e
  omega
 have he:((e:Nat):Rat)≠0:=by
  intro k;have:e=0:=by exact_mod_cast k
  omega
 refine ⟨d*e,Nat.mul_pos h1 g1,by have:=zT6 d e;omega,fun y hy => ?_⟩;obtain ⟨u,hu,v,hv,rfl⟩:=qM4 hy;obtain ⟨a,rfl,ha⟩:=h3 u hu;obtain ⟨c,rfl,hc⟩:=g3 v hv;refine ⟨a*(e:Int)-b*c,?_,?_⟩
 ·rw [zS8 a (by omega),zS8 b (by omega),zS8 c (by omega),zS8 _ (by have:=Nat.mul_pos h1 g1;omega),Rat.intCast_sub,Rat.intCast_mul,Rat.intCast_mul,Rat.intCast_natCast,Rat.natCast_mul]
  grind
 ·refine jC4 (m:=S+S') (zU4 ha (by rw [zL8];exact g2)) (zU4 hb hc)
def zG0 (T:List (List Rat)) (S:Nat):Prop:=∀ r∈T,zK8 r S
theorem zG0.mono {T:List (List Rat)} {S S':Nat} (h:zG0 T S) (hS:S<=S'):zG0 T S':=fun r hr=>(h r hr).mono hS
theorem zG0.len {T:List (List Rat)} {S:Nat} (h:zG0 T S):zE0 T S:=fun r hr=>(h r hr).len
theorem jC5 {T:List (List Rat)} {n C m:Nat} (hs:shp T n C) (h:zE0 T m):zG0 T (m*C+1):=fun r hr=>by
 rw [<- hs.2 r hr];exact qO (h r hr)
def pv (ps:List Nat):Nat->Nat:=fun i=>ps.getD i 0
theorem qU8 (ps:List Nat) (a i:Nat) (hi:i<ps.length+1):(if i<ps.length then pv ps i else a)=pv (ps ++ [a]) i:=by
 unfold pv;by_cases h:i<ps.length
 ·rw [if_pos h,zA6,zA6,zB0 h]
 ·obtain rfl:i=ps.length:=by omega
  rw [if_neg h,zA6,List.getElem?_append_right (by omega)];simp
theorem yG4 {ps qs:List Nat} (hl:ps.length=qs.length) (h:∀ i,i<ps.length->pv ps i=pv qs i):ps=qs:=by
 apply bX0;intro i;by_cases hi:i<ps.length
 ·have h1:=h i hi;unfold pv at h1;rw [zA6,zA6,zA3 hi,zA3 (by omega:i<qs.length)] at h1;rw [zA3 hi,zA3 (by omega:i<qs.length)];exact congrArg some h1
 ·rw [bW4 (by omega),bW4 (by omega)]
theorem yG5 {T:List (List Rat)} {P:Nat->Bool} {p:List Rat} {n C a k:Nat} (hs:shp T n C) (hk:T[k]?=some p) (ha:a<C) {x:Nat} (hx:x<=n) (i j:Nat) (hj:j<C):zB6 (zF7 T P p a x) i j=zI1 (zB6 T) k (fun i=>if i<x/\P i=true then zB6 T i a else 0) i j:=by
 have hp:p.length=C:=hs.2 p (zA5 hk);rw [yG3 hs hp x i j hx hj];unfold zI1;rw [zP5 hk j];by_cases e:i<x/\P i=true
 ·simp only [if_pos e]
 ·simp only [if_neg e];grind
theorem qG9 {T:List (List Rat)} {P:Nat->Bool} {p:List Rat} {a:Nat}:∀ x,(∀ i,i<x->P i=false)->zF7 T P p a x=T
 | 0,_=>rfl
 | x+1,h=>by rw [qU7 (h x (by omega))];exact qG9 x fun i hi=>h i (by omega)
theorem qU9 {T:List (List Rat)} {n C a b S:Nat} (hs:shp T n C) (ha:a<n) (hb:b<n) (h:zG0 T S):zG0 (zG4 T a b) S:=by
 obtain ⟨r,h1,_⟩:=zI0 hs ha;obtain ⟨s,h3,_⟩:=zI0 hs hb;unfold zG4;rw [zJ2 h1,zJ2 h3];intro x hx;rcases bW3 hx with hx | rfl
 ·rcases bW3 hx with hx | rfl
  ·exact h x hx
  ·exact h _ (zA5 h3)
 ·exact h _ (zA5 h1)
theorem jC6 {T:List (List Rat)} {n C k a S:Nat} (hs:shp T n C) (hk:k<n) (ha:a<C) (h0:zB6 T k a≠0) (h:zG0 T S):zG0 (zN4 T k (zB6 T k a)⁻¹) S:=by
 obtain ⟨r,h1,_,h2⟩:=zR8 hs hk ha;unfold zN4;rw [zJ2 h1];intro x hx;rcases bW3 hx with hx | rfl
 ·exact h x hx
 ·exact (h r (zA5 h1)).scale (zA5 h2) h0
theorem qO0 {T:List (List Rat)} {P:Nat->Bool} {p:List Rat} {n C a S:Nat} (hs:shp T n C) (ha:a<C) (h:zG0 T S) (hp:zK8 p S):∀ x,x<=n->zG0 (zF7 T P p a x) (S+S+1)
  | 0,_=>h.mono (by omega)
  | x + 1, hx => by
    have ih:=qO0 (P:=P) hs ha h hp x (by omega);obtain ⟨r,h1,_,h2⟩:=zR8 hs (show x<n by omega) ha;by_cases e:P x=true
    · rw [qN9 e h1];intro y hy;rcases bW3 hy with hy | rfl
      · exact ih y hy
      · exact (h r (zA5 h1)).less hp (zA5 h2)
    · rw [qU7 (by simpa using e)];exact ih
def zJ7 (T:List (List Rat)) (P:Nat->Bool) (k f a n:Nat):List (List Rat) :=
 zF7 (zN4 (zG4 T k f) k (zB6 (zG4 T k f) k a)⁻¹) P ((zN4 (zG4 T k f) k (zB6 (zG4 T k f) k a)⁻¹).getD k []) a n
theorem jC7 {T:List (List Rat)} {k:Nat} (h:k<T.length):zG4 T k k=T:=by
 unfold zG4;have e:T.getD k []=T[k]:=by rw [zA6,zA3 h];rfl
 rw [e];apply bX0;intro i;rw [List.getElem?_set,List.getElem?_set,bQ5];by_cases hi:k=i
 ·subst hi;rw [if_pos rfl,if_pos h,zA3 h]
 ·rw [if_neg hi,if_neg hi]
structure PivAt (T:List (List Rat)) (P:Nat->Bool) (n C k f a:Nat) (p:Nat->Nat):Prop where
 sh:shp T n C
 ech:Ech n a (zB6 T) k p
 ha:a<C
 hk:k<=f
 hf:f<n
 hne:zB6 T f a≠0
 hP:P k=false
theorem PivAt.inv {T:List (List Rat)} {P:Nat->Bool} {n C k f a:Nat} {p:Nat->Nat} (h:PivAt T P n C k f a p):zB6 T f a*(zB6 T f a)⁻¹ = 1:=Rat.mul_inv_cancel _ h.hne
theorem PivAt.inv_ne {T:List (List Rat)} {P:Nat->Bool} {n C k f a:Nat} {p:Nat->Nat} (h:PivAt T P n C k f a p):(zB6 T f a)⁻¹ ≠ 0:=fun e=>by
 have h1:=h.inv;rw [e] at h1
 revert h1
 rw [Rat.mul_zero]
 decide
theorem PivAt.head {T:List (List Rat)} {P:Nat->Bool} {n C k f a:Nat} {p:Nat->Nat} (h:PivAt T P n C k f a p):zB6 (zG4 T k f) k a=zB6 T f a:=by
 have h1:=h.hk;have h2:=h.hf;rw [qN7 h.sh (by omega) h.hf];exact congrFun (if_pos rfl) a
theorem PivAt.parts {T:List (List Rat)} {P:Nat->Bool} {n C k f a:Nat} {p:Nat->Nat} (h:PivAt T P n C k f a p) :
  ∃ (t:Nat->Rat),t k=0/\(∀ i,i<n->P i=true->t i=zE8 (zD9 (zB6 T) k f) k (zB6 T f a)⁻¹ i a) /\
   (∀ i j,j<C->zB6 (zJ7 T P k f a n) i j=zI1 (zE8 (zD9 (zB6 T) k f) k (zB6 T f a)⁻¹) k t i j)/\shp (zJ7 T P k f a n) n C/\zE8 (zD9 (zB6 T) k f) k (zB6 T f a)⁻¹ k a=1:=by
 have h1:=h.hk;have h2:=h.hf;have hk:k<n:=by omega
 have s1:=qG6 h.sh hk h2;have s2:=yG2 (zB6 (zG4 T k f) k a)⁻¹ s1 hk
 have e2:∀ i j,j<C->zB6 (zN4 (zG4 T k f) k (zB6 (zG4 T k f) k a)⁻¹) i j=zE8 (zD9 (zB6 T) k f) k (zB6 T f a)⁻¹ i j:=fun i j hj=>by
  rw [jC2 _ s1 hk i j hj,h.head];unfold zE8;rw [qN7 h.sh hk h2]
 obtain ⟨r,hr,hrl⟩:=zI0 s2 hk;have hP:¬ (k<n/\P k=true):=fun e=>by rw [h.hP] at e;exact absurd e.2 (by decide)
 refine ⟨fun i=>if i<n/\P i=true then zB6 (zN4 (zG4 T k f) k (zB6 (zG4 T k f) k a)⁻¹) i a else 0,if_neg hP,fun i h3 h4 => ?_,fun i j hj => ?_,?_,?_⟩
 ·show (if i<n/\P i=true then _ else _)=_
  rw [if_pos ⟨h3,h4⟩,e2 i a h.ha]
 ·unfold zJ7;rw [zJ2 hr,yG5 s2 hr h.ha (zB1 n) i j hj];unfold zI1;rw [e2 i j hj,e2 k j hj]
 ·unfold zJ7;rw [zJ2 hr];exact qG8 s2 hrl n (zB1 n)
 ·unfold zE8 zD9;rw [if_pos rfl,if_pos rfl];exact h.inv
theorem PivAt.ker {T:List (List Rat)} {P:Nat->Bool} {n C k f a:Nat} {p:Nat->Nat} (h:PivAt T P n C k f a p):zE4 n C (zB6 T) (zB6 (zJ7 T P k f a n)):=by
 obtain ⟨t,t0,t1,e,_,_⟩:=h.parts;have h1:=h.hk;have h2:=h.hf;exact (qU0 (zB6 T) (show k<n by omega) h2).trans ((qU1 _ h.inv_ne).trans ((qN1 _ (show k<n by omega) t0).trans (zZ fun i j _ hj=>(e i j hj).symm)))
theorem PivAt.ech' {T:List (List Rat)} {P:Nat->Bool} {n C k f a:Nat} {p:Nat->Nat} (h:PivAt T P n C k f a p) (hb:∀ i,k<i->i<n->P i=true):Ech n (a+1) (zB6 (zJ7 T P k f a n)) (k+1) (fun i=>if i<k then p i else a):=by
 obtain ⟨t,t0,t1,e,_,e1⟩:=h.parts;have h1:=h.hk;have h2:=h.hf;have h3:=h.ha;exact (((h.ech.swap h1 h2).scale (zB6 T f a)⁻¹).clear (by omega) e1 t0 (fun i hi hn=>t1 i hn (hb i hi hn))).congr (C:=C) (by omega) (fun i j _ hj=>(e i j hj).symm) (fun _ _=>rfl)
theorem PivAt.red {T:List (List Rat)} {P:Nat->Bool} {n C k f a:Nat} {p:Nat->Nat} (h:PivAt T P n C k f a p) (hr:Red n (zB6 T) k p 0) (hb:∀ i,i≠k->i<n->P i=true):Red n (zB6 (zJ7 T P k f a n)) (k+1) (fun i=>if i<k then p i else a) 0:=by
 obtain ⟨t,t0,t1,e,_,e1⟩:=h.parts;have h1:=h.hk;have h2:=h.hf;have h3:=h.ha;refine (Red.clear ((hr.swap h1 h2).scale (zB6 T f a)⁻¹) ((h.ech.swap h1 h2).scale (zB6 T f a)⁻¹) (by omega) e1 t0 (fun i hi hn=>t1 i hn (hb i hi hn))).congr (C:=C) (fun i hi => ?_) (fun i j _ hj=>(e i j hj).symm) (fun _ _=>rfl);by_cases e:i<k
 ·simp only [if_pos e];have:=h.ech.lt i e;omega
 ·simp only [if_neg e];exact h3
theorem PivAt.fn {T:List (List Rat)} {P:Nat->Bool} {n C k f a:Nat} {p:Nat->Nat} (h:PivAt T P n C k f a p) {C':Nat} {F:(Nat->Nat->Rat)->Rat} (hC:C'<=C) (hF:RowFn n C' F):F (zB6 T)=(if f=k then 1 else -1)*zB6 T f a*F (zB6 (zJ7 T P k f a n)):=by
 obtain ⟨t,t0,t1,e,_,e1⟩:=h.parts;have h1:=h.hk;have h2:=h.hf
 have g1:F (zB6 (zJ7 T P k f a n))=(zB6 T f a)⁻¹ * F (zD9 (zB6 T) k f):=by
  rw [hF.congr _ _ (fun i j _ hj=>e i j (by omega)),hF.clear _ (show k<n by omega) t0,hF.scale _ _ _ (by omega)]
 have hi:=h.inv;rw [g1];by_cases ef:f=k
 ·subst ef
  have g2:F (zD9 (zB6 T) f f)=F (zB6 T):=hF.congr _ _ fun i j _ _=>by
   unfold zD9;by_cases e5:i=f
   ·rw [if_pos e5,e5]
   ·rw [if_neg e5,if_neg e5]
  rw [g2,if_pos rfl];grind
 ·rw [hF.swap _ (show k<n by omega) h2 (fun e=>ef e.symm),if_neg ef];grind
theorem PivAt.rows {T:List (List Rat)} {P:Nat->Bool} {n C k f a S:Nat} {p:Nat->Nat} (h:PivAt T P n C k f a p) (hl:zG0 T S):zG0 (zN4 (zG4 T k f) k (zB6 (zG4 T k f) k a)⁻¹) S/\zG0 (zJ7 T P k f a n) (S+S+1)/\((∀ i,i<n->P i=false)->zG0 (zJ7 T P k f a n) S):=by
 have h1:=h.hk;have h2:=h.hf;have hk:k<n:=by omega
 have s1:=qG6 h.sh hk h2;have s2:=yG2 (zB6 (zG4 T k f) k a)⁻¹ s1 hk;have r1:=qU9 h.sh hk h2 hl;have r2:=jC6 s1 hk h.ha (by rw [h.head];exact h.hne) r1;obtain ⟨r,hr,hrl⟩:=zI0 s2 hk;refine ⟨r2,?_,fun hn => ?_⟩
 ·unfold zJ7;rw [zJ2 hr];exact qO0 s2 h.ha r2 (r2 r (zA5 hr)) n (zB1 n)
 ·unfold zJ7;rw [qG9 n hn];exact r2
structure Dwn (T0 T:List (List Rat)) (n C a:Nat) (ps:List Nat) (d:Rat) (S:Nat):Prop where
 sh:shp T n C
 ech:Ech n a (zB6 T) ps.length (pv ps)
 ker:zE4 n C (zB6 T0) (zB6 T)
 fn:∀ (C':Nat) (F:(Nat->Nat->Rat)->Rat),C'<=C->RowFn n C' F->F (zB6 T0)=d*F (zB6 T)
 ne:d≠0
 len:∃ S',zG0 T S'/\S'+1<=(S+1)*2^(min ps.length (n-1))
theorem Dwn.start {T:List (List Rat)} {n C S:Nat} (hs:shp T n C) (hl:zG0 T S):Dwn T T n C 0 [] 1 S :=
 ⟨hs,Ech.zero n _ _,zE4.refl _ _ _,fun C' F _ _=>(Rat.one_mul _).symm,by decide,⟨S,hl,by simp⟩⟩
theorem Dwn.skip {T0 T:List (List Rat)} {n C a S:Nat} {ps:List Nat} {d:Rat} (h:Dwn T0 T n C a ps d S) (h0:∀ i,ps.length<=i->i<n->zB6 T i a=0):Dwn T0 T n C (a+1) ps d S :=
 ⟨h.sh,h.ech.skip h0,h.ker,h.fn,h.ne,h.len⟩
theorem Dwn.at_ {T0 T:List (List Rat)} {n C a f S:Nat} {ps:List Nat} {d:Rat} (h:Dwn T0 T n C a ps d S) (ha:a<C) (hk:ps.length<=f) (hf:f<n) (hne:zB6 T f a≠0):PivAt T (fun i=>decide (ps.length<i)) n C ps.length f a (pv ps) :=
 ⟨h.sh,h.ech,ha,hk,hf,hne,by simp⟩
theorem qO1 {S S' m:Nat} (h:S'+1<=(S+1)*2^m):S'+S'+1+1<=(S+1)*2^(m+1):=by
 rw [Nat.pow_succ,<- Nat.mul_assoc];omega
theorem Dwn.pivot {T0 T:List (List Rat)} {n C a f S:Nat} {ps:List Nat} {d:Rat} (h:Dwn T0 T n C a ps d S) (ha:a<C) (hk:ps.length<=f) (hf:f<n) (hne:zB6 T f a≠0):Dwn T0 (zJ7 T (fun i=>decide (ps.length<i)) ps.length f a n) n C (a+1) (ps ++ [a]) ((if f=ps.length then d else -d)*zB6 T f a) S:=by
 have g:=h.at_ ha hk hf hne;obtain ⟨t,t0,t1,e,s3,e1⟩:=g.parts;have hl:(ps ++ [a]).length=ps.length+1:=by simp
 refine ⟨s3,?_,h.ker.trans g.ker,fun C' F hC hF => ?_,?_,?_⟩
 ·rw [hl];exact (g.ech' (fun i hi _=>by simpa using hi)).congr (C:=C) (by omega) (fun _ _ _ _=>rfl) (fun i hi=>qU8 ps a i hi)
 ·rw [h.fn C' F hC hF,g.fn hC hF];by_cases ef:f=ps.length
  ·rw [if_pos ef,if_pos ef];grind
  ·rw [if_neg ef,if_neg ef];grind
 ·intro e0;rcases Rat.mul_eq_zero.1 e0 with h1 | h1
  ·have:=h.ne
   by_cases ef:f=ps.length
   ·rw [if_pos ef] at h1;exact this h1
   ·rw [if_neg ef] at h1;grind
  ·exact hne h1
 ·obtain ⟨S',r,hS⟩:=h.len;obtain ⟨_,r2,r3⟩:=g.rows r;rw [hl];by_cases hn:ps.length+1<n
  ·refine ⟨_,r2,?_⟩;rw [show min (ps.length+1) (n-1)=ps.length+1 by omega];rw [show min ps.length (n-1)=ps.length by omega] at hS;exact qO1 hS
  ·refine ⟨_,r3 (fun i hi=>by simp;omega),?_⟩;rw [show min (ps.length+1) (n-1)=n-1 by omega];rw [show min ps.length (n-1)=n-1 by omega] at hS;exact hS
structure Upw (T0 T:List (List Rat)) (n C a:Nat) (ps:List Nat) (u S:Nat):Prop where
 sh:shp T n C
 ech:Ech n a (zB6 T) ps.length (pv ps)
 red:Red n (zB6 T) ps.length (pv ps) u
 ker:zE4 n C (zB6 T0) (zB6 T)
 len:∃ S',zG0 T S'/\S'+1<=(S+1)*2^(ps.length-max u 1)
theorem Upw.start {T0 T:List (List Rat)} {n C a S:Nat} {ps:List Nat} (hs:shp T n C) (he:Ech n a (zB6 T) ps.length (pv ps)) (hk:zE4 n C (zB6 T0) (zB6 T)) (hl:zG0 T S):Upw T0 T n C a ps ps.length S :=
 ⟨hs,he,fun m h1 h2=>by omega,hk,S,hl,by rw [show ps.length-max ps.length 1=0 by omega];simp⟩
def upT (T:List (List Rat)) (m b:Nat):List (List Rat):=zF7 T (fun _=>true) (T.getD m []) b m
theorem Upw.step {T0 T:List (List Rat)} {n C a m S:Nat} {ps:List Nat} (h:Upw T0 T n C a ps (m+1) S) (ha:a<=C) (hm:m<ps.length):Upw T0 (upT T m (pv ps m)) n C a ps m S:=by
 have hle:=h.ech.le;have hlt:=h.ech.lt m hm;obtain ⟨r,hr,hrl⟩:=zI0 h.sh (show m<n by omega)
 have e:∀ i j,j<C->zB6 (upT T m (pv ps m)) i j=zI1 (zB6 T) m (fun i=>if i<m then zB6 T i (pv ps m) else 0) i j:=fun i j hj=>by
  unfold upT;rw [zJ2 hr,yG5 h.sh hr (show pv ps m<C by omega) (show m<=n by omega) i j hj];unfold zI1;by_cases e:i<m
  ·simp [e]
  ·simp [e]
 have t1:∀ i,m<=i->(fun i=>if i<m then zB6 T i (pv ps m) else 0) i=0:=fun i hi=>if_neg (by omega);have t2:∀ i,i<m->(fun i=>if i<m then zB6 T i (pv ps m) else 0) i=zB6 T i (pv ps m):=fun i hi=>if_pos hi;refine ⟨?_,?_,?_,?_,?_⟩
 ·unfold upT;rw [zJ2 hr];exact qG8 h.sh hrl m (by omega)
 ·exact (h.ech.up hm t1).congr (C:=C) ha (fun i j _ hj=>(e i j hj).symm) (fun _ _=>rfl)
 ·exact (h.red.up h.ech hm t1 t2).congr (C:=C) (fun i hi=>by have:=h.ech.lt i hi;omega) (fun i j _ hj=>(e i j hj).symm) (fun _ _=>rfl)
 ·exact h.ker.trans ((qN1 _ (show m<n by omega) (t1 m (zB1 m))).trans (zZ fun i j _ hj=>(e i j hj).symm))
 ·obtain ⟨S',r1,hS⟩:=h.len;by_cases h0:m=0
  ·subst h0;exact ⟨S',r1,hS⟩
  ·refine ⟨S'+S'+1,?_,?_⟩
   ·unfold upT;rw [zJ2 hr];exact qO0 h.sh (by omega) r1 (r1 r (zA5 hr)) m (by omega)
   ·rw [show ps.length-max m 1=(ps.length-max (m+1) 1)+1 by omega];exact qO1 hS
structure Rdc (T0 T:List (List Rat)) (n C a:Nat) (ps:List Nat) (S:Nat):Prop where
 sh:shp T n C
 ech:Ech n a (zB6 T) ps.length (pv ps)
 red:Red n (zB6 T) ps.length (pv ps) 0
 ker:zE4 n C (zB6 T0) (zB6 T)
 len:∃ S',zG0 T S'/\S'+1<=(S+1)*2^ps.length
theorem Rdc.start {T:List (List Rat)} {n C S:Nat} (hs:shp T n C) (hl:zG0 T S):Rdc T T n C 0 [] S :=
 ⟨hs,Ech.zero n _ _,fun m _ h=>by simp at h,zE4.refl _ _ _,S,hl,by simp⟩
theorem Rdc.skip {T0 T:List (List Rat)} {n C a S:Nat} {ps:List Nat} (h:Rdc T0 T n C a ps S) (h0:∀ i,ps.length<=i->i<n->zB6 T i a=0):Rdc T0 T n C (a+1) ps S :=
 ⟨h.sh,h.ech.skip h0,h.red,h.ker,h.len⟩
theorem Rdc.at_ {T0 T:List (List Rat)} {n C a f S:Nat} {ps:List Nat} (h:Rdc T0 T n C a ps S) (ha:a<C) (hk:ps.length<=f) (hf:f<n) (hne:zB6 T f a≠0):PivAt T (fun i=>decide (i≠ps.length)) n C ps.length f a (pv ps) :=
 ⟨h.sh,h.ech,ha,hk,hf,hne,by simp⟩
theorem Rdc.pivot {T0 T:List (List Rat)} {n C a f S:Nat} {ps:List Nat} (h:Rdc T0 T n C a ps S) (ha:a<C) (hk:ps.length<=f) (hf:f<n) (hne:zB6 T f a≠0):Rdc T0 (zJ7 T (fun i=>decide (i≠ps.length)) ps.length f a n) n C (a+1) (ps ++ [a]) S:=by
 have g:=h.at_ ha hk hf hne;obtain ⟨t,t0,t1,e,s3,e1⟩:=g.parts;have hl:(ps ++ [a]).length=ps.length+1:=by simp
 refine ⟨s3,?_,?_,h.ker.trans g.ker,?_⟩
 ·rw [hl];exact (g.ech' (fun i hi _=>by simp;omega)).congr (C:=C) (by omega) (fun _ _ _ _=>rfl) (fun i hi=>qU8 ps a i hi)
 ·rw [hl];refine (g.red h.red (fun i hi _=>by simpa using hi)).congr (C:=C) (fun i hi => ?_) (fun _ _ _ _=>rfl) (fun i hi=>qU8 ps a i hi);by_cases e:i<ps.length
  ·simp only [if_pos e];have:=h.ech.lt i e;omega
  ·simp only [if_neg e];exact ha
 ·obtain ⟨S',r,hS⟩:=h.len;obtain ⟨_,r2,_⟩:=g.rows r;rw [hl];exact ⟨_,r2,qO1 hS⟩
theorem jC8 {T0 T U:List (List Rat)} {n C:Nat} {ps qs:List Nat} (hs:shp T n C) (he:Ech n C (zB6 T) ps.length (pv ps)) (hr:Red n (zB6 T) ps.length (pv ps) 0) (hk:zE4 n C (zB6 T0) (zB6 T)) (hs':shp U n C) (he':Ech n C (zB6 U) qs.length (pv qs)) (hr':Red n (zB6 U) qs.length (pv qs) 0) (hk':zE4 n C (zB6 T0) (zB6 U)):T=U/\ps=qs:=by
 obtain ⟨e1,e2,e3⟩:=yF8 he hr he' hr' (hk.symm.trans hk');exact ⟨yG1 hs hs' e3,yG4 e1 e2⟩
end rat
namespace flow
open Go.RowKit num mem whl rat
def pone (φ : Pd):Pd:=⟨fun w v => ∃ g x y z,v=.slice (some ⟨g,0,none⟩) 1 1/\w.cell? ((⟨g,0,none⟩:Addr).add 0)=some x/\w.cell? ((⟨g,0,none⟩:Addr).add 1)=some y/\w.cell? ((⟨g,0,none⟩:Addr).add 2)=some z /\ φ.p w (.agg #[x,y,z]),fun h hb=>by
 obtain ⟨g,x,y,z,h0,h1,h2,h3,h4⟩:=h;exact ⟨g,x,y,z,h0,(hb.cell (bQ0 _ _ h1)).trans h1,(hb.cell (bQ0 _ _ h2)).trans h2,(hb.cell (bQ0 _ _ h3)).trans h3,φ.up h4 hb⟩⟩
section
variable {P:Program} {Q:Exit->Act->World->Prop} {ops:Array Oper} {L:List Oper} {Φ : List Pd} {w0:World} {a0:Act} {i:Nat} {o:Oper}
theorem qV {t T:TypeId} {x:Operand} {φ : Pd} {F:World->Value->Prop} (hop:o.op=.buildSlice t 1 #[(0,x)]) (hg:o.guard=none) (hx:Ev L Φ w0 a0 o x F) (hu:P.underlying t=some (.slice T)) (hI:∃ i,P.info? T=some i/\i.zero=some (.agg #[.bool false,.slice none 0 0,.slice none 0 0])/\i.size=3/\i.bytes=56)
  (hF:∀ w v,F w v -> φ.p w v /\ ∃ a b c,v=.agg #[a,b,c]/\a.oneCell'=true/\b.oneCell'=true/\c.oneCell'=true) (hP:∀ w v,(pone φ).p w v->(ph Φ i).p w v):Ob P Q ops L Φ w0 a0 i o:=by
 intro ms w hS;rw [if_pos (zB3 (ops:=ops) (L:=L) (Φ:=Φ) (w0:=w0) (a0:=a0) hg ms w hS)];obtain ⟨h1,a,b,c,hv,ka,kb,kc⟩:=hF _ _ (hx ms w hS);obtain ⟨inf,hi,hz,hs,hb⟩:=hI
 have hr:(execOp (zD5 a0 L ms).eval o).run P w=.ok (.value (.slice (some ⟨w.heap.size,0,none⟩) 1 1)) (w.alloc (.cells #[a,b,c] T)):=by
  generalize zD5 a0 L ms=A at hv
  have hz0:(zeroValue T).run P w=.ok (.agg #[.bool false,.slice none 0 0,.slice none 0 0]) w:=by simp [zeroValue,go_sem,typeInfo,hi,hz]
  simp only [hop,execOp,List.map_toArray,List.map_cons,List.map_nil,hv]
  generalize A.eval=ev
  simp [go_sem,run_underlying hu,sizeOf,typeInfo,hi,newRow,hs,hz0]
 unfold Oper.wp;rw [hr];obtain ⟨c0,c1,c2⟩:=qM6 w T a b c;have hbb:=zC6 (w:=w) (zB1 _) (.cells #[a,b,c] T);exact ⟨_,rfl,hbb,hP _ _ ⟨_,a,b,c,rfl,c0,c1,c2,φ.up (hv ▸ h1) hbb⟩,fun h=>by unfold isA at h;rw [hop] at h;cases h⟩
theorem yG6 {fuel:Nat} {listed:Array Bool} {a:Act} {w:World} (s x:Operand) {t:TypeId} (hr:Region.ready .any ops listed=[i]) (ho:ops[i]?=some o) (hg:o.guard=none) (hop:o.op=.call { callee:=.builtin .append,args:=#[s,x],argTypes:=#[t,t] })
  {base:Nat} {T:TypeId} (hT:P.underlying t=some (.slice T)) (hI:∃ i,P.info? T=some i/\i.zero=some (.agg #[.bool false,.slice none 0 0,.slice none 0 0])/\i.size=3/\i.bytes=56) {v:Value} {p:Elt} {ps:List Elt} (hs:a.eval s=v) (hown:zD0 T w base v ps) {ad:Addr} {c:Nat} (hx:a.eval x=.slice (some ad) 1 c)
  (h0:w.cell? (ad.add 0)=some (.bool (ngB p.1.num))) (h1:w.cell? (ad.add 1)=some p.2.1) (h2:w.cell? (ad.add 2)=some p.2.2) (k1:p.2.1.oneCell'=true) (k2:p.2.2.oneCell'=true) (hlen:ps.length<=1000000000) (hbase:base<=w.heap.size)
  (h:∀ v' w' b,zD0 T w' base v' (ps ++ [p])->Below base w w'->Hid (zH5 w w' v v')->a.put o.dst v'=b->wpAny P .any ops Q fuel (listed.setIfInBounds i true) b w'):wpAny P .any ops Q (fuel+1) listed a w :=
 qL2 hr ho hg (qT2 s x hop hT hI hs hown hx h0 h1 h2 k1 k2 hlen hbase fun v' w' r b k=>h v' w' _ r b k rfl)
end
end flow
namespace rat
open Go.RowKit num mem nat txt str flow whl
end rat
namespace whl
open Go.RowKit num mem nat txt str flow
def prf (z:Int) (B:Nat):Pd:=⟨fun w v=>IsR w v z/\zQ5 B v,fun h hb=>⟨h.1.bQ hb,h.2⟩⟩
def qO2 (z:Int) (w:World) (e:Ending) (w':World):Prop:=∃ v,e=.returned v/\IsR w' v z/\zQ5 w.heap.size v/\Below w.heap.size w w'
theorem qO2.pd {z:Int} {w:World} {e:Ending} {w':World} {B:Nat} (h:qO2 z w e w') (hB:B<=w.heap.size):zH9 (prf z B) w e w':=by
 obtain ⟨v,h1,h2,h3,h4⟩:=h;exact ⟨v,h1,⟨h2,h3.mono hB⟩,h4⟩
theorem jC9 (b:Bool) (u:Value) (x:Nat) (z:Int) (w:World) {B:Nat} (h:IsS w .i64 u (digs 10000 x)) (hf:zE1 B u) (hz:sg b x=z):Calls prog 135 #[.bool b,u] w (zH9 (prf z B) w) :=
 (yD3 b u x w h).mono fun e w' h'=>⟨_,h'.1,⟨zH3 (h.bQ h'.2) (by rw [<- hz,zT9]) (by rw [hz]),zL7 hf⟩,h'.2⟩
end whl
namespace rat
open Go.RowKit num mem nat txt str flow whl
theorem jD (a0:Value) (x:Int) (w:World) (h0:IsZ w a0 x) (hl:zC5 x<=30000) :
  Calls prog 98 #[a0] w (qO2 x w):=by
 obtain ⟨u0,rfl,s0⟩:=h0;obtain ⟨A0,c0,rfl,_⟩:=id s0;have HL:Hid ((digs 4294967296 x.natAbs).length<=100000):=by show _<=_;unfold zC5 at hl;omega
 have HZ:Hid (sg (ngB x) x.natAbs=x):=by show _=_;exact zW x
 go_enter func98,ntmps98
 go_upto_region 1 with (fail)
 obtain ⟨wx,hwx,bb,B0,B1,hsz⟩:=zI4 w 60 63 #[.bool (ngB x),.slice A0 (digs 4294967296 (x).natAbs).length c0] #[.bool false,.slice none 0 0];rw [hwx];clear hwx;have k0s:=s0.bQ bb;have k0:IsZ wx (.agg #[.bool (ngB x),.slice A0 (digs 4294967296 (x).natAbs).length c0]) (x):=zG9 k0s rfl rfl;have hszb:=bb.size;refine flow 6 [Pd.eq (.pointer (some ⟨w.heap.size,0,none⟩)),Pd.eq (.bool (ngB x)),Pd.eq (.pointer (some ⟨w.heap.size,1,none⟩)),Pd.eq (.slice A0 (digs 4294967296 (x).natAbs).length c0),ps .i64 (digs 10000 x.natAbs) wx.heap.size,prf (x) wx.heap.size] (by kernel_rfl) (by kernel_rfl) ?ob1 ?done1
 case ob1 =>
  refine zA (zB9 rfl (zB3 rfl) (zB5 rfl rfl) (fun _=>by kernel_rfl) (fun _=>rfl)) ?_;refine zA (zB7 rfl (zB3 rfl) (zB4 (j:=0) (by kernel_rfl) rfl rfl) (fun w2 hb=>zC1 underlying4 rfl ((B0.drew.bQ hb).cell 0)) (fun _ _=>rfl)) ?_;refine zA (zB9 rfl (zB3 rfl) (zB5 rfl rfl) (fun _=>by kernel_rfl) (fun _=>rfl)) ?_;refine zA (zB7 rfl (zB3 rfl) (zB4 (j:=2) (by kernel_rfl) rfl rfl) (fun w2 hb=>zC1 underlying50 rfl ((B0.drew.bQ hb).cell 1)) (fun _ _=>rfl)) ?_;refine zA (zE7 rfl func100 (by kernel_rfl) (zB3 rfl) (zB4 (j:=3) (by kernel_rfl) rfl rfl) (fun w2 u0 hb h0=>by obtain rfl:=h0;exact (qD0 _ _ _ (k0s.drew.bQ hb) HL.out).mono fun e w3 h=>zD1.pd h hb.size)) ?_;refine zA (zC7 rfl func135 (by kernel_rfl) (zB3 rfl) (zB4 (j:=1) (by kernel_rfl) rfl rfl) (zB4 (j:=4) (by kernel_rfl) rfl rfl) (fun w2 u0 u1 hb h0 h1=>by obtain rfl:=h0;exact jC9 _ _ _ (x) _ h1.1 h1.2 HZ.out)) ?_
  trivial
 case done1 =>
  refine fun w1 hb1 v0 h0 v1 h1 v2 h2 v3 h3 v4 h4 v5 h5 b hbf => ?_;obtain rfl:=h0;obtain rfl:=h1;obtain rfl:=h2;obtain rfl:=h3;obtain ⟨q4,f4⟩:=h4;obtain ⟨q5,f5⟩:=h5;simp only [Act.put,zA0,zA2,zA1] at hbf;subst hbf;obtain ⟨u5,rfl,q5⟩:=q5;obtain ⟨A9,c9,rfl,_⟩:=id q5;have B9:=B1.bQ hb1;refine zH7 (i:=6) (by kernel_rfl) rfl rfl rfl rfl rfl rfl (cells:=[.bool (ngB (x)),.slice A9 (digs 10000 (x).natAbs).length c9]) rfl B9 rfl (by kernel_rfl) (zG8 rfl rfl) fun w9 hg9 BB9 => ?_;have k9:=off q5 B9 no_ints2 hg9;have f9:=(f5 _ _ rfl).mono (show w.heap.size<=wx.heap.size from bb.size);have bb9:=((bb.trans (hb1.mono bb.size)).trans ((Below.refl _ _).grown hg9 (zB2 bb.size hb1.size) (fun g hg=>by injection hg with hg;omega)));obtain ⟨c0,c1,_,_⟩:=Blk.two BB9;refine zG (by kernel_rfl) ?_;go_wp2;exact bodyPost_ret (v:=.agg #[.bool (ngB (x)),.slice A9 (digs 10000 (x).natAbs).length c9]) (by simp [results,results98,go_sem,c0,c1]) rfl ⟨_,rfl,zH3 k9 rfl rfl,zL7 f9,bb9⟩
theorem jD0 (a0:Value) (q:Rat) (w:World) (h0:IsQ w a0 q) (hl:zC2 q 30000) :
  Calls prog 52 #[a0] w (zN q w):=by
 obtain ⟨u0,t0,rfl,s0,r0⟩:=h0;obtain ⟨A0,c0,rfl,_⟩:=id s0;obtain ⟨D0,e0,rfl,_⟩:=id r0
 go_enter func52,ntmps52
 go_upto_region 1 with (fail)
 obtain ⟨wx,hwx,bb,B0,BR0,hsz⟩:=zI4 w 83 65 #[.bool (ngB (q).num),.slice A0 (digs 4294967296 (q).num.natAbs).length c0,.slice D0 (digs 4294967296 (q).den).length e0] #[.bool false,.slice none 0 0,.slice none 0 0];rw [hwx];clear hwx;have k0s:=s0.bQ bb;have k0d:=r0.bQ bb;have k0z:IsZ wx (.agg #[.bool (ngB (q).num),.slice A0 (digs 4294967296 (q).num.natAbs).length c0]) (q).num:=⟨_,rfl,k0s⟩;have k0:IsQ wx (.agg #[.bool (ngB (q).num),.slice A0 (digs 4294967296 (q).num.natAbs).length c0,.slice D0 (digs 4294967296 (q).den).length e0]) (q):=⟨_,_,rfl,k0s,k0d⟩;have hsz0:=bb.size;have sB:=bb.size;refine flow 7 [Pd.eq (.pointer (some ⟨w.heap.size,0,none⟩)),Pd.eq (.agg #[.bool (ngB (q).num),.slice A0 (digs 4294967296 (q).num.natAbs).length c0]),prf ((q).num) wx.heap.size,Pd.eq (.pointer (some ⟨w.heap.size,2,none⟩)),Pd.eq (.slice D0 (digs 4294967296 (q).den).length e0),ps .i64 (digs 10000 (q).den) wx.heap.size,ppf (q) wx.heap.size] (by kernel_rfl) (by kernel_rfl) ?ob2 ?done2
 case ob2 =>
  refine zA (zB9 rfl (zB3 rfl) (zB5 rfl rfl) (fun _=>by kernel_rfl) (fun _=>rfl)) ?_;refine zA (zB7 rfl (zB3 rfl) (zB4 (j:=0) (by kernel_rfl) rfl rfl) (fun w2 hb=>zP underlying60 rfl (by kernel_rfl) (B0.drew.bQ hb) rfl) (fun _ _=>rfl)) ?_;refine zA (zE7 rfl func98 (by kernel_rfl) (zB3 rfl) (zB4 (j:=1) (by kernel_rfl) rfl rfl) (fun w2 u0 hb h0=>by obtain rfl:=h0;exact (jD _ _ _ (k0z.drew.bQ hb) (zB2 hl.1 (by decide))).mono fun e w3 h=>qO2.pd h hb.size)) ?_;refine zA (zB9 rfl (zB3 rfl) (zB5 rfl rfl) (fun _=>by kernel_rfl) (fun _=>rfl)) ?_;refine zA (zB7 rfl (zB3 rfl) (zB4 (j:=3) (by kernel_rfl) rfl rfl) (fun w2 hb=>zC1 underlying50 rfl ((B0.drew.bQ hb).cell 2)) (fun _ _=>rfl)) ?_;refine zA (zE7 rfl func100 (by kernel_rfl) (zB3 rfl) (zB4 (j:=4) (by kernel_rfl) rfl rfl) (fun w2 u0 hb h0=>by obtain rfl:=h0;exact (qD0 _ _ _ (k0d.drew.bQ hb) (zB2 hl.2 (by decide))).mono fun e w3 h=>zD1.pd h hb.size)) ?_;refine zA (zK2 rfl (zB3 rfl) (zB4 (j:=2) (by kernel_rfl) rfl rfl) (zB4 (j:=5) (by kernel_rfl) rfl rfl) (fun w2 u v hb hu hv=>by obtain ⟨u7,rfl,hu7⟩:=hu.1;obtain ⟨A7,c7,rfl,_⟩:=id hu7;obtain ⟨A8,c8,rfl,_⟩:=id hv.1;exact ⟨.agg #[.bool (ngB (q).num),.slice A7 (digs 10000 (q).num.natAbs).length c7,.slice A8 (digs 10000 (q).den).length c8],by kernel_rfl,⟨⟨_,_,rfl,hu7,hv.1⟩,zL4 (hu.2 _ _ rfl) hv.2⟩⟩)) ?_
  trivial
 case done2 =>
  refine fun w11 hb11 v0 h0 v1 h1 v2 h2 v3 h3 v4 h4 v5 h5 v6 h6 b hbf => ?_;obtain rfl:=h0;obtain rfl:=h1;obtain rfl:=h3;obtain rfl:=h4;obtain ⟨q2,f2⟩:=h2;obtain ⟨q5,f5⟩:=h5;obtain ⟨q6,f6⟩:=h6;simp only [Act.put,zA0,zA2,zA1] at hbf;subst hbf;replace B0:=B0.bQ hb11;replace k0s:=k0s.bQ hb11;replace k0d:=k0d.bQ hb11;replace k0z:=k0z.bQ hb11;replace k0:=k0.bQ hb11;replace BR0:=BR0.bQ hb11;replace bb:=bb.trans (hb11.mono bb.size);have hsz11:=bb.size;have s_2:=sB;have s_5:=sB;have s_6:=sB;obtain ⟨u6,t6,rfl,q6,d6⟩:=q6;obtain ⟨A9,c9,rfl,_⟩:=id q6;obtain ⟨D9,e9,rfl,_⟩:=id d6;refine zH7 (i:=7) (by kernel_rfl) rfl rfl rfl rfl rfl rfl (cells:=[.bool (ngB (q).num),.slice A9 (digs 10000 (q).num.natAbs).length c9,.slice D9 (digs 10000 (q).den).length e9]) rfl BR0 rfl (by kernel_rfl) (zH rfl rfl rfl) fun w9 hg9 B9 => ?_;have k9:=off q6 BR0 zC9 hg9;have d9:=off d6 BR0 zC9 hg9;have f9:=f6.mono (show w.heap.size<=_ from s_6);have bb9:=bb.trans ((Below.refl _ _).grown hg9 bb.size (fun g hg=>by injection hg with hg;omega));obtain ⟨C0,C1,C2,_,_,_⟩:=three B9;refine zG (by kernel_rfl) ?_;go_wp2;exact bodyPost_ret (v:=.agg #[.bool (ngB (q).num),.slice A9 (digs 10000 (q).num.natAbs).length c9,.slice D9 (digs 10000 (q).den).length e9]) (by simp [results,results52,go_sem,C0,C1,C2]) rfl ⟨_,rfl,⟨_,_,rfl,k9,d9⟩,f9,bb9⟩
theorem SlF.drew {k:IntKind} {B:Nat} {w:World} {v:Value} {qs:List Rat} (h:SlF k B w v qs):SlF k B w.drew v qs:=h
theorem SlF.off {k:IntKind} {B:Nat} {w w':World} {v:Value} {qs:List Rat} {g:Nat} {e:TypeId} {cs:Array Value} (h:SlF k B w v qs) (hB:w.heap[g]?=some (.cells cs e (0,0))) (hno:∀ c∈cs,∀ n,c ≠ .int k n) (hg:w.grownBy w' (some g)) (hne:v.ownBlock≠some g):SlF k B w' v qs:=by
 obtain ⟨ps,e1,⟨A,c,rfl,h1,h2,h3⟩,h4⟩:=h
 have key:∀ (g2 o2:Nat) (x:Value),A=some ⟨g2,o2,none⟩ -> ∀ j,w.cell? ⟨g2,j,none⟩=some x->w'.cell? ⟨g2,j,none⟩=some x:=fun g2 o2 x hA j hc=>by
  subst hA;have hne2:g2≠g:=fun e=>hne (by subst e;rfl);have hb:=hg.block g2 (bQ0 w _ hc) (fun e=>hne2 (by injection e));rw [<- hc];simp only [World.cell?,hb]
 refine ⟨ps,e1,⟨A,c,rfl,h1,h2,fun i p hp => ?_⟩,fun p hp=>⟨flow.off (h4 p hp).1 hB hno hg,flow.off (h4 p hp).2 hB hno hg⟩⟩;obtain ⟨g2,o2,hA,c0,c1,c2⟩:=h3 i p hp;exact ⟨g2,o2,hA,key g2 o2 _ hA _ c0,key g2 o2 _ hA _ c1,key g2 o2 _ hA _ c2⟩
def RetSl (qs:List Rat) (w:World) (e:Ending) (w':World):Prop:=∃ V,e=.returned V/\SlF .u64 4294967296 w' V qs/\Below w.heap.size w w'
theorem SlF.at2 {k:IntKind} {B:Nat} {w:World} {g o n c:Nat} {qs:List Rat} {i:Nat} {q:Rat} (h:SlF k B w (.slice (some ⟨g,o,none⟩) n c) qs) (hq:qs[i]?=some q):∃ u t,i<n/\w.cell? ⟨g,o+i*3,none⟩=some (.bool (ngB q.num))/\w.cell? ⟨g,o+i*3+1,none⟩=some u/\w.cell? ⟨g,o+i*3+2,none⟩=some t/\IsS w k u (digs B q.num.natAbs)/\IsS w k t (digs B q.den):=by
 obtain ⟨g',o',u,t,hA,h1,h2,h3,h4,h5,h6⟩:=h.at_ hq;injection hA with hA;injection hA with e1 e2;subst e1;subst e2;exact ⟨u,t,h1,h2,h3,h4,h5,h6⟩
theorem SlF.place {k:IntKind} {B:Nat} {w:World} {v:Value} {qs:List Rat} (h:SlF k B w v qs) (hne:qs≠[]):∃ g o c,v=.slice (some ⟨g,o,none⟩) qs.length c/\g<w.heap.size/\qs.length<=c/\c<=maxLen:=by
  obtain ⟨A,c,rfl,h1,h2⟩:=h.shape
  cases qs with
  | nil=>exact absurd rfl hne
  | cons q qs =>
    obtain ⟨g,o,u,t,rfl,_,hc,_⟩:=h.at_ (i:=0) (q:=q) rfl;exact ⟨g,o,c,rfl,bQ0 w _ hc,h1,h2⟩
theorem SlF.any {k:IntKind} {B:Nat} {w w':World} {v:Value} (h:SlF k B w v []):SlF k B w' v []:=by
 obtain ⟨ps,hp,⟨A,c,h1,h2,h3,_⟩,_⟩:=h;obtain rfl:ps=[]:=List.map_eq_nil_iff.1 hp;exact ⟨[],rfl,⟨A,c,h1,h2,h3,fun i p hp=>by simp at hp⟩,fun p hp=>by cases hp⟩
section
variable {P:Program}
end
def Two (w:World) (v:Value) (p q:List Rat):Prop:=∃ u0 u1,IsV w v [u0,u1]/\SlF .u64 4294967296 w u0 p/\SlF .u64 4294967296 w u1 q
section
variable {P:Program} {Q:Exit->Act->World->Prop} {ops:Array Oper} {L:List Oper} {Φ : List Pd} {w0:World} {a0:Act} {i:Nat} {o:Oper}
end
end rat
namespace rat
open Go.RowKit Go.ChangeShapes Go.WideShapes Go.ChangeAt Go.Joins Go.Deep num mem nat txt str flow whl
theorem zY8.bQ {w w':World} {v:Value} (h:zY8 w v) (hb:Below w.heap.size w w'):zY8 w' v:=by
 obtain ⟨A,n,c,e,h1,h2,h3⟩:=h;refine ⟨A,n,c,e,h1,h2,fun i hi => ?_⟩;obtain ⟨ad,b,u,t,l,m,e2,c0,c1,c2,k1,k2,k3,k4⟩:=h3 i hi;exact ⟨ad,b,u,t,l,m,e2,(hb.cell (bQ0 w _ c0)).trans c0,(hb.cell (bQ0 w _ c1)).trans c1,(hb.cell (bQ0 w _ c2)).trans c2,k1.bQ hb,k2,k3.bQ hb,k4⟩
def vi (l:List Int):List Value:=l.map (.int .i64)
theorem vi_len (l:List Int):(vi l).length=l.length:=zA9 _
section
variable {P:Program}
end
theorem info_int:∃ i,prog.info? 3=some i/\i.zero=some (.int .i64 0)/\i.size=1/\i.bytes=8:=info_parts (P:=prog) (e:=3) (z:=.int .i64 0) (size:=1) (bytes:=8) (by kernel_rfl)
end rat
namespace rat
open Go.RowKit num mem nat txt str flow whl
def zI6 (B:Nat) (ps:List Elt):Prop:=∀ p∈ps,zE1 B p.2.1/\zE1 B p.2.2
theorem zI6.nil (B:Nat):zI6 B []:=fun p hp=>by cases hp
theorem zI6.snoc {B:Nat} {ps:List Elt} {p:Elt} (h:zI6 B ps) (h1:zE1 B p.2.1) (h2:zE1 B p.2.2):zI6 B (ps ++ [p]):=fun a ha=>by
 rcases List.mem_append.1 ha with ha | ha
 ·exact h a ha
 ·rw [List.mem_singleton.1 ha];exact ⟨h1,h2⟩
def IsN (k:IntKind) (B:Nat) (w:World) (B0:Nat) (v:Value) (r:List Rat):Prop:=∃ ps:List Elt,ps.map (·.1)=r/\zN1 w v ps/\(∀ p∈ps,IsE k B w p/\zE1 B0 p.2.1/\zE1 B0 p.2.2) /\ ∀ g,v.ownBlock=some g->B0<=g/\g<w.heap.size
theorem IsN.sl {k:IntKind} {B:Nat} {w:World} {B0:Nat} {v:Value} {r:List Rat} (h:IsN k B w B0 v r):SlF k B w v r:=by
 obtain ⟨ps,h1,h2,h3,_⟩:=h;exact ⟨ps,h1,h2,fun p hp=>(h3 p hp).1⟩
def SlT (k:IntKind) (B:Nat) (w:World) (v:Value) (t:List (List Rat)):Prop:=∃ us:List Value,us.length=t.length/\(∃ A c,v=.slice A us.length c/\us.length<=c/\c<=maxLen /\ ∀ (i:Nat) (u:Value),us[i]?=some u -> ∃ ad,A=some ad/\w.cell? (ad.add i)=some u) /\ ∀ (i:Nat) (u:Value) (r:List Rat),us[i]?=some u->t[i]?=some r->SlF k B w u r
theorem SlT.bQ {k:IntKind} {B:Nat} {w w':World} {v:Value} {t:List (List Rat)} (h:SlT k B w v t) (hb:Below w.heap.size w w'):SlT k B w' v t:=by
 obtain ⟨us,h1,⟨A,c,e,h2,h3,h4⟩,h5⟩:=h;refine ⟨us,h1,⟨A,c,e,h2,h3,fun i u hu => ?_⟩,fun i u r hu hr=>(h5 i u r hu hr).bQ hb⟩;obtain ⟨ad,ha,hc⟩:=h4 i u hu;exact ⟨ad,ha,(hb.cell (bQ0 w _ hc)).trans hc⟩
theorem SlT.shape {k:IntKind} {B:Nat} {w:World} {v:Value} {t:List (List Rat)} (h:SlT k B w v t):∃ A c,v=.slice A t.length c/\t.length<=c/\c<=maxLen:=by
 obtain ⟨us,h1,⟨A,c,e,h2,h3,_⟩,_⟩:=h;exact ⟨A,c,by rw [e,h1],by omega,h3⟩
theorem SlT.at_ {k:IntKind} {B:Nat} {w:World} {A:Option Addr} {n c i:Nat} {t:List (List Rat)} {r:List Rat} (h:SlT k B w (.slice A n c) t) (hr:t[i]?=some r):∃ ad Ar cr,A=some ad/\i<n/\w.cell? (ad.add i)=some (.slice Ar r.length cr)/\SlF k B w (.slice Ar r.length cr) r:=by
 obtain ⟨us,h1,⟨A',c',e,h2,h3,h4⟩,h5⟩:=h;injection e with e1 e2 e3;subst e1;subst e2;subst e3;have hi:i<us.length:=by have:=(zA4.1 hr).1;omega
 obtain ⟨ad,ha,hc⟩:=h4 i _ (zA3 hi);have hs:=h5 i _ r (zA3 hi) hr;obtain ⟨Ar,cr,e,_,_⟩:=hs.shape;rw [e] at hc hs;exact ⟨ad,Ar,cr,ha,hi,hc,hs⟩
theorem slT_nil (k:IntKind) (B:Nat) (w:World):SlT k B w (.slice none 0 0) []:=⟨[],rfl,⟨none,0,rfl,by simp,by unfold maxLen;omega,fun i u hu=>by simp at hu⟩,fun i u r hu=>by simp at hu⟩
def yG7 (k:IntKind) (B:Nat) (t:List (List Rat)) (w:World) (e:Ending) (w':World):Prop:=∃ V,e=.returned V/\SlT k B w' V t/\Below w.heap.size w w'
def zU9 (t:List (List Rat)) (n:Int) (w:World) (e:Ending) (w':World):Prop:=∃ V,e=.returned (.tuple #[V,.int .i64 n])/\SlT .u64 4294967296 w' V (if n=0 then t else [])/\Below w.heap.size w w'
def zL9 (k:IntKind) (B:Nat) (w:World) (v u:Value) (r:List Rat):Prop:=∃ ps:List Elt,ps.map (·.1)=r/\zN1 w u ps/\zG3 k B w v ps /\ ∀ g,u.ownBlock=some g->g<w.heap.size/\v.ownBlock≠some g
theorem zL9.sl {k:IntKind} {B:Nat} {w:World} {v u:Value} {r:List Rat} (h:zL9 k B w v u r):SlF k B w u r:=by
 obtain ⟨ps,h1,h2,h3,_⟩:=h;exact ⟨ps,h1,h2,fun p hp=>(h3 p hp).1⟩
theorem zL9.bQ {k:IntKind} {B:Nat} {w w':World} {v u:Value} {r:List Rat} (h:zL9 k B w v u r) (hb:Below w.heap.size w w'):zL9 k B w' v u r:=by
 obtain ⟨ps,h1,h2,h3,h4⟩:=h;exact ⟨ps,h1,h2.bQ hb,h3.bQ hb,fun g hg=>⟨bY2 (h4 g hg).1 hb.size,(h4 g hg).2⟩⟩
theorem zL9.keep {k:IntKind} {B:Nat} {w w':World} {v v' u:Value} {r:List Rat} (h:zL9 k B w v u r) (hk:zH5 w w' v v'):zL9 k B w' v' u r:=by
 obtain ⟨ps,h1,⟨A,c,e,h2,h2',h2''⟩,h3,h4⟩:=h;obtain ⟨k1,k2,k3⟩:=hk;refine ⟨ps,h1,⟨A,c,e,h2,h2',fun i p hp => ?_⟩,h3.keep k1,fun g hg=>⟨bY2 (h4 g hg).1 k2.size,k3 g (h4 g hg).1 (h4 g hg).2⟩⟩;obtain ⟨g,o,rfl,c0,c1,c2⟩:=h2'' i p hp;have hne:some g≠v.ownBlock:=fun e'=>(h4 g (by rw [e];rfl)).2 e'.symm;exact ⟨g,o,rfl,k2.cell c0 hne,k2.cell c1 hne,k2.cell c2 hne⟩
theorem IsN.far {k:IntKind} {B:Nat} {w:World} {B0:Nat} {v u:Value} {r:List Rat} (h:IsN k B w B0 u r) (hv:∀ g,v.ownBlock=some g->g<B0):zL9 k B w v u r:=by
 obtain ⟨ps,h1,h2,h3,h4⟩:=h;exact ⟨ps,h1,h2,fun p hp=>⟨(h3 p hp).1,(h3 p hp).2.1.far hv,(h3 p hp).2.2.far hv⟩,fun g hg=>⟨(h4 g hg).2,fun e=>by have h5:=hv _ e;have h6:=(h4 g hg).1;omega⟩⟩
end rat
namespace flow
open Go.RowKit num mem whl rat
section
variable {P:Program} {Q:Exit->Act->World->Prop} {ops:Array Oper} {L:List Oper} {Φ : List Pd} {w0:World} {a0:Act} {i:Nat} {o:Oper}
end
end flow
namespace rat
open Go.RowKit num mem nat txt str flow whl
theorem inv8_ok (a0:Value) (x:Rat) (w:World) (h0:IsQ w a0 x) (hl:zC2 x 1000000) (hy:x≠0) :
  Calls prog 128 #[a0] w (zU6 x⁻¹ 0 w):=by
 rcases Int.lt_or_gt_of_ne (fun e=>hy (Rat.num_eq_zero.1 e):x.num≠0) with hlt | hlt
 ·obtain ⟨u0,t0,rfl,s0,r0⟩:=h0;obtain ⟨A0,c0,rfl,_⟩:=id s0;obtain ⟨D0,e0,rfl,_⟩:=id r0;obtain ⟨Q,hQ⟩:∃ Q,Q=x⁻¹:=⟨_,rfl⟩;have HQ0:Hid (x⁻¹ = Q):=hQ.symm;have HQN:Hid (Q.num=sg (ngB x.num) x.den):=by show _=_;rw [hQ,(zW1 hy).1]
  have HQD:Hid (x.num.natAbs=Q.den):=by show _=_;rw [hQ,(zW1 hy).2]
  have HS:Hid (((-1):Int)=zJ3 x.num 0):=(qE8 hlt).symm;clear hQ
  go_enter func128,ntmps128
  go_upto_region 1 with (fail)
  obtain ⟨wx,hwx,bb,B0,BR0,hsz⟩:=zI4 w 83 83 #[.bool (ngB (x).num),.slice A0 (digs 4294967296 (x).num.natAbs).length c0,.slice D0 (digs 4294967296 (x).den).length e0] #[.bool false,.slice none 0 0,.slice none 0 0];rw [hwx];clear hwx;have k0s:=s0.bQ bb;have k0d:=r0.bQ bb;have k0z:IsZ wx (.agg #[.bool (ngB (x).num),.slice A0 (digs 4294967296 (x).num.natAbs).length c0]) (x).num:=⟨_,rfl,k0s⟩;have k0:IsQ wx (.agg #[.bool (ngB (x).num),.slice A0 (digs 4294967296 (x).num.natAbs).length c0,.slice D0 (digs 4294967296 (x).den).length e0]) (x):=⟨_,_,rfl,k0s,k0d⟩;have hsz0:=bb.size;have sB:=bb.size;refine zC3 3 [Pd.eq (.agg #[.bool (ngB (x).num),.slice A0 (digs 4294967296 (x).num.natAbs).length c0,.slice D0 (digs 4294967296 (x).den).length e0]),Pd.eq (.int .i64 (-1)),Pd.eq (.bool false)] (by kernel_rfl) ?ob24 ?done24
  case ob24 =>
   refine zA (zB7 rfl (zB3 rfl) (zB5 rfl rfl) (fun w2 hb=>zF0 underlying83 rfl (by kernel_rfl) (B0.bQ hb)) (fun _ _=>rfl)) ?_;refine zA (zE7 rfl func133 (by kernel_rfl) (zB3 rfl) (zB4 (j:=0) (by kernel_rfl) rfl rfl) (fun w2 u0 hb h0=>by obtain rfl:=h0;exact (zR6 _ x (-1) _ (k0.bQ hb) HS.out).mono fun e w3 h=>zD3.pd h)) ?_;refine zA (zE6 rfl (zB3 rfl) (zB4 (j:=1) (by kernel_rfl) rfl rfl) (zF8 _) (fun _ _ _ hx hy=>⟨.bool ((-1:Int) == 0),by rw [hx,hy];exact zM9 _ _ _ _ _,congrArg Value.bool (by decide)⟩)) ?_
   trivial
  case done24 =>
   refine fun w1 hb1 v0 h0 v1 h1 v2 h2 b hbf => ?_;obtain rfl:=h0;obtain rfl:=h1;obtain rfl:=h2;simp only [Act.put,zA0,zA2,zA1] at hbf;subst hbf;replace B0:=B0.bQ hb1;replace k0s:=k0s.bQ hb1;replace k0d:=k0d.bQ hb1;replace k0z:=k0z.bQ hb1;replace k0:=k0.bQ hb1;replace BR0:=BR0.bQ hb1;replace bb:=bb.trans (hb1.mono bb.size);have hsz1:=bb.size;refine zC4 ?_;have sB:=bb.size;go_upto_region 3 with (fail);refine flow 11 [Pd.eq (.pointer (some ⟨w.heap.size,0,none⟩)),Pd.eq (.pointer (some ⟨w.heap.size,0,none⟩)),Pd.eq (.bool (ngB (x).num)),Pd.eq (.pointer (some ⟨w.heap.size,2,none⟩)),Pd.eq (.slice D0 (digs 4294967296 (x).den).length e0),pz ((Q).num) w1.heap.size,Pd.eq (.pointer (some ⟨w.heap.size,0,none⟩)),Pd.eq (.pointer (some ⟨w.heap.size,1,none⟩)),Pd.eq (.slice A0 (digs 4294967296 (x).num.natAbs).length c0),ps .u64 (digs 4294967296 (Q).den) w1.heap.size,pq (Q) w1.heap.size] (by kernel_rfl) (by kernel_rfl) ?ob25 ?done25
   case ob25 =>
    refine zA (zB9 rfl (zB3 rfl) (zB5 rfl rfl) (fun _=>by kernel_rfl) (fun _=>rfl)) ?_;refine zA (zB9 rfl (zB3 rfl) (zB4 (j:=0) (by kernel_rfl) rfl rfl) (fun _=>by kernel_rfl) (fun _=>rfl)) ?_;refine zA (zB7 rfl (zB3 rfl) (zB4 (j:=1) (by kernel_rfl) rfl rfl) (fun w2 hb=>zC1 underlying4 rfl ((B0.drew.bQ hb).cell 0)) (fun _ _=>rfl)) ?_;refine zA (zB9 rfl (zB3 rfl) (zB5 rfl rfl) (fun _=>by kernel_rfl) (fun _=>rfl)) ?_;refine zA (zB7 rfl (zB3 rfl) (zB4 (j:=3) (by kernel_rfl) rfl rfl) (fun w2 hb=>zC1 underlying50 rfl ((B0.drew.bQ hb).cell 2)) (fun _ _=>rfl)) ?_;refine zA (zC7 rfl func57 (by kernel_rfl) (zB3 rfl) (zB4 (j:=2) (by kernel_rfl) rfl rfl) (zB4 (j:=4) (by kernel_rfl) rfl rfl) (fun w2 u0 u1 hb h0 h1=>by obtain rfl:=h0;obtain rfl:=h1;exact (made_any _ _ x.den (Q).num _ (k0d.drew.bQ hb) (zB2 hl.2 (by decide)) HQN.out).mono fun e w3 h=>zF6.pd h hb.size)) ?_;refine zA (zB9 rfl (zB3 rfl) (zB5 rfl rfl) (fun _=>by kernel_rfl) (fun _=>rfl)) ?_;refine zA (zB9 rfl (zB3 rfl) (zB4 (j:=6) (by kernel_rfl) rfl rfl) (fun _=>by kernel_rfl) (fun _=>rfl)) ?_;refine zA (zB7 rfl (zB3 rfl) (zB4 (j:=7) (by kernel_rfl) rfl rfl) (fun w2 hb=>zC1 underlying50 rfl ((B0.drew.bQ hb).cell 1)) (fun _ _=>rfl)) ?_;refine zA (zE7 rfl func106 (by kernel_rfl) (zB3 rfl) (zB4 (j:=8) (by kernel_rfl) rfl rfl) (fun w2 u0 hb h0=>by obtain rfl:=h0;exact (zV3 _ _ _ (k0s.drew.bQ hb) (zB2 hl.1 (by decide))).mono fun e w3 h=>zD1.pd (zD1.to h (congrArg (digs 4294967296) HQD.out)) hb.size)) ?_;refine zA (zK2 rfl (zB3 rfl) (zB4 (j:=5) (by kernel_rfl) rfl rfl) (zB4 (j:=9) (by kernel_rfl) rfl rfl) (fun w2 u v hb hu hv=>by obtain ⟨u7,rfl,hu7⟩:=hu.1;obtain ⟨A7,c7,rfl,_⟩:=id hu7;obtain ⟨A8,c8,rfl,_⟩:=id hv.1;exact ⟨.agg #[.bool (ngB (Q).num),.slice A7 (digs 4294967296 (Q).num.natAbs).length c7,.slice A8 (digs 4294967296 (Q).den).length c8],by kernel_rfl,⟨⟨_,_,rfl,hu7,hv.1⟩,zL4 (hu.2 _ _ rfl) hv.2⟩⟩)) ?_
    trivial
   case done25 =>
    refine fun w2 hb2 v0 h0 v1 h1 v2 h2 v3 h3 v4 h4 v5 h5 v6 h6 v7 h7 v8 h8 v9 h9 v10 h10 b hbf => ?_;obtain rfl:=h0;obtain rfl:=h1;obtain rfl:=h2;obtain rfl:=h3;obtain rfl:=h4;obtain rfl:=h6;obtain rfl:=h7;obtain rfl:=h8;obtain ⟨q5,f5⟩:=h5;obtain ⟨q9,f9⟩:=h9;obtain ⟨q10,f10⟩:=h10;simp only [Act.put,zA0,zA2,zA1] at hbf;subst hbf;replace B0:=B0.bQ hb2;replace k0s:=k0s.bQ hb2;replace k0d:=k0d.bQ hb2;replace k0z:=k0z.bQ hb2;replace k0:=k0.bQ hb2;replace BR0:=BR0.bQ hb2;replace bb:=bb.trans (hb2.mono bb.size);have hsz2:=bb.size;have s_5:=sB;have s_9:=sB;have s_10:=sB;obtain ⟨u10,t10,rfl,q10,d10⟩:=q10;obtain ⟨A9,c9,rfl,_⟩:=id q10;obtain ⟨D9,e9,rfl,_⟩:=id d10;have fS:=(f10 _ _ _ rfl).1.mono s_10;have fT:=(f10 _ _ _ rfl).2.mono s_10;refine zH7 (i:=11) (by kernel_rfl) rfl rfl rfl rfl rfl rfl (cells:=[.bool (ngB (Q).num),.slice A9 (digs 4294967296 (Q).num.natAbs).length c9,.slice D9 (digs 4294967296 (Q).den).length e9]) rfl BR0 rfl (by kernel_rfl) (zH rfl rfl rfl) fun w9 hg9 B9 => ?_;have k9:=off q10 BR0 zC9 hg9;have d9:=off d10 BR0 zC9 hg9;have bb9:=bb.trans ((Below.refl _ _).grown hg9 bb.size (fun g hg=>by injection hg with hg;omega));obtain ⟨C0,C1,C2,_,_,_⟩:=three B9;refine qE5 (i:=12) (.int .i64 0) (by kernel_rfl) rfl rfl rfl rfl rfl fun b hbf => ?_;simp only [Act.put,zA0,zA2,zA1] at hbf;subst hbf;refine zG (by kernel_rfl) ?_;go_wp2;rw [HQ0.out];exact bodyPost_ret (v:=.tuple #[.agg #[.bool (ngB (Q).num),.slice A9 (digs 4294967296 (Q).num.natAbs).length c9,.slice D9 (digs 4294967296 (Q).den).length e9],.int .i64 0]) (by simp [results,results128,go_sem,C0,C1,C2]) rfl ⟨_,rfl,zW3 k9 d9 rfl rfl rfl,zL4 fS fT,bb9⟩
 ·obtain ⟨u0,t0,rfl,s0,r0⟩:=h0;obtain ⟨A0,c0,rfl,_⟩:=id s0;obtain ⟨D0,e0,rfl,_⟩:=id r0;obtain ⟨Q,hQ⟩:∃ Q,Q=x⁻¹:=⟨_,rfl⟩;have HQ0:Hid (x⁻¹ = Q):=hQ.symm;have HQN:Hid (Q.num=sg (ngB x.num) x.den):=by show _=_;rw [hQ,(zW1 hy).1]
  have HQD:Hid (x.num.natAbs=Q.den):=by show _=_;rw [hQ,(zW1 hy).2]
  have HS:Hid ((1:Int)=zJ3 x.num 0):=(qE9 hlt).symm;clear hQ
  go_enter func128,ntmps128
  go_upto_region 1 with (fail)
  obtain ⟨wx,hwx,bb,B0,BR0,hsz⟩:=zI4 w 83 83 #[.bool (ngB (x).num),.slice A0 (digs 4294967296 (x).num.natAbs).length c0,.slice D0 (digs 4294967296 (x).den).length e0] #[.bool false,.slice none 0 0,.slice none 0 0];rw [hwx];clear hwx;have k0s:=s0.bQ bb;have k0d:=r0.bQ bb;have k0z:IsZ wx (.agg #[.bool (ngB (x).num),.slice A0 (digs 4294967296 (x).num.natAbs).length c0]) (x).num:=⟨_,rfl,k0s⟩;have k0:IsQ wx (.agg #[.bool (ngB (x).num),.slice A0 (digs 4294967296 (x).num.natAbs).length c0,.slice D0 (digs 4294967296 (x).den).length e0]) (x):=⟨_,_,rfl,k0s,k0d⟩;have hsz0:=bb.size;have sB:=bb.size;refine zC3 3 [Pd.eq (.agg #[.bool (ngB (x).num),.slice A0 (digs 4294967296 (x).num.natAbs).length c0,.slice D0 (digs 4294967296 (x).den).length e0]),Pd.eq (.int .i64 1),Pd.eq (.bool false)] (by kernel_rfl) ?ob26 ?done26
  case ob26 =>
   refine zA (zB7 rfl (zB3 rfl) (zB5 rfl rfl) (fun w2 hb=>zF0 underlying83 rfl (by kernel_rfl) (B0.bQ hb)) (fun _ _=>rfl)) ?_;refine zA (zE7 rfl func133 (by kernel_rfl) (zB3 rfl) (zB4 (j:=0) (by kernel_rfl) rfl rfl) (fun w2 u0 hb h0=>by obtain rfl:=h0;exact (zR6 _ x 1 _ (k0.bQ hb) HS.out).mono fun e w3 h=>zD3.pd h)) ?_;refine zA (zE6 rfl (zB3 rfl) (zB4 (j:=1) (by kernel_rfl) rfl rfl) (zF8 _) (fun _ _ _ hx hy=>⟨.bool ((1:Int) == 0),by rw [hx,hy];exact zM9 _ _ _ _ _,congrArg Value.bool (by decide)⟩)) ?_
   trivial
  case done26 =>
   refine fun w1 hb1 v0 h0 v1 h1 v2 h2 b hbf => ?_;obtain rfl:=h0;obtain rfl:=h1;obtain rfl:=h2;simp only [Act.put,zA0,zA2,zA1] at hbf;subst hbf;replace B0:=B0.bQ hb1;replace k0s:=k0s.bQ hb1;replace k0d:=k0d.bQ hb1;replace k0z:=k0z.bQ hb1;replace k0:=k0.bQ hb1;replace BR0:=BR0.bQ hb1;replace bb:=bb.trans (hb1.mono bb.size);have hsz1:=bb.size;refine zC4 ?_;have sB:=bb.size;go_upto_region 3 with (fail);refine flow 11 [Pd.eq (.pointer (some ⟨w.heap.size,0,none⟩)),Pd.eq (.pointer (some ⟨w.heap.size,0,none⟩)),Pd.eq (.bool (ngB (x).num)),Pd.eq (.pointer (some ⟨w.heap.size,2,none⟩)),Pd.eq (.slice D0 (digs 4294967296 (x).den).length e0),pz ((Q).num) w1.heap.size,Pd.eq (.pointer (some ⟨w.heap.size,0,none⟩)),Pd.eq (.pointer (some ⟨w.heap.size,1,none⟩)),Pd.eq (.slice A0 (digs 4294967296 (x).num.natAbs).length c0),ps .u64 (digs 4294967296 (Q).den) w1.heap.size,pq (Q) w1.heap.size] (by kernel_rfl) (by kernel_rfl) ?ob27 ?done27
   case ob27 =>
    refine zA (zB9 rfl (zB3 rfl) (zB5 rfl rfl) (fun _=>by kernel_rfl) (fun _=>rfl)) ?_;refine zA (zB9 rfl (zB3 rfl) (zB4 (j:=0) (by kernel_rfl) rfl rfl) (fun _=>by kernel_rfl) (fun _=>rfl)) ?_;refine zA (zB7 rfl (zB3 rfl) (zB4 (j:=1) (by kernel_rfl) rfl rfl) (fun w2 hb=>zC1 underlying4 rfl ((B0.drew.bQ hb).cell 0)) (fun _ _=>rfl)) ?_;refine zA (zB9 rfl (zB3 rfl) (zB5 rfl rfl) (fun _=>by kernel_rfl) (fun _=>rfl)) ?_;refine zA (zB7 rfl (zB3 rfl) (zB4 (j:=3) (by kernel_rfl) rfl rfl) (fun w2 hb=>zC1 underlying50 rfl ((B0.drew.bQ hb).cell 2)) (fun _ _=>rfl)) ?_;refine zA (zC7 rfl func57 (by kernel_rfl) (zB3 rfl) (zB4 (j:=2) (by kernel_rfl) rfl rfl) (zB4 (j:=4) (by kernel_rfl) rfl rfl) (fun w2 u0 u1 hb h0 h1=>by obtain rfl:=h0;obtain rfl:=h1;exact (made_any _ _ x.den (Q).num _ (k0d.drew.bQ hb) (zB2 hl.2 (by decide)) HQN.out).mono fun e w3 h=>zF6.pd h hb.size)) ?_;refine zA (zB9 rfl (zB3 rfl) (zB5 rfl rfl) (fun _=>by kernel_rfl) (fun _=>rfl)) ?_;refine zA (zB9 rfl (zB3 rfl) (zB4 (j:=6) (by kernel_rfl) rfl rfl) (fun _=>by kernel_rfl) (fun _=>rfl)) ?_;refine zA (zB7 rfl (zB3 rfl) (zB4 (j:=7) (by kernel_rfl) rfl rfl) (fun w2 hb=>zC1 underlying50 rfl ((B0.drew.bQ hb).cell 1)) (fun _ _=>rfl)) ?_;refine zA (zE7 rfl func106 (by kernel_rfl) (zB3 rfl) (zB4 (j:=8) (by kernel_rfl) rfl rfl) (fun w2 u0 hb h0=>by obtain rfl:=h0;exact (zV3 _ _ _ (k0s.drew.bQ hb) (zB2 hl.1 (by decide))).mono fun e w3 h=>zD1.pd (zD1.to h (congrArg (digs 4294967296) HQD.out)) hb.size)) ?_;refine zA (zK2 rfl (zB3 rfl) (zB4 (j:=5) (by kernel_rfl) rfl rfl) (zB4 (j:=9) (by kernel_rfl) rfl rfl) (fun w2 u v hb hu hv=>by obtain ⟨u7,rfl,hu7⟩:=hu.1;obtain ⟨A7,c7,rfl,_⟩:=id hu7;obtain ⟨A8,c8,rfl,_⟩:=id hv.1;exact ⟨.agg #[.bool (ngB (Q).num),.slice A7 (digs 4294967296 (Q).num.natAbs).length c7,.slice A8 (digs 4294967296 (Q).den).length c8],by kernel_rfl,⟨⟨_,_,rfl,hu7,hv.1⟩,zL4 (hu.2 _ _ rfl) hv.2⟩⟩)) ?_
    trivial
   case done27 =>
    refine fun w2 hb2 v0 h0 v1 h1 v2 h2 v3 h3 v4 h4 v5 h5 v6 h6 v7 h7 v8 h8 v9 h9 v10 h10 b hbf => ?_;obtain rfl:=h0;obtain rfl:=h1;obtain rfl:=h2;obtain rfl:=h3;obtain rfl:=h4;obtain rfl:=h6;obtain rfl:=h7;obtain rfl:=h8;obtain ⟨q5,f5⟩:=h5;obtain ⟨q9,f9⟩:=h9;obtain ⟨q10,f10⟩:=h10;simp only [Act.put,zA0,zA2,zA1] at hbf;subst hbf;replace B0:=B0.bQ hb2;replace k0s:=k0s.bQ hb2;replace k0d:=k0d.bQ hb2;replace k0z:=k0z.bQ hb2;replace k0:=k0.bQ hb2;replace BR0:=BR0.bQ hb2;replace bb:=bb.trans (hb2.mono bb.size);have hsz2:=bb.size;have s_5:=sB;have s_9:=sB;have s_10:=sB;obtain ⟨u10,t10,rfl,q10,d10⟩:=q10;obtain ⟨A9,c9,rfl,_⟩:=id q10;obtain ⟨D9,e9,rfl,_⟩:=id d10;have fS:=(f10 _ _ _ rfl).1.mono s_10;have fT:=(f10 _ _ _ rfl).2.mono s_10;refine zH7 (i:=11) (by kernel_rfl) rfl rfl rfl rfl rfl rfl (cells:=[.bool (ngB (Q).num),.slice A9 (digs 4294967296 (Q).num.natAbs).length c9,.slice D9 (digs 4294967296 (Q).den).length e9]) rfl BR0 rfl (by kernel_rfl) (zH rfl rfl rfl) fun w9 hg9 B9 => ?_;have k9:=off q10 BR0 zC9 hg9;have d9:=off d10 BR0 zC9 hg9;have bb9:=bb.trans ((Below.refl _ _).grown hg9 bb.size (fun g hg=>by injection hg with hg;omega));obtain ⟨C0,C1,C2,_,_,_⟩:=three B9;refine qE5 (i:=12) (.int .i64 0) (by kernel_rfl) rfl rfl rfl rfl rfl fun b hbf => ?_;simp only [Act.put,zA0,zA2,zA1] at hbf;subst hbf;refine zG (by kernel_rfl) ?_;go_wp2;rw [HQ0.out];exact bodyPost_ret (v:=.tuple #[.agg #[.bool (ngB (Q).num),.slice A9 (digs 4294967296 (Q).num.natAbs).length c9,.slice D9 (digs 4294967296 (Q).den).length e9],.int .i64 0]) (by simp [results,results128,go_sem,C0,C1,C2]) rfl ⟨_,rfl,zW3 k9 d9 rfl rfl rfl,zL4 fS fT,bb9⟩
theorem qO3 (a0:Value) (x:Rat) (a1:Value) (y:Rat) (w:World) (h0:IsQ w a0 x) (h1:IsQ w a1 y) (hl:zC2 x 10000) (hl2:zC2 y 10000) :
  Calls prog 127 #[a0,a1] w (RetQ (x*y) w):=by
 obtain ⟨u0,t0,rfl,s0,r0⟩:=h0;obtain ⟨A0,c0,rfl,_⟩:=id s0;obtain ⟨D0,e0,rfl,_⟩:=id r0;obtain ⟨u1,t1,rfl,s1,r1⟩:=h1;obtain ⟨A1,c1,rfl,_⟩:=id s1;obtain ⟨D1,e1,rfl,_⟩:=id r1;obtain ⟨U,hU⟩:∃ U,U=(mkRat x.num y.den).num:=⟨_,rfl⟩;obtain ⟨L,hL⟩:∃ L,L=(mkRat x.num y.den).den:=⟨_,rfl⟩;obtain ⟨V,hV⟩:∃ V,V=(mkRat y.num x.den).num:=⟨_,rfl⟩;obtain ⟨M,hM⟩:∃ M,M=(mkRat y.num x.den).den:=⟨_,rfl⟩;obtain ⟨Q,hQ⟩:∃ Q,Q=x*y:=⟨_,rfl⟩;have HQ0:Hid (x*y=Q):=hQ.symm;have HP:=yX9 x y;rw [<- hU,<- hL,<- hV,<- hM,<- hQ] at HP;have HQN:Hid (U*V=(Q).num):=HP.1.symm;have HQD:Hid (M*L=(Q).den):=HP.2.symm;have lx1:=hl.1;have lx2:=hl.2;have ly1:=hl2.1;have ly2:=hl2.2;have HX:Hid (x.den≠0):=x.den_nz;have HY:Hid (y.den≠0):=y.den_nz;have lU:zC2 (mkRat x.num y.den) 10000:=zU HY.out lx1 ly2;have lV:zC2 (mkRat y.num x.den) 10000:=zU HX.out ly1 lx2;unfold zC2 at lU lV;rw [<- hU,<- hL] at lU;rw [<- hV,<- hM] at lV;have HU:=hQ9 hU;have HL:=hQ9 hL;have HV:=hQ9 hV;have HM:=hQ9 hM;clear hU hL hV hM hQ HP
 go_enter func127,ntmps127
 go_upto_region 1 with (fail)
 obtain ⟨wx,hwx,bb,B0,B1,BR0,hsz⟩:=zK1 w 83 83 83 #[.bool (ngB (x).num),.slice A0 (digs 4294967296 (x).num.natAbs).length c0,.slice D0 (digs 4294967296 (x).den).length e0] #[.bool (ngB (y).num),.slice A1 (digs 4294967296 (y).num.natAbs).length c1,.slice D1 (digs 4294967296 (y).den).length e1] #[.bool false,.slice none 0 0,.slice none 0 0];rw [hwx];clear hwx;have k0s:=s0.bQ bb;have k0d:=r0.bQ bb;have k0z:IsZ wx (.agg #[.bool (ngB (x).num),.slice A0 (digs 4294967296 (x).num.natAbs).length c0]) (x).num:=⟨_,rfl,k0s⟩;have k0:IsQ wx (.agg #[.bool (ngB (x).num),.slice A0 (digs 4294967296 (x).num.natAbs).length c0,.slice D0 (digs 4294967296 (x).den).length e0]) (x):=⟨_,_,rfl,k0s,k0d⟩;have k1s:=s1.bQ bb;have k1d:=r1.bQ bb;have k1z:IsZ wx (.agg #[.bool (ngB (y).num),.slice A1 (digs 4294967296 (y).num.natAbs).length c1]) (y).num:=⟨_,rfl,k1s⟩;have k1:IsQ wx (.agg #[.bool (ngB (y).num),.slice A1 (digs 4294967296 (y).num.natAbs).length c1,.slice D1 (digs 4294967296 (y).den).length e1]) (y):=⟨_,_,rfl,k1s,k1d⟩;have hsz0:=bb.size;have sB:=bb.size;have lt0_2:=Blk.lt B0;have lt0_3:=Blk.lt B1;have lt0_4:=Blk.lt BR0;refine zC3 9 [Pd.eq (.pointer (some ⟨w.heap.size,0,none⟩)),Pd.eq (.agg #[.bool (ngB (x).num),.slice A0 (digs 4294967296 (x).num.natAbs).length c0]),Pd.eq (.pointer (some ⟨w.heap.size+1,2,none⟩)),Pd.eq (.slice D1 (digs 4294967296 (y).den).length e1),pzs (U) (L) wx.heap.size,pzs (U) (L) wx.heap.size,pz (U) wx.heap.size,ps .u64 (digs 4294967296 L) wx.heap.size,pn 60 #[.bool false,.slice none 0 0] wx.heap.size] (by kernel_rfl) ?ob28 ?done28
 case ob28 =>
  refine zA (zB9 rfl (zB3 rfl) (zB5 rfl rfl) (fun _=>by kernel_rfl) (fun _=>rfl)) ?_;refine zA (zB7 rfl (zB3 rfl) (zB4 (j:=0) (by kernel_rfl) rfl rfl) (fun w2 hb=>zP underlying60 rfl (by kernel_rfl) (B0.bQ hb) rfl) (fun _ _=>rfl)) ?_;refine zA (zB9 rfl (zB3 rfl) (zB5 rfl rfl) (fun _=>by kernel_rfl) (fun _=>rfl)) ?_;refine zA (zB7 rfl (zB3 rfl) (zB4 (j:=2) (by kernel_rfl) rfl rfl) (fun w2 hb=>zC1 underlying50 rfl ((B1.bQ hb).cell 2)) (fun _ _=>rfl)) ?_;refine zA (zC7 rfl func120 (by kernel_rfl) (zB3 rfl) (zB4 (j:=1) (by kernel_rfl) rfl rfl) (zB4 (j:=3) (by kernel_rfl) rfl rfl) (fun w2 u0 u1 hb h0 h1=>by obtain rfl:=h0;obtain rfl:=h1;exact (qG _ x.num _ y.den U L _ (k0z.bQ hb) (k1d.bQ hb) HY.out (zB2 lx1 (by decide)) (zB2 ly2 (by decide)) HU.out HL.out).mono fun e w3 h=>zW4.pd h hb.size)) ?_;refine zA (zB8 rfl (zB3 rfl) (zB4 (j:=4) (by kernel_rfl) rfl rfl) (fun _ _ h=>h)) ?_;refine zA (zF9 rfl (zB3 rfl) (zB4 (j:=5) (by kernel_rfl) rfl rfl) (fun w2 u hu=>by obtain ⟨v,u,rfl,q1,q2,q3,q4⟩:=hu;exact ⟨v,rfl,q1,q3⟩)) ?_;refine zA (zF9 rfl (zB3 rfl) (zB4 (j:=5) (by kernel_rfl) rfl rfl) (fun w2 u hu=>by obtain ⟨v,u,rfl,q1,q2,q3,q4⟩:=hu;exact ⟨u,rfl,q2,q4⟩)) ?_;refine zA (zL3 (z:=.agg #[.bool false,.slice none 0 0]) rfl rfl (fun _=>by kernel_rfl) (fun _ _ hB h=>⟨_,rfl,hB,h⟩)) ?_
  trivial
 case done28 =>
  refine fun w1 hb1 v0 h0 v1 h1 v2 h2 v3 h3 v4 h4 v5 h5 v6 h6 v7 h7 v8 h8 d8 b hbf => ?_;obtain rfl:=h0;obtain rfl:=h1;obtain rfl:=h2;obtain rfl:=h3;clear h4;clear h5;obtain ⟨q6,f6⟩:=h6;obtain ⟨q7,f7⟩:=h7;obtain ⟨g28_8,rfl,hg8,B8⟩:=h8;simp only [Act.put,zA0,zA2,zA1] at hbf;subst hbf;replace B0:=B0.bQ hb1;replace k0s:=k0s.bQ hb1;replace k0d:=k0d.bQ hb1;replace k0z:=k0z.bQ hb1;replace k0:=k0.bQ hb1;replace B1:=B1.bQ hb1;replace k1s:=k1s.bQ hb1;replace k1d:=k1d.bQ hb1;replace k1z:=k1z.bQ hb1;replace k1:=k1.bQ hb1;replace BR0:=BR0.bQ hb1;replace bb:=bb.trans (hb1.mono bb.size);have hsz1:=bb.size;have s_6:=sB;have s_7:=sB;obtain ⟨A16,c16,rfl,_⟩:=id q7;have n16:=q7;have n16f:=f7;have n16z_:=s_7;have BA5:=B8;obtain ⟨u6,rfl,q6⟩:=q6;obtain ⟨A5,c5,rfl,_⟩:=id q6;refine zH0 (i:=9) rfl rfl rfl rfl rfl rfl (cells:=[.bool (ngB U),.slice A5 (digs 4294967296 (U).natAbs).length c5]) rfl BA5 rfl (by kernel_rfl) (zG8 rfl rfl) fun w2 hg2 BN2 => ?_;replace q6:=off q6 BA5 no_ints2 hg2;replace n16:=off n16 BA5 no_ints2 hg2;replace k0s:=off k0s BA5 no_ints2 hg2;replace k0d:=off k0d BA5 no_ints2 hg2;replace k0z:IsZ w2 (.agg #[.bool (ngB (x).num),.slice A0 (digs 4294967296 (x).num.natAbs).length c0]) ((x).num):=⟨_,rfl,k0s⟩;replace k0:IsQ w2 (.agg #[.bool (ngB (x).num),.slice A0 (digs 4294967296 (x).num.natAbs).length c0,.slice D0 (digs 4294967296 (x).den).length e0]) (x):=⟨_,_,rfl,k0s,k0d⟩;replace B0:=B0.grown hg2 (by omega);replace k1s:=off k1s BA5 no_ints2 hg2;replace k1d:=off k1d BA5 no_ints2 hg2;replace k1z:IsZ w2 (.agg #[.bool (ngB (y).num),.slice A1 (digs 4294967296 (y).num.natAbs).length c1]) ((y).num):=⟨_,rfl,k1s⟩;replace k1:IsQ w2 (.agg #[.bool (ngB (y).num),.slice A1 (digs 4294967296 (y).num.natAbs).length c1,.slice D1 (digs 4294967296 (y).den).length e1]) (y):=⟨_,_,rfl,k1s,k1d⟩;replace B1:=B1.grown hg2 (by omega);replace BR0:=BR0.grown hg2 (by omega);replace bb:=bb.trans ((Below.refl _ _).grown hg2 bb.size (fun g hg=>by injection hg with hg;omega));have hsz2:=bb.size;have B5:Blk w2 (g28_8) _ _:=BN2;have k5s:=q6;have k5:IsZ w2 (.agg #[.bool (ngB U),.slice A5 (digs 4294967296 (U).natAbs).length c5]) (U):=⟨_,rfl,k5s⟩;refine zQ4 (i:=10) (.slice A16 (digs 4294967296 L).length c16) rfl rfl rfl rfl rfl fun b hbf => ?_;simp only [Act.put,zA0,zA2,zA1] at hbf;subst hbf;refine zC4 ?_;have f5_:=(f6 _ _ rfl).mono s_6;have sB:=bb.size;go_upto_region 2 with (fail);have lt2_2:=Blk.lt B0;have lt2_3:=Blk.lt B1;have lt2_4:=Blk.lt BR0;have lt2_5:=Blk.lt B5;refine zC3 9 [Pd.eq (.pointer (some ⟨w.heap.size+1,0,none⟩)),Pd.eq (.agg #[.bool (ngB (y).num),.slice A1 (digs 4294967296 (y).num.natAbs).length c1]),Pd.eq (.pointer (some ⟨w.heap.size,2,none⟩)),Pd.eq (.slice D0 (digs 4294967296 (x).den).length e0),pzs (V) (M) w2.heap.size,pzs (V) (M) w2.heap.size,pz (V) w2.heap.size,ps .u64 (digs 4294967296 M) w2.heap.size,pn 60 #[.bool false,.slice none 0 0] w2.heap.size] (by kernel_rfl) ?ob29 ?done29
  case ob29 =>
   refine zA (zB9 rfl (zB3 rfl) (zB5 rfl rfl) (fun _=>by kernel_rfl) (fun _=>rfl)) ?_;refine zA (zB7 rfl (zB3 rfl) (zB4 (j:=0) (by kernel_rfl) rfl rfl) (fun w2 hb=>zP underlying60 rfl (by kernel_rfl) (B1.bQ hb) rfl) (fun _ _=>rfl)) ?_;refine zA (zB9 rfl (zB3 rfl) (zB5 rfl rfl) (fun _=>by kernel_rfl) (fun _=>rfl)) ?_;refine zA (zB7 rfl (zB3 rfl) (zB4 (j:=2) (by kernel_rfl) rfl rfl) (fun w2 hb=>zC1 underlying50 rfl ((B0.bQ hb).cell 2)) (fun _ _=>rfl)) ?_;refine zA (zC7 rfl func120 (by kernel_rfl) (zB3 rfl) (zB4 (j:=1) (by kernel_rfl) rfl rfl) (zB4 (j:=3) (by kernel_rfl) rfl rfl) (fun w2 u0 u1 hb h0 h1=>by obtain rfl:=h0;obtain rfl:=h1;exact (qG _ y.num _ x.den V M _ (k1z.bQ hb) (k0d.bQ hb) HX.out (zB2 ly1 (by decide)) (zB2 lx2 (by decide)) HV.out HM.out).mono fun e w3 h=>zW4.pd h hb.size)) ?_;refine zA (zB8 rfl (zB3 rfl) (zB4 (j:=4) (by kernel_rfl) rfl rfl) (fun _ _ h=>h)) ?_;refine zA (zF9 rfl (zB3 rfl) (zB4 (j:=5) (by kernel_rfl) rfl rfl) (fun w2 u hu=>by obtain ⟨v,u,rfl,q1,q2,q3,q4⟩:=hu;exact ⟨v,rfl,q1,q3⟩)) ?_;refine zA (zF9 rfl (zB3 rfl) (zB4 (j:=5) (by kernel_rfl) rfl rfl) (fun w2 u hu=>by obtain ⟨v,u,rfl,q1,q2,q3,q4⟩:=hu;exact ⟨u,rfl,q2,q4⟩)) ?_;refine zA (zL3 (z:=.agg #[.bool false,.slice none 0 0]) rfl rfl (fun _=>by kernel_rfl) (fun _ _ hB h=>⟨_,rfl,hB,h⟩)) ?_
   trivial
  case done29 =>
   refine fun w3 hb3 v0 h0 v1 h1 v2 h2 v3 h3 v4 h4 v5 h5 v6 h6 v7 h7 v8 h8 d8 b hbf => ?_;obtain rfl:=h0;obtain rfl:=h1;obtain rfl:=h2;obtain rfl:=h3;clear h4;clear h5;obtain ⟨q6,f6⟩:=h6;obtain ⟨q7,f7⟩:=h7;obtain ⟨g29_8,rfl,hg8,B8⟩:=h8;simp only [Act.put,zA0,zA2,zA1] at hbf;subst hbf;replace B0:=B0.bQ hb3;replace k0s:=k0s.bQ hb3;replace k0d:=k0d.bQ hb3;replace k0z:=k0z.bQ hb3;replace k0:=k0.bQ hb3;replace B1:=B1.bQ hb3;replace k1s:=k1s.bQ hb3;replace k1d:=k1d.bQ hb3;replace k1z:=k1z.bQ hb3;replace k1:=k1.bQ hb3;replace BR0:=BR0.bQ hb3;replace B5:=B5.bQ hb3;replace k5s:=k5s.bQ hb3;replace k5:=k5.bQ hb3;replace n16:=n16.bQ hb3;replace bb:=bb.trans (hb3.mono bb.size);have hsz3:=bb.size;have s_6:=sB;have s_7:=sB;obtain ⟨A24,c24,rfl,_⟩:=id q7;have n24:=q7;have n24f:=f7;have n24z_:=s_7;have BA7:=B8;obtain ⟨u6,rfl,q6⟩:=q6;obtain ⟨A7,c7,rfl,_⟩:=id q6;refine zH0 (i:=9) rfl rfl rfl rfl rfl rfl (cells:=[.bool (ngB V),.slice A7 (digs 4294967296 (V).natAbs).length c7]) rfl BA7 rfl (by kernel_rfl) (zG8 rfl rfl) fun w4 hg4 BN4 => ?_;replace q6:=off q6 BA7 no_ints2 hg4;replace n16:=off n16 BA7 no_ints2 hg4;replace n24:=off n24 BA7 no_ints2 hg4;replace k0s:=off k0s BA7 no_ints2 hg4;replace k0d:=off k0d BA7 no_ints2 hg4;replace k0z:IsZ w4 (.agg #[.bool (ngB (x).num),.slice A0 (digs 4294967296 (x).num.natAbs).length c0]) ((x).num):=⟨_,rfl,k0s⟩;replace k0:IsQ w4 (.agg #[.bool (ngB (x).num),.slice A0 (digs 4294967296 (x).num.natAbs).length c0,.slice D0 (digs 4294967296 (x).den).length e0]) (x):=⟨_,_,rfl,k0s,k0d⟩;replace B0:=B0.grown hg4 (by omega);replace k1s:=off k1s BA7 no_ints2 hg4;replace k1d:=off k1d BA7 no_ints2 hg4;replace k1z:IsZ w4 (.agg #[.bool (ngB (y).num),.slice A1 (digs 4294967296 (y).num.natAbs).length c1]) ((y).num):=⟨_,rfl,k1s⟩;replace k1:IsQ w4 (.agg #[.bool (ngB (y).num),.slice A1 (digs 4294967296 (y).num.natAbs).length c1,.slice D1 (digs 4294967296 (y).den).length e1]) (y):=⟨_,_,rfl,k1s,k1d⟩;replace B1:=B1.grown hg4 (by omega);replace BR0:=BR0.grown hg4 (by omega);replace k5s:=off k5s BA7 no_ints2 hg4;replace k5:IsZ w4 (.agg #[.bool (ngB U),.slice A5 (digs 4294967296 (U).natAbs).length c5]) (U):=⟨_,rfl,k5s⟩;replace B5:=B5.grown hg4 (by omega);replace bb:=bb.trans ((Below.refl _ _).grown hg4 bb.size (fun g hg=>by injection hg with hg;omega));have hsz4:=bb.size;have B7:Blk w4 (g29_8) _ _:=BN4;have k7s:=q6;have k7:IsZ w4 (.agg #[.bool (ngB V),.slice A7 (digs 4294967296 (V).natAbs).length c7]) (V):=⟨_,rfl,k7s⟩;refine zQ4 (i:=10) (.slice A24 (digs 4294967296 M).length c24) rfl rfl rfl rfl rfl fun b hbf => ?_;simp only [Act.put,zA0,zA2,zA1] at hbf;subst hbf;refine zC4 ?_;have f7_:=(f6 _ _ rfl).mono s_6;have sB:=bb.size;go_upto_region 3 with (fail);refine zC3 7 [Pd.eq (.agg #[.bool (ngB U),.slice A5 (digs 4294967296 (U).natAbs).length c5]),Pd.eq (.agg #[.bool (ngB V),.slice A7 (digs 4294967296 (V).natAbs).length c7]),pz ((Q).num) w4.heap.size,Pd.eq (.slice A24 (digs 4294967296 M).length c24),Pd.eq (.slice A16 (digs 4294967296 L).length c16),ps .u64 (digs 4294967296 (Q).den) w4.heap.size,pq (Q) w4.heap.size] (by kernel_rfl) ?ob30 ?done30
   case ob30 =>
    refine zA (zB7 rfl (zB3 rfl) (zB5 rfl rfl) (fun w2 hb=>zF0 underlying60 rfl (by kernel_rfl) (B5.bQ hb)) (fun _ _=>rfl)) ?_;refine zA (zB7 rfl (zB3 rfl) (zB5 rfl rfl) (fun w2 hb=>zF0 underlying60 rfl (by kernel_rfl) (B7.bQ hb)) (fun _ _=>rfl)) ?_;refine zA (zC7 rfl func56 (by kernel_rfl) (zB3 rfl) (zB4 (j:=0) (by kernel_rfl) rfl rfl) (zB4 (j:=1) (by kernel_rfl) rfl rfl) (fun w2 u0 u1 hb h0 h1=>by obtain rfl:=h0;obtain rfl:=h1;exact (qF1 _ _ U V (Q).num _ (k5.bQ hb) (k7.bQ hb) (zB2 lU.1 (by decide)) (zB2 lV.1 (by decide)) HQN.out.symm).mono fun e w3 h=>zF6.pd h hb.size)) ?_;refine zA (zB8 rfl (zB3 rfl) (zB5 rfl rfl) (fun _ _ h=>h)) ?_;refine zA (zB8 rfl (zB3 rfl) (zB5 rfl rfl) (fun _ _ h=>h)) ?_;refine zA (zC7 rfl func152 (by kernel_rfl) (zB3 rfl) (zB4 (j:=3) (by kernel_rfl) rfl rfl) (zB4 (j:=4) (by kernel_rfl) rfl rfl) (fun w2 u0 u1 hb h0 h1=>by obtain rfl:=h0;obtain rfl:=h1;exact (qS9 _ M _ L _ (n24.bQ hb) (n16.bQ hb) (zB2 lV.2 (by decide)) (zB2 lU.2 (by decide))).mono fun e w3 h=>zD1.pd (zD1.to h (congrArg (digs 4294967296) HQD.out)) hb.size)) ?_;refine zA (zK2 rfl (zB3 rfl) (zB4 (j:=2) (by kernel_rfl) rfl rfl) (zB4 (j:=5) (by kernel_rfl) rfl rfl) (fun w2 u v hb hu hv=>by obtain ⟨u7,rfl,hu7⟩:=hu.1;obtain ⟨A7,c7,rfl,_⟩:=id hu7;obtain ⟨A8,c8,rfl,_⟩:=id hv.1;exact ⟨.agg #[.bool (ngB (Q).num),.slice A7 (digs 4294967296 (Q).num.natAbs).length c7,.slice A8 (digs 4294967296 (Q).den).length c8],by kernel_rfl,⟨⟨_,_,rfl,hu7,hv.1⟩,zL4 (hu.2 _ _ rfl) hv.2⟩⟩)) ?_
    trivial
   case done30 =>
    refine fun w5 hb5 v0 h0 v1 h1 v2 h2 v3 h3 v4 h4 v5 h5 v6 h6 b hbf => ?_;obtain rfl:=h0;obtain rfl:=h1;obtain rfl:=h3;obtain rfl:=h4;obtain ⟨q2,f2⟩:=h2;obtain ⟨q5,f5⟩:=h5;obtain ⟨q6,f6⟩:=h6;simp only [Act.put,zA0,zA2,zA1] at hbf;subst hbf;replace B0:=B0.bQ hb5;replace k0s:=k0s.bQ hb5;replace k0d:=k0d.bQ hb5;replace k0z:=k0z.bQ hb5;replace k0:=k0.bQ hb5;replace B1:=B1.bQ hb5;replace k1s:=k1s.bQ hb5;replace k1d:=k1d.bQ hb5;replace k1z:=k1z.bQ hb5;replace k1:=k1.bQ hb5;replace BR0:=BR0.bQ hb5;replace B5:=B5.bQ hb5;replace k5s:=k5s.bQ hb5;replace k5:=k5.bQ hb5;replace B7:=B7.bQ hb5;replace k7s:=k7s.bQ hb5;replace k7:=k7.bQ hb5;replace n16:=n16.bQ hb5;replace n24:=n24.bQ hb5;replace bb:=bb.trans (hb5.mono bb.size);have hsz5:=bb.size;have s_2:=sB;have s_5:=sB;have s_6:=sB;obtain ⟨u6,t6,rfl,q6,d6⟩:=q6;obtain ⟨A9,c9,rfl,_⟩:=id q6;obtain ⟨D9,e9,rfl,_⟩:=id d6;have fS:=(f6 _ _ _ rfl).1.mono s_6;have fT:=(f6 _ _ _ rfl).2.mono s_6;refine zH0 (i:=7) rfl rfl rfl rfl rfl rfl (cells:=[.bool (ngB (Q).num),.slice A9 (digs 4294967296 (Q).num.natAbs).length c9,.slice D9 (digs 4294967296 (Q).den).length e9]) rfl BR0 rfl (by kernel_rfl) (zH rfl rfl rfl) fun w9 hg9 B9 => ?_;have k9:=off q6 BR0 zC9 hg9;have d9:=off d6 BR0 zC9 hg9;have bb9:=bb.trans ((Below.refl _ _).grown hg9 bb.size (fun g hg=>by injection hg with hg;omega));obtain ⟨C0,C1,C2,_,_,_⟩:=three B9;refine zC4 ?_;go_wp2;rw [HQ0.out];exact bodyPost_ret (v:=.agg #[.bool (ngB (Q).num),.slice A9 (digs 4294967296 (Q).num.natAbs).length c9,.slice D9 (digs 4294967296 (Q).den).length e9]) (by simp [results,results127,go_sem,C0,C1,C2]) rfl ⟨_,rfl,zW3 k9 d9 rfl rfl rfl,zL4 fS fT,bb9⟩
theorem yG8 (a0:Value) (x:Rat) (a1:Value) (y:Rat) (w:World) (h0:IsQ w a0 x) (h1:IsQ w a1 y) (hl:zC2 x 4900) (hl2:zC2 y 4900) :
  Calls prog 175 #[a0,a1] w (RetQ (x+y) w):=by
 obtain ⟨u0,t0,rfl,s0,r0⟩:=h0;obtain ⟨A0,c0,rfl,_⟩:=id s0;obtain ⟨D0,e0,rfl,_⟩:=id r0;obtain ⟨u1,t1,rfl,s1,r1⟩:=h1;obtain ⟨A1,c1,rfl,_⟩:=id s1;obtain ⟨D1,e1,rfl,_⟩:=id r1;obtain ⟨G,hG⟩:∃ G,G=Nat.gcd x.den y.den:=⟨_,rfl⟩;obtain ⟨m1,ha⟩:∃ m1,m1=x.den / G:=⟨_,rfl⟩;obtain ⟨m2,hb_⟩:∃ m2,m2=y.den / G:=⟨_,rfl⟩;have hGp:0<G:=by rw [hG];exact Nat.gcd_pos_of_pos_left _ x.den_pos
 have hGd:G<=x.den:=by rw [hG];exact Nat.gcd_le_left _ x.den_pos
 obtain ⟨S,hS⟩:∃ S,S=(x.num*((m2:Nat):Int)+y.num*((m1:Nat):Int)):=⟨_,rfl⟩;obtain ⟨U,hU⟩:∃ U,U=(mkRat S G).num:=⟨_,rfl⟩;obtain ⟨L,hL⟩:∃ L,L=(mkRat S G).den:=⟨_,rfl⟩;obtain ⟨Q,hQ⟩:∃ Q,Q=x+y:=⟨_,rfl⟩;have HQ0:Hid (x+y=Q):=hQ.symm;have HP:=yY x y hG ha hb_;rw [<- hS,<- hU,<- hL,<- hQ] at HP;have HQN:=hQ9 HP.1;have HQD:=hQ9 HP.2;have lx1:=hl.1;have lx2:=hl.2;have ly1:=hl2.1;have ly2:=hl2.2;have la:(digs 4294967296 m1).length<=4900:=zB2 (zG7 (by omega) (by rw [ha];exact Nat.div_le_self _ _)) lx2;have lb:(digs 4294967296 m2).length<=4900:=zB2 (zG7 (by omega) (by rw [hb_];exact Nat.div_le_self _ _)) ly2;have lG:(digs 4294967296 G).length<=4900:=zB2 (zG7 (by omega) hGd) lx2;have lza:zC5 ((m1:Nat):Int)<=4900:=by rw [zL8];exact la
 have lzb:zC5 ((m2:Nat):Int)<=4900:=by rw [zL8];exact lb
 have lp:zC5 (x.num*((m2:Nat):Int))<=9800:=zU4 lx1 lzb;have lq:zC5 (y.num*((m1:Nat):Int))<=9800:=zU4 ly1 lza;have lS:zC5 S<=19601:=by rw [hS];exact yE3 lp lq
 have HL1:Hid ((digs 4294967296 x.den).length<=90000):=zB2 lx2 (by decide);have HL2:Hid ((digs 4294967296 y.den).length<=90000):=zB2 ly2 (by decide);have lL:(digs 4294967296 L).length<=4900:=zB2 (zG7 (by omega) (by rw [hL,zW0 S (by omega)];exact Nat.div_le_self _ _)) lG;have lab:(digs 4294967296 (m1*m2)).length<=9800:=by have:=zT6 m1 m2;omega
 have HG:Hid (zN0 [x.den,y.den]=G):=by show _=_;rw [hG];simp [zN0]
 have HM1:Hid (x.den % G=0):=by show _=_;rw [hG];exact Nat.mod_eq_zero_of_dvd (Nat.gcd_dvd_left _ _)
 have HM2:Hid (y.den % G=0):=by show _=_;rw [hG];exact Nat.mod_eq_zero_of_dvd (Nat.gcd_dvd_right _ _)
 have HA:=hQ9 ha;have HB:=hQ9 hb_;have HS:Hid ((x.num*((m2:Nat):Int)+y.num*((m1:Nat):Int))=S):=hS.symm;have HU:=hQ9 hU;have HL:=hQ9 hL;have HGn:Hid (G≠0):=by show _≠_;omega
 clear hG ha hb_ hS hU hL hQ HP
 go_enter func175,ntmps175
 go_upto_region 1 with (fail)
 obtain ⟨wx,hwx,bb,B0,B1,BR0,hsz⟩:=zK1 w 83 83 83 #[.bool (ngB (x).num),.slice A0 (digs 4294967296 (x).num.natAbs).length c0,.slice D0 (digs 4294967296 (x).den).length e0] #[.bool (ngB (y).num),.slice A1 (digs 4294967296 (y).num.natAbs).length c1,.slice D1 (digs 4294967296 (y).den).length e1] #[.bool false,.slice none 0 0,.slice none 0 0];rw [hwx];clear hwx;have k0s:=s0.bQ bb;have k0d:=r0.bQ bb;have k0z:IsZ wx (.agg #[.bool (ngB (x).num),.slice A0 (digs 4294967296 (x).num.natAbs).length c0]) (x).num:=⟨_,rfl,k0s⟩;have k0:IsQ wx (.agg #[.bool (ngB (x).num),.slice A0 (digs 4294967296 (x).num.natAbs).length c0,.slice D0 (digs 4294967296 (x).den).length e0]) (x):=⟨_,_,rfl,k0s,k0d⟩;have k1s:=s1.bQ bb;have k1d:=r1.bQ bb;have k1z:IsZ wx (.agg #[.bool (ngB (y).num),.slice A1 (digs 4294967296 (y).num.natAbs).length c1]) (y).num:=⟨_,rfl,k1s⟩;have k1:IsQ wx (.agg #[.bool (ngB (y).num),.slice A1 (digs 4294967296 (y).num.natAbs).length c1,.slice D1 (digs 4294967296 (y).den).length e1]) (y):=⟨_,_,rfl,k1s,k1d⟩;have hsz0:=bb.size;obtain ⟨x00,x01,x02,_,_,_⟩:=three B0;obtain ⟨x10,x11,x12,_,_,_⟩:=three B1;go_wp2_with fail
 have hbA:=zC6 (zB1 wx.heap.size) (.cells #[.slice D0 (digs 4294967296 (x).den).length e0,.slice D1 (digs 4294967296 (y).den).length e1] 50);refine (qS6 _ [_,_] [x.den,y.den] _ (zS4 wx 50 [_,_]) (qK0 (k0d.bQ hbA) (k1d.bQ hbA)) (by simp) (by intro q hq;simp at hq;rcases hq with rfl|rfl;exact HL1.out;exact HL2.out)).mono ?_;rintro e w1 ⟨v1,rfl,kg,kgf,b1⟩;have hb1:=hbA.trans (b1.mono hbA.size);rw [HG.out] at kg;clear x00 x01 x02 x10 x11 x12;replace B0:=B0.bQ hb1;replace k0s:=k0s.bQ hb1;replace k0d:=k0d.bQ hb1;replace k0z:=k0z.bQ hb1;replace k0:=k0.bQ hb1;replace B1:=B1.bQ hb1;replace k1s:=k1s.bQ hb1;replace k1d:=k1d.bQ hb1;replace k1z:=k1z.bQ hb1;replace k1:=k1.bQ hb1;replace BR0:=BR0.bQ hb1;replace bb:=bb.trans (hb1.mono bb.size);have hsz1:=bb.size;obtain ⟨Akg,ckg,rfl,_⟩:=id kg;have sB:=bb.size;go_upto_region 2 with (fail);refine zC3 9 [Pd.eq (.pointer (some ⟨w.heap.size,2,none⟩)),Pd.eq (.slice D0 (digs 4294967296 (x).den).length e0),Pd.eq (.slice Akg (digs 4294967296 G).length ckg),pt .u64 (digs 4294967296 m1) 0 w1.heap.size,pt .u64 (digs 4294967296 m1) 0 w1.heap.size,ps .u64 (digs 4294967296 m1) w1.heap.size,Pd.eq (.int .i64 0),ps .u64 (digs 4294967296 m1) w1.heap.size,Pd.eq (.int .i64 0)] (by kernel_rfl) ?ob37 ?done37
 case ob37 =>
  refine zA (zB9 rfl (zB3 rfl) (zB5 rfl rfl) (fun _=>by kernel_rfl) (fun _=>rfl)) ?_;refine zA (zB7 rfl (zB3 rfl) (zB4 (j:=0) (by kernel_rfl) rfl rfl) (fun w2 hb=>zC1 underlying50 rfl ((B0.bQ hb).cell 2)) (fun _ _=>rfl)) ?_;refine zA (zB8 rfl (zB3 rfl) (zB5 rfl rfl) (fun _ _ h=>h)) ?_;refine zA (zC7 rfl func55 (by kernel_rfl) (zB3 rfl) (zB4 (j:=1) (by kernel_rfl) rfl rfl) (zB4 (j:=2) (by kernel_rfl) rfl rfl) (fun w2 u0 u1 hb h0 h1=>by obtain rfl:=h0;obtain rfl:=h1;exact (qA2 _ _ x.den G _ (k0d.bQ hb) (kg.bQ hb) HL1.out (zB2 lG (by decide)) hGp m1 HM1.out HA.out).mono fun e w3 h=>zO.pd h hb.size)) ?_;refine zA (zB8 rfl (zB3 rfl) (zB4 (j:=3) (by kernel_rfl) rfl rfl) (fun _ _ h=>h)) ?_;refine zA (zF9 rfl (zB3 rfl) (zB4 (j:=4) (by kernel_rfl) rfl rfl) (fun w2 u hu=>by obtain ⟨v,rfl,q1,q2⟩:=hu;exact ⟨v,rfl,q1,q2⟩)) ?_;refine zA (zF9 rfl (zB3 rfl) (zB4 (j:=4) (by kernel_rfl) rfl rfl) (fun w2 u hu=>by obtain ⟨v,rfl,q1,q2⟩:=hu;exact ⟨_,rfl,rfl⟩)) ?_;refine zA (zD6 rfl (zB3 rfl) (zB4 (j:=5) (by kernel_rfl) rfl rfl) (fun _ _ h=>h)) ?_;refine zA (zD6 rfl (zB3 rfl) (zB4 (j:=6) (by kernel_rfl) rfl rfl) (fun _ _ h=>h)) ?_
  trivial
 case done37 =>
  refine fun w2 hb2 v0 h0 v1 h1 v2 h2 v3 h3 v4 h4 v5 h5 v6 h6 v7 h7 v8 h8 b hbf => ?_;obtain rfl:=h0;obtain rfl:=h1;obtain rfl:=h2;obtain rfl:=h6;obtain rfl:=h8;clear h3;clear h4;obtain ⟨q5,f5⟩:=h5;obtain ⟨q7,f7⟩:=h7;simp only [Act.put,zA0,zA2,zA1] at hbf;subst hbf;replace B0:=B0.bQ hb2;replace k0s:=k0s.bQ hb2;replace k0d:=k0d.bQ hb2;replace k0z:=k0z.bQ hb2;replace k0:=k0.bQ hb2;replace B1:=B1.bQ hb2;replace k1s:=k1s.bQ hb2;replace k1d:=k1d.bQ hb2;replace k1z:=k1z.bQ hb2;replace k1:=k1.bQ hb2;replace BR0:=BR0.bQ hb2;replace kg:=kg.bQ hb2;replace bb:=bb.trans (hb2.mono bb.size);have hsz2:=bb.size;have s_5:=sB;have s_7:=sB;refine zC4 ?_;obtain ⟨A6,c6,rfl,_⟩:=id q7;have n6:=q7;have n6f:=f7;have n6z_:=s_7;have sB:=bb.size;go_upto_region 3 with (fail);refine zC3 9 [Pd.eq (.pointer (some ⟨w.heap.size+1,2,none⟩)),Pd.eq (.slice D1 (digs 4294967296 (y).den).length e1),Pd.eq (.slice Akg (digs 4294967296 G).length ckg),pt .u64 (digs 4294967296 m2) 0 w2.heap.size,pt .u64 (digs 4294967296 m2) 0 w2.heap.size,ps .u64 (digs 4294967296 m2) w2.heap.size,Pd.eq (.int .i64 0),ps .u64 (digs 4294967296 m2) w2.heap.size,Pd.eq (.int .i64 0)] (by kernel_rfl) ?ob38 ?done38
  case ob38 =>
   refine zA (zB9 rfl (zB3 rfl) (zB5 rfl rfl) (fun _=>by kernel_rfl) (fun _=>rfl)) ?_;refine zA (zB7 rfl (zB3 rfl) (zB4 (j:=0) (by kernel_rfl) rfl rfl) (fun w2 hb=>zC1 underlying50 rfl ((B1.bQ hb).cell 2)) (fun _ _=>rfl)) ?_;refine zA (zB8 rfl (zB3 rfl) (zB5 rfl rfl) (fun _ _ h=>h)) ?_;refine zA (zC7 rfl func55 (by kernel_rfl) (zB3 rfl) (zB4 (j:=1) (by kernel_rfl) rfl rfl) (zB4 (j:=2) (by kernel_rfl) rfl rfl) (fun w2 u0 u1 hb h0 h1=>by obtain rfl:=h0;obtain rfl:=h1;exact (qA2 _ _ y.den G _ (k1d.bQ hb) (kg.bQ hb) HL2.out (zB2 lG (by decide)) hGp m2 HM2.out HB.out).mono fun e w3 h=>zO.pd h hb.size)) ?_;refine zA (zB8 rfl (zB3 rfl) (zB4 (j:=3) (by kernel_rfl) rfl rfl) (fun _ _ h=>h)) ?_;refine zA (zF9 rfl (zB3 rfl) (zB4 (j:=4) (by kernel_rfl) rfl rfl) (fun w2 u hu=>by obtain ⟨v,rfl,q1,q2⟩:=hu;exact ⟨v,rfl,q1,q2⟩)) ?_;refine zA (zF9 rfl (zB3 rfl) (zB4 (j:=4) (by kernel_rfl) rfl rfl) (fun w2 u hu=>by obtain ⟨v,rfl,q1,q2⟩:=hu;exact ⟨_,rfl,rfl⟩)) ?_;refine zA (zD6 rfl (zB3 rfl) (zB4 (j:=5) (by kernel_rfl) rfl rfl) (fun _ _ h=>h)) ?_;refine zA (zD6 rfl (zB3 rfl) (zB4 (j:=6) (by kernel_rfl) rfl rfl) (fun _ _ h=>h)) ?_
   trivial
  case done38 =>
   refine fun w3 hb3 v0 h0 v1 h1 v2 h2 v3 h3 v4 h4 v5 h5 v6 h6 v7 h7 v8 h8 b hbf => ?_;obtain rfl:=h0;obtain rfl:=h1;obtain rfl:=h2;obtain rfl:=h6;obtain rfl:=h8;clear h3;clear h4;obtain ⟨q5,f5⟩:=h5;obtain ⟨q7,f7⟩:=h7;simp only [Act.put,zA0,zA2,zA1] at hbf;subst hbf;replace B0:=B0.bQ hb3;replace k0s:=k0s.bQ hb3;replace k0d:=k0d.bQ hb3;replace k0z:=k0z.bQ hb3;replace k0:=k0.bQ hb3;replace B1:=B1.bQ hb3;replace k1s:=k1s.bQ hb3;replace k1d:=k1d.bQ hb3;replace k1z:=k1z.bQ hb3;replace k1:=k1.bQ hb3;replace BR0:=BR0.bQ hb3;replace kg:=kg.bQ hb3;replace n6:=n6.bQ hb3;replace bb:=bb.trans (hb3.mono bb.size);have hsz3:=bb.size;have s_5:=sB;have s_7:=sB;refine zC4 ?_;obtain ⟨A8,c8,rfl,_⟩:=id q7;have n8:=q7;have n8f:=f7;have n8z_:=s_7;have sB:=bb.size;go_upto_region 4 with (fail);have lt3_2:=Blk.lt B0;have lt3_3:=Blk.lt B1;have lt3_4:=Blk.lt BR0;refine flow 12 [Pd.eq (.pointer (some ⟨w.heap.size,0,none⟩)),Pd.eq (.agg #[.bool (ngB (x).num),.slice A0 (digs 4294967296 (x).num.natAbs).length c0]),Pd.eq (.slice A8 (digs 4294967296 m2).length c8),pi (((m2:Nat):Int)),pi ((x.num*((m2:Nat):Int))),Pd.eq (.pointer (some ⟨w.heap.size+1,0,none⟩)),Pd.eq (.agg #[.bool (ngB (y).num),.slice A1 (digs 4294967296 (y).num.natAbs).length c1]),Pd.eq (.slice A6 (digs 4294967296 m1).length c6),pi (((m1:Nat):Int)),pi ((y.num*((m1:Nat):Int))),pz (S) w3.heap.size,pn 60 #[.bool false,.slice none 0 0] w3.heap.size] (by kernel_rfl) (by kernel_rfl) ?ob39 ?done39
   case ob39 =>
    refine zA (zB9 rfl (zB3 rfl) (zB5 rfl rfl) (fun _=>by kernel_rfl) (fun _=>rfl)) ?_;refine zA (zB7 rfl (zB3 rfl) (zB4 (j:=0) (by kernel_rfl) rfl rfl) (fun w2 hb=>zP underlying60 rfl (by kernel_rfl) (B0.drew.bQ hb) rfl) (fun _ _=>rfl)) ?_;refine zA (zB8 rfl (zB3 rfl) (zB5 rfl rfl) (fun _ _ h=>h)) ?_;refine zA (zE7 rfl func149 (by kernel_rfl) (zB3 rfl) (zB4 (j:=2) (by kernel_rfl) rfl rfl) (fun w2 u0 hb h0=>by obtain rfl:=h0;exact qF9 _ (m2) _ (n8.drew.bQ hb))) ?_;refine zA (zC7 rfl func56 (by kernel_rfl) (zB3 rfl) (zB4 (j:=1) (by kernel_rfl) rfl rfl) (zB4 (j:=3) (by kernel_rfl) rfl rfl) (fun w2 u0 u1 hb h0 h1=>by obtain rfl:=h0;exact (qF1 _ _ _ _ (x.num*((m2:Nat):Int)) _ (k0z.drew.bQ hb) h1 (zB2 lx1 (by decide)) (zB2 lzb (by decide)) rfl).mono fun e w3 h=>zF6.pi h)) ?_;refine zA (zB9 rfl (zB3 rfl) (zB5 rfl rfl) (fun _=>by kernel_rfl) (fun _=>rfl)) ?_;refine zA (zB7 rfl (zB3 rfl) (zB4 (j:=5) (by kernel_rfl) rfl rfl) (fun w2 hb=>zP underlying60 rfl (by kernel_rfl) (B1.drew.bQ hb) rfl) (fun _ _=>rfl)) ?_;refine zA (zB8 rfl (zB3 rfl) (zB5 rfl rfl) (fun _ _ h=>h)) ?_;refine zA (zE7 rfl func149 (by kernel_rfl) (zB3 rfl) (zB4 (j:=7) (by kernel_rfl) rfl rfl) (fun w2 u0 hb h0=>by obtain rfl:=h0;exact qF9 _ (m1) _ (n6.drew.bQ hb))) ?_;refine zA (zC7 rfl func56 (by kernel_rfl) (zB3 rfl) (zB4 (j:=6) (by kernel_rfl) rfl rfl) (zB4 (j:=8) (by kernel_rfl) rfl rfl) (fun w2 u0 u1 hb h0 h1=>by obtain rfl:=h0;exact (qF1 _ _ _ _ (y.num*((m1:Nat):Int)) _ (k1z.drew.bQ hb) h1 (zB2 ly1 (by decide)) (zB2 lza (by decide)) rfl).mono fun e w3 h=>zF6.pi h)) ?_;refine zA (zC7 rfl func176 (by kernel_rfl) (zB3 rfl) (zB4 (j:=4) (by kernel_rfl) rfl rfl) (zB4 (j:=9) (by kernel_rfl) rfl rfl) (fun w2 u0 u1 hb h0 h1=>by exact (HS.out ▸ yV6 _ _ _ _ _ h0 h1 (zB2 lp (by decide)) (zB2 lq (by decide))).mono fun e w3 h=>zF6.pd h hb.size)) ?_;refine zA (zL3 (z:=.agg #[.bool false,.slice none 0 0]) rfl rfl (fun _=>by kernel_rfl) (fun _ _ hB h=>⟨_,rfl,hB,h⟩)) ?_
    trivial
   case done39 =>
    refine fun w4 hb4 v0 h0 v1 h1 v2 h2 v3 h3 v4 h4 v5 h5 v6 h6 v7 h7 v8 h8 v9 h9 v10 h10 v11 h11 d11 b hbf => ?_;obtain rfl:=h0;obtain rfl:=h1;obtain rfl:=h2;obtain rfl:=h5;obtain rfl:=h6;obtain rfl:=h7;have q3:=h3;have q4:=h4;have q8:=h8;have q9:=h9;obtain ⟨q10,f10⟩:=h10;obtain ⟨g39_11,rfl,hg11,B11⟩:=h11;simp only [Act.put,zA0,zA2,zA1] at hbf;subst hbf;replace B0:=B0.bQ hb4;replace k0s:=k0s.bQ hb4;replace k0d:=k0d.bQ hb4;replace k0z:=k0z.bQ hb4;replace k0:=k0.bQ hb4;replace B1:=B1.bQ hb4;replace k1s:=k1s.bQ hb4;replace k1d:=k1d.bQ hb4;replace k1z:=k1z.bQ hb4;replace k1:=k1.bQ hb4;replace BR0:=BR0.bQ hb4;replace kg:=kg.bQ hb4;replace n6:=n6.bQ hb4;replace n8:=n8.bQ hb4;replace bb:=bb.trans (hb4.mono bb.size);have hsz4:=bb.size;have s_10:=sB;have BA10:=B11;obtain ⟨u10,rfl,q10⟩:=q10;obtain ⟨A10,c10,rfl,_⟩:=id q10;refine zH7 (i:=12) (by kernel_rfl) rfl rfl rfl rfl rfl rfl (cells:=[.bool (ngB S),.slice A10 (digs 4294967296 (S).natAbs).length c10]) rfl BA10 rfl (by kernel_rfl) (zG8 rfl rfl) fun w5 hg5 BN5 => ?_;replace q10:=off q10 BA10 no_ints2 hg5;replace kg:=off kg BA10 no_ints2 hg5;replace n6:=off n6 BA10 no_ints2 hg5;replace n8:=off n8 BA10 no_ints2 hg5;replace k0s:=off k0s BA10 no_ints2 hg5;replace k0d:=off k0d BA10 no_ints2 hg5;replace k0z:IsZ w5 (.agg #[.bool (ngB (x).num),.slice A0 (digs 4294967296 (x).num.natAbs).length c0]) ((x).num):=⟨_,rfl,k0s⟩;replace k0:IsQ w5 (.agg #[.bool (ngB (x).num),.slice A0 (digs 4294967296 (x).num.natAbs).length c0,.slice D0 (digs 4294967296 (x).den).length e0]) (x):=⟨_,_,rfl,k0s,k0d⟩;replace B0:=B0.grown hg5 (by omega);replace k1s:=off k1s BA10 no_ints2 hg5;replace k1d:=off k1d BA10 no_ints2 hg5;replace k1z:IsZ w5 (.agg #[.bool (ngB (y).num),.slice A1 (digs 4294967296 (y).num.natAbs).length c1]) ((y).num):=⟨_,rfl,k1s⟩;replace k1:IsQ w5 (.agg #[.bool (ngB (y).num),.slice A1 (digs 4294967296 (y).num.natAbs).length c1,.slice D1 (digs 4294967296 (y).den).length e1]) (y):=⟨_,_,rfl,k1s,k1d⟩;replace B1:=B1.grown hg5 (by omega);replace BR0:=BR0.grown hg5 (by omega);replace bb:=bb.trans ((Below.refl _ _).grown hg5 bb.size (fun g hg=>by injection hg with hg;omega));have hsz5:=bb.size;have B10:Blk w5 (g39_11) _ _:=BN5;have k10s:=q10;have k10:IsZ w5 (.agg #[.bool (ngB S),.slice A10 (digs 4294967296 (S).natAbs).length c10]) (S):=⟨_,rfl,k10s⟩;refine zG (by kernel_rfl) ?_;have sB:=bb.size;go_upto_region 5 with (fail);have lt5_2:=Blk.lt B0;have lt5_3:=Blk.lt B1;have lt5_4:=Blk.lt BR0;have lt5_10:=Blk.lt B10;refine zC3 7 [Pd.eq (.agg #[.bool (ngB S),.slice A10 (digs 4294967296 (S).natAbs).length c10]),Pd.eq (.slice Akg (digs 4294967296 G).length ckg),pzs (U) (L) w5.heap.size,pzs (U) (L) w5.heap.size,pz (U) w5.heap.size,ps .u64 (digs 4294967296 L) w5.heap.size,pn 60 #[.bool false,.slice none 0 0] w5.heap.size] (by kernel_rfl) ?ob40 ?done40
    case ob40 =>
     refine zA (zB7 rfl (zB3 rfl) (zB5 rfl rfl) (fun w2 hb=>zF0 underlying60 rfl (by kernel_rfl) (B10.bQ hb)) (fun _ _=>rfl)) ?_;refine zA (zB8 rfl (zB3 rfl) (zB5 rfl rfl) (fun _ _ h=>h)) ?_;refine zA (zC7 rfl func120 (by kernel_rfl) (zB3 rfl) (zB4 (j:=0) (by kernel_rfl) rfl rfl) (zB4 (j:=1) (by kernel_rfl) rfl rfl) (fun w2 u0 u1 hb h0 h1=>by obtain rfl:=h0;obtain rfl:=h1;exact (qG _ S _ G U L _ (k10.bQ hb) (kg.bQ hb) HGn.out (zB2 lS (by decide)) (zB2 lG (by decide)) HU.out HL.out).mono fun e w3 h=>zW4.pd h hb.size)) ?_;refine zA (zB8 rfl (zB3 rfl) (zB4 (j:=2) (by kernel_rfl) rfl rfl) (fun _ _ h=>h)) ?_;refine zA (zF9 rfl (zB3 rfl) (zB4 (j:=3) (by kernel_rfl) rfl rfl) (fun w2 u hu=>by obtain ⟨v,u,rfl,q1,q2,q3,q4⟩:=hu;exact ⟨v,rfl,q1,q3⟩)) ?_;refine zA (zF9 rfl (zB3 rfl) (zB4 (j:=3) (by kernel_rfl) rfl rfl) (fun w2 u hu=>by obtain ⟨v,u,rfl,q1,q2,q3,q4⟩:=hu;exact ⟨u,rfl,q2,q4⟩)) ?_;refine zA (zL3 (z:=.agg #[.bool false,.slice none 0 0]) rfl rfl (fun _=>by kernel_rfl) (fun _ _ hB h=>⟨_,rfl,hB,h⟩)) ?_
     trivial
    case done40 =>
     refine fun w6 hb6 v0 h0 v1 h1 v2 h2 v3 h3 v4 h4 v5 h5 v6 h6 d6 b hbf => ?_;obtain rfl:=h0;obtain rfl:=h1;clear h2;clear h3;obtain ⟨q4,f4⟩:=h4;obtain ⟨q5,f5⟩:=h5;obtain ⟨g40_6,rfl,hg6,B6⟩:=h6;simp only [Act.put,zA0,zA2,zA1] at hbf;subst hbf;replace B0:=B0.bQ hb6;replace k0s:=k0s.bQ hb6;replace k0d:=k0d.bQ hb6;replace k0z:=k0z.bQ hb6;replace k0:=k0.bQ hb6;replace B1:=B1.bQ hb6;replace k1s:=k1s.bQ hb6;replace k1d:=k1d.bQ hb6;replace k1z:=k1z.bQ hb6;replace k1:=k1.bQ hb6;replace BR0:=BR0.bQ hb6;replace B10:=B10.bQ hb6;replace k10s:=k10s.bQ hb6;replace k10:=k10.bQ hb6;replace kg:=kg.bQ hb6;replace n6:=n6.bQ hb6;replace n8:=n8.bQ hb6;replace bb:=bb.trans (hb6.mono bb.size);have hsz6:=bb.size;have s_4:=sB;have s_5:=sB;obtain ⟨A49,c49,rfl,_⟩:=id q5;have n49:=q5;have n49f:=f5;have n49z_:=s_5;have BA11:=B6;obtain ⟨u4,rfl,q4⟩:=q4;obtain ⟨A11,c11,rfl,_⟩:=id q4;refine zH0 (i:=7) rfl rfl rfl rfl rfl rfl (cells:=[.bool (ngB U),.slice A11 (digs 4294967296 (U).natAbs).length c11]) rfl BA11 rfl (by kernel_rfl) (zG8 rfl rfl) fun w7 hg7 BN7 => ?_;replace q4:=off q4 BA11 no_ints2 hg7;replace kg:=off kg BA11 no_ints2 hg7;replace n6:=off n6 BA11 no_ints2 hg7;replace n8:=off n8 BA11 no_ints2 hg7;replace n49:=off n49 BA11 no_ints2 hg7;replace k0s:=off k0s BA11 no_ints2 hg7;replace k0d:=off k0d BA11 no_ints2 hg7;replace k0z:IsZ w7 (.agg #[.bool (ngB (x).num),.slice A0 (digs 4294967296 (x).num.natAbs).length c0]) ((x).num):=⟨_,rfl,k0s⟩;replace k0:IsQ w7 (.agg #[.bool (ngB (x).num),.slice A0 (digs 4294967296 (x).num.natAbs).length c0,.slice D0 (digs 4294967296 (x).den).length e0]) (x):=⟨_,_,rfl,k0s,k0d⟩;replace B0:=B0.grown hg7 (by omega);replace k1s:=off k1s BA11 no_ints2 hg7;replace k1d:=off k1d BA11 no_ints2 hg7;replace k1z:IsZ w7 (.agg #[.bool (ngB (y).num),.slice A1 (digs 4294967296 (y).num.natAbs).length c1]) ((y).num):=⟨_,rfl,k1s⟩;replace k1:IsQ w7 (.agg #[.bool (ngB (y).num),.slice A1 (digs 4294967296 (y).num.natAbs).length c1,.slice D1 (digs 4294967296 (y).den).length e1]) (y):=⟨_,_,rfl,k1s,k1d⟩;replace B1:=B1.grown hg7 (by omega);replace BR0:=BR0.grown hg7 (by omega);replace k10s:=off k10s BA11 no_ints2 hg7;replace k10:IsZ w7 (.agg #[.bool (ngB S),.slice A10 (digs 4294967296 (S).natAbs).length c10]) (S):=⟨_,rfl,k10s⟩;replace B10:=B10.grown hg7 (by omega);replace bb:=bb.trans ((Below.refl _ _).grown hg7 bb.size (fun g hg=>by injection hg with hg;omega));have hsz7:=bb.size;have B11:Blk w7 (g40_6) _ _:=BN7;have k11s:=q4;have k11:IsZ w7 (.agg #[.bool (ngB U),.slice A11 (digs 4294967296 (U).natAbs).length c11]) (U):=⟨_,rfl,k11s⟩;refine zQ4 (i:=8) (.slice A49 (digs 4294967296 L).length c49) rfl rfl rfl rfl rfl fun b hbf => ?_;simp only [Act.put,zA0,zA2,zA1] at hbf;subst hbf;refine zC4 ?_;have f11_:=(f4 _ _ rfl).mono s_4;have sB:=bb.size;go_upto_region 6 with (fail);refine flow 7 [Pd.eq (.agg #[.bool (ngB U),.slice A11 (digs 4294967296 (U).natAbs).length c11]),Pd.eq (.slice A6 (digs 4294967296 m1).length c6),Pd.eq (.slice A8 (digs 4294967296 m2).length c8),ps .u64 (digs 4294967296 (m1*m2)) w7.heap.size,Pd.eq (.slice A49 (digs 4294967296 L).length c49),ps .u64 (digs 4294967296 ((m1*m2)*L)) w7.heap.size,pbq (ngB U) (.slice A11 (digs 4294967296 (U).natAbs).length c11) (digs 4294967296 ((m1*m2)*L)) w7.heap.size] (by kernel_rfl) (by kernel_rfl) ?ob41 ?done41
     case ob41 =>
      refine zA (zB7 rfl (zB3 rfl) (zB5 rfl rfl) (fun w2 hb=>zF0 underlying60 rfl (by kernel_rfl) (B11.drew.bQ hb)) (fun _ _=>rfl)) ?_;refine zA (zB8 rfl (zB3 rfl) (zB5 rfl rfl) (fun _ _ h=>h)) ?_;refine zA (zB8 rfl (zB3 rfl) (zB5 rfl rfl) (fun _ _ h=>h)) ?_;refine zA (zC7 rfl func152 (by kernel_rfl) (zB3 rfl) (zB4 (j:=1) (by kernel_rfl) rfl rfl) (zB4 (j:=2) (by kernel_rfl) rfl rfl) (fun w2 u0 u1 hb h0 h1=>by obtain rfl:=h0;obtain rfl:=h1;exact (qS9 _ m1 _ m2 _ (n6.drew.bQ hb) (n8.drew.bQ hb) (zB2 la (by decide)) (zB2 lb (by decide))).mono fun e w3 h=>zD1.pd h hb.size)) ?_;refine zA (zB8 rfl (zB3 rfl) (zB5 rfl rfl) (fun _ _ h=>h)) ?_;refine zA (zC7 rfl func152 (by kernel_rfl) (zB3 rfl) (zB4 (j:=3) (by kernel_rfl) rfl rfl) (zB4 (j:=4) (by kernel_rfl) rfl rfl) (fun w2 u0 u1 hb h0 h1=>by obtain rfl:=h1;exact (qS9 _ (m1*m2) _ L _ h0.1 (n49.drew.bQ hb) (zB2 lab (by decide)) (zB2 lL (by decide))).mono fun e w3 h=>zD1.pd h hb.size)) ?_;refine zA (zK2 rfl (zB3 rfl) (zB4 (j:=0) (by kernel_rfl) rfl rfl) (zB4 (j:=5) (by kernel_rfl) rfl rfl) (fun w2 u v hb hu hv=>by obtain rfl:=hu;obtain ⟨A7,c7,rfl,_⟩:=id hv.1;exact ⟨.agg #[.bool (ngB U),.slice A11 (digs 4294967296 (U).natAbs).length c11,.slice A7 (digs 4294967296 ((m1*m2)*L)).length c7],by kernel_rfl,⟨A7,c7,rfl,hv.1,hv.2⟩⟩)) ?_
      trivial
     case done41 =>
      refine fun w8 hb8 v0 h0 v1 h1 v2 h2 v3 h3 v4 h4 v5 h5 v6 h6 b hbf => ?_;obtain rfl:=h0;obtain rfl:=h1;obtain rfl:=h2;obtain rfl:=h4;obtain ⟨q3,f3⟩:=h3;obtain ⟨q5,f5⟩:=h5;have q6:=h6;have s9_:=sB;simp only [Act.put,zA0,zA2,zA1] at hbf;subst hbf;replace B0:=B0.bQ hb8;replace k0s:=k0s.bQ hb8;replace k0d:=k0d.bQ hb8;replace k0z:=k0z.bQ hb8;replace k0:=k0.bQ hb8;replace B1:=B1.bQ hb8;replace k1s:=k1s.bQ hb8;replace k1d:=k1d.bQ hb8;replace k1z:=k1z.bQ hb8;replace k1:=k1.bQ hb8;replace BR0:=BR0.bQ hb8;replace B10:=B10.bQ hb8;replace k10s:=k10s.bQ hb8;replace k10:=k10.bQ hb8;replace B11:=B11.bQ hb8;replace k11s:=k11s.bQ hb8;replace k11:=k11.bQ hb8;replace kg:=kg.bQ hb8;replace n6:=n6.bQ hb8;replace n8:=n8.bQ hb8;replace n49:=n49.bQ hb8;replace bb:=bb.trans (hb8.mono bb.size);have hsz8:=bb.size;have s_3:=sB;have s_5:=sB;obtain ⟨A9,c9,rfl,q9,f9⟩:=q6;refine zH7 (i:=7) (by kernel_rfl) rfl rfl rfl rfl rfl rfl (cells:=[.bool (ngB U),.slice A11 (digs 4294967296 (U).natAbs).length c11,.slice A9 (digs 4294967296 ((m1*m2)*L)).length c9]) rfl BR0 rfl (by kernel_rfl) (zH rfl rfl rfl) fun w9 hg9 B9 => ?_;have k9:=off k11s BR0 zC9 hg9;have d9:=off q9 BR0 zC9 hg9;have bb9:=bb.trans ((Below.refl _ _).grown hg9 bb.size (fun g hg=>by injection hg with hg;omega));obtain ⟨C0,C1,C2,_,_,_⟩:=three B9;refine zG (by kernel_rfl) ?_;go_wp2;rw [HQ0.out];exact bodyPost_ret (v:=.agg #[.bool (ngB U),.slice A11 (digs 4294967296 (U).natAbs).length c11,.slice A9 (digs 4294967296 ((m1*m2)*L)).length c9]) (by simp [results,results175,go_sem,C0,C1,C2]) rfl ⟨_,rfl,zW3 k9 d9 (by rw [HQN.out]) (by rw [HQN.out]) HQD.out,zL4 f11_ (f9.mono s9_),bb9⟩
theorem jD1 (a0:Value) (x:Rat) (a1:Value) (y:Rat) (w:World) (h0:IsQ w a0 x) (h1:IsQ w a1 y) (hl:zC2 x 4900) (hl2:zC2 y 4900) :
  Calls prog 180 #[a0,a1] w (RetQ (x-y) w):=by
 obtain ⟨u0,t0,rfl,s0,r0⟩:=h0;obtain ⟨A0,c0,rfl,_⟩:=id s0;obtain ⟨D0,e0,rfl,_⟩:=id r0;obtain ⟨u1,t1,rfl,s1,r1⟩:=h1;obtain ⟨A1,c1,rfl,_⟩:=id s1;obtain ⟨D1,e1,rfl,_⟩:=id r1;have HS:Hid (x + -y=x-y):=(Rat.sub_eq_add_neg x y).symm
 go_enter func180,ntmps180
 go_upto_region 1 with (fail)
 obtain ⟨wx,hwx,bb,B0,B1,BR0,hsz⟩:=zK1 w 83 83 83 #[.bool (ngB (x).num),.slice A0 (digs 4294967296 (x).num.natAbs).length c0,.slice D0 (digs 4294967296 (x).den).length e0] #[.bool (ngB (y).num),.slice A1 (digs 4294967296 (y).num.natAbs).length c1,.slice D1 (digs 4294967296 (y).den).length e1] #[.bool false,.slice none 0 0,.slice none 0 0];rw [hwx];clear hwx;have k0s:=s0.bQ bb;have k0d:=r0.bQ bb;have k0z:IsZ wx (.agg #[.bool (ngB (x).num),.slice A0 (digs 4294967296 (x).num.natAbs).length c0]) (x).num:=⟨_,rfl,k0s⟩;have k0:IsQ wx (.agg #[.bool (ngB (x).num),.slice A0 (digs 4294967296 (x).num.natAbs).length c0,.slice D0 (digs 4294967296 (x).den).length e0]) (x):=⟨_,_,rfl,k0s,k0d⟩;have k1s:=s1.bQ bb;have k1d:=r1.bQ bb;have k1z:IsZ wx (.agg #[.bool (ngB (y).num),.slice A1 (digs 4294967296 (y).num.natAbs).length c1]) (y).num:=⟨_,rfl,k1s⟩;have k1:IsQ wx (.agg #[.bool (ngB (y).num),.slice A1 (digs 4294967296 (y).num.natAbs).length c1,.slice D1 (digs 4294967296 (y).den).length e1]) (y):=⟨_,_,rfl,k1s,k1d⟩;have hsz0:=bb.size;have sB:=bb.size;refine flow 4 [Pd.eq (.agg #[.bool (ngB (x).num),.slice A0 (digs 4294967296 (x).num.natAbs).length c0,.slice D0 (digs 4294967296 (x).den).length e0]),Pd.eq (.agg #[.bool (ngB (y).num),.slice A1 (digs 4294967296 (y).num.natAbs).length c1,.slice D1 (digs 4294967296 (y).den).length e1]),pq (-y) wx.heap.size,pq (x-y) wx.heap.size] (by kernel_rfl) (by kernel_rfl) ?ob42 ?done42
 case ob42 =>
  refine zA (zB7 rfl (zB3 rfl) (zB5 rfl rfl) (fun w2 hb=>zF0 underlying83 rfl (by kernel_rfl) (B0.drew.bQ hb)) (fun _ _=>rfl)) ?_;refine zA (zB7 rfl (zB3 rfl) (zB5 rfl rfl) (fun w2 hb=>zF0 underlying83 rfl (by kernel_rfl) (B1.drew.bQ hb)) (fun _ _=>rfl)) ?_;refine zA (zE7 rfl func126 (by kernel_rfl) (zB3 rfl) (zB4 (j:=1) (by kernel_rfl) rfl rfl) (fun w2 u0 hb h0=>by obtain rfl:=h0;exact (qT _ y _ (k1.drew.bQ hb) (hl2.mono (by decide))).mono fun e w3 h=>RetQ.pd h hb.size)) ?_;refine zA (zC7 rfl func175 (by kernel_rfl) (zB3 rfl) (zB4 (j:=0) (by kernel_rfl) rfl rfl) (zB4 (j:=2) (by kernel_rfl) rfl rfl) (fun w2 u0 u1 hb h0 h1=>by obtain rfl:=h0;exact (HS.out ▸ yG8 _ x _ (-y) _ (k0.drew.bQ hb) h1.1 hl (qL5 hl2)).mono fun e w3 h=>RetQ.pd h hb.size)) ?_
  trivial
 case done42 =>
  refine fun w11 hb11 v0 h0 v1 h1 v2 h2 v3 h3 b hbf => ?_;obtain rfl:=h0;obtain rfl:=h1;obtain ⟨q2,f2⟩:=h2;obtain ⟨q3,f3⟩:=h3;simp only [Act.put,zA0,zA2,zA1] at hbf;subst hbf;replace B0:=B0.bQ hb11;replace k0s:=k0s.bQ hb11;replace k0d:=k0d.bQ hb11;replace k0z:=k0z.bQ hb11;replace k0:=k0.bQ hb11;replace B1:=B1.bQ hb11;replace k1s:=k1s.bQ hb11;replace k1d:=k1d.bQ hb11;replace k1z:=k1z.bQ hb11;replace k1:=k1.bQ hb11;replace BR0:=BR0.bQ hb11;replace bb:=bb.trans (hb11.mono bb.size);have hsz11:=bb.size;have s_2:=sB;have s_3:=sB;obtain ⟨u3,t3,rfl,q3,d3⟩:=q3;obtain ⟨A9,c9,rfl,_⟩:=id q3;obtain ⟨D9,e9,rfl,_⟩:=id d3;refine zH7 (i:=4) (by kernel_rfl) rfl rfl rfl rfl rfl rfl (cells:=[.bool (ngB (x-y).num),.slice A9 (digs 4294967296 (x-y).num.natAbs).length c9,.slice D9 (digs 4294967296 (x-y).den).length e9]) rfl BR0 rfl (by kernel_rfl) (zH rfl rfl rfl) fun w9 hg9 B9 => ?_;have k9:=off q3 BR0 zC9 hg9;have d9:=off d3 BR0 zC9 hg9;have f9:=f3.mono (show w.heap.size<=_ from s_3);have bb9:=bb.trans ((Below.refl _ _).grown hg9 bb.size (fun g hg=>by injection hg with hg;omega));obtain ⟨C0,C1,C2,_,_,_⟩:=three B9;refine zG (by kernel_rfl) ?_;go_wp2;exact bodyPost_ret (v:=.agg #[.bool (ngB (x-y).num),.slice A9 (digs 4294967296 (x-y).num.natAbs).length c9,.slice D9 (digs 4294967296 (x-y).den).length e9]) (by simp [results,results180,go_sem,C0,C1,C2]) rfl ⟨_,rfl,⟨_,_,rfl,k9,d9⟩,f9,bb9⟩
theorem yG9 (a0:Value) (n:Int) (a1:Value) (d:Int) (w:World) (h0:IsZ w a0 n) (h1:IsZ w a1 d) (hl:zC5 n<=1000) (hl2:zC5 d<=1000) (hd:d≠0) :
    Calls prog 77 #[a0,a1] w (zU6 (Rat.divInt n d) 0 w):=by
  rcases hs1:ngB d with _ | _
  · obtain ⟨u0, rfl, s0⟩ := h0;obtain ⟨A0,c0,rfl,_⟩:=id s0;obtain ⟨u1,rfl,s1⟩:=h1;obtain ⟨A1,c1,rfl,_⟩:=id s1;have HDN : Hid (d.natAbs ≠ 0):=by show _ ≠ _; omega
    obtain ⟨U,hU⟩:∃ U,U=(mkRat n d.natAbs).num:=⟨_,rfl⟩;obtain ⟨L,hL⟩:∃ L,L=(mkRat n d.natAbs).den:=⟨_,rfl⟩;have HUL:Hid (zC5 U<=1000):=by show _<=_;rw [hU];exact (zU HDN.out hl hl2).1
    have HU:=hQ9 hU;have HL:=hQ9 hL;obtain ⟨Q,hQ⟩:∃ Q,Q=Rat.divInt n d:=⟨_,rfl⟩;have HQ0:Hid (Rat.divInt n d=Q):=hQ.symm;have HQ:Hid (Q=mkRat n d.natAbs):=by show _=_;rw [hQ];exact yV3 (by have:=zO9 hs1;omega)
    have HQN:Hid (Q.num=U):=by show _=_;rw [HQ.out,<- hU]
    have HQD:Hid (Q.den=L):=by show _=_;rw [HQ.out,<- hL]
    have HS:Hid ((1:Int)=zJ3 d 0):=(qE9 (by have:=zO9 hs1;omega)).symm;clear hU hL hQ
    go_enter func77,ntmps77
    go_upto_region 1 with (fail)
    obtain ⟨wx,hwx,bb,B0,B1,BR0,hsz⟩:=zK1 w 60 60 83 #[.bool (ngB n),.slice A0 (digs 4294967296 (n).natAbs).length c0] #[.bool false,.slice A1 (digs 4294967296 (d).natAbs).length c1] #[.bool false,.slice none 0 0,.slice none 0 0];rw [hwx];clear hwx;have k0s:=s0.bQ bb;have k0:IsZ wx (.agg #[.bool (ngB n),.slice A0 (digs 4294967296 (n).natAbs).length c0]) (n):=zG9 k0s rfl rfl;have k1s:=s1.bQ bb;have k1:IsZ wx (.agg #[.bool false,.slice A1 (digs 4294967296 (d).natAbs).length c1]) (d):=zG9 k1s rfl hs1.symm;have hsz0:=bb.size;have sB:=bb.size;refine zC3 3 [Pd.eq (.agg #[.bool false,.slice A1 (digs 4294967296 (d).natAbs).length c1]),Pd.eq (.int .i64 1),Pd.eq (.bool false)] (by kernel_rfl) ?ob8 ?done8
    case ob8 =>
      refine zA (zB7 rfl (zB3 rfl) (zB5 rfl rfl) (fun w2 hb=>zF0 underlying60 rfl (by kernel_rfl) (B1.bQ hb)) (fun _ _=>rfl)) ?_;refine zA (zE7 rfl func74 (by kernel_rfl) (zB3 rfl) (zB4 (j:=0) (by kernel_rfl) rfl rfl) (fun w2 u0 hb h0=>by obtain rfl:=h0;exact (qF0 _ d 1 _ (k1.bQ hb) HS.out).mono fun e w3 h=>zD3.pd h)) ?_;refine zA (zE6 rfl (zB3 rfl) (zB4 (j:=1) (by kernel_rfl) rfl rfl) (zF8 _) (fun _ _ _ hx hy=>⟨.bool ((1:Int) == 0),by rw [hx,hy];exact zM9 _ _ _ _ _,congrArg Value.bool (by decide)⟩)) ?_
      trivial
    case done8 =>
      refine fun w1 hb1 v0 h0 v1 h1 v2 h2 b hbf => ?_;obtain rfl:=h0;obtain rfl:=h1;obtain rfl:=h2;simp only [Act.put,zA0,zA2,zA1] at hbf;subst hbf;replace B0:=B0.bQ hb1;replace k0s:=k0s.bQ hb1;replace k0:=k0.bQ hb1;replace B1:=B1.bQ hb1;replace k1s:=k1s.bQ hb1;replace k1:=k1.bQ hb1;replace BR0:=BR0.bQ hb1;replace bb:=bb.trans (hb1.mono bb.size);have hsz1:=bb.size;refine zC4 ?_;have sB:=bb.size;go_upto_region 3 with (fail);have lt1_2:=Blk.lt B0;have lt1_3:=Blk.lt B1;have lt1_4:=Blk.lt BR0;refine zC3 8 [Pd.eq (.agg #[.bool (ngB n),.slice A0 (digs 4294967296 (n).natAbs).length c0]),Pd.eq (.pointer (some ⟨w.heap.size+1,1,none⟩)),Pd.eq (.slice A1 (digs 4294967296 (d).natAbs).length c1),pzs (U) (L) w1.heap.size,pzs (U) (L) w1.heap.size,pz (U) w1.heap.size,ps .u64 (digs 4294967296 L) w1.heap.size,pn 60 #[.bool false,.slice none 0 0] w1.heap.size] (by kernel_rfl) ?ob9 ?done9
      case ob9 =>
        refine zA (zB7 rfl (zB3 rfl) (zB5 rfl rfl) (fun w2 hb=>zF0 underlying60 rfl (by kernel_rfl) (B0.bQ hb)) (fun _ _=>rfl)) ?_;refine zA (zB9 rfl (zB3 rfl) (zB5 rfl rfl) (fun _=>by kernel_rfl) (fun _=>rfl)) ?_;refine zA (zB7 rfl (zB3 rfl) (zB4 (j:=1) (by kernel_rfl) rfl rfl) (fun w2 hb=>zC1 underlying50 rfl ((B1.bQ hb).cell 1)) (fun _ _=>rfl)) ?_;refine zA (zC7 rfl func120 (by kernel_rfl) (zB3 rfl) (zB4 (j:=0) (by kernel_rfl) rfl rfl) (zB4 (j:=2) (by kernel_rfl) rfl rfl) (fun w2 u0 u1 hb h0 h1=>by obtain rfl:=h0;obtain rfl:=h1;exact (qG _ n _ d.natAbs U L _ (k0.bQ hb) (k1s.bQ hb) HDN.out (zB2 hl (by decide)) (zB2 hl2 (by decide)) HU.out HL.out).mono fun e w3 h=>zW4.pd h hb.size)) ?_;refine zA (zB8 rfl (zB3 rfl) (zB4 (j:=3) (by kernel_rfl) rfl rfl) (fun _ _ h=>h)) ?_;refine zA (zF9 rfl (zB3 rfl) (zB4 (j:=4) (by kernel_rfl) rfl rfl) (fun w2 u hu=>by obtain ⟨v,u,rfl,q1,q2,q3,q4⟩:=hu;exact ⟨v,rfl,q1,q3⟩)) ?_;refine zA (zF9 rfl (zB3 rfl) (zB4 (j:=4) (by kernel_rfl) rfl rfl) (fun w2 u hu=>by obtain ⟨v,u,rfl,q1,q2,q3,q4⟩:=hu;exact ⟨u,rfl,q2,q4⟩)) ?_;refine zA (zL3 (z:=.agg #[.bool false,.slice none 0 0]) rfl rfl (fun _=>by kernel_rfl) (fun _ _ hB h=>⟨_,rfl,hB,h⟩)) ?_
        trivial
      case done9 =>
        refine fun w2 hb2 v0 h0 v1 h1 v2 h2 v3 h3 v4 h4 v5 h5 v6 h6 v7 h7 d7 b hbf => ?_;obtain rfl:=h0;obtain rfl:=h1;obtain rfl:=h2;clear h3;clear h4;obtain ⟨q5,f5⟩:=h5;obtain ⟨q6,f6⟩:=h6;obtain ⟨g9_7,rfl,hg7,B7⟩:=h7;simp only [Act.put,zA0,zA2,zA1] at hbf;subst hbf;replace B0:=B0.bQ hb2;replace k0s:=k0s.bQ hb2;replace k0:=k0.bQ hb2;replace B1:=B1.bQ hb2;replace k1s:=k1s.bQ hb2;replace k1:=k1.bQ hb2;replace BR0:=BR0.bQ hb2;replace bb:=bb.trans (hb2.mono bb.size);have hsz2:=bb.size;have s_5:=sB;have s_6:=sB;obtain ⟨A18,c18,rfl,_⟩:=id q6;have n18:=q6;have n18f:=f6;have n18z_:=s_6;have BA6:=B7;obtain ⟨u5,rfl,q5⟩:=q5;obtain ⟨A6,c6,rfl,_⟩:=id q5;refine zH0 (i:=8) rfl rfl rfl rfl rfl rfl (cells:=[.bool (ngB U),.slice A6 (digs 4294967296 (U).natAbs).length c6]) rfl BA6 rfl (by kernel_rfl) (zG8 rfl rfl) fun w3 hg3 BN3 => ?_;replace q5:=off q5 BA6 no_ints2 hg3;replace n18:=off n18 BA6 no_ints2 hg3;replace k0s:=off k0s BA6 no_ints2 hg3;replace k0:IsZ w3 (.agg #[.bool (ngB n),.slice A0 (digs 4294967296 (n).natAbs).length c0]) (n):=⟨_,rfl,k0s⟩;replace B0:=B0.grown hg3 (by omega);replace k1s:=off k1s BA6 no_ints2 hg3;replace k1:IsZ w3 (.agg #[.bool false,.slice A1 (digs 4294967296 (d).natAbs).length c1]) (d):=zG9 k1s rfl hs1.symm;replace B1:=B1.grown hg3 (by omega);replace BR0:=BR0.grown hg3 (by omega);replace bb:=bb.trans ((Below.refl _ _).grown hg3 bb.size (fun g hg=>by injection hg with hg;omega));have hsz3:=bb.size;have B6:Blk w3 (g9_7) _ _:=BN3;have k6s:=q5;have k6:IsZ w3 (.agg #[.bool (ngB U),.slice A6 (digs 4294967296 (U).natAbs).length c6]) (U):=⟨_,rfl,k6s⟩;refine zQ4 (i:=9) (.slice A18 (digs 4294967296 L).length c18) rfl rfl rfl rfl rfl fun b hbf => ?_;simp only [Act.put,zA0,zA2,zA1] at hbf;subst hbf;refine zC4 ?_;have f6_:=(f5 _ _ rfl).mono s_5;have sB:=bb.size;go_upto_region 4 with (fail);refine zC3 2 [Pd.eq (.pointer (some ⟨w.heap.size+1,0,none⟩)),Pd.eq (.bool false)] (by kernel_rfl) ?ob10 ?done10
        case ob10 =>
          refine zA (zB9 rfl (zB3 rfl) (zB5 rfl rfl) (fun _=>by kernel_rfl) (fun _=>rfl)) ?_;refine zA (zB7 rfl (zB3 rfl) (zB4 (j:=0) (by kernel_rfl) rfl rfl) (fun w2 hb=>zC1 underlying4 rfl ((B1.bQ hb).cell 0)) (fun _ _=>rfl)) ?_
          trivial
        case done10 =>
          refine fun w4 hb4 v0 h0 v1 h1 b hbf => ?_;obtain rfl:=h0;obtain rfl:=h1;simp only [Act.put,zA0,zA2,zA1] at hbf;subst hbf;replace B0:=B0.bQ hb4;replace k0s:=k0s.bQ hb4;replace k0:=k0.bQ hb4;replace B1:=B1.bQ hb4;replace k1s:=k1s.bQ hb4;replace k1:=k1.bQ hb4;replace BR0:=BR0.bQ hb4;replace B6:=B6.bQ hb4;replace k6s:=k6s.bQ hb4;replace k6:=k6.bQ hb4;replace n18:=n18.bQ hb4;replace bb:=bb.trans (hb4.mono bb.size);have hsz4:=bb.size;refine zC4 ?_;have sB:=bb.size;go_upto_region 6 with (fail);refine zC3 3 [Pd.eq (.agg #[.bool (ngB U),.slice A6 (digs 4294967296 (U).natAbs).length c6]),Pd.eq (.slice A18 (digs 4294967296 L).length c18),Pd.eq (.agg #[.bool (ngB U),.slice A6 (digs 4294967296 (U).natAbs).length c6,.slice A18 (digs 4294967296 L).length c18])] (by kernel_rfl) ?ob11 ?done11
          case ob11 =>
            refine zA (zB7 rfl (zB3 rfl) (zB5 rfl rfl) (fun w2 hb=>zF0 underlying60 rfl (by kernel_rfl) (B6.bQ hb)) (fun _ _=>rfl)) ?_;refine zA (zB8 rfl (zB3 rfl) (zB5 rfl rfl) (fun _ _ h=>h)) ?_;refine zA (zK2 rfl (zB3 rfl) (zB4 (j:=0) (by kernel_rfl) rfl rfl) (zB4 (j:=1) (by kernel_rfl) rfl rfl) (fun w2 u v hb hu hv=>by obtain rfl:=hu;obtain rfl:=hv;exact ⟨.agg #[.bool (ngB U),.slice A6 (digs 4294967296 (U).natAbs).length c6,.slice A18 (digs 4294967296 L).length c18],by kernel_rfl,rfl⟩)) ?_
            trivial
          case done11 =>
            refine fun w5 hb5 v0 h0 v1 h1 v2 h2 b hbf => ?_;obtain rfl:=h0;obtain rfl:=h1;obtain rfl:=h2;simp only [Act.put,zA0,zA2,zA1] at hbf;subst hbf;replace B0:=B0.bQ hb5;replace k0s:=k0s.bQ hb5;replace k0:=k0.bQ hb5;replace B1:=B1.bQ hb5;replace k1s:=k1s.bQ hb5;replace k1:=k1.bQ hb5;replace BR0:=BR0.bQ hb5;replace B6:=B6.bQ hb5;replace k6s:=k6s.bQ hb5;replace k6:=k6.bQ hb5;replace n18:=n18.bQ hb5;replace bb:=bb.trans (hb5.mono bb.size);have hsz5:=bb.size;refine zH0 (i:=3) rfl rfl rfl rfl rfl rfl (cells:=[.bool (ngB U),.slice A6 (digs 4294967296 (U).natAbs).length c6,.slice A18 (digs 4294967296 L).length c18]) rfl BR0 rfl (by kernel_rfl) (zH rfl rfl rfl) fun w9 hg9 B9 => ?_;have k9:=off k6s BR0 zC9 hg9;have d9:=off n18 BR0 zC9 hg9;have bb9:=bb.trans ((Below.refl _ _).grown hg9 bb.size (fun g hg=>by injection hg with hg;omega));obtain ⟨C0,C1,C2,_,_,_⟩:=three B9;refine zQ4 (i:=4) (.int .i64 0) rfl rfl rfl rfl rfl fun b hbf => ?_;simp only [Act.put,zA0,zA2,zA1] at hbf;subst hbf;refine zC4 ?_;go_wp2;rw [HQ0.out];exact bodyPost_ret (v:=.tuple #[.agg #[.bool (ngB U),.slice A6 (digs 4294967296 (U).natAbs).length c6,.slice A18 (digs 4294967296 L).length c18],.int .i64 0]) (by simp [results,results77,go_sem,C0,C1,C2]) rfl ⟨_,rfl,zW3 k9 d9 (by rw [HQN.out]) (by rw [HQN.out]) HQD.out,zL4 f6_ (n18f.mono n18z_),bb9⟩
  · obtain ⟨u0, rfl, s0⟩ := h0;obtain ⟨A0,c0,rfl,_⟩:=id s0;obtain ⟨u1,rfl,s1⟩:=h1;obtain ⟨A1,c1,rfl,_⟩:=id s1;have HDN : Hid (d.natAbs ≠ 0):=by show _ ≠ _; omega
    obtain ⟨U,hU⟩:∃ U,U=(mkRat n d.natAbs).num:=⟨_,rfl⟩;obtain ⟨L,hL⟩:∃ L,L=(mkRat n d.natAbs).den:=⟨_,rfl⟩;have HUL:Hid (zC5 U<=1000):=by show _<=_;rw [hU];exact (zU HDN.out hl hl2).1
    have HU:=hQ9 hU;have HL:=hQ9 hL;obtain ⟨Q,hQ⟩:∃ Q,Q=Rat.divInt n d:=⟨_,rfl⟩;have HQ0:Hid (Rat.divInt n d=Q):=hQ.symm;have HQ:Hid (Q = -mkRat n d.natAbs):=by show _=_;rw [hQ,yV2 (zO3 hs1)];exact yY0 n d.natAbs HDN.out
    have HQN:Hid (Q.num = -U):=by show _=_;rw [HQ.out,(zW2 _).1,<- hU]
    have HQD:Hid (Q.den=L):=by show _=_;rw [HQ.out,(zW2 _).2,<- hL]
    have HS:Hid ((-1:Int)=zJ3 d 0):=(qE8 (zO3 hs1)).symm;clear hU hL hQ
    go_enter func77,ntmps77
    go_upto_region 1 with (fail)
    obtain ⟨wx,hwx,bb,B0,B1,BR0,hsz⟩:=zK1 w 60 60 83 #[.bool (ngB n),.slice A0 (digs 4294967296 (n).natAbs).length c0] #[.bool true,.slice A1 (digs 4294967296 (d).natAbs).length c1] #[.bool false,.slice none 0 0,.slice none 0 0];rw [hwx];clear hwx;have k0s:=s0.bQ bb;have k0:IsZ wx (.agg #[.bool (ngB n),.slice A0 (digs 4294967296 (n).natAbs).length c0]) (n):=zG9 k0s rfl rfl;have k1s:=s1.bQ bb;have k1:IsZ wx (.agg #[.bool true,.slice A1 (digs 4294967296 (d).natAbs).length c1]) (d):=zG9 k1s rfl hs1.symm;have hsz0:=bb.size;have sB:=bb.size;refine zC3 3 [Pd.eq (.agg #[.bool true,.slice A1 (digs 4294967296 (d).natAbs).length c1]),Pd.eq (.int .i64 (-1)),Pd.eq (.bool false)] (by kernel_rfl) ?ob12 ?done12
    case ob12 =>
      refine zA (zB7 rfl (zB3 rfl) (zB5 rfl rfl) (fun w2 hb=>zF0 underlying60 rfl (by kernel_rfl) (B1.bQ hb)) (fun _ _=>rfl)) ?_;refine zA (zE7 rfl func74 (by kernel_rfl) (zB3 rfl) (zB4 (j:=0) (by kernel_rfl) rfl rfl) (fun w2 u0 hb h0=>by obtain rfl:=h0;exact (qF0 _ d (-1) _ (k1.bQ hb) HS.out).mono fun e w3 h=>zD3.pd h)) ?_;refine zA (zE6 rfl (zB3 rfl) (zB4 (j:=1) (by kernel_rfl) rfl rfl) (zF8 _) (fun _ _ _ hx hy=>⟨.bool ((-1:Int) == 0),by rw [hx,hy];exact zM9 _ _ _ _ _,congrArg Value.bool (by decide)⟩)) ?_
      trivial
    case done12 =>
      refine fun w1 hb1 v0 h0 v1 h1 v2 h2 b hbf => ?_;obtain rfl:=h0;obtain rfl:=h1;obtain rfl:=h2;simp only [Act.put,zA0,zA2,zA1] at hbf;subst hbf;replace B0:=B0.bQ hb1;replace k0s:=k0s.bQ hb1;replace k0:=k0.bQ hb1;replace B1:=B1.bQ hb1;replace k1s:=k1s.bQ hb1;replace k1:=k1.bQ hb1;replace BR0:=BR0.bQ hb1;replace bb:=bb.trans (hb1.mono bb.size);have hsz1:=bb.size;refine zC4 ?_;have sB:=bb.size;go_upto_region 3 with (fail);have lt1_2:=Blk.lt B0;have lt1_3:=Blk.lt B1;have lt1_4:=Blk.lt BR0;refine zC3 8 [Pd.eq (.agg #[.bool (ngB n),.slice A0 (digs 4294967296 (n).natAbs).length c0]),Pd.eq (.pointer (some ⟨w.heap.size+1,1,none⟩)),Pd.eq (.slice A1 (digs 4294967296 (d).natAbs).length c1),pzs (U) (L) w1.heap.size,pzs (U) (L) w1.heap.size,pz (U) w1.heap.size,ps .u64 (digs 4294967296 L) w1.heap.size,pn 60 #[.bool false,.slice none 0 0] w1.heap.size] (by kernel_rfl) ?ob13 ?done13
      case ob13 =>
        refine zA (zB7 rfl (zB3 rfl) (zB5 rfl rfl) (fun w2 hb=>zF0 underlying60 rfl (by kernel_rfl) (B0.bQ hb)) (fun _ _=>rfl)) ?_;refine zA (zB9 rfl (zB3 rfl) (zB5 rfl rfl) (fun _=>by kernel_rfl) (fun _=>rfl)) ?_;refine zA (zB7 rfl (zB3 rfl) (zB4 (j:=1) (by kernel_rfl) rfl rfl) (fun w2 hb=>zC1 underlying50 rfl ((B1.bQ hb).cell 1)) (fun _ _=>rfl)) ?_;refine zA (zC7 rfl func120 (by kernel_rfl) (zB3 rfl) (zB4 (j:=0) (by kernel_rfl) rfl rfl) (zB4 (j:=2) (by kernel_rfl) rfl rfl) (fun w2 u0 u1 hb h0 h1=>by obtain rfl:=h0;obtain rfl:=h1;exact (qG _ n _ d.natAbs U L _ (k0.bQ hb) (k1s.bQ hb) HDN.out (zB2 hl (by decide)) (zB2 hl2 (by decide)) HU.out HL.out).mono fun e w3 h=>zW4.pd h hb.size)) ?_;refine zA (zB8 rfl (zB3 rfl) (zB4 (j:=3) (by kernel_rfl) rfl rfl) (fun _ _ h=>h)) ?_;refine zA (zF9 rfl (zB3 rfl) (zB4 (j:=4) (by kernel_rfl) rfl rfl) (fun w2 u hu=>by obtain ⟨v,u,rfl,q1,q2,q3,q4⟩:=hu;exact ⟨v,rfl,q1,q3⟩)) ?_;refine zA (zF9 rfl (zB3 rfl) (zB4 (j:=4) (by kernel_rfl) rfl rfl) (fun w2 u hu=>by obtain ⟨v,u,rfl,q1,q2,q3,q4⟩:=hu;exact ⟨u,rfl,q2,q4⟩)) ?_;refine zA (zL3 (z:=.agg #[.bool false,.slice none 0 0]) rfl rfl (fun _=>by kernel_rfl) (fun _ _ hB h=>⟨_,rfl,hB,h⟩)) ?_
        trivial
      case done13 =>
        refine fun w2 hb2 v0 h0 v1 h1 v2 h2 v3 h3 v4 h4 v5 h5 v6 h6 v7 h7 d7 b hbf => ?_;obtain rfl:=h0;obtain rfl:=h1;obtain rfl:=h2;clear h3;clear h4;obtain ⟨q5,f5⟩:=h5;obtain ⟨q6,f6⟩:=h6;obtain ⟨g13_7,rfl,hg7,B7⟩:=h7;simp only [Act.put,zA0,zA2,zA1] at hbf;subst hbf;replace B0:=B0.bQ hb2;replace k0s:=k0s.bQ hb2;replace k0:=k0.bQ hb2;replace B1:=B1.bQ hb2;replace k1s:=k1s.bQ hb2;replace k1:=k1.bQ hb2;replace BR0:=BR0.bQ hb2;replace bb:=bb.trans (hb2.mono bb.size);have hsz2:=bb.size;have s_5:=sB;have s_6:=sB;obtain ⟨A18,c18,rfl,_⟩:=id q6;have n18:=q6;have n18f:=f6;have n18z_:=s_6;have BA6:=B7;obtain ⟨u5,rfl,q5⟩:=q5;obtain ⟨A6,c6,rfl,_⟩:=id q5;refine zH0 (i:=8) rfl rfl rfl rfl rfl rfl (cells:=[.bool (ngB U),.slice A6 (digs 4294967296 (U).natAbs).length c6]) rfl BA6 rfl (by kernel_rfl) (zG8 rfl rfl) fun w3 hg3 BN3 => ?_;replace q5:=off q5 BA6 no_ints2 hg3;replace n18:=off n18 BA6 no_ints2 hg3;replace k0s:=off k0s BA6 no_ints2 hg3;replace k0:IsZ w3 (.agg #[.bool (ngB n),.slice A0 (digs 4294967296 (n).natAbs).length c0]) (n):=⟨_,rfl,k0s⟩;replace B0:=B0.grown hg3 (by omega);replace k1s:=off k1s BA6 no_ints2 hg3;replace k1:IsZ w3 (.agg #[.bool true,.slice A1 (digs 4294967296 (d).natAbs).length c1]) (d):=zG9 k1s rfl hs1.symm;replace B1:=B1.grown hg3 (by omega);replace BR0:=BR0.grown hg3 (by omega);replace bb:=bb.trans ((Below.refl _ _).grown hg3 bb.size (fun g hg=>by injection hg with hg;omega));have hsz3:=bb.size;have B6:Blk w3 (g13_7) _ _:=BN3;have k6s:=q5;have k6:IsZ w3 (.agg #[.bool (ngB U),.slice A6 (digs 4294967296 (U).natAbs).length c6]) (U):=⟨_,rfl,k6s⟩;refine zQ4 (i:=9) (.slice A18 (digs 4294967296 L).length c18) rfl rfl rfl rfl rfl fun b hbf => ?_;simp only [Act.put,zA0,zA2,zA1] at hbf;subst hbf;refine zC4 ?_;have f6_:=(f5 _ _ rfl).mono s_5;have sB:=bb.size;go_upto_region 4 with (fail);refine zC3 2 [Pd.eq (.pointer (some ⟨w.heap.size+1,0,none⟩)),Pd.eq (.bool true)] (by kernel_rfl) ?ob14 ?done14
        case ob14 =>
          refine zA (zB9 rfl (zB3 rfl) (zB5 rfl rfl) (fun _=>by kernel_rfl) (fun _=>rfl)) ?_;refine zA (zB7 rfl (zB3 rfl) (zB4 (j:=0) (by kernel_rfl) rfl rfl) (fun w2 hb=>zC1 underlying4 rfl ((B1.bQ hb).cell 0)) (fun _ _=>rfl)) ?_
          trivial
        case done14 =>
          refine fun w4 hb4 v0 h0 v1 h1 b hbf => ?_;obtain rfl:=h0;obtain rfl:=h1;simp only [Act.put,zA0,zA2,zA1] at hbf;subst hbf;replace B0:=B0.bQ hb4;replace k0s:=k0s.bQ hb4;replace k0:=k0.bQ hb4;replace B1:=B1.bQ hb4;replace k1s:=k1s.bQ hb4;replace k1:=k1.bQ hb4;replace BR0:=BR0.bQ hb4;replace B6:=B6.bQ hb4;replace k6s:=k6s.bQ hb4;replace k6:=k6.bQ hb4;replace n18:=n18.bQ hb4;replace bb:=bb.trans (hb4.mono bb.size);have hsz4:=bb.size;refine zC4 ?_;have sB:=bb.size;go_upto_region 5 with (fail);refine zC3 2 [Pd.eq (.agg #[.bool (ngB U),.slice A6 (digs 4294967296 (U).natAbs).length c6]),pz ((-U)) w4.heap.size] (by kernel_rfl) ?ob15 ?done15
          case ob15 =>
            refine zA (zB7 rfl (zB3 rfl) (zB5 rfl rfl) (fun w2 hb=>zF0 underlying60 rfl (by kernel_rfl) (B6.bQ hb)) (fun _ _=>rfl)) ?_;refine zA (zE7 rfl func121 (by kernel_rfl) (zB3 rfl) (zB4 (j:=0) (by kernel_rfl) rfl rfl) (fun w2 u0 hb h0=>by obtain rfl:=h0;exact (yD5 _ U _ (k6.bQ hb) (zB2 HUL.out (by decide))).mono fun e w3 h=>zF6.pd h hb.size)) ?_
            trivial
          case done15 =>
            refine fun w5 hb5 v0 h0 v1 h1 b hbf => ?_;obtain rfl:=h0;obtain ⟨q1,f1⟩:=h1;simp only [Act.put,zA0,zA2,zA1] at hbf;subst hbf;replace B0:=B0.bQ hb5;replace k0s:=k0s.bQ hb5;replace k0:=k0.bQ hb5;replace B1:=B1.bQ hb5;replace k1s:=k1s.bQ hb5;replace k1:=k1.bQ hb5;replace BR0:=BR0.bQ hb5;replace B6:=B6.bQ hb5;replace k6s:=k6s.bQ hb5;replace k6:=k6.bQ hb5;replace n18:=n18.bQ hb5;replace bb:=bb.trans (hb5.mono bb.size);have hsz5:=bb.size;have s_1:=sB;obtain ⟨u1,rfl,q1⟩:=q1;obtain ⟨A6n,c6n,rfl,_⟩:=id q1;refine zH0 (i:=2) rfl rfl rfl rfl rfl rfl (cells:=[.bool (ngB (-U)),.slice A6n (digs 4294967296 ((-U)).natAbs).length c6n]) rfl B6 rfl (by kernel_rfl) (zG8 rfl rfl) fun w6 hg6 BN6 => ?_;replace q1:=off q1 B6 no_ints2 hg6;replace n18:=off n18 B6 no_ints2 hg6;replace k0s:=off k0s B6 no_ints2 hg6;replace k0:IsZ w6 (.agg #[.bool (ngB n),.slice A0 (digs 4294967296 (n).natAbs).length c0]) (n):=⟨_,rfl,k0s⟩;replace B0:=B0.grown hg6 (by omega);replace k1s:=off k1s B6 no_ints2 hg6;replace k1:IsZ w6 (.agg #[.bool true,.slice A1 (digs 4294967296 (d).natAbs).length c1]) (d):=zG9 k1s rfl hs1.symm;replace B1:=B1.grown hg6 (by omega);replace BR0:=BR0.grown hg6 (by omega);replace bb:=bb.trans ((Below.refl _ _).grown hg6 bb.size (fun g hg=>by injection hg with hg;omega));have hsz6:=bb.size;have B6n:Blk w6 (g13_7) _ _:=BN6;have k6ns:=q1;have k6n:IsZ w6 (.agg #[.bool (ngB (-U)),.slice A6n (digs 4294967296 ((-U)).natAbs).length c6n]) ((-U)):=⟨_,rfl,k6ns⟩;refine zC4 ?_;have f6n_:=(f1 _ _ rfl).mono s_1;have sB:=bb.size;go_upto_region 6 with (fail);refine zC3 3 [Pd.eq (.agg #[.bool (ngB (-U)),.slice A6n (digs 4294967296 ((-U)).natAbs).length c6n]),Pd.eq (.slice A18 (digs 4294967296 L).length c18),Pd.eq (.agg #[.bool (ngB (-U)),.slice A6n (digs 4294967296 ((-U)).natAbs).length c6n,.slice A18 (digs 4294967296 L).length c18])] (by kernel_rfl) ?ob16 ?done16
            case ob16 =>
              refine zA (zB7 rfl (zB3 rfl) (zB5 rfl rfl) (fun w2 hb=>zF0 underlying60 rfl (by kernel_rfl) (B6n.bQ hb)) (fun _ _=>rfl)) ?_;refine zA (zB8 rfl (zB3 rfl) (zB5 rfl rfl) (fun _ _ h=>h)) ?_;refine zA (zK2 rfl (zB3 rfl) (zB4 (j:=0) (by kernel_rfl) rfl rfl) (zB4 (j:=1) (by kernel_rfl) rfl rfl) (fun w2 u v hb hu hv=>by obtain rfl:=hu;obtain rfl:=hv;exact ⟨.agg #[.bool (ngB (-U)),.slice A6n (digs 4294967296 ((-U)).natAbs).length c6n,.slice A18 (digs 4294967296 L).length c18],by kernel_rfl,rfl⟩)) ?_
              trivial
            case done16 =>
              refine fun w7 hb7 v0 h0 v1 h1 v2 h2 b hbf => ?_;obtain rfl:=h0;obtain rfl:=h1;obtain rfl:=h2;simp only [Act.put,zA0,zA2,zA1] at hbf;subst hbf;replace B0:=B0.bQ hb7;replace k0s:=k0s.bQ hb7;replace k0:=k0.bQ hb7;replace B1:=B1.bQ hb7;replace k1s:=k1s.bQ hb7;replace k1:=k1.bQ hb7;replace BR0:=BR0.bQ hb7;replace B6n:=B6n.bQ hb7;replace k6ns:=k6ns.bQ hb7;replace k6n:=k6n.bQ hb7;replace n18:=n18.bQ hb7;replace bb:=bb.trans (hb7.mono bb.size);have hsz7:=bb.size;refine zH0 (i:=3) rfl rfl rfl rfl rfl rfl (cells:=[.bool (ngB (-U)),.slice A6n (digs 4294967296 ((-U)).natAbs).length c6n,.slice A18 (digs 4294967296 L).length c18]) rfl BR0 rfl (by kernel_rfl) (zH rfl rfl rfl) fun w9 hg9 B9 => ?_;have k9:=off k6ns BR0 zC9 hg9;have d9:=off n18 BR0 zC9 hg9;have bb9:=bb.trans ((Below.refl _ _).grown hg9 bb.size (fun g hg=>by injection hg with hg;omega));obtain ⟨C0,C1,C2,_,_,_⟩:=three B9;refine zQ4 (i:=4) (.int .i64 0) rfl rfl rfl rfl rfl fun b hbf => ?_;simp only [Act.put,zA0,zA2,zA1] at hbf;subst hbf;refine zC4 ?_;go_wp2;rw [HQ0.out];exact bodyPost_ret (v:=.tuple #[.agg #[.bool (ngB (-U)),.slice A6n (digs 4294967296 ((-U)).natAbs).length c6n,.slice A18 (digs 4294967296 L).length c18],.int .i64 0]) (by simp [results,results77,go_sem,C0,C1,C2]) rfl ⟨_,rfl,zW3 k9 d9 (by rw [HQN.out]) (by rw [HQN.out]) HQD.out,zL4 f6n_ (n18f.mono n18z_),bb9⟩
theorem jD2 (a0:Value) (n:Int) (a1:Value) (d:Int) (w:World) (h0:IsZ w a0 n) (h1:IsZ w a1 d) (hl:zC5 n<=1000) (hl2:zC5 d<=1000) (hd:d≠0):Calls prog 77 #[a0,a1] w (zU1 (Rat.divInt n d) 0 w) :=
 (yG9 a0 n a1 d w h0 h1 hl hl2 hd).mono fun _ _ h=>h.e
theorem qH (n:Int) (w:World) (h1 : -9223372036854775808<=n) (h2:n<=9223372036854775807) :
  Calls prog 41 #[.int .i64 n] w (RetQ (n:Rat) w):=by
 obtain ⟨Q,hQ⟩:∃ Q,Q=(n:Rat):=⟨_,rfl⟩;have HQ0:Hid ((n:Rat)=Q):=hQ.symm;have HQN:Hid (Q.num=n):=by show _=_;rw [hQ];exact Rat.num_intCast n
 have HQD:Hid (Q.den=1):=by show _=_;rw [hQ];exact Rat.den_intCast n
 clear hQ
 go_enter func41,ntmps41
 go_upto_region 1 with (fail)
 obtain ⟨wx,hwx,bb,BR0,hsz⟩:=zK4 w 83 #[.bool false,.slice none 0 0,.slice none 0 0];rw [hwx];clear hwx;have hsz0:=bb.size;have sB:=bb.size;refine zC3 4 [Pd.eq (.int .i64 n),pz ((Q).num) wx.heap.size,ps .u64 (digs 4294967296 (Q).den) wx.heap.size,pq (Q) wx.heap.size] (by kernel_rfl) ?ob19 ?done19
 case ob19 =>
  refine zA (zB8 rfl (zB3 rfl) (zB5 rfl rfl) (fun _ _ h=>h)) ?_;refine zA (zE7 rfl func82 (by kernel_rfl) (zB3 rfl) (zB4 (j:=0) (by kernel_rfl) rfl rfl) (fun w2 u0 hb h0=>by obtain rfl:=h0;exact (qL9 n _ h1 h2).mono fun e w3 h=>zF6.pd (zF6.to h HQN.out.symm) hb.size)) ?_;refine zA (zE7 rfl func53 (by kernel_rfl) (zB3 rfl) (zF8 _) (fun w2 u0 hb h0=>by obtain rfl:=h0;exact (qD5 1 1 _ rfl (by omega)).mono fun e w3 h=>zD1.pd (zD1.to h (congrArg (digs 4294967296) HQD.out.symm)) hb.size)) ?_;refine zA (zK2 rfl (zB3 rfl) (zB4 (j:=1) (by kernel_rfl) rfl rfl) (zB4 (j:=2) (by kernel_rfl) rfl rfl) (fun w2 u v hb hu hv=>by obtain ⟨u7,rfl,hu7⟩:=hu.1;obtain ⟨A7,c7,rfl,_⟩:=id hu7;obtain ⟨A8,c8,rfl,_⟩:=id hv.1;exact ⟨.agg #[.bool (ngB (Q).num),.slice A7 (digs 4294967296 (Q).num.natAbs).length c7,.slice A8 (digs 4294967296 (Q).den).length c8],by kernel_rfl,⟨⟨_,_,rfl,hu7,hv.1⟩,zL4 (hu.2 _ _ rfl) hv.2⟩⟩)) ?_
  trivial
 case done19 =>
  refine fun w1 hb1 v0 h0 v1 h1 v2 h2 v3 h3 b hbf => ?_;obtain rfl:=h0;obtain ⟨q1,f1⟩:=h1;obtain ⟨q2,f2⟩:=h2;obtain ⟨q3,f3⟩:=h3;simp only [Act.put,zA0,zA2,zA1] at hbf;subst hbf;replace BR0:=BR0.bQ hb1;replace bb:=bb.trans (hb1.mono bb.size);have hsz1:=bb.size;have s_1:=sB;have s_2:=sB;have s_3:=sB;obtain ⟨u3,t3,rfl,q3,d3⟩:=q3;obtain ⟨A9,c9,rfl,_⟩:=id q3;obtain ⟨D9,e9,rfl,_⟩:=id d3;refine zH0 (i:=4) rfl rfl rfl rfl rfl rfl (cells:=[.bool (ngB (Q).num),.slice A9 (digs 4294967296 (Q).num.natAbs).length c9,.slice D9 (digs 4294967296 (Q).den).length e9]) rfl BR0 rfl (by kernel_rfl) (zH rfl rfl rfl) fun w9 hg9 B9 => ?_;have k9:=off q3 BR0 zC9 hg9;have d9:=off d3 BR0 zC9 hg9;have f9:=f3.mono (show w.heap.size<=_ from s_3);have bb9:=bb.trans ((Below.refl _ _).grown hg9 bb.size (fun g hg=>by injection hg with hg;omega));obtain ⟨C0,C1,C2,_,_,_⟩:=three B9;refine zC4 ?_;go_wp2;rw [HQ0.out];exact bodyPost_ret (v:=.agg #[.bool (ngB (Q).num),.slice A9 (digs 4294967296 (Q).num.natAbs).length c9,.slice D9 (digs 4294967296 (Q).den).length e9]) (by simp [results,results41,go_sem,C0,C1,C2]) rfl ⟨_,rfl,⟨_,_,rfl,k9,d9⟩,f9,bb9⟩
theorem jD3 (n d:Int) (w:World) (hn : -9223372036854775808<=n/\n<=9223372036854775807) (hd : -9223372036854775808<=d/\d<=9223372036854775807) (h0_:d≠0) :
  Calls prog 42 #[.int .i64 n,.int .i64 d] w (zU6 (Rat.divInt n d) 0 w):=by
 have HLN:Hid (zC5 n<=1000):=zB2 (dig32 (by omega)) (by decide);have HLD:Hid (zC5 d<=1000):=zB2 (dig32 (by omega)) (by decide);obtain ⟨Q,hQ⟩:∃ Q,Q=Rat.divInt n d:=⟨_,rfl⟩;have HQ0:Hid (Rat.divInt n d=Q):=hQ.symm;clear hQ
 go_enter func42,ntmps42
 go_upto_region 1 with (fail)
 obtain ⟨wx,hwx,bb,BR0,hsz⟩:=zK4 w 83 #[.bool false,.slice none 0 0,.slice none 0 0];rw [hwx];clear hwx;have hsz0:=bb.size;have sB:=bb.size;refine zC3 7 [Pd.eq (.int .i64 n),pz (n) wx.heap.size,Pd.eq (.int .i64 d),pz (d) wx.heap.size,pqf (Q) 0 wx.heap.size,pq (Q) wx.heap.size,Pd.eq (.int .i64 0)] (by kernel_rfl) ?ob20 ?done20
 case ob20 =>
  refine zA (zB8 rfl (zB3 rfl) (zB5 rfl rfl) (fun _ _ h=>h)) ?_;refine zA (zE7 rfl func82 (by kernel_rfl) (zB3 rfl) (zB4 (j:=0) (by kernel_rfl) rfl rfl) (fun w2 u0 hb h0=>by obtain rfl:=h0;exact (qL9 n _ hn.1 hn.2).mono fun e w3 h=>zF6.pd h hb.size)) ?_;refine zA (zB8 rfl (zB3 rfl) (zB5 rfl rfl) (fun _ _ h=>h)) ?_;refine zA (zE7 rfl func82 (by kernel_rfl) (zB3 rfl) (zB4 (j:=2) (by kernel_rfl) rfl rfl) (fun w2 u0 hb h0=>by obtain rfl:=h0;exact (qL9 d _ hd.1 hd.2).mono fun e w3 h=>zF6.pd h hb.size)) ?_;refine zA (zC7 rfl func77 (by kernel_rfl) (zB3 rfl) (zB4 (j:=1) (by kernel_rfl) rfl rfl) (zB4 (j:=3) (by kernel_rfl) rfl rfl) (fun w2 u0 u1 hb h0 h1=>by exact (HQ0.out ▸ yG9 _ n _ d _ h0.1 h1.1 HLN.out HLD.out h0_).mono fun e w3 h=>zU6.pd h hb.size)) ?_;refine zA (zF9 rfl (zB3 rfl) (zB4 (j:=4) (by kernel_rfl) rfl rfl) (fun w2 u hu=>by obtain ⟨v,rfl,q1,q2⟩:=hu;exact ⟨v,rfl,q1,q2⟩)) ?_;refine zA (zF9 rfl (zB3 rfl) (zB4 (j:=4) (by kernel_rfl) rfl rfl) (fun w2 u hu=>by obtain ⟨v,rfl,q1,q2⟩:=hu;exact ⟨_,rfl,rfl⟩)) ?_
  trivial
 case done20 =>
  refine fun w1 hb1 v0 h0 v1 h1 v2 h2 v3 h3 v4 h4 v5 h5 v6 h6 b hbf => ?_;obtain rfl:=h0;obtain rfl:=h2;obtain rfl:=h6;obtain ⟨q1,f1⟩:=h1;obtain ⟨q3,f3⟩:=h3;clear h4;obtain ⟨q5,f5⟩:=h5;simp only [Act.put,zA0,zA2,zA1] at hbf;subst hbf;replace BR0:=BR0.bQ hb1;replace bb:=bb.trans (hb1.mono bb.size);have hsz1:=bb.size;have s_1:=sB;have s_3:=sB;have s_5:=sB;obtain ⟨u5,t5,rfl,q5,d5⟩:=q5;obtain ⟨A9,c9,rfl,_⟩:=id q5;obtain ⟨D9,e9,rfl,_⟩:=id d5;have fS:=(f5 _ _ _ rfl).1.mono s_5;have fT:=(f5 _ _ _ rfl).2.mono s_5;refine zH0 (i:=7) rfl rfl rfl rfl rfl rfl (cells:=[.bool (ngB (Q).num),.slice A9 (digs 4294967296 (Q).num.natAbs).length c9,.slice D9 (digs 4294967296 (Q).den).length e9]) rfl BR0 rfl (by kernel_rfl) (zH rfl rfl rfl) fun w9 hg9 B9 => ?_;have k9:=off q5 BR0 zC9 hg9;have d9:=off d5 BR0 zC9 hg9;have bb9:=bb.trans ((Below.refl _ _).grown hg9 bb.size (fun g hg=>by injection hg with hg;omega));obtain ⟨C0,C1,C2,_,_,_⟩:=three B9;refine zQ4 (i:=8) (.int .i64 0) rfl rfl rfl rfl rfl fun b hbf => ?_;simp only [Act.put,zA0,zA2,zA1] at hbf;subst hbf;refine zC4 ?_;go_wp2;rw [HQ0.out];exact bodyPost_ret (v:=.tuple #[.agg #[.bool (ngB (Q).num),.slice A9 (digs 4294967296 (Q).num.natAbs).length c9,.slice D9 (digs 4294967296 (Q).den).length e9],.int .i64 0]) (by simp [results,results42,go_sem,C0,C1,C2]) rfl ⟨_,rfl,zW3 k9 d9 rfl rfl rfl,zL4 fS fT,bb9⟩
theorem jD4 (n d:Int) (w:World) (hn : -9223372036854775808<=n/\n<=9223372036854775807) (hd : -9223372036854775808<=d/\d<=9223372036854775807) (h0:d≠0):Calls prog 42 #[.int .i64 n,.int .i64 d] w (zU1 (Rat.divInt n d) 0 w) :=
 (jD3 n d w hn hd h0).mono fun _ _ h=>h.e
theorem jD5 (v u:Value) (l m:List Nat) (b:Bool) (w:World) (h:IsS w .u64 v l) (h':IsS w .u64 u m) (hu:Lt 18446744073709551616 l) (hu':Lt 18446744073709551616 m) (hb_:b=zQ1 l m) :
  Calls prog 122 #[v,u] w (zD3 (.bool b) w):=by
 have HB:=hQ9 hb_;clear hb_;obtain ⟨A,c,rfl,hc,hm,hr⟩:=h;obtain ⟨A',c',rfl,hc',hmm,hr'⟩:=h';unfold maxLen at hm hmm;by_cases hne:l.length=m.length
 ·have hb1:((l.length:Int) != (m.length:Int))=false:=by rw [hne];simp
  have HL:=hQ9 hne;have hl1:l.length<=m.length:=by omega
  have hl2:m.length<=l.length:=by omega
  clear hne
  go_enter func122,ntmps122
  go_wp2
  go_loopw [13] (fun vi wr => ∃ k:Nat,k<=l.length/\Hid (l.take k=m.take k)/\Below w.heap.size w wr/\vi=.int .i64 (k:Int)) (fun vi _=>l.length-(intOf vi).toNat)
  case atStart=>exact ⟨0,by omega,by show _=_;simp,Below.refl _ _,rfl⟩
  case round =>
   obtain ⟨k,hk,HT,hb,rfl⟩:=hrel;by_cases hlt:k<l.length
   ·obtain ⟨ad,d,rfl,hd,hcell⟩:=(hr.bQ hb).at_ hlt;obtain ⟨ad',e,rfl,he,hcell'⟩:=(hr'.bQ hb).at_ (i:=k) (by omega);by_cases hde:d=e
    ·subst hde;have HN:Hid (l.take (k+1)=m.take (k+1)):=by show _=_;rw [zX8 hd,zX8 he,HT.out]
     have hz:((d:Int) != (d:Int))=false:=by simp
     clear hd he;go_wp2
     go_quiet (fail)
     go_wp2;go_roundw;case rel=>exact ⟨k+1,by omega,HN,zN9 hb _,by go_num⟩
     case measure=>simp [intOf];omega
    ·have HN:Hid (zQ1 l m=false):=yR1 hd he hde;have hz:((d:Int) != (e:Int))=true:=by rw [bne_iff_ne];omega
     clear hd he hde;go_wp2
     go_quiet (fail)
     go_wp2;go_ret;exact ⟨by rw [HB.out,HN.out];rfl,zN9 hb _⟩
   ·obtain rfl:k=l.length:=by omega
    have HN:Hid (zQ1 l m=true):=by
     have:=HT.out
     rw [List.take_length,zA7 hl2] at this;rw [this];exact yR m
    go_wp2;go_ret;exact ⟨by rw [HB.out,HN.out];rfl,hb⟩
 ·have hb1:((l.length:Int) != (m.length:Int))=true:=by rw [bne_iff_ne];omega
  have HN:Hid (zQ1 l m=false):=yR0 hne;clear hne
  go_enter func122,ntmps122
  go_wp2;go_ret;exact ⟨by rw [HB.out,HN.out];rfl,Below.refl _ _⟩
theorem qV0 (v u:Value) (x y:Nat) (b:Bool) (w:World) (h:IsS w .u64 v (digs 4294967296 x)) (h':IsS w .u64 u (digs 4294967296 y)) (hb:b=decide (x=y)) :
  Calls prog 122 #[v,u] w (zD3 (.bool b) w) :=
 jD5 v u _ _ b w h h' (yA5 x) (yA5 y) (by rw [hb,yT6])
theorem yH (a0 a1:Value) (x y:Rat) (b:Bool) (w:World) (h0:IsQ w a0 x) (h1:IsQ w a1 y) (hb:b=decide (x=y)) :
  Calls prog 79 #[a0,a1] w (zD3 (.bool b) w):=by
 by_cases hs:ngB x.num=ngB y.num
 ·by_cases hn:x.num.natAbs=y.num.natAbs
  ·obtain ⟨u0,t0,rfl,s0,r0⟩:=h0;obtain ⟨A0,c0,rfl,_⟩:=id s0;obtain ⟨D0,e0,rfl,_⟩:=id r0;obtain ⟨u1,t1,rfl,s1,r1⟩:=h1;obtain ⟨A1,c1,rfl,_⟩:=id s1;obtain ⟨D1,e1,rfl,_⟩:=id r1;have HE:Hid ((ngB x.num == ngB y.num)=true):=by show _=_;rw [hs];exact beq_self_eq_true _
   have HB:Hid (b=decide (x.den=y.den)):=by show _=_;rw [hb,decide_eq_decide,yY1];exact ⟨fun e=>e.2,fun e=>⟨by rw [<- zW x.num,<- zW y.num,hs,hn],e⟩⟩
   clear hb hs;have HN:Hid (true=decide (x.num.natAbs=y.num.natAbs)):=(decide_eq_true hn).symm;clear hn
   go_enter func79,ntmps79
   go_upto_region 1 with (fail)
   obtain ⟨wx,hwx,bb,B0,B1,hsz⟩:=zI4 w 83 83 #[.bool (ngB (x).num),.slice A0 (digs 4294967296 (x).num.natAbs).length c0,.slice D0 (digs 4294967296 (x).den).length e0] #[.bool (ngB (y).num),.slice A1 (digs 4294967296 (y).num.natAbs).length c1,.slice D1 (digs 4294967296 (y).den).length e1];rw [hwx];clear hwx;have k0s:=s0.bQ bb;have k0d:=r0.bQ bb;have k0z:IsZ wx (.agg #[.bool (ngB (x).num),.slice A0 (digs 4294967296 (x).num.natAbs).length c0]) (x).num:=⟨_,rfl,k0s⟩;have k0:IsQ wx (.agg #[.bool (ngB (x).num),.slice A0 (digs 4294967296 (x).num.natAbs).length c0,.slice D0 (digs 4294967296 (x).den).length e0]) (x):=⟨_,_,rfl,k0s,k0d⟩;have k1s:=s1.bQ bb;have k1d:=r1.bQ bb;have k1z:IsZ wx (.agg #[.bool (ngB (y).num),.slice A1 (digs 4294967296 (y).num.natAbs).length c1]) (y).num:=⟨_,rfl,k1s⟩;have k1:IsQ wx (.agg #[.bool (ngB (y).num),.slice A1 (digs 4294967296 (y).num.natAbs).length c1,.slice D1 (digs 4294967296 (y).den).length e1]) (y):=⟨_,_,rfl,k1s,k1d⟩;have hsz0:=bb.size;have sB:=bb.size;refine zC3 24 [Pd.eq (.pointer (some ⟨w.heap.size,0,none⟩)),Pd.eq (.pointer (some ⟨w.heap.size,0,none⟩)),Pd.eq (.bool (ngB (x).num)),Pd.eq (.pointer (some ⟨w.heap.size+1,0,none⟩)),Pd.eq (.pointer (some ⟨w.heap.size+1,0,none⟩)),Pd.eq (.bool (ngB (y).num)),Pd.eq (.bool true),Pd.eq (.bool true),Pd.eq (.pointer (some ⟨w.heap.size,0,none⟩)),Pd.eq (.pointer (some ⟨w.heap.size,1,none⟩)),Pd.eq (.slice A0 (digs 4294967296 (x).num.natAbs).length c0),Pd.eq (.pointer (some ⟨w.heap.size+1,0,none⟩)),Pd.eq (.pointer (some ⟨w.heap.size+1,1,none⟩)),Pd.eq (.slice A1 (digs 4294967296 (y).num.natAbs).length c1),Pd.eq (.bool true),Pd.eq (.bool true),Pd.eq (.bool true),Pd.eq (.pointer (some ⟨w.heap.size,2,none⟩)),Pd.eq (.slice D0 (digs 4294967296 (x).den).length e0),Pd.eq (.pointer (some ⟨w.heap.size+1,2,none⟩)),Pd.eq (.slice D1 (digs 4294967296 (y).den).length e1),Pd.eq (.bool b),Pd.eq (.bool b),Pd.eq (.bool b)] (by kernel_rfl) ?ob46 ?done46
   case ob46 =>
    refine zA (zB9 rfl (zB3 rfl) (zB5 rfl rfl) (fun _=>by kernel_rfl) (fun _=>rfl)) ?_;refine zA (zB9 rfl (zB3 rfl) (zB4 (j:=0) (by kernel_rfl) rfl rfl) (fun _=>by kernel_rfl) (fun _=>rfl)) ?_;refine zA (zB7 rfl (zB3 rfl) (zB4 (j:=1) (by kernel_rfl) rfl rfl) (fun w2 hb=>zC1 underlying4 rfl ((B0.bQ hb).cell 0)) (fun _ _=>rfl)) ?_;refine zA (zB9 rfl (zB3 rfl) (zB5 rfl rfl) (fun _=>by kernel_rfl) (fun _=>rfl)) ?_;refine zA (zB9 rfl (zB3 rfl) (zB4 (j:=3) (by kernel_rfl) rfl rfl) (fun _=>by kernel_rfl) (fun _=>rfl)) ?_;refine zA (zB7 rfl (zB3 rfl) (zB4 (j:=4) (by kernel_rfl) rfl rfl) (fun w2 hb=>zC1 underlying4 rfl ((B1.bQ hb).cell 0)) (fun _ _=>rfl)) ?_;refine zA (zE6 rfl (zB3 rfl) (zB4 (j:=2) (by kernel_rfl) rfl rfl) (zB4 (j:=5) (by kernel_rfl) rfl rfl) (fun _ _ _ hx hy=>⟨.bool true,by rw [hx,hy];exact (zO8 _ _ _ _ underlying4 _).trans (by rw [HE.out]),rfl⟩)) ?_;refine zA (zB8 rfl (zB3 rfl) (zB4 (j:=6) (by kernel_rfl) rfl rfl) (fun _ _ h=>h)) ?_;refine zA (zB9 rfl (zD8 (c:=true) (b:=true) (g:=7) rfl (by kernel_rfl) rfl rfl rfl (by exact fun _ _ h=>h)) (zB5 rfl rfl) (fun _=>by kernel_rfl) (fun _=>rfl)) ?_;refine zA (zB9 rfl (zD8 (c:=true) (b:=true) (g:=7) rfl (by kernel_rfl) rfl rfl rfl (by exact fun _ _ h=>h)) (zB4 (j:=8) (by kernel_rfl) rfl rfl) (fun _=>by kernel_rfl) (fun _=>rfl)) ?_;refine zA (zB7 rfl (zD8 (c:=true) (b:=true) (g:=7) rfl (by kernel_rfl) rfl rfl rfl (by exact fun _ _ h=>h)) (zB4 (j:=9) (by kernel_rfl) rfl rfl) (fun w2 hb=>zC1 underlying50 rfl ((B0.bQ hb).cell 1)) (fun _ _=>rfl)) ?_;refine zA (zB9 rfl (zD8 (c:=true) (b:=true) (g:=7) rfl (by kernel_rfl) rfl rfl rfl (by exact fun _ _ h=>h)) (zB5 rfl rfl) (fun _=>by kernel_rfl) (fun _=>rfl)) ?_;refine zA (zB9 rfl (zD8 (c:=true) (b:=true) (g:=7) rfl (by kernel_rfl) rfl rfl rfl (by exact fun _ _ h=>h)) (zB4 (j:=11) (by kernel_rfl) rfl rfl) (fun _=>by kernel_rfl) (fun _=>rfl)) ?_;refine zA (zB7 rfl (zD8 (c:=true) (b:=true) (g:=7) rfl (by kernel_rfl) rfl rfl rfl (by exact fun _ _ h=>h)) (zB4 (j:=12) (by kernel_rfl) rfl rfl) (fun w2 hb=>zC1 underlying50 rfl ((B1.bQ hb).cell 1)) (fun _ _=>rfl)) ?_;refine zA (zC7 rfl func122 (by kernel_rfl) (zD8 (c:=true) (b:=true) (g:=7) rfl (by kernel_rfl) rfl rfl rfl (by exact fun _ _ h=>h)) (zB4 (j:=10) (by kernel_rfl) rfl rfl) (zB4 (j:=13) (by kernel_rfl) rfl rfl) (fun w2 u0 u1 hb h0 h1=>by obtain rfl:=h0;obtain rfl:=h1;exact (qV0 _ _ (x).num.natAbs (y).num.natAbs true _ (k0s.bQ hb) (k1s.bQ hb) HN.out).mono fun e w3 h=>zD3.pd h)) ?_;refine zA (zO2 (b:=true) rfl (zB3 rfl) (zB4 (j:=7) (by kernel_rfl) rfl rfl) (zB4 (j:=14) (by kernel_rfl) rfl rfl) (fun _ _ h=>h)) ?_;refine zA (zB8 rfl (zB3 rfl) (zB4 (j:=15) (by kernel_rfl) rfl rfl) (fun _ _ h=>h)) ?_;refine zA (zB9 rfl (zD8 (c:=true) (b:=true) (g:=16) rfl (by kernel_rfl) rfl rfl rfl (by exact fun _ _ h=>h)) (zB5 rfl rfl) (fun _=>by kernel_rfl) (fun _=>rfl)) ?_;refine zA (zB7 rfl (zD8 (c:=true) (b:=true) (g:=16) rfl (by kernel_rfl) rfl rfl rfl (by exact fun _ _ h=>h)) (zB4 (j:=17) (by kernel_rfl) rfl rfl) (fun w2 hb=>zC1 underlying50 rfl ((B0.bQ hb).cell 2)) (fun _ _=>rfl)) ?_;refine zA (zB9 rfl (zD8 (c:=true) (b:=true) (g:=16) rfl (by kernel_rfl) rfl rfl rfl (by exact fun _ _ h=>h)) (zB5 rfl rfl) (fun _=>by kernel_rfl) (fun _=>rfl)) ?_;refine zA (zB7 rfl (zD8 (c:=true) (b:=true) (g:=16) rfl (by kernel_rfl) rfl rfl rfl (by exact fun _ _ h=>h)) (zB4 (j:=19) (by kernel_rfl) rfl rfl) (fun w2 hb=>zC1 underlying50 rfl ((B1.bQ hb).cell 2)) (fun _ _=>rfl)) ?_;refine zA (zC7 rfl func122 (by kernel_rfl) (zD8 (c:=true) (b:=true) (g:=16) rfl (by kernel_rfl) rfl rfl rfl (by exact fun _ _ h=>h)) (zB4 (j:=18) (by kernel_rfl) rfl rfl) (zB4 (j:=20) (by kernel_rfl) rfl rfl) (fun w2 u0 u1 hb h0 h1=>by obtain rfl:=h0;obtain rfl:=h1;exact (qV0 _ _ (x).den (y).den b _ (k0d.bQ hb) (k1d.bQ hb) HB.out).mono fun e w3 h=>zD3.pd h)) ?_;refine zA (zO2 (b:=true) rfl (zB3 rfl) (zB4 (j:=16) (by kernel_rfl) rfl rfl) (zB4 (j:=21) (by kernel_rfl) rfl rfl) (fun _ _ h=>h)) ?_;refine zA (zD6 rfl (zB3 rfl) (zB4 (j:=22) (by kernel_rfl) rfl rfl) (fun _ _ h=>h)) ?_
    trivial
   case done46 =>
    refine fun w1 hb1 v0 h0 v1 h1 v2 h2 v3 h3 v4 h4 v5 h5 v6 h6 v7 h7 v8 h8 v9 h9 v10 h10 v11 h11 v12 h12 v13 h13 v14 h14 v15 h15 v16 h16 v17 h17 v18 h18 v19 h19 v20 h20 v21 h21 v22 h22 v23 h23 b hbf => ?_;obtain rfl:=h0;obtain rfl:=h1;obtain rfl:=h2;obtain rfl:=h3;obtain rfl:=h4;obtain rfl:=h5;obtain rfl:=h6;obtain rfl:=h7;obtain rfl:=h8;obtain rfl:=h9;obtain rfl:=h10;obtain rfl:=h11;obtain rfl:=h12;obtain rfl:=h13;obtain rfl:=h14;obtain rfl:=h15;obtain rfl:=h16;obtain rfl:=h17;obtain rfl:=h18;obtain rfl:=h19;obtain rfl:=h20;obtain rfl:=h21;obtain rfl:=h22;obtain rfl:=h23;simp only [Act.put,zA0,zA2,zA1] at hbf;subst hbf;replace B0:=B0.bQ hb1;replace k0s:=k0s.bQ hb1;replace k0d:=k0d.bQ hb1;replace k0z:=k0z.bQ hb1;replace k0:=k0.bQ hb1;replace B1:=B1.bQ hb1;replace k1s:=k1s.bQ hb1;replace k1d:=k1d.bQ hb1;replace k1z:=k1z.bQ hb1;replace k1:=k1.bQ hb1;replace bb:=bb.trans (hb1.mono bb.size);have hsz1:=bb.size;refine zC4 ?_;go_wp2;go_ret;exact ⟨rfl,bb⟩
  ·obtain ⟨u0,t0,rfl,s0,r0⟩:=h0;obtain ⟨A0,c0,rfl,_⟩:=id s0;obtain ⟨D0,e0,rfl,_⟩:=id r0;obtain ⟨u1,t1,rfl,s1,r1⟩:=h1;obtain ⟨A1,c1,rfl,_⟩:=id s1;obtain ⟨D1,e1,rfl,_⟩:=id r1;have HE:Hid ((ngB x.num == ngB y.num)=true):=by show _=_;rw [hs];exact beq_self_eq_true _
   obtain rfl:b=false:=by rw [hb,decide_eq_false_iff_not];exact fun e=>hn (by rw [e])
   clear hb hs;have HN:Hid (false=decide (x.num.natAbs=y.num.natAbs)):=(decide_eq_false hn).symm;clear hn
   go_enter func79,ntmps79
   go_upto_region 1 with (fail)
   obtain ⟨wx,hwx,bb,B0,B1,hsz⟩:=zI4 w 83 83 #[.bool (ngB (x).num),.slice A0 (digs 4294967296 (x).num.natAbs).length c0,.slice D0 (digs 4294967296 (x).den).length e0] #[.bool (ngB (y).num),.slice A1 (digs 4294967296 (y).num.natAbs).length c1,.slice D1 (digs 4294967296 (y).den).length e1];rw [hwx];clear hwx;have k0s:=s0.bQ bb;have k0d:=r0.bQ bb;have k0z:IsZ wx (.agg #[.bool (ngB (x).num),.slice A0 (digs 4294967296 (x).num.natAbs).length c0]) (x).num:=⟨_,rfl,k0s⟩;have k0:IsQ wx (.agg #[.bool (ngB (x).num),.slice A0 (digs 4294967296 (x).num.natAbs).length c0,.slice D0 (digs 4294967296 (x).den).length e0]) (x):=⟨_,_,rfl,k0s,k0d⟩;have k1s:=s1.bQ bb;have k1d:=r1.bQ bb;have k1z:IsZ wx (.agg #[.bool (ngB (y).num),.slice A1 (digs 4294967296 (y).num.natAbs).length c1]) (y).num:=⟨_,rfl,k1s⟩;have k1:IsQ wx (.agg #[.bool (ngB (y).num),.slice A1 (digs 4294967296 (y).num.natAbs).length c1,.slice D1 (digs 4294967296 (y).den).length e1]) (y):=⟨_,_,rfl,k1s,k1d⟩;have hsz0:=bb.size;have sB:=bb.size;refine zC3 24 [Pd.eq (.pointer (some ⟨w.heap.size,0,none⟩)),Pd.eq (.pointer (some ⟨w.heap.size,0,none⟩)),Pd.eq (.bool (ngB (x).num)),Pd.eq (.pointer (some ⟨w.heap.size+1,0,none⟩)),Pd.eq (.pointer (some ⟨w.heap.size+1,0,none⟩)),Pd.eq (.bool (ngB (y).num)),Pd.eq (.bool true),Pd.eq (.bool true),Pd.eq (.pointer (some ⟨w.heap.size,0,none⟩)),Pd.eq (.pointer (some ⟨w.heap.size,1,none⟩)),Pd.eq (.slice A0 (digs 4294967296 (x).num.natAbs).length c0),Pd.eq (.pointer (some ⟨w.heap.size+1,0,none⟩)),Pd.eq (.pointer (some ⟨w.heap.size+1,1,none⟩)),Pd.eq (.slice A1 (digs 4294967296 (y).num.natAbs).length c1),Pd.eq (.bool false),Pd.eq (.bool false),Pd.eq (.bool false),Pd.any,Pd.any,Pd.any,Pd.any,Pd.any,Pd.eq (.bool false),Pd.eq (.bool false)] (by kernel_rfl) ?ob45 ?done45
   case ob45 =>
    refine zA (zB9 rfl (zB3 rfl) (zB5 rfl rfl) (fun _=>by kernel_rfl) (fun _=>rfl)) ?_;refine zA (zB9 rfl (zB3 rfl) (zB4 (j:=0) (by kernel_rfl) rfl rfl) (fun _=>by kernel_rfl) (fun _=>rfl)) ?_;refine zA (zB7 rfl (zB3 rfl) (zB4 (j:=1) (by kernel_rfl) rfl rfl) (fun w2 hb=>zC1 underlying4 rfl ((B0.bQ hb).cell 0)) (fun _ _=>rfl)) ?_;refine zA (zB9 rfl (zB3 rfl) (zB5 rfl rfl) (fun _=>by kernel_rfl) (fun _=>rfl)) ?_;refine zA (zB9 rfl (zB3 rfl) (zB4 (j:=3) (by kernel_rfl) rfl rfl) (fun _=>by kernel_rfl) (fun _=>rfl)) ?_;refine zA (zB7 rfl (zB3 rfl) (zB4 (j:=4) (by kernel_rfl) rfl rfl) (fun w2 hb=>zC1 underlying4 rfl ((B1.bQ hb).cell 0)) (fun _ _=>rfl)) ?_;refine zA (zE6 rfl (zB3 rfl) (zB4 (j:=2) (by kernel_rfl) rfl rfl) (zB4 (j:=5) (by kernel_rfl) rfl rfl) (fun _ _ _ hx hy=>⟨.bool true,by rw [hx,hy];exact (zO8 _ _ _ _ underlying4 _).trans (by rw [HE.out]),rfl⟩)) ?_;refine zA (zB8 rfl (zB3 rfl) (zB4 (j:=6) (by kernel_rfl) rfl rfl) (fun _ _ h=>h)) ?_;refine zA (zB9 rfl (zD8 (c:=true) (b:=true) (g:=7) rfl (by kernel_rfl) rfl rfl rfl (by exact fun _ _ h=>h)) (zB5 rfl rfl) (fun _=>by kernel_rfl) (fun _=>rfl)) ?_;refine zA (zB9 rfl (zD8 (c:=true) (b:=true) (g:=7) rfl (by kernel_rfl) rfl rfl rfl (by exact fun _ _ h=>h)) (zB4 (j:=8) (by kernel_rfl) rfl rfl) (fun _=>by kernel_rfl) (fun _=>rfl)) ?_;refine zA (zB7 rfl (zD8 (c:=true) (b:=true) (g:=7) rfl (by kernel_rfl) rfl rfl rfl (by exact fun _ _ h=>h)) (zB4 (j:=9) (by kernel_rfl) rfl rfl) (fun w2 hb=>zC1 underlying50 rfl ((B0.bQ hb).cell 1)) (fun _ _=>rfl)) ?_;refine zA (zB9 rfl (zD8 (c:=true) (b:=true) (g:=7) rfl (by kernel_rfl) rfl rfl rfl (by exact fun _ _ h=>h)) (zB5 rfl rfl) (fun _=>by kernel_rfl) (fun _=>rfl)) ?_;refine zA (zB9 rfl (zD8 (c:=true) (b:=true) (g:=7) rfl (by kernel_rfl) rfl rfl rfl (by exact fun _ _ h=>h)) (zB4 (j:=11) (by kernel_rfl) rfl rfl) (fun _=>by kernel_rfl) (fun _=>rfl)) ?_;refine zA (zB7 rfl (zD8 (c:=true) (b:=true) (g:=7) rfl (by kernel_rfl) rfl rfl rfl (by exact fun _ _ h=>h)) (zB4 (j:=12) (by kernel_rfl) rfl rfl) (fun w2 hb=>zC1 underlying50 rfl ((B1.bQ hb).cell 1)) (fun _ _=>rfl)) ?_;refine zA (zC7 rfl func122 (by kernel_rfl) (zD8 (c:=true) (b:=true) (g:=7) rfl (by kernel_rfl) rfl rfl rfl (by exact fun _ _ h=>h)) (zB4 (j:=10) (by kernel_rfl) rfl rfl) (zB4 (j:=13) (by kernel_rfl) rfl rfl) (fun w2 u0 u1 hb h0 h1=>by obtain rfl:=h0;obtain rfl:=h1;exact (qV0 _ _ (x).num.natAbs (y).num.natAbs false _ (k0s.bQ hb) (k1s.bQ hb) HN.out).mono fun e w3 h=>zD3.pd h)) ?_;refine zA (zO2 (b:=true) rfl (zB3 rfl) (zB4 (j:=7) (by kernel_rfl) rfl rfl) (zB4 (j:=14) (by kernel_rfl) rfl rfl) (fun _ _ h=>h)) ?_;refine zA (zB8 rfl (zB3 rfl) (zB4 (j:=15) (by kernel_rfl) rfl rfl) (fun _ _ h=>h)) ?_;refine zA (zJ6 (zD8 (c:=false) (b:=true) (g:=16) rfl (by kernel_rfl) rfl rfl rfl (by exact fun _ _ h=>h)) (fun _=>trivial) rfl) ?_;refine zA (zJ6 (zD8 (c:=false) (b:=true) (g:=16) rfl (by kernel_rfl) rfl rfl rfl (by exact fun _ _ h=>h)) (fun _=>trivial) rfl) ?_;refine zA (zJ6 (zD8 (c:=false) (b:=true) (g:=16) rfl (by kernel_rfl) rfl rfl rfl (by exact fun _ _ h=>h)) (fun _=>trivial) rfl) ?_;refine zA (zJ6 (zD8 (c:=false) (b:=true) (g:=16) rfl (by kernel_rfl) rfl rfl rfl (by exact fun _ _ h=>h)) (fun _=>trivial) rfl) ?_;refine zA (zJ6 (zD8 (c:=false) (b:=true) (g:=16) rfl (by kernel_rfl) rfl rfl rfl (by exact fun _ _ h=>h)) (fun _=>trivial) rfl) ?_;refine zA (zO2 (b:=false) rfl (zB3 rfl) (zB4 (j:=16) (by kernel_rfl) rfl rfl) (zF8 _) (fun _ _ h=>h)) ?_;refine zA (zD6 rfl (zB3 rfl) (zB4 (j:=22) (by kernel_rfl) rfl rfl) (fun _ _ h=>h)) ?_
    trivial
   case done45 =>
    refine fun w1 hb1 v0 h0 v1 h1 v2 h2 v3 h3 v4 h4 v5 h5 v6 h6 v7 h7 v8 h8 v9 h9 v10 h10 v11 h11 v12 h12 v13 h13 v14 h14 v15 h15 v16 h16 v17 h17 v18 h18 v19 h19 v20 h20 v21 h21 v22 h22 v23 h23 b hbf => ?_;obtain rfl:=h0;obtain rfl:=h1;obtain rfl:=h2;obtain rfl:=h3;obtain rfl:=h4;obtain rfl:=h5;obtain rfl:=h6;obtain rfl:=h7;obtain rfl:=h8;obtain rfl:=h9;obtain rfl:=h10;obtain rfl:=h11;obtain rfl:=h12;obtain rfl:=h13;obtain rfl:=h14;obtain rfl:=h15;obtain rfl:=h16;obtain rfl:=h22;obtain rfl:=h23;clear h17;clear h18;clear h19;clear h20;clear h21;simp only [Act.put,zA0,zA2,zA1] at hbf;subst hbf;replace B0:=B0.bQ hb1;replace k0s:=k0s.bQ hb1;replace k0d:=k0d.bQ hb1;replace k0z:=k0z.bQ hb1;replace k0:=k0.bQ hb1;replace B1:=B1.bQ hb1;replace k1s:=k1s.bQ hb1;replace k1d:=k1d.bQ hb1;replace k1z:=k1z.bQ hb1;replace k1:=k1.bQ hb1;replace bb:=bb.trans (hb1.mono bb.size);have hsz1:=bb.size;refine zC4 ?_;go_wp2;go_ret;exact ⟨rfl,bb⟩
 ·obtain ⟨u0,t0,rfl,s0,r0⟩:=h0;obtain ⟨A0,c0,rfl,_⟩:=id s0;obtain ⟨D0,e0,rfl,_⟩:=id r0;obtain ⟨u1,t1,rfl,s1,r1⟩:=h1;obtain ⟨A1,c1,rfl,_⟩:=id s1;obtain ⟨D1,e1,rfl,_⟩:=id r1;obtain rfl:b=false:=by rw [hb,decide_eq_false_iff_not];exact fun e=>hs (by rw [e])
  clear hb;have HE:Hid ((ngB x.num == ngB y.num)=false):=by show _=_;rw [beq_eq_false_iff_ne];exact hs
  clear hs
  go_enter func79,ntmps79
  go_upto_region 1 with (fail)
  obtain ⟨wx,hwx,bb,B0,B1,hsz⟩:=zI4 w 83 83 #[.bool (ngB (x).num),.slice A0 (digs 4294967296 (x).num.natAbs).length c0,.slice D0 (digs 4294967296 (x).den).length e0] #[.bool (ngB (y).num),.slice A1 (digs 4294967296 (y).num.natAbs).length c1,.slice D1 (digs 4294967296 (y).den).length e1];rw [hwx];clear hwx;have k0s:=s0.bQ bb;have k0d:=r0.bQ bb;have k0z:IsZ wx (.agg #[.bool (ngB (x).num),.slice A0 (digs 4294967296 (x).num.natAbs).length c0]) (x).num:=⟨_,rfl,k0s⟩;have k0:IsQ wx (.agg #[.bool (ngB (x).num),.slice A0 (digs 4294967296 (x).num.natAbs).length c0,.slice D0 (digs 4294967296 (x).den).length e0]) (x):=⟨_,_,rfl,k0s,k0d⟩;have k1s:=s1.bQ bb;have k1d:=r1.bQ bb;have k1z:IsZ wx (.agg #[.bool (ngB (y).num),.slice A1 (digs 4294967296 (y).num.natAbs).length c1]) (y).num:=⟨_,rfl,k1s⟩;have k1:IsQ wx (.agg #[.bool (ngB (y).num),.slice A1 (digs 4294967296 (y).num.natAbs).length c1,.slice D1 (digs 4294967296 (y).den).length e1]) (y):=⟨_,_,rfl,k1s,k1d⟩;have hsz0:=bb.size;have sB:=bb.size;refine zC3 24 [Pd.eq (.pointer (some ⟨w.heap.size,0,none⟩)),Pd.eq (.pointer (some ⟨w.heap.size,0,none⟩)),Pd.eq (.bool (ngB (x).num)),Pd.eq (.pointer (some ⟨w.heap.size+1,0,none⟩)),Pd.eq (.pointer (some ⟨w.heap.size+1,0,none⟩)),Pd.eq (.bool (ngB (y).num)),Pd.eq (.bool false),Pd.eq (.bool false),Pd.any,Pd.any,Pd.any,Pd.any,Pd.any,Pd.any,Pd.any,Pd.eq (.bool false),Pd.eq (.bool false),Pd.any,Pd.any,Pd.any,Pd.any,Pd.any,Pd.eq (.bool false),Pd.eq (.bool false)] (by kernel_rfl) ?ob44 ?done44
  case ob44 =>
   refine zA (zB9 rfl (zB3 rfl) (zB5 rfl rfl) (fun _=>by kernel_rfl) (fun _=>rfl)) ?_;refine zA (zB9 rfl (zB3 rfl) (zB4 (j:=0) (by kernel_rfl) rfl rfl) (fun _=>by kernel_rfl) (fun _=>rfl)) ?_;refine zA (zB7 rfl (zB3 rfl) (zB4 (j:=1) (by kernel_rfl) rfl rfl) (fun w2 hb=>zC1 underlying4 rfl ((B0.bQ hb).cell 0)) (fun _ _=>rfl)) ?_;refine zA (zB9 rfl (zB3 rfl) (zB5 rfl rfl) (fun _=>by kernel_rfl) (fun _=>rfl)) ?_;refine zA (zB9 rfl (zB3 rfl) (zB4 (j:=3) (by kernel_rfl) rfl rfl) (fun _=>by kernel_rfl) (fun _=>rfl)) ?_;refine zA (zB7 rfl (zB3 rfl) (zB4 (j:=4) (by kernel_rfl) rfl rfl) (fun w2 hb=>zC1 underlying4 rfl ((B1.bQ hb).cell 0)) (fun _ _=>rfl)) ?_;refine zA (zE6 rfl (zB3 rfl) (zB4 (j:=2) (by kernel_rfl) rfl rfl) (zB4 (j:=5) (by kernel_rfl) rfl rfl) (fun _ _ _ hx hy=>⟨.bool false,by rw [hx,hy];exact (zO8 _ _ _ _ underlying4 _).trans (by rw [HE.out]),rfl⟩)) ?_;refine zA (zB8 rfl (zB3 rfl) (zB4 (j:=6) (by kernel_rfl) rfl rfl) (fun _ _ h=>h)) ?_;refine zA (zJ6 (zD8 (c:=false) (b:=true) (g:=7) rfl (by kernel_rfl) rfl rfl rfl (by exact fun _ _ h=>h)) (fun _=>trivial) rfl) ?_;refine zA (zJ6 (zD8 (c:=false) (b:=true) (g:=7) rfl (by kernel_rfl) rfl rfl rfl (by exact fun _ _ h=>h)) (fun _=>trivial) rfl) ?_;refine zA (zJ6 (zD8 (c:=false) (b:=true) (g:=7) rfl (by kernel_rfl) rfl rfl rfl (by exact fun _ _ h=>h)) (fun _=>trivial) rfl) ?_;refine zA (zJ6 (zD8 (c:=false) (b:=true) (g:=7) rfl (by kernel_rfl) rfl rfl rfl (by exact fun _ _ h=>h)) (fun _=>trivial) rfl) ?_;refine zA (zJ6 (zD8 (c:=false) (b:=true) (g:=7) rfl (by kernel_rfl) rfl rfl rfl (by exact fun _ _ h=>h)) (fun _=>trivial) rfl) ?_;refine zA (zJ6 (zD8 (c:=false) (b:=true) (g:=7) rfl (by kernel_rfl) rfl rfl rfl (by exact fun _ _ h=>h)) (fun _=>trivial) rfl) ?_;refine zA (zJ6 (zD8 (c:=false) (b:=true) (g:=7) rfl (by kernel_rfl) rfl rfl rfl (by exact fun _ _ h=>h)) (fun _=>trivial) rfl) ?_;refine zA (zO2 (b:=false) rfl (zB3 rfl) (zB4 (j:=7) (by kernel_rfl) rfl rfl) (zF8 _) (fun _ _ h=>h)) ?_;refine zA (zB8 rfl (zB3 rfl) (zB4 (j:=15) (by kernel_rfl) rfl rfl) (fun _ _ h=>h)) ?_;refine zA (zJ6 (zD8 (c:=false) (b:=true) (g:=16) rfl (by kernel_rfl) rfl rfl rfl (by exact fun _ _ h=>h)) (fun _=>trivial) rfl) ?_;refine zA (zJ6 (zD8 (c:=false) (b:=true) (g:=16) rfl (by kernel_rfl) rfl rfl rfl (by exact fun _ _ h=>h)) (fun _=>trivial) rfl) ?_;refine zA (zJ6 (zD8 (c:=false) (b:=true) (g:=16) rfl (by kernel_rfl) rfl rfl rfl (by exact fun _ _ h=>h)) (fun _=>trivial) rfl) ?_;refine zA (zJ6 (zD8 (c:=false) (b:=true) (g:=16) rfl (by kernel_rfl) rfl rfl rfl (by exact fun _ _ h=>h)) (fun _=>trivial) rfl) ?_;refine zA (zJ6 (zD8 (c:=false) (b:=true) (g:=16) rfl (by kernel_rfl) rfl rfl rfl (by exact fun _ _ h=>h)) (fun _=>trivial) rfl) ?_;refine zA (zO2 (b:=false) rfl (zB3 rfl) (zB4 (j:=16) (by kernel_rfl) rfl rfl) (zF8 _) (fun _ _ h=>h)) ?_;refine zA (zD6 rfl (zB3 rfl) (zB4 (j:=22) (by kernel_rfl) rfl rfl) (fun _ _ h=>h)) ?_
   trivial
  case done44 =>
   refine fun w1 hb1 v0 h0 v1 h1 v2 h2 v3 h3 v4 h4 v5 h5 v6 h6 v7 h7 v8 h8 v9 h9 v10 h10 v11 h11 v12 h12 v13 h13 v14 h14 v15 h15 v16 h16 v17 h17 v18 h18 v19 h19 v20 h20 v21 h21 v22 h22 v23 h23 b hbf => ?_;obtain rfl:=h0;obtain rfl:=h1;obtain rfl:=h2;obtain rfl:=h3;obtain rfl:=h4;obtain rfl:=h5;obtain rfl:=h6;obtain rfl:=h7;obtain rfl:=h15;obtain rfl:=h16;obtain rfl:=h22;obtain rfl:=h23;clear h8;clear h9;clear h10;clear h11;clear h12;clear h13;clear h14;clear h17;clear h18;clear h19;clear h20;clear h21;simp only [Act.put,zA0,zA2,zA1] at hbf;subst hbf;replace B0:=B0.bQ hb1;replace k0s:=k0s.bQ hb1;replace k0d:=k0d.bQ hb1;replace k0z:=k0z.bQ hb1;replace k0:=k0.bQ hb1;replace B1:=B1.bQ hb1;replace k1s:=k1s.bQ hb1;replace k1d:=k1d.bQ hb1;replace k1z:=k1z.bQ hb1;replace k1:=k1.bQ hb1;replace bb:=bb.trans (hb1.mono bb.size);have hsz1:=bb.size;refine zC4 ?_;go_wp2;go_ret;exact ⟨rfl,bb⟩
theorem jD6 (p:Elt):(zK5 p).length=3:=rfl
theorem qV1 (ps:List Elt):(zF3 ps).length=ps.length*3:=by
 induction ps with
 | nil=>rfl
 | cons p ps ih=>show (zK5 p ++ zF3 ps).length=_;rw [zA8,ih,jD6,bX3];omega
theorem qH0 (p:Elt) (ps:List Elt):zF3 (p :: ps)=zK5 p ++ zF3 ps:=rfl
theorem yH0:∀ (ps:List Elt) (i:Nat) (p:Elt),i<ps.length->(zF3 ps).take (i*3) ++ zK5 p ++ (zF3 ps).drop (i*3+3)=zF3 (ps.set i p)
  | [],i,p,h=>by simp at h
  | q :: ps, 0, p, h => by
    rw [zA2,qH0,qH0];simp [zK5]
  | q :: ps, i + 1, p, h => by
    have ih:=yH0 ps i p (by simpa using h);rw [zA1,qH0,qH0,<- ih,show (i+1)*3=i*3+1+1+1 from by omega,show i*3+1+1+1+3=i*3+3+1+1+1 from by omega];simp [zK5]
def zD2 (w:World) (g n:Nat) (qs:List Rat):Prop:=∃ ps:List Elt,ps.length=n/\qs.length<=n/\Blk w g 83 (zF3 ps).toArray/\(∀ p∈ps,(∃ A m c,p.2.1=.slice A m c) /\ ∃ A m c,p.2.2=.slice A m c) /\ ∀ (i:Nat) (q:Rat),qs[i]?=some q -> ∃ p,ps[i]?=some p/\p.1=q/\IsE .u64 4294967296 w p
theorem zD2.bQ {w w':World} {g n:Nat} {qs:List Rat} (h:zD2 w g n qs) (hb:Below w.heap.size w w'):zD2 w' g n qs:=by
 obtain ⟨ps,h1,h2,h3,h4,h5⟩:=h;refine ⟨ps,h1,h2,h3.bQ hb,h4,fun i q hq => ?_⟩;obtain ⟨p,k1,k2,k3⟩:=h5 i q hq;exact ⟨p,k1,k2,k3.bQ hb⟩
theorem zD2.lt {w:World} {g n:Nat} {qs:List Rat} (h:zD2 w g n qs):g<w.heap.size:=by
 obtain ⟨ps,_,_,h3,_⟩:=h;exact h3.lt
theorem zD2.offb {w w':World} {g g2 n:Nat} {qs:List Rat} {e:TypeId} {cs:Array Value} (h:zD2 w g n qs) (hB:w.heap[g2]?=some (.cells cs e (0,0))) (hno:∀ c∈cs,∀ n,c ≠ .int .u64 n) (hg:w.grownBy w' (some g2)) (hne:g≠g2):zD2 w' g n qs:=by
 obtain ⟨ps,h1,h2,h3,h4,h5⟩:=h;refine ⟨ps,h1,h2,h3.grown hg hne,h4,fun i q hq => ?_⟩;obtain ⟨p,k1,k2,k3⟩:=h5 i q hq;exact ⟨p,k1,k2,flow.off k3.1 hB hno hg,flow.off k3.2 hB hno hg⟩
theorem yH1 {ps:List Elt} {c:Value} (h:c∈zF3 ps):∃ p∈ps,c∈zK5 p:=List.mem_flatMap.1 h
theorem yH2 {k:IntKind} {ps:List Elt} (h4:∀ p∈ps,(∃ A m c,p.2.1=.slice A m c) /\ ∃ A m c,p.2.2=.slice A m c):∀ c∈(zF3 ps).toArray,∀ n,c ≠ .int k n:=by
 intro c hc n;obtain ⟨p,hp,hc⟩:=yH1 (List.mem_toArray.1 hc);obtain ⟨⟨A,m,d,e1⟩,⟨A',m',d',e2⟩⟩:=h4 p hp;simp only [zK5,e1,e2,List.mem_cons,List.not_mem_nil,or_false] at hc;rcases hc with rfl|rfl|rfl<;>simp
theorem zD2.keep {w w':World} {g n:Nat} {qs:List Rat} {k:IntKind} {v:Value} {l:List Nat} (h:zD2 w g n qs) (hg:w.grownBy w' (some g)) (hs:IsS w k v l):IsS w' k v l:=by
 obtain ⟨ps,_,_,h3,h4,_⟩:=h;exact flow.off hs h3 (yH2 h4) hg
theorem zD2.sl {w:World} {g n:Nat} {qs:List Rat} (h:zD2 w g n qs) (hn:qs.length=n) (hm:n<=1000000000):SlF .u64 4294967296 w (.slice (some ⟨g,0,none⟩) n n) qs:=by
  obtain ⟨ps,h1,h2,h3,h4,h5⟩:=h
  have key:∀ (i:Nat) (p:Elt),ps[i]?=some p->qs[i]?=some p.1/\IsE .u64 4294967296 w p:=by
    intro i p hp;have hi:=(zA4.1 hp).1;have hq:qs[i]?=some (qs[i]'(by omega)):=zA3 (by omega);obtain ⟨p',k1,k2,k3⟩:=h5 i _ hq;rw [hp] at k1;injection k1 with k1;subst k1;exact ⟨by rw [hq,k2],k3⟩
  refine ⟨ps,?_,⟨some ⟨g,0,none⟩,n,by rw [h1],by omega,by unfold maxLen;omega,fun i p hp=>⟨g,0,rfl,?_⟩⟩,fun p hp => ?_⟩
  · refine bX0 fun i => ?_;rw [bQ8]
    cases hp:ps[i]? with
    | none =>
      have:ps.length<=i:=List.getElem?_eq_none_iff.1 hp;rw [bW4 (by omega)];rfl
    | some p=>rw [(key i p hp).1];rfl
  · obtain ⟨f0,f1,f2⟩:=qM1 ps i p hp;rw [bY5];refine ⟨?_,?_,?_⟩
    · rw [h3.cell,bW8];exact f0
    · rw [h3.cell,bW8];exact f1
    · rw [h3.cell,bW8];exact f2
  · obtain ⟨i,hi⟩:=List.mem_iff_getElem?.1 hp;exact (key i p hi).2
theorem jD7 {w:World} {g n:Nat} (h:Blk w g 83 (zF3 (zB n ((0,.slice none 0 0,.slice none 0 0):Elt))).toArray):zD2 w g n [] :=
 ⟨_,List.length_replicate,Nat.zero_le _,h,fun p hp=>by obtain rfl:=(List.mem_replicate.1 hp).2;exact ⟨⟨_,_,_,rfl⟩,⟨_,_,_,rfl⟩⟩,fun i q hq=>by simp at hq⟩
theorem made3 (n:Nat):(madeCells #[.bool false,.slice none 0 0,.slice none 0 0] (n*3)).toList=zF3 (zB n ((0,.slice none 0 0,.slice none 0 0):Elt)):=by
  have key:∀ n j:Nat,(zF3 (zB n ((0,.slice none 0 0,.slice none 0 0):Elt)))[j]?=if j<n*3 then some ((#[.bool false,.slice none 0 0,.slice none 0 0]:Array Value)[j % 3]?.getD undef) else none:=by
    intro n
    induction n with
    | zero=>intro j;simp [zF3]
    | succ n ih =>
      intro j;rw [List.replicate_succ,qH0]
      match j with
      | 0=>simp [zK5,ngB]
      | 1=>simp [zK5];omega
      | 2=>simp [zK5];omega
      | j + 3 =>
        have e:(zK5 ((0,.slice none 0 0,.slice none 0 0):Elt) ++ zF3 (zB n ((0,.slice none 0 0,.slice none 0 0):Elt)))[j+3]?=(zF3 (zB n ((0,.slice none 0 0,.slice none 0 0):Elt)))[j]?:=by simp [zK5]
        rw [e,ih j];have h1:(j+3) % 3=j % 3:=by omega
        rw [h1];by_cases h:j<n*3
        · rw [if_pos h,if_pos (by omega)]
        · rw [if_neg h,if_neg (by omega)]
  apply bX0;intro j;rw [key n j];have h3:j % 3<3:=Nat.mod_lt _ (by omega);by_cases h:j<n*3
  · rw [if_pos h];rcases (by omega:j % 3=0\/j % 3=1\/j % 3=2) with e | e | e<;>simp [madeCells,h,e]
  · rw [if_neg h];simp [madeCells,h]
section
variable {P:Program}
theorem qV2 {w:World} {t:TypeId} (ht:P.underlying t=some (.slice 83)) (hI:∃ i,P.info? 83=some i/\i.zero=some (.agg #[.bool false,.slice none 0 0,.slice none 0 0])/\i.size=3/\i.bytes=56) (n:Nat) (hn:n<=1000000000) :
  ∃ w',(Instr.makeSlice t (.int .i64 (n:Int)) (.int .i64 (n:Int))).run P w=.ok (.slice (some ⟨w.heap.size,0,none⟩) n n) w'/\zD2 w' w.heap.size n []/\Below w.heap.size w w':=by
 obtain ⟨i,hi,hz,hs,hb⟩:=hI;obtain ⟨w',h1,h2,h3⟩:=run_make_full (P:=P) w w.heap.size t 83 i _ 3 ht hi hz hs .i64 .i64 n (by rw [hb];omega) (by unfold maxLen;omega) (zB1 _);refine ⟨w',h1,jD7 ?_,(Below.refl _ w).grown h3 (zB1 _) (fun g hg=>by cases hg)⟩;obtain ⟨hl,h2⟩:=h2;rcases h2 with ⟨h4,_⟩|⟨g,cap,cur,h4,_,h5,_,_,h6,h7⟩
 ·cases h4
 ·injection h4 with h4 _ h8;injection h4 with h4;injection h4 with h4 _ _;subst h4;subst h8;rw [zA7 (by simp [h6])] at h7
  have e:cur=(zF3 (zB n ((0,.slice none 0 0,.slice none 0 0):Elt))).toArray:=by
   rw [<- made3];rw [show (Value.agg #[.bool false,.slice none 0 0,.slice none 0 0]).cells = #[.bool false,.slice none 0 0,.slice none 0 0] from rfl] at h7;rw [<- h7]
  rw [<- e];exact h5
theorem qV3 {w:World} {ops:Array Oper} {rest:List Oper} {o:Oper} {a:Act} {Q:Exit->Act->World->Prop} (hgd:o.guard=none) (lo co:Operand) {t:TypeId} (ho:o.op=Op.makeSlice t lo co)
  (ht:P.underlying t=some (.slice 83)) (hI:∃ i,P.info? 83=some i/\i.zero=some (.agg #[.bool false,.slice none 0 0,.slice none 0 0])/\i.size=3/\i.bytes=56) (n:Nat) (hl:a.eval lo=.int .i64 (n:Int)) (hc:a.eval co=.int .i64 (n:Int)) (hn:n<=1000000000)
  (h:∀ w',zD2 w' w.heap.size n []->Below w.heap.size w w'->wpList P ops Q rest (a.put o.dst (.slice (some ⟨w.heap.size,0,none⟩) n n)) w'):wpList P ops Q (o :: rest) a w:=by
 obtain ⟨w',h1,h2,h3⟩:=qV2 (P:=P) (w:=w) ht hI n hn;refine wpList_plain hgd fun K hK => ?_;unfold Oper.wp execOp;simp only [ho,hl,hc,Sem.run_bind,h1,Result.andThen_ok];exact hK _ _ (h w' h2 h3)
theorem zD2.put {w w':World} {g n i:Nat} {qs:List Rat} {q:Rat} {u t:Value} (h:zD2 w g n qs) (hi:i<n) (hu:IsS w .u64 u (digs 4294967296 q.num.natAbs)) (ht:IsS w .u64 t (digs 4294967296 q.den)) (hg:w.grownBy w' (some g)) (hc:∀ cs,Blk w g 83 cs->Blk w' g 83 (cs.toList.take (0+i*3) ++ [.bool (ngB q.num),u,t] ++ cs.toList.drop (0+i*3+3)).toArray):(i=qs.length->zD2 w' g n (qs ++ [q]))/\(i<qs.length->zD2 w' g n (qs.set i q)):=by
 have keep:=fun {k v l} => h.keep (k:=k) (v:=v) (l:=l) hg;obtain ⟨ps,h1,h2,h3,h4,h5⟩:=h
 have hB:Blk w' g 83 (zF3 (ps.set i (q,u,t))).toArray:=by
  have h6:=hc _ h3;rw [bY5,List.toList_toArray] at h6;rw [<- yH0 ps i (q,u,t) (by omega)];exact h6
 have hS:∀ p∈ps.set i (q,u,t),(∃ A m c,p.2.1=.slice A m c) /\ ∃ A m c,p.2.2=.slice A m c:=by
  intro p hp;rcases bW3 hp with hp | rfl
  ·exact h4 p hp
  ·obtain ⟨A,c,e1,_⟩:=hu;obtain ⟨D,d,e2,_⟩:=ht;exact ⟨⟨_,_,_,e1⟩,⟨_,_,_,e2⟩⟩
 have hE:IsE .u64 4294967296 w' ((q,u,t):Elt):=⟨keep hu,keep ht⟩
 have old:∀ (j:Nat) (x:Rat),j≠i->qs[j]?=some x -> ∃ p,(ps.set i (q,u,t))[j]?=some p/\p.1=x/\IsE .u64 4294967296 w' p:=by
  intro j x hj hx;obtain ⟨p,k1,k2,k3⟩:=h5 j x hx;exact ⟨p,by rw [bW1 (fun e=>hj e.symm)];exact k1,k2,keep k3.1,keep k3.2⟩
 have new:(ps.set i (q,u,t))[i]?=some ((q,u,t):Elt):=by rw [bQ3 (by omega)]
 constructor
 ·intro hiq;refine ⟨ps.set i (q,u,t),by rw [bQ5];exact h1,by simp;omega,hB,hS,fun j x hx => ?_⟩;by_cases hj:j=i
  ·subst hj;rw [hiq,List.getElem?_concat_length] at hx;injection hx with hx;subst hx;exact ⟨_,new,rfl,hE⟩
  ·refine old j x hj ?_;have hl:=(zA4.1 hx).1;rw [zA8,List.length_singleton] at hl;rwa [zB0 (by omega)] at hx
 ·intro hiq;refine ⟨ps.set i (q,u,t),by rw [bQ5];exact h1,by simp;omega,hB,hS,fun j x hx => ?_⟩;by_cases hj:j=i
  ·subst hj;rw [bQ3 hiq] at hx;injection hx with hx;subst hx;exact ⟨_,new,rfl,hE⟩
  ·rw [bW1 (fun e=>hj e.symm)] at hx;exact old j x hj hx
theorem yH3 (w:World) (g:Nat) (cs:Array Value):w.grownBy (w.setRow g cs) (some g):=⟨rfl,rfl,rfl,by simp [World.setRow],fun k _ hk=>setRow_other w g k cs (fun e=>hk (by rw [e]))⟩
theorem yH4 {o:Oper} {a:Act} {w:World} {K:Act->World->Prop} {Q:Exit->Act->World->Prop} {ty:TypeId} {x y:Operand} {g n i:Nat} {qs:List Rat} {q:Rat} {u t:Value} (hd:o.dst=none) (hop:o.op=.store ty x y) (hx:a.eval x=.pointer (some ⟨g,0+i*3,none⟩)) (hy:a.eval y=.agg #[.bool (ngB q.num),u,t])
    (hI:(P.info? ty).map (·.size)=some 3) (hR:zD2 w g n qs) (hi:i<n) (hu:IsS w .u64 u (digs 4294967296 q.num.natAbs)) (ht:IsS w .u64 t (digs 4294967296 q.den))
    (h:∀ w',w.grownBy w' (some g)->(i=qs.length->zD2 w' g n (qs ++ [q]))/\(i<qs.length->zD2 w' g n (qs.set i q))->K a w'):o.wp P a w K Q:=by
  obtain ⟨ps,h1,h2,h3,h4,h5⟩:=id hR
  have one:∀ v∈[Value.bool (ngB q.num),u,t],v.oneCell'=true:=by
    obtain ⟨A,c,rfl,_⟩:=id hu;obtain ⟨D,d,rfl,_⟩:=id ht;exact zH rfl rfl rfl
  have hrun:=run_storeCells_at (P:=P) g (0+i*3) 83 [Value.bool (ngB q.num),u,t] 0 (zF3 ps).toArray w h3 (by simp [qV1];omega) one;rw [Nat.add_zero] at hrun
  have key:∀ (A:Addr) (W:World),(storeCells A [Value.bool (ngB q.num),u,t] 0).run P w=.ok () W->(storeVar ty A (.agg #[.bool (ngB q.num),u,t])).run P w=.ok () W:=by
    intro A W hrun
    cases hq:P.info? ty with
    | none=>simp [hq] at hI
    | some inf =>
      have hsz:3=inf.size:=by simp [hq] at hI;omega
      have e:(Value.agg #[.bool (ngB q.num),u,t]).cells=([Value.bool (ngB q.num),u,t]:List Value).toArray:=rfl;simp [storeVar,sizeOf,typeInfo,hq,e,<- hsz,hrun]
  have hst:=key _ _ hrun;unfold Oper.wp execOp;simp only [hop,hx,hy,Instr.storeAt,Instr.sureAddr,Sem.run_bind,Sem.run_pure,Result.andThen_ok,hst,Oper.upon_skip,hd];refine h _ (yH3 _ _ _) (hR.put hi hu ht (yH3 _ _ _) fun cs hcs => ?_);unfold Blk at hcs h3 |-;rw [h3] at hcs;injection hcs with hcs;injection hcs with hcs;subst hcs;exact setRow_heap w g _ _ _ _ h3
theorem qH1 {Q:Exit->Act->World->Prop} {ops:Array Oper} {o:Oper} {j:Nat} {rest:List Nat} {a:Act} {w:World} {ty:TypeId} {x y:Operand} {g n i:Nat} {qs:List Rat} {q:Rat} {u t:Value} (ho:ops[j]?=some o) (hgd:o.guard=none) (hd:o.dst=none) (hop:o.op=.store ty x y) (hx:a.eval x=.pointer (some ⟨g,0+i*3,none⟩)) (hy:a.eval y=.agg #[.bool (ngB q.num),u,t])
  (hI:(P.info? ty).map (·.size)=some 3) (hR:zD2 w g n qs) (hi:i<n) (hu:IsS w .u64 u (digs 4294967296 q.num.natAbs)) (ht:IsS w .u64 t (digs 4294967296 q.den))
  (h:∀ w',w.grownBy w' (some g)->(i=qs.length->zD2 w' g n (qs ++ [q]))/\(i<qs.length->zD2 w' g n (qs.set i q))->wpOps P ops Q rest a w'):wpOps P ops Q (j :: rest) a w :=
 qL3 ho hgd (yH4 hd hop hx hy hI hR hi hu ht h)
theorem jD8 {Q:Exit->Act->World->Prop} {ops:Array Oper} {o:Oper} {fuel j:Nat} {listed:Array Bool} {a:Act} {w:World} {ty:TypeId} {x y:Operand} {g n i:Nat} {qs:List Rat} {q:Rat} {u t:Value} (hr:Region.ready .any ops listed=[j]) (ho:ops[j]?=some o) (hgd:o.guard=none) (hd:o.dst=none) (hop:o.op=.store ty x y) (hx:a.eval x=.pointer (some ⟨g,0+i*3,none⟩)) (hy:a.eval y=.agg #[.bool (ngB q.num),u,t])
  (hI:(P.info? ty).map (·.size)=some 3) (hR:zD2 w g n qs) (hi:i<n) (hu:IsS w .u64 u (digs 4294967296 q.num.natAbs)) (ht:IsS w .u64 t (digs 4294967296 q.den))
  (h:∀ w',w.grownBy w' (some g)->(i=qs.length->zD2 w' g n (qs ++ [q]))/\(i<qs.length->zD2 w' g n (qs.set i q))->wpAny P .any ops Q fuel (listed.setIfInBounds j true) a w'):wpAny P .any ops Q (fuel+1) listed a w :=
 qL2 hr ho hgd (yH4 hd hop hx hy hI hR hi hu ht h)
end
section
variable {P:Program} {Q:Exit->Act->World->Prop} {ops:Array Oper} {L:List Oper} {Φ : List Pd} {w0:World} {a0:Act} {i:Nat} {o:Oper}
theorem yH5 (f:FuncId):Ev L Φ w0 a0 o (.func f) (fun _ u=>u=.func (.func f) #[] #[]):=fun _ _ _=>rfl
theorem jD9 {ρ : Operand->Value} {f:FuncId} {z:Operand} {xs:Array Operand} {at_:Array TypeId} {w:World} (hop:o.op=.call { callee:=.value z,args:=xs,argTypes:=at_ }) (hρ : ρ z=.func (.func f) #[] #[]) {args:Array Value} (ha:xs.map ρ = args):(execOp ρ o).run P w=(callFunc f args).run P w:=by
 subst ha;unfold execOp;simp [hop,resolve,hρ,Deferred.ofValue,invoke]
theorem qO4 {f : FuncId} {fn : Func} {z x y : Operand} {at_ : Array TypeId} {F G : World -> Value -> Prop} (hop : o.op = .call { callee := .value z, args := #[x, y], argTypes := at_ }) (hz : Ev L Φ w0 a0 o z (fun _ u => u = .func (.func f) #[] #[])) (hf : P.funcs[f]? = some fn) (hB : (!(fn.name == "runtime.NumGoroutine") && fn.body.isSome) = true) (hw : Wt ops L Φ w0 a0 o true)
  (hx:Ev L Φ w0 a0 o x F) (hy:Ev L Φ w0 a0 o y G) (hc:∀ w u v,Below w0.heap.size w0 w->F w u->G w v->Calls P f #[u,v] w (zH9 (ph Φ i) w)):Ob P Q ops L Φ w0 a0 i o :=
 qL0 hf hB hw (by unfold isA;rw [hop]) fun ms w hS=>⟨#[(zD5 a0 L ms).eval x,(zD5 a0 L ms).eval y],jD9 hop (hz ms w hS) (by simp),hc w _ _ hS.bQ (hx ms w hS) (hy ms w hS)⟩
end
def qB7 (qs:List Rat) (w:World) (e:Ending) (w':World):Prop:=∃ g,e=.returned (.tuple #[.slice (some ⟨g,0,none⟩) qs.length qs.length,.int .i64 0])/\zD2 w' g qs.length qs/\w.heap.size<=g/\Below w.heap.size w w'
def prn (n:Nat) (qs:List Rat) (B:Nat):Pd:=⟨fun w t => ∃ g,t=.tuple #[.slice (some ⟨g,0,none⟩) n n,.int .i64 0]/\zD2 w g n qs/\B<=g,fun h hb=>by obtain ⟨g,e,h1,h2⟩:=h;exact ⟨g,e,h1.bQ hb,h2⟩⟩
def pro (n:Nat) (qs:List Rat) (B:Nat):Pd:=⟨fun w v => ∃ g,v=.slice (some ⟨g,0,none⟩) n n/\zD2 w g n qs/\B<=g,fun h hb=>by obtain ⟨g,e,h1,h2⟩:=h;exact ⟨g,e,h1.bQ hb,h2⟩⟩
theorem qB7.pd {n:Nat} {qs:List Rat} {w:World} {e:Ending} {w':World} {B:Nat} (h:qB7 qs w e w') (hn:qs.length=n) (hB:B<=w.heap.size):zH9 (prn n qs B) w e w':=by
 obtain ⟨g,h1,h2,h3,h4⟩:=h;rw [hn] at h1 h2;exact ⟨_,h1,⟨g,rfl,h2,zB2 hB h3⟩,h4⟩
section
variable {P:Program} {Q:Exit->Act->World->Prop} {ops:Array Oper} {L:List Oper} {Φ : List Pd} {w0:World} {a0:Act} {i:Nat} {o:Oper}
theorem jE {t:TypeId} {x y:Operand} (n:Nat) (hop:o.op=.makeSlice t x y) (hg:o.guard=none) (hx:Ev L Φ w0 a0 o x (fun _ u=>u=.int .i64 (n:Int))) (hy:Ev L Φ w0 a0 o y (fun _ u=>u=.int .i64 (n:Int))) (ht:P.underlying t=some (.slice 83)) (hI:∃ i,P.info? 83=some i/\i.zero=some (.agg #[.bool false,.slice none 0 0,.slice none 0 0])/\i.size=3/\i.bytes=56) (hn:n<=1000000000)
  (hP:∀ w v,(pro n [] w0.heap.size).p w v->(ph Φ i).p w v):Ob P Q ops L Φ w0 a0 i o:=by
 intro ms w hS;rw [if_pos (zB3 (ops:=ops) (L:=L) (Φ:=Φ) (w0:=w0) (a0:=a0) hg ms w hS)];obtain ⟨w',h1,h2,h3⟩:=qV2 (P:=P) (w:=w) ht hI n hn
 have hr:(execOp (zD5 a0 L ms).eval o).run P w=.ok (.value (.slice (some ⟨w.heap.size,0,none⟩) n n)) w':=by
  unfold execOp;simp only [hop,hx ms w hS,hy ms w hS,Sem.run_bind,h1,Result.andThen_ok]
  rfl
 unfold Oper.wp;rw [hr];exact ⟨_,rfl,h3,hP _ _ ⟨_,rfl,h2,hS.bQ.size⟩,fun h=>by unfold isA at h;rw [hop] at h;cases h⟩
end
theorem zR9 (g i:Nat):(⟨g,0,none⟩:Addr).add i=⟨g,i,none⟩:=by
 unfold Addr.add;by_cases h:i=0
 ·simp [h]
 ·simp [h]
def zG1 (w:World) (g:Nat) (TS:TypeId) (us:List Value):Prop:=Blk w g TS us.toArray /\ ∀ u∈us,∃ A n c,u=.slice A n c
theorem zG1.bQ {w w':World} {g:Nat} {TS:TypeId} {us:List Value} (h:zG1 w g TS us) (hb:Below w.heap.size w w'):zG1 w' g TS us:=⟨h.1.bQ hb,h.2⟩
theorem zG1.lt {w:World} {g:Nat} {TS:TypeId} {us:List Value} (h:zG1 w g TS us):g<w.heap.size:=h.1.lt
theorem zG1.cell {w:World} {g:Nat} {TS:TypeId} {us:List Value} (h:zG1 w g TS us) {i:Nat} {u:Value} (hu:us[i]?=some u):w.cell? ((⟨g,0,none⟩:Addr).add i)=some u:=by
 rw [zR9,h.1.cell,bW8];exact hu
theorem zG1.keep {w w':World} {g:Nat} {TS:TypeId} {us:List Value} {k:IntKind} {v:Value} {l:List Nat} (h:zG1 w g TS us) (hg:w.grownBy w' (some g)) (hs:IsS w k v l):IsS w' k v l :=
 flow.off hs h.1 (fun c hc n e=>by
  obtain ⟨A,m,d,e1⟩:=h.2 c (List.mem_toArray.1 hc);rw [e1] at e;cases e) hg
theorem zG1.keepF {w w':World} {g:Nat} {TS:TypeId} {us:List Value} {k:IntKind} {B:Nat} {v:Value} {r:List Rat} (h:zG1 w g TS us) (hg:w.grownBy w' (some g)) (hs:SlF k B w v r):SlF k B w' v r:=by
 obtain ⟨ps,h1,⟨A,c,e,h2,h3,h4⟩,h5⟩:=hs;refine ⟨ps,h1,⟨A,c,e,h2,h3,fun i p hp => ?_⟩,fun p hp=>⟨h.keep hg (h5 p hp).1,h.keep hg (h5 p hp).2⟩⟩;obtain ⟨g',o,e2,c0,c1,c2⟩:=h4 i p hp
 have hne:some g'≠some g:=by
  intro e3;injection e3 with e3;subst e3;rw [h.1.cell,bW8] at c0;obtain ⟨A',m,d,e4⟩:=h.2 _ (zA5 c0);cases e4
 exact ⟨g',o,e2,hg.cell c0 hne,hg.cell c1 hne,hg.cell c2 hne⟩
theorem zG1.put {w w':World} {g i:Nat} {TS:TypeId} {us:List Value} {u:Value} (h:zG1 w g TS us) (hB:w'.heap[g]?=some (.cells (us.toArray.setIfInBounds i u) TS (0,0))) (hu:∃ A n c,u=.slice A n c):zG1 w' g TS (us.set i u):=by
 refine ⟨by unfold Blk;rw [hB];simp,fun v hv => ?_⟩;rcases bW3 hv with hv | rfl
 ·exact h.2 v hv
 ·exact hu
theorem zG1.grown {w w':World} {g:Nat} {TS:TypeId} {us:List Value} {row:Option Nat} (h:zG1 w g TS us) (hg:w.grownBy w' row) (hne:row≠some g):zG1 w' g TS us :=
 ⟨(hg.block g h.1.lt (fun e=>hne e.symm)).trans h.1,h.2⟩
def zD7 (k:IntKind) (B:Nat) (w:World) (g:Nat) (TS:TypeId) (us:List Value) (t:List (List Rat)):Prop:=zG1 w g TS us/\us.length=t.length /\ ∀ (i:Nat) (u:Value) (r:List Rat),us[i]?=some u->t[i]?=some r->SlF k B w u r
theorem zD7.bQ {k:IntKind} {B:Nat} {w w':World} {g:Nat} {TS:TypeId} {us:List Value} {t:List (List Rat)} (h:zD7 k B w g TS us t) (hb:Below w.heap.size w w'):zD7 k B w' g TS us t:=⟨h.1.bQ hb,h.2.1,fun i u r hu hr=>(h.2.2 i u r hu hr).bQ hb⟩
theorem zD7.drew {k:IntKind} {B:Nat} {w:World} {g:Nat} {TS:TypeId} {us:List Value} {t:List (List Rat)} (h:zD7 k B w g TS us t):zD7 k B w.drew g TS us t:=h.bQ (Below.refl _ w).drew
theorem zD7.lt {k:IntKind} {B:Nat} {w:World} {g:Nat} {TS:TypeId} {us:List Value} {t:List (List Rat)} (h:zD7 k B w g TS us t):g<w.heap.size:=h.1.lt
theorem zD7.put {k:IntKind} {B:Nat} {w w':World} {g i:Nat} {TS:TypeId} {us:List Value} {t:List (List Rat)} {u:Value} {r:List Rat} (h:zD7 k B w g TS us t) (hg:w.grownBy w' (some g)) (hB:w'.heap[g]?=some (.cells (us.toArray.setIfInBounds i u) TS (0,0))) (hu:SlF k B w u r):zD7 k B w' g TS (us.set i u) (t.set i r):=by
 obtain ⟨A,c,eu,_⟩:=hu.shape;refine ⟨h.1.put hB ⟨_,_,_,eu⟩,by rw [bQ5,bQ5];exact h.2.1,fun j x y hx hy => ?_⟩;by_cases hj:i=j
 ·subst hj;have hi:i<us.length:=by have:=(zA4.1 hx).1;rwa [bQ5] at this
  rw [bQ3 hi] at hx;rw [bQ3 (by rw [<- h.2.1];exact hi)] at hy;injection hx with hx;injection hy with hy;subst hx;subst hy;exact h.1.keepF hg hu
 ·rw [bW1 hj] at hx hy;exact h.1.keepF hg (h.2.2 j x y hx hy)
theorem zD7.slT {k:IntKind} {B:Nat} {w:World} {g n:Nat} {TS:TypeId} {us:List Value} {t:List (List Rat)} (h:zD7 k B w g TS us t) (hn:t.length=n) (hm:n<=1000000000):SlT k B w (.slice (some ⟨g,0,none⟩) n n) t :=
 ⟨us,h.2.1,⟨some ⟨g,0,none⟩,n,by rw [h.2.1,hn],by rw [h.2.1,hn];exact zB1 _,by unfold maxLen;omega,fun i u hu=>⟨_,rfl,h.1.cell hu⟩⟩,h.2.2⟩
theorem zG1.bare {k:IntKind} {B:Nat} {w:World} {g n:Nat} {TS:TypeId} (h:zG1 w g TS (zB n (.slice none 0 0))):zD7 k B w g TS (zB n (.slice none 0 0)) (zB n []) :=
 ⟨h, by simp, fun i u r hu hr => by
  have h1:=(List.mem_replicate.1 (zA5 hu)).2;have h2:=(List.mem_replicate.1 (zA5 hr)).2;subst h1;subst h2;exact slF_nil _ _ _⟩
def zS {α : Type} (T:List (List α)) (k n:Nat):List (List α):=T.take k ++ zB (n-k) []
theorem jE0 {α : Type} (T:List (List α)) (n:Nat):zS T 0 n=zB n []:=by simp [zS]
theorem jE1 {α : Type} {T:List (List α)} {n:Nat} (h:T.length=n):zS T n n=T:=by simp [zS,<- h]
theorem jE2 {α : Type} {T:List (List α)} {k n:Nat} {r:List α} (h:T.length=n) (hr:T[k]?=some r):(zS T k n).set k r=zS T (k+1) n:=by
 have hk:k<T.length:=(zA4.1 hr).1;unfold zS;have hl:(T.take k).length=k:=by rw [bQ7];omega
 rw [List.set_append_right _ _ (by omega),hl,Nat.sub_self,show n-k=(n-(k+1))+1 from by omega,List.replicate_succ,zA2,List.take_add_one,hr];simp
section
variable {P:Program}
theorem qH2 {w:World} {t TS:TypeId} (ht:P.underlying t=some (.slice TS)) (hI:∃ i,P.info? TS=some i/\i.zero=some (.slice none 0 0)/\i.size=1/\i.bytes=24) (n:Nat) (hn:n<=1000000000) :
  ∃ w',(Instr.makeSlice t (.int .i64 (n:Int)) (.int .i64 (n:Int))).run P w=.ok (.slice (some ⟨w.heap.size,0,none⟩) n n) w'/\zG1 w' w.heap.size TS (zB n (.slice none 0 0))/\Below w.heap.size w w':=by
 obtain ⟨i,hi,hz,hs,hb⟩:=hI;obtain ⟨w',h1,h2,h3⟩:=run_make_full (P:=P) w w.heap.size t TS i _ 1 ht hi hz hs .i64 .i64 n (by rw [hb];omega) (by unfold maxLen;omega) (zB1 _);refine ⟨w',h1,⟨?_,fun u hu=>⟨_,_,_,(List.mem_replicate.1 hu).2⟩⟩,(Below.refl _ w).grown h3 (zB1 _) (fun g hg=>by cases hg)⟩;obtain ⟨hl,h2⟩:=h2;rcases h2 with ⟨h4,_⟩|⟨g,cap,cur,h4,_,h5,_,_,h6,h7⟩
 ·cases h4
 ·injection h4 with h4 _ h8;injection h4 with h4;injection h4 with h4 _ _;subst h4;subst h8;rw [zA7 (by simp [h6])] at h7
  have e:cur=(zB n (Value.slice none 0 0)).toArray:=by
   have e1:(madeCells (Value.slice none 0 0).cells (n*1)).toList=zB n (.slice none 0 0):=by rw [Nat.mul_one];exact toList_madeCells_one _ _
   rw [<- e1,<- h7]
  rw [<- e];exact h5
end
end rat
namespace flow
open Go.RowKit num mem whl rat
def qB8 (n:Nat) (TS:TypeId) (B:Nat):Pd:=⟨fun w v => ∃ g,v=.slice (some ⟨g,0,none⟩) n n/\zG1 w g TS (zB n (.slice none 0 0))/\B<=g,fun h hb=>by obtain ⟨g,e,h1,h2⟩:=h;exact ⟨g,e,h1.bQ hb,h2⟩⟩
section
variable {P:Program} {Q:Exit->Act->World->Prop} {ops:Array Oper} {L:List Oper} {Φ : List Pd} {w0:World} {a0:Act} {i:Nat} {o:Oper}
theorem jE3 {t TS:TypeId} {x y:Operand} (n:Nat) (hop:o.op=.makeSlice t x y) (hg:o.guard=none) (hx:Ev L Φ w0 a0 o x (fun _ u=>u=.int .i64 (n:Int))) (hy:Ev L Φ w0 a0 o y (fun _ u=>u=.int .i64 (n:Int))) (ht:P.underlying t=some (.slice TS)) (hI:∃ i,P.info? TS=some i/\i.zero=some (.slice none 0 0)/\i.size=1/\i.bytes=24) (hn:n<=1000000000)
  (hP:∀ w v,(qB8 n TS w0.heap.size).p w v->(ph Φ i).p w v):Ob P Q ops L Φ w0 a0 i o:=by
 intro ms w hS;rw [if_pos (zB3 (ops:=ops) (L:=L) (Φ:=Φ) (w0:=w0) (a0:=a0) hg ms w hS)];obtain ⟨w',h1,h2,h3⟩:=qH2 (P:=P) (w:=w) ht hI n hn
 have hr:(execOp (zD5 a0 L ms).eval o).run P w=.ok (.value (.slice (some ⟨w.heap.size,0,none⟩) n n)) w':=by
  unfold execOp;simp only [hop,hx ms w hS,hy ms w hS,Sem.run_bind,h1,Result.andThen_ok]
  rfl
 unfold Oper.wp;rw [hr];exact ⟨_,rfl,h3,hP _ _ ⟨_,rfl,h2,hS.bQ.size⟩,fun h=>by unfold isA at h;rw [hop] at h;cases h⟩
end
end flow
namespace rat
open Go.RowKit num mem nat txt str flow whl
structure TabO (k:IntKind) (B:Nat) (T:TypeId) (w:World) (base:Nat) (TS:TypeId) (V:Value) (us:List Value) (pss:List (List Elt)):Prop where
 row:zD w base TS V us
 len:us.length=pss.length
 own:∀ (i:Nat) (u:Value) (ps:List Elt),us[i]?=some u->pss[i]?=some ps->zD0 T w base u ps
 far:∀ u∈us,∀ ps∈pss,zG3 k B w u ps
 farV:∀ ps∈pss,zG3 k B w V ps
 apart:∀ (i j:Nat) (u v:Value),i≠j->us[i]?=some u->us[j]?=some v -> ∀ h,u.ownBlock=some h->v.ownBlock≠some h
theorem TabO.bQ {k:IntKind} {B:Nat} {T:TypeId} {w w':World} {base:Nat} {TS:TypeId} {V:Value} {us:List Value} {pss:List (List Elt)} (h:TabO k B T w base TS V us pss) (hb:Below w.heap.size w w'):TabO k B T w' base TS V us pss :=
 ⟨h.row.bQ hb,h.len,fun i u ps hu hp=>(h.own i u ps hu hp).bQ hb,fun u hu ps hp=>(h.far u hu ps hp).bQ hb,fun ps hp=>(h.farV ps hp).bQ hb,h.apart⟩
def zE (pss:List (List Elt)):List (List Rat):=pss.map fun ps=>ps.map (·.1)
theorem TabO.slT {k:IntKind} {B:Nat} {T:TypeId} {w:World} {base:Nat} {TS:TypeId} {V:Value} {us:List Value} {pss:List (List Elt)} (h:TabO k B T w base TS V us pss):SlT k B w V (zE pss):=by
  refine ⟨us,by rw [zE,zA9];exact h.len,?_,fun i u r hu hr => ?_⟩
  · rcases h.row.2 with ⟨rfl,h0⟩|⟨g,cap,cur,rfl,_,hg,hn,hm,_,_⟩
    · obtain rfl:us=[]:=List.length_eq_zero_iff.1 h0;exact ⟨none,0,rfl,by simp,by unfold maxLen;omega,fun i u hu=>by simp at hu⟩
    · exact ⟨_,cap,rfl,hn,hm,fun i u hu=>⟨_,rfl,World.ownsRow.cells h.row (g:=g) rfl i u hu⟩⟩
  rw [zE,bQ8] at hr
  cases hp:pss[i]? with
  | none=>rw [hp] at hr;cases hr
  | some ps =>
    rw [hp] at hr;obtain rfl:ps.map (·.1)=r:=by simpa using hr
    exact (h.own i u ps hu hp).sl (h.far u (zA5 hu) ps (zA5 hp))
theorem zG1.rowV {w:World} {base g n:Nat} {TS:TypeId} {us:List Value} (h:zG1 w g TS us) (hn:us.length=n) (hb:base<=g) (hm:n<=1000000000):zD w base TS (.slice (some ⟨g,0,none⟩) n n) us:=by
 unfold zD;rw [hn];exact ⟨by simp [hn],.inr ⟨g,n,us.toArray,rfl,hb,h.1,zB1 _,by unfold maxLen;omega,by simp [hn],by simp [<- hn]⟩⟩
theorem zG1.owned {k:IntKind} {B:Nat} {T:TypeId} {w:World} {base g n:Nat} {TS:TypeId} (h:zG1 w g TS (zB n (.slice none 0 0))) (hb:base<=g) (hm:n<=1000000000):TabO k B T w base TS (.slice (some ⟨g,0,none⟩) n n) (zB n (.slice none 0 0)) (zB n []):=by
 have key:∀ u∈zB n (Value.slice none 0 0),u=.slice none 0 0:=fun u hu=>(List.mem_replicate.1 hu).2;refine ⟨h.rowV (by simp) hb hm,by simp,fun i u ps hu hp => ?_,fun u hu ps hp => ?_,fun ps hp => ?_,fun i j u v _ hu hv q hq => ?_⟩
 ·have h1:=key u (zA5 hu);have h2:=(List.mem_replicate.1 (zA5 hp)).2;subst h1;subst h2;exact qS7 _ _ _
 ·rw [(List.mem_replicate.1 hp).2];exact zG3.nil _ _ _ _
 ·rw [(List.mem_replicate.1 hp).2];exact zG3.nil _ _ _ _
 ·rw [key u (zA5 hu)] at hq;cases hq
theorem zD0.notRow {T TS:TypeId} {w:World} {base base':Nat} {v V:Value} {ps:List Elt} {us:List Value} (h:zD0 T w base v ps) (hV:zD w base' TS V us) (hne:T≠TS):∀ g,v.ownBlock=some g->V.ownBlock≠some g:=by
 intro g e e2;rcases h.2 with ⟨rfl,_⟩|⟨g',cap,cur,rfl,_,hg,_⟩
 ·cases e
 ·rcases hV.2 with ⟨rfl,_⟩|⟨g2,cap2,cur2,rfl,_,hg2,_⟩
  ·cases e2
  ·have e1:g'=g:=by simpa [Value.ownBlock] using e
   have e3:g2=g:=by simpa [Value.ownBlock] using e2
   subst e1;subst e3;rw [hg] at hg2;injection hg2 with hg2;injection hg2 with _ hg2;exact hne hg2
theorem zV {α : Type} {l:List α} {i j:Nat} {a x : α} (h:(l.set i a)[j]?=some x):(i=j/\x=a)\/(i≠j/\l[j]?=some x):=by
 by_cases e:i=j
 ·subst e;have hi:i<l.length:=by have:=(zA4.1 h).1;rwa [bQ5] at this
  rw [bQ3 hi] at h;injection h with h;exact .inl ⟨rfl,h.symm⟩
 ·rw [bW1 e] at h;exact .inr ⟨e,h⟩
theorem TabO.put {k:IntKind} {B:Nat} {T:TypeId} {w w1:World} {base g n c i:Nat} {TS:TypeId} {us:List Value} {pss:List (List Elt)} {u u':Value} {ps new:List Elt} (hT:T≠TS) (h:TabO k B T w base TS (.slice (some ⟨g,0,none⟩) n c) us pss) (hu:us[i]?=some u) (hps:pss[i]?=some ps) (hrow:zD0 T w1 base u' (ps ++ new)) (hgr:zH5 w w1 u u') (hnew:zG3 k B w1 u' new) (hfar:∀ v∈us,∀ p∈new,Far v p.2.1/\Far v p.2.2) (hfarV:∀ p∈new,Far (.slice (some ⟨g,0,none⟩) n c) p.2.1/\Far (.slice (some ⟨g,0,none⟩) n c) p.2.2) :
  TabO k B T (w1.setCell ⟨g,i,none⟩ u') base TS (.slice (some ⟨g,0,none⟩) n c) (us.set i u') (pss.set i (ps ++ new)):=by
 obtain ⟨k1,k2,k3⟩:=hgr;have hui:=h.own i u ps hu hps;have hs:=zE9 w1 g i u';have hV:Value.ownBlock (.slice (some ⟨g,0,none⟩) n c)=some g:=rfl;have hng:u.ownBlock≠some g:=fun e=>hui.notRow h.row hT g e hV;have ht1:zD w1 base TS (.slice (some ⟨g,0,none⟩) n c) us:=World.ownsRow.kept (row:=u.ownBlock) h.row k2 (.inr (by rw [hV];exact fun e=>hng e.symm));have hum:=zA5 hu;have off2:∀ {l:List Nat} {x:Value},IsS w1 k x l->Far (.slice (some ⟨g,0,none⟩) n c) x->IsS (w1.setCell ⟨g,i,none⟩ u') k x l:=fun a b=>a.farKept b hs
 have lift:∀ p,IsE k B w p->Far u p.2.1->Far u p.2.2->Far (.slice (some ⟨g,0,none⟩) n c) p.2.1->Far (.slice (some ⟨g,0,none⟩) n c) p.2.2->IsE k B (w1.setCell ⟨g,i,none⟩ u') p/\Far u' p.2.1/\Far u' p.2.2:=fun p a b c d e=>by
  have x1:=k1 _ _ _ a.1 b;have x2:=k1 _ _ _ a.2 c;exact ⟨⟨off2 x1.1 d,off2 x2.1 e⟩,x1.2,x2.2⟩
 have hall:∀ qs∈pss.set i (ps ++ new),∀ p∈qs,IsE k B (w1.setCell ⟨g,i,none⟩ u') p/\(Far u' p.2.1/\Far u' p.2.2)/\(∀ v∈us,Far v p.2.1/\Far v p.2.2)/\Far (.slice (some ⟨g,0,none⟩) n c) p.2.1/\Far (.slice (some ⟨g,0,none⟩) n c) p.2.2:=by
  intro qs hqs p hp
  have hpq:(p∈new) \/ ∃ qs'∈pss,p∈qs':=by
   rcases bW3 hqs with hqs | rfl
   ·exact .inr ⟨qs,hqs,hp⟩
   ·rcases List.mem_append.1 hp with hp | hp
    ·exact .inr ⟨ps,zA5 hps,hp⟩
    ·exact .inl hp
  rcases hpq with hp | ⟨qs',hq',hp⟩
  ·obtain ⟨e1,f1,f2⟩:=hnew p hp;have fV:=hfarV p hp;exact ⟨⟨off2 e1.1 fV.1,off2 e1.2 fV.2⟩,⟨f1,f2⟩,fun v hv=>hfar v hv p hp,fV⟩
  ·obtain ⟨e1,f1,f2⟩:=h.far u hum qs' hq' p hp;have fV:=(h.farV qs' hq' p hp).2;obtain ⟨e2,f3,f4⟩:=lift p e1 f1 f2 fV.1 fV.2;exact ⟨e2,⟨f3,f4⟩,fun v hv=>(h.far v hv qs' hq' p hp).2,fV⟩
 refine ⟨ht1.stored i u',by rw [bQ5,bQ5];exact h.len,fun j x y hx hy => ?_,fun v hv qs hqs p hp => ?_,fun qs hqs p hp=>⟨(hall qs hqs p hp).1,(hall qs hqs p hp).2.2.2⟩,fun a b x y hab hx hy q hq hq2 => ?_⟩
 ·rcases zV hx with ⟨rfl,rfl⟩|⟨hj,hx⟩
  ·rcases zV hy with ⟨_,rfl⟩|⟨hj,_⟩
   ·exact hrow.other hs fun q hq e=>hrow.notRow ht1 hT q hq e
   ·exact absurd rfl hj
  ·rcases zV hy with ⟨e,_⟩|⟨_,hy⟩
   ·exact absurd e hj
   ·have r0:=h.own j x y hx hy;have r1:=r0.other k2 fun q hq e=>h.apart i j u x hj hu hx q e hq;exact r1.other hs fun q hq e=>r1.notRow ht1 hT q hq e
 ·obtain ⟨e1,f1,f2,_⟩:=hall qs hqs p hp;refine ⟨e1,?_⟩;rcases bW3 hv with hv | rfl
  ·exact f2 v hv
  ·exact f1
 ·rcases zV hx with ⟨rfl,rfl⟩|⟨ha,hx1⟩
  ·rcases zV hy with ⟨e,_⟩|⟨_,hy⟩
   ·exact hab e
   ·obtain ⟨pb,hpb⟩:∃ pb,pss[b]?=some pb:=⟨_,zA3 (by rw [<- h.len];exact (zA4.1 hy).1)⟩;have hlt:=(h.own b y pb hy hpb).under q hq2;exact k3 q hlt (fun e=>h.apart i b u y hab hu hy q e hq2) hq
  ·rcases zV hy with ⟨rfl,rfl⟩|⟨hb,hy1⟩
   ·obtain ⟨pa,hpa⟩:∃ pa,pss[a]?=some pa:=⟨_,zA3 (by rw [<- h.len];exact (zA4.1 hx1).1)⟩;have hlt:=(h.own a x pa hx1 hpa).under q hq;exact k3 q hlt (fun e=>h.apart i a u x ha hu hx1 q e hq) hq2
   ·exact h.apart a b x y hab hx1 hy1 q hq hq2
theorem TabO.cell {k:IntKind} {B:Nat} {T:TypeId} {w:World} {base g n c:Nat} {TS:TypeId} {us:List Value} {pss:List (List Elt)} (h:TabO k B T w base TS (.slice (some ⟨g,0,none⟩) n c) us pss) {i:Nat} {u:Value} (hu:us[i]?=some u):w.cell? ⟨g,i,none⟩=some u:=h.row.cellAt hu
theorem TabO.frozen {k:IntKind} {B:Nat} {T:TypeId} {w:World} {base g n c:Nat} {TS:TypeId} {us:List Value} {pss:List (List Elt)} (h:TabO k B T w base TS (.slice (some ⟨g,0,none⟩) n c) us pss) (i:Nat):w.frozen? ⟨g,i,none⟩=false:=h.row.frozenAt i
theorem TabO.farNew {k:IntKind} {B:Nat} {T:TypeId} {w:World} {base:Nat} {TS:TypeId} {V:Value} {us:List Value} {pss:List (List Elt)} (h:TabO k B T w base TS V us pss) {x:Value} (hx:zE1 w.heap.size x):(∀ v∈us,Far v x)/\Far V x:=by
 refine ⟨fun v hv => ?_,hx.far h.row.under⟩;obtain ⟨i,hi⟩:=List.mem_iff_getElem?.1 hv;obtain ⟨ps,hp⟩:∃ ps,pss[i]?=some ps:=⟨_,zA3 (by rw [<- h.len];exact (zA4.1 hi).1)⟩;exact hx.far (h.own i v ps hi hp).under
theorem qV4 (pss:List (List Elt)) (i:Nat) (ps:List Elt):zE (pss.set i ps)=(zE pss).set i (ps.map (·.1)):=by rw [zE,List.map_set];rfl
theorem qV5 {pss:List (List Elt)} {i:Nat} {ps:List Elt} (h:pss[i]?=some ps):(zE pss)[i]?=some (ps.map (·.1)):=by rw [zE,bQ8,h];rfl
theorem qH3 (pss:List (List Elt)):(zE pss).length=pss.length:=zA9 _
theorem qO5 (n:Nat):zE (zB n [])=zB n []:=by rw [zE,List.map_replicate];rfl
def zK9 (w:World) (v:Value) (ts:List (List (List Rat))):Prop:=∃ us:List Value,us.length=ts.length/\IsV w v us/\us.length<=1000000 /\ ∀ (i:Nat) (u:Value) (t:List (List Rat)),us[i]?=some u->ts[i]?=some t->SlT .u64 4294967296 w u t
theorem zK9.bQ {w w':World} {v:Value} {ts:List (List (List Rat))} (h:zK9 w v ts) (hb:Below w.heap.size w w'):zK9 w' v ts:=by
 obtain ⟨us,h1,h2,h3,h4⟩:=h;exact ⟨us,h1,h2.bQ hb,h3,fun i u t hu ht=>(h4 i u t hu ht).bQ hb⟩
theorem zK9.shape {w:World} {v:Value} {ts:List (List (List Rat))} (h:zK9 w v ts):∃ A c,v=.slice A ts.length c/\ts.length<=c:=by
 obtain ⟨us,h1,⟨A,c,e,h2,_⟩,_⟩:=h;exact ⟨A,c,by rw [e,h1],by omega⟩
theorem zK9.at_ {w:World} {A:Option Addr} {n c i:Nat} {ts:List (List (List Rat))} {t:List (List Rat)} (h:zK9 w (.slice A n c) ts) (hr:ts[i]?=some t):∃ ad Ar cr,A=some ad/\i<n/\w.cell? (ad.add i)=some (.slice Ar t.length cr)/\SlT .u64 4294967296 w (.slice Ar t.length cr) t:=by
 obtain ⟨us,h1,⟨A',c',e,h2,h3⟩,_,h5⟩:=h;injection e with e1 e2 e3;subst e1;subst e2;subst e3;have hi:i<us.length:=by have:=(zA4.1 hr).1;omega
 obtain ⟨ad,ha,hc⟩:=h3 i _ (zA3 hi);have hs:=h5 i _ t (zA3 hi) hr;obtain ⟨Ar,cr,e,_,_⟩:=hs.shape;rw [e] at hc hs;exact ⟨ad,Ar,cr,ha,hi,hc,hs⟩
theorem SlT.place {k:IntKind} {B:Nat} {w:World} {A:Option Addr} {n c:Nat} {t:List (List Rat)} (h:SlT k B w (.slice A n c) t) (hne:t≠[]):∃ ad,A=some ad:=by
 obtain ⟨r,hr⟩:∃ r,t[0]?=some r:=⟨_,zA3 (List.length_pos_iff.2 hne)⟩;obtain ⟨ad,_,_,e,_⟩:=h.at_ hr;exact ⟨ad,e⟩
theorem SlT.at2 {k:IntKind} {B:Nat} {w:World} {ad:Addr} {n c i:Nat} {t:List (List Rat)} {r:List Rat} (h:SlT k B w (.slice (some ad) n c) t) (hr:t[i]?=some r):∃ Ar cr,i<n/\w.cell? (ad.add i)=some (.slice Ar r.length cr)/\SlF k B w (.slice Ar r.length cr) r:=by
 obtain ⟨ad',Ar,cr,e,h1,h2,h3⟩:=h.at_ hr;injection e with e;subst e;exact ⟨Ar,cr,h1,h2,h3⟩
theorem zK9.place {w:World} {A:Option Addr} {n c:Nat} {ts:List (List (List Rat))} (h:zK9 w (.slice A n c) ts) (hne:ts≠[]):∃ ad,A=some ad:=by
 obtain ⟨r,hr⟩:∃ r,ts[0]?=some r:=⟨_,zA3 (List.length_pos_iff.2 hne)⟩;obtain ⟨ad,_,_,e,_⟩:=h.at_ hr;exact ⟨ad,e⟩
theorem zK9.at2 {w:World} {ad:Addr} {n c i:Nat} {ts:List (List (List Rat))} {t:List (List Rat)} (h:zK9 w (.slice (some ad) n c) ts) (hr:ts[i]?=some t):∃ Ar cr,i<n/\w.cell? (ad.add i)=some (.slice Ar t.length cr)/\SlT .u64 4294967296 w (.slice Ar t.length cr) t:=by
 obtain ⟨ad',Ar,cr,e,h1,h2,h3⟩:=h.at_ hr;injection e with e;subst e;exact ⟨Ar,cr,h1,h2,h3⟩
theorem slT_one {k:IntKind} {B:Nat} {w:World} {v u:Value} {r:List Rat} (h:IsV w v [u]) (hs:SlF k B w u r) (hc:∀ A n c,v=.slice A n c->c<=maxLen):SlT k B w v [r]:=by
 obtain ⟨A,c,e,h2,h3⟩:=h;refine ⟨[u],rfl,⟨A,c,e,h2,hc _ _ _ e,h3⟩,fun i x y hx hy => ?_⟩;rcases i with _ | i
 ·obtain rfl:u=x:=by simpa using hx
  obtain rfl:r=y:=by simpa using hy
  exact hs
 ·simp at hx
section
variable {P:Program} {Q:Exit->Act->World->Prop} {ops:Array Oper} {L:List Oper} {Φ : List Pd} {w0:World} {a0:Act} {i:Nat} {o:Oper}
end
theorem yH6 (w:World):Calls prog 41 #[.int .i64 0] w (RetQ (0:Rat) w):=qH 0 w (by omega) (by omega)
theorem jE4 (w:World):Calls prog 41 #[.int .i64 1] w (RetQ (1:Rat) w):=qH 1 w (by omega) (by omega)
def qH4 (qs:List Rat) (w:World) (e:Ending) (w':World):Prop:=∃ g,e=.returned (.slice (some ⟨g,0,none⟩) qs.length qs.length)/\zD2 w' g qs.length qs/\w.heap.size<=g/\Below w.heap.size w w'
theorem qH4.pd {n:Nat} {qs:List Rat} {w:World} {e:Ending} {w':World} {B:Nat} (h:qH4 qs w e w') (hn:qs.length=n) (hB:B<=w.heap.size):zH9 (pro n qs B) w e w':=by
 obtain ⟨g,h1,h2,h3,h4⟩:=h;rw [hn] at h1 h2;exact ⟨_,h1,⟨g,rfl,h2,zB2 hB h3⟩,h4⟩
theorem jE5 (n:Int) (d:Nat) (w:World) (hn:n=(d:Int)) (hd:d<=200) :
  Calls prog 181 #[.int .i64 n] w (qH4 (zK6 d) w):=by
 have bb:Below w.heap.size w w:=Below.refl _ _;subst hn;have HZL:Hid ((zK6 d).length=d):=qB1 d
 go_enter func181,ntmps181
 go_upto_region 1 with (fail)
 have hsz0:=bb.size
 go_wp2_with (at_make;refine qV3 rfl _ _ rfl underlying44 zQ6 d rfl rfl (by omega) ?_;intro wm RN hbm)
 replace bb:=bb.trans (hbm.mono bb.size);have hsz1:=bb.size;obtain ⟨g,hg⟩:∃ g,g=w.heap.size:=⟨_,rfl⟩;rw [<- hg] at RN |-;have hg_:w.heap.size<=g:=by omega
 clear hg;have hg:=hg_;clear hg_;go_wp2
 go_loopw [9] (fun v9 wr => ∃ k:Nat,k<=d/\zD2 wr g d ((zK6 d).take k)/\Below w.heap.size w wr/\v9=.int .i64 (k:Int)) (fun v9 _=>d-(intOf v9).toNat)
 case atStart=>exact ⟨0,by omega,RN,bb,rfl⟩
 case round =>
  obtain ⟨k,hk,hR,hbw,rfl⟩:=hrel;clear RN bb;have RN:=hR;have bb:=hbw;clear hR hbw;have hszr:=bb.size;have hgl:=RN.lt;by_cases hlt:k<d
  ·have HTK:Hid ((zK6 d).take (k+1)=(zK6 d).take k ++ [0]):=zQ7 (yZ0 hlt);have HLK:Hid (k=((zK6 d).take k).length):=by show _=_;rw [bQ7,HZL.out];omega
   have sB:=bb.size;go_upto_region 5 with (fail);refine zC3 4 [Pd.eq (.slice (some ⟨g,0,none⟩) d d),Pd.eq (.int .i64 (k:Int)),pq ((0:Rat)) wr.heap.size,Pd.eq (.pointer (some ⟨g,0+k*3,none⟩))] (by kernel_rfl) ?ob1 ?done1
   case ob1 =>
    refine zA (zB8 rfl (zB3 rfl) (zB5 rfl rfl) (fun _ _ h=>h)) ?_;refine zA (zB8 rfl (zB3 rfl) (zB5 rfl rfl) (fun _ _ h=>h)) ?_;refine zA (zE7 rfl func41 (by kernel_rfl) (zB3 rfl) (zF8 _) (fun w2 u0 hb h0=>by obtain rfl:=h0;exact (yH6 _).mono fun e w3 h=>RetQ.pd h hb.size)) ?_;refine zA (zI rfl (zB3 rfl) (zB4 (j:=0) (by kernel_rfl) rfl rfl) (zB4 (j:=1) (by kernel_rfl) rfl rfl) (fun _ _ _ hx hy=>⟨_,by rw [hx,hy];exact zG6 (k:=k) underlying44 (by kernel_rfl) hlt _,rfl⟩)) ?_
    trivial
   case done1 =>
    refine fun w3 hb3 v0 h0 v1 h1 v2 h2 v3 h3 b hbf => ?_;obtain rfl:=h0;obtain rfl:=h1;obtain rfl:=h3;obtain ⟨q2,f2⟩:=h2;simp only [Act.put,zA0,zA2,zA1] at hbf;subst hbf;replace RN:=RN.bQ hb3;replace bb:=bb.trans (hb3.mono bb.size);have hsz3:=bb.size;have s_2:=sB;obtain ⟨u2,t2,rfl,q2,d2⟩:=q2;obtain ⟨A9,c9,rfl,_⟩:=id q2;obtain ⟨D9,e9,rfl,_⟩:=id d2;refine qH1 (j:=4) rfl rfl rfl rfl (g:=g) (i:=k) (q:=(0:Rat)) rfl rfl (by kernel_rfl) RN hlt q2 d2 fun w4 hg4 hP4 => ?_;replace bb:=bb.trans ((Below.refl _ _).grown hg4 bb.size (fun g hg=>by injection hg with hg;omega));have hsz4:=bb.size;replace RN:=hP4.1 HLK.out;clear hP4;refine zC4 ?_;rw [<- HTK.out] at RN;have hsk:d-(k+1)<d-k:=by omega
    go_wp2;go_roundw;case rel=>exact ⟨k+1,by omega,RN,bb,by go_num⟩
    case measure=>simp [intOf];omega
  ·rw [zA7 (by rw [HZL.out];omega)] at RN;go_wp2;go_ret;exact ⟨g,by rw [HZL.out];rfl,by rw [HZL.out];exact RN,hg,bb⟩
theorem jE6 (n:Int) (d:Nat) (w:World) (hn:n=(d:Int)) (hd:d<=200) :
  Calls prog 155 #[.int .i64 n] w (qB7 (zK6 d) w):=by
 have bb:Below w.heap.size w w:=Below.refl _ _;subst hn;have HL:Hid (decide ((d:Int)<0)=false):=decide_eq_false (by omega);have HG:Hid (decide (200<(d:Int))=false):=decide_eq_false (by omega);have HZL:Hid ((zK6 d).length=d):=qB1 d
 go_enter func155,ntmps155
 go_upto_region 1 with (fail)
 have hsz0:=bb.size;have sB:=bb.size;refine zC3 6 [Pd.eq (.int .i64 (d:Int)),Pd.eq (.bool false),Pd.eq (.bool false),Pd.eq (.int .i64 (d:Int)),Pd.eq (.bool false),Pd.eq (.bool false)] (by kernel_rfl) ?ob4 ?done4
 case ob4 =>
  refine zA (zB8 rfl (zB3 rfl) (zB5 rfl rfl) (fun _ _ h=>h)) ?_;refine zA (zE6 rfl (zB3 rfl) (zB4 (j:=0) (by kernel_rfl) rfl rfl) (zF8 _) (fun _ _ _ hx hy=>⟨.bool false,by rw [hx,hy,yC4,HL.out],rfl⟩)) ?_;refine zA (zB8 rfl (zB3 rfl) (zB4 (j:=1) (by kernel_rfl) rfl rfl) (fun _ _ h=>h)) ?_;refine zA (zB8 rfl (zD8 (c:=false) (b:=false) (g:=2) rfl (by kernel_rfl) rfl rfl rfl (by exact fun _ _ h=>h)) (zB5 rfl rfl) (fun _ _ h=>h)) ?_;refine zA (zE6 rfl (zD8 (c:=false) (b:=false) (g:=2) rfl (by kernel_rfl) rfl rfl rfl (by exact fun _ _ h=>h)) (zB4 (j:=3) (by kernel_rfl) rfl rfl) (zF8 _) (fun _ _ _ hx hy=>⟨.bool false,by rw [hx,hy,yC5,HG.out],rfl⟩)) ?_;refine zA (zO2 (b:=false) rfl (zB3 rfl) (zB4 (j:=2) (by kernel_rfl) rfl rfl) (zB4 (j:=4) (by kernel_rfl) rfl rfl) (fun _ _ h=>h)) ?_
  trivial
 case done4 =>
  refine fun w1 hb1 v0 h0 v1 h1 v2 h2 v3 h3 v4 h4 v5 h5 b hbf => ?_;obtain rfl:=h0;obtain rfl:=h1;obtain rfl:=h2;obtain rfl:=h3;obtain rfl:=h4;obtain rfl:=h5;simp only [Act.put,zA0,zA2,zA1] at hbf;subst hbf;replace bb:=bb.trans (hb1.mono bb.size);have hsz1:=bb.size;refine zC4 ?_;have hw1:=bb.size;have sB:=bb.size;go_upto_region 3 with (fail);refine zC3 4 [Pd.eq (.int .i64 (d:Int)),pro d (zK6 d) w1.heap.size,pro d (zK6 d) w1.heap.size,Pd.eq (.int .i64 0)] (by kernel_rfl) ?ob5 ?done5
  case ob5 =>
   refine zA (zB8 rfl (zB3 rfl) (zB5 rfl rfl) (fun _ _ h=>h)) ?_;refine zA (zE7 rfl func181 (by kernel_rfl) (zB3 rfl) (zB4 (j:=0) (by kernel_rfl) rfl rfl) (fun w2 u0 hb h0=>by obtain rfl:=h0;exact (jE5 _ (d) _ rfl hd).mono fun e w3 h=>qH4.pd h HZL.out hb.size)) ?_;refine zA (zD6 rfl (zB3 rfl) (zB4 (j:=1) (by kernel_rfl) rfl rfl) (fun _ _ h=>h)) ?_;refine zA (zD6 rfl (zB3 rfl) (zF8 _) (fun _ _ h=>h)) ?_
   trivial
  case done5 =>
   refine fun w2 hb2 v0 h0 v1 h1 v2 h2 v3 h3 b hbf => ?_;obtain rfl:=h0;obtain rfl:=h3;obtain ⟨g,rfl,RN,hg⟩:=h1;obtain ⟨g,rfl,RN,hg⟩:=h2;simp only [Act.put,zA0,zA2,zA1] at hbf;subst hbf;replace bb:=bb.trans (hb2.mono bb.size);have hsz2:=bb.size;refine zC4 ?_;go_wp2;go_ret2;exact ⟨_,by rw [HZL.out];rfl,by rw [HZL.out];exact RN,by omega,bb⟩
theorem jE7 (n i:Int) (d k:Nat) (w:World) (hn:n=(d:Int)) (hi:i=(k:Int)) (hd:d<=200) (hk:k<d) :
  Calls prog 134 #[.int .i64 n,.int .i64 i] w (qB7 (zW5 d k) w):=by
 have bb:Below w.heap.size w w:=Below.refl _ _;have HN:=hQ9 hn;have H3:Hid (decide (i<0)=false):=decide_eq_false (by omega);have H4:Hid (decide (n<=i)=false):=decide_eq_false (by omega);have HZL:Hid ((zK6 d).length=d):=qB1 d;have HUL:Hid ((zW5 d k).length=d):=qT4 d k;subst hi;clear hn
 go_enter func134,ntmps134
 go_upto_region 1 with (fail)
 have hsz0:=bb.size;have sB:=bb.size;refine zC3 7 [Pd.eq (.int .i64 n),prn d (zK6 d) w.heap.size,prn d (zK6 d) w.heap.size,pro d (zK6 d) w.heap.size,Pd.eq (.int .i64 0),pro d (zK6 d) w.heap.size,Pd.eq (.int .i64 0)] (by kernel_rfl) ?ob12 ?done12
 case ob12 =>
  refine zA (zB8 rfl (zB3 rfl) (zB5 rfl rfl) (fun _ _ h=>h)) ?_;refine zA (zE7 rfl func155 (by kernel_rfl) (zB3 rfl) (zB4 (j:=0) (by kernel_rfl) rfl rfl) (fun w2 u0 hb h0=>by obtain rfl:=h0;exact (jE6 n d _ HN.out hd).mono fun e w3 h=>qB7.pd h (qB1 d) hb.size)) ?_;refine zA (zB8 rfl (zB3 rfl) (zB4 (j:=1) (by kernel_rfl) rfl rfl) (fun _ _ h=>h)) ?_;refine zA (zF9 rfl (zB3 rfl) (zB4 (j:=2) (by kernel_rfl) rfl rfl) (fun w2 u hu=>by obtain ⟨g_,rfl,q1,q2⟩:=hu;exact ⟨_,rfl,g_,rfl,q1,q2⟩)) ?_;refine zA (zF9 rfl (zB3 rfl) (zB4 (j:=2) (by kernel_rfl) rfl rfl) (fun w2 u hu=>by obtain ⟨g_,rfl,q1,q2⟩:=hu;exact ⟨_,rfl,rfl⟩)) ?_;refine zA (zD6 rfl (zB3 rfl) (zB4 (j:=3) (by kernel_rfl) rfl rfl) (fun _ _ h=>h)) ?_;refine zA (zD6 rfl (zB3 rfl) (zB4 (j:=4) (by kernel_rfl) rfl rfl) (fun _ _ h=>h)) ?_
  trivial
 case done12 =>
  refine fun w1 hb1 v0 h0 v1 h1 v2 h2 v3 h3 v4 h4 v5 h5 v6 h6 b hbf => ?_;obtain rfl:=h0;obtain rfl:=h4;obtain rfl:=h6;clear h1;clear h2;obtain ⟨g,rfl,RN,hg⟩:=h3;obtain ⟨g,rfl,RN,hg⟩:=h5;simp only [Act.put,zA0,zA2,zA1] at hbf;subst hbf;replace bb:=bb.trans (hb1.mono bb.size);have hsz1:=bb.size;refine zC4 ?_;have sB:=bb.size;go_upto_region 2 with (fail);refine zC3 11 [Pd.eq (.int .i64 0),Pd.eq (.bool false),Pd.eq (.bool false),Pd.eq (.int .i64 (k:Int)),Pd.eq (.bool false),Pd.eq (.bool false),Pd.eq (.bool false),Pd.eq (.int .i64 (k:Int)),Pd.eq (.int .i64 n),Pd.eq (.bool false),Pd.eq (.bool false)] (by kernel_rfl) ?ob13 ?done13
  case ob13 =>
   refine zA (zB8 rfl (zB3 rfl) (zB5 rfl rfl) (fun _ _ h=>h)) ?_;refine zA (zE6 rfl (zB3 rfl) (zB4 (j:=0) (by kernel_rfl) rfl rfl) (zF8 _) (fun _ _ _ hx hy=>⟨.bool ((0:Int) != 0),by rw [hx,hy];exact zY5 _ _ _ _ _,congrArg Value.bool (by decide)⟩)) ?_;refine zA (zB8 rfl (zB3 rfl) (zB4 (j:=1) (by kernel_rfl) rfl rfl) (fun _ _ h=>h)) ?_;refine zA (zB8 rfl (zD8 (c:=false) (b:=false) (g:=2) rfl (by kernel_rfl) rfl rfl rfl (by exact fun _ _ h=>h)) (zB5 rfl rfl) (fun _ _ h=>h)) ?_;refine zA (zE6 rfl (zD8 (c:=false) (b:=false) (g:=2) rfl (by kernel_rfl) rfl rfl rfl (by exact fun _ _ h=>h)) (zB4 (j:=3) (by kernel_rfl) rfl rfl) (zF8 _) (fun _ _ _ hx hy=>⟨.bool false,by rw [hx,hy,yC4,H3.out],rfl⟩)) ?_;refine zA (zO2 (b:=false) rfl (zB3 rfl) (zB4 (j:=2) (by kernel_rfl) rfl rfl) (zB4 (j:=4) (by kernel_rfl) rfl rfl) (fun _ _ h=>h)) ?_;refine zA (zB8 rfl (zB3 rfl) (zB4 (j:=5) (by kernel_rfl) rfl rfl) (fun _ _ h=>h)) ?_;refine zA (zB8 rfl (zD8 (c:=false) (b:=false) (g:=6) rfl (by kernel_rfl) rfl rfl rfl (by exact fun _ _ h=>h)) (zB5 rfl rfl) (fun _ _ h=>h)) ?_;refine zA (zB8 rfl (zD8 (c:=false) (b:=false) (g:=6) rfl (by kernel_rfl) rfl rfl rfl (by exact fun _ _ h=>h)) (zB5 rfl rfl) (fun _ _ h=>h)) ?_;refine zA (zE6 rfl (zD8 (c:=false) (b:=false) (g:=6) rfl (by kernel_rfl) rfl rfl rfl (by exact fun _ _ h=>h)) (zB4 (j:=7) (by kernel_rfl) rfl rfl) (zB4 (j:=8) (by kernel_rfl) rfl rfl) (fun _ _ _ hx hy=>⟨.bool false,by rw [hx,hy,qE4,H4.out],rfl⟩)) ?_;refine zA (zO2 (b:=false) rfl (zB3 rfl) (zB4 (j:=6) (by kernel_rfl) rfl rfl) (zB4 (j:=9) (by kernel_rfl) rfl rfl) (fun _ _ h=>h)) ?_
   trivial
  case done13 =>
   refine fun w2 hb2 v0 h0 v1 h1 v2 h2 v3 h3 v4 h4 v5 h5 v6 h6 v7 h7 v8 h8 v9 h9 v10 h10 b hbf => ?_;obtain rfl:=h0;obtain rfl:=h1;obtain rfl:=h2;obtain rfl:=h3;obtain rfl:=h4;obtain rfl:=h5;obtain rfl:=h6;obtain rfl:=h7;obtain rfl:=h8;obtain rfl:=h9;obtain rfl:=h10;simp only [Act.put,zA0,zA2,zA1] at hbf;subst hbf;replace RN:=RN.bQ hb2;replace bb:=bb.trans (hb2.mono bb.size);have hsz2:=bb.size;refine zC4 ?_;have sB:=bb.size;go_upto_region 4 with (fail);refine zC3 4 [Pd.eq (.slice (some ⟨g,0,none⟩) d d),Pd.eq (.int .i64 (k:Int)),pq ((1:Rat)) w2.heap.size,Pd.eq (.pointer (some ⟨g,0+k*3,none⟩))] (by kernel_rfl) ?ob14 ?done14
   case ob14 =>
    refine zA (zB8 rfl (zB3 rfl) (zB5 rfl rfl) (fun _ _ h=>h)) ?_;refine zA (zB8 rfl (zB3 rfl) (zB5 rfl rfl) (fun _ _ h=>h)) ?_;refine zA (zE7 rfl func41 (by kernel_rfl) (zB3 rfl) (zF8 _) (fun w2 u0 hb h0=>by obtain rfl:=h0;exact (jE4 _).mono fun e w3 h=>RetQ.pd h hb.size)) ?_;refine zA (zI rfl (zB3 rfl) (zB4 (j:=0) (by kernel_rfl) rfl rfl) (zB4 (j:=1) (by kernel_rfl) rfl rfl) (fun _ _ _ hx hy=>⟨_,by rw [hx,hy];exact zG6 (k:=k) underlying44 (by kernel_rfl) hk _,rfl⟩)) ?_
    trivial
   case done14 =>
    refine fun w3 hb3 v0 h0 v1 h1 v2 h2 v3 h3 b hbf => ?_;obtain rfl:=h0;obtain rfl:=h1;obtain rfl:=h3;obtain ⟨q2,f2⟩:=h2;simp only [Act.put,zA0,zA2,zA1] at hbf;subst hbf;replace RN:=RN.bQ hb3;replace bb:=bb.trans (hb3.mono bb.size);have hsz3:=bb.size;have s_2:=sB;obtain ⟨u2,t2,rfl,q2,d2⟩:=q2;obtain ⟨A9,c9,rfl,_⟩:=id q2;obtain ⟨D9,e9,rfl,_⟩:=id d2;refine qH1 (j:=4) rfl rfl rfl rfl (g:=g) (i:=k) (q:=(1:Rat)) rfl rfl (by kernel_rfl) RN hk q2 d2 fun w4 hg4 hP4 => ?_;replace bb:=bb.trans ((Below.refl _ _).grown hg4 bb.size (fun g hg=>by injection hg with hg;omega));have hsz4:=bb.size;replace RN:=hP4.2 (by rw [HZL.out];exact hk);clear hP4;refine zC4 ?_;go_wp2;go_ret2;exact ⟨g,by rw [HUL.out];rfl,by rw [HUL.out];exact RN,hg,bb⟩
end rat
end Go.Proofs.YtagaabooccnamaaGreat
