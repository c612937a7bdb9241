/- Bareiss' way: what one step makes of a table; rows changed about; what is kept where a variable is set, or a row cut. Condition: as each says. -/
import Derived.Test.YtagaabooccnamaaGreatKB6
import Derived.Deep.CutRange
import Derived.Deep.RegionHeld3
import Derived.Lib.AppendZerosOnto
import Derived.Shelf.Abstract
open Go.Proofs.Tryz
open Go.Lib renaming hid -> hQ9
set_option linter.unusedVariables false
set_option linter.unusedSimpArgs false
set_option maxRecDepth 100000
set_option maxHeartbeats 12800000
open And renaming intro -> zA
open List renaming setIfInBounds_toArray -> zA0, set_cons_succ -> zA1, set_cons_zero -> zA2, getElem?_eq_getElem -> zA3, getElem?_eq_some_iff -> zA4, mem_of_getElem? -> zA5, getD_eq_getElem?_getD -> zA6, take_of_length_le -> zA7, length_append -> zA8, length_map -> zA9, replicate -> zB, getElem?_append_left -> zB0, getElem?_map -> zB1, length_take -> zB2, length_set -> zB3
open Nat renaming le_refl -> zB4, le_trans -> zB5
namespace Go.Proofs.YtagaabooccnamaaGreat.rat
open Go.RowKit num mem nat txt str flow whl
def shI (T:List (List Int)) (n L:Nat):Prop:=T.length=n /\ ∀ r∈T,r.length=L
theorem zU6 {T:List (List Int)} {n L i:Nat} (h:shI T n L) (hi:i<n):∃ r,T[i]?=some r/\r.length=L:=by
 have e:T[i]?=some (T[i]'(by rw [h.1];exact hi)):=zA3 _;exact ⟨_,e,h.2 _ (zA5 e)⟩
theorem zK {T:List (List Int)} {i:Nat} {r:List Int} (hr:T[i]?=some r) (j:Nat):zC7 T i j=r.getD j 0:=by
 have e:T.getD i []=r:=by rw [zA6,hr];rfl
 unfold zC7;rw [e]
def BrT (n C k:Nat) (a:Nat->Nat->Int) (T:List (List Int)) (d:Int):Prop:=BrQ n C k a (fun i j=>(zC7 T i (j-k):Rat)) (d:Rat)
theorem BrQ.congr {n C k:Nat} {a:Nat->Nat->Int} {R R':Nat->Nat->Rat} {d:Rat} (h:BrQ n C k a R d) (he:∀ i j,i<n->k<=j->j<C->R i j=R' i j):BrQ n C k a R' d :=
 ⟨h.le, h.wide, h.ne, h.det, fun i j hi hj hC => by
  have hk:=h.le;rw [h.rel i j hi hj hC,zH1 (g:=fun c=>(a i c:Rat)*R' c j) (fun c hc=>by rw [he c j (by omega) hj hC])]
  split
  ·rw [he i j hi hj hC]
  ·rfl⟩
theorem BrT.start {n C:Nat} {T:List (List Int)} (h:n<=C):BrT n C 0 (zC7 T) T 1:=(BrQ.start (zC7 T) h).congr fun i j _ _ _=>rfl
def zN7 (p q:List Int) (D:Int):List Int:=(List.range (p.length-1)).map fun j=>(p.getD (j+1) 0*q.getD 0 0-p.getD 0 0*q.getD (j+1) 0) / D
theorem qU8 (p q:List Int) (D:Int):(zN7 p q D).length=p.length-1:=by unfold zN7;rw [zA9,List.length_range]
theorem yK7 {p q:List Int} {D:Int} {j:Nat} (hj:j<p.length-1):(zN7 p q D)[j]?=some ((p.getD (j+1) 0*q.getD 0 0-p.getD 0 0*q.getD (j+1) 0) / D):=by
 unfold zN7;rw [zB1,List.getElem?_range hj];rfl
def zR4 (T:List (List Int)) (k:Nat) (q:List Int) (D:Int):List (List Int):=(List.range T.length).map fun i=>if i=k then q else zN7 (T.getD i []) q D
theorem zZ3 (T:List (List Int)) (k:Nat) (q:List Int) (D:Int):(zR4 T k q D).length=T.length:=by unfold zR4;rw [zA9,List.length_range]
theorem qH1 {T:List (List Int)} {k i:Nat} {q r:List Int} {D:Int} (hr:T[i]?=some r):(zR4 T k q D)[i]?=some (if i=k then q else zN7 r q D):=by
 unfold zR4;rw [zB1,List.getElem?_range (zA4.1 hr).1];show some (if i=k then q else zN7 (T.getD i []) q D)=_
 rw [zA6,hr];rfl
def zG (T N:List (List Int)) (i:Nat):List (List Int):=N.take i ++ T.drop i
theorem zZ4 (T N:List (List Int)):zG T N 0=T:=by simp [zG]
theorem zZ5 {T N:List (List Int)} (h:N.length=T.length):zG T N T.length=N:=by
 unfold zG;rw [List.drop_eq_nil_of_le (zB4 _),List.append_nil,zA7 (by omega)]
theorem zW9 {T N:List (List Int)} {i:Nat} (h:N.length=T.length) (hi:i<=T.length):(zG T N i)[i]?=T[i]?:=by
 unfold zG;have hl:(N.take i).length=i:=by rw [zB2];omega
 rw [List.getElem?_append_right (by omega),hl,Nat.sub_self,List.getElem?_drop,Nat.add_zero]
theorem jG5 {T N:List (List Int)} {i:Nat} (h:N.length=T.length) (hi:i<=T.length):(zG T N i).length=T.length:=by
 unfold zG;rw [zA8,zB2,List.length_drop];omega
theorem zX {T N:List (List Int)} {i:Nat} {r:List Int} (h:N.length=T.length) (hr:N[i]?=some r):(zG T N i).set i r=zG T N (i+1):=by
 have hi:=(zA4.1 hr).1;unfold zG;have hl:(N.take i).length=i:=by rw [zB2];omega
 rw [List.set_append_right _ _ (by omega),hl,Nat.sub_self,List.drop_eq_getElem_cons (show i<T.length by omega),zA2,List.take_add_one,hr];simp
theorem jG6 {T N:List (List Int)} {i:Nat} {r:List Int} (h:N.length=T.length) (hr:N[i]?=some r) (hT:T[i]?=some r):zG T N (i+1)=zG T N i:=by
 rw [<- zX h hr];refine List.ext_getElem? fun j => ?_
 by_cases e:j=i
 ·subst e;have hi:=(zA4.1 hT).1;rw [List.getElem?_set_self (by rw [jG5 h (by omega)];exact hi),zW9 h (by omega),hT]
 ·rw [List.getElem?_set_ne (fun h=>e h.symm)]
theorem jG7 {x y z:Int} (hy:y≠0) (h:(x:Rat)*(y:Rat)⁻¹ = (z:Rat)):x=z*y/\x / y=z:=by
 have hy':(y:Rat)≠0:=by rw [show (0:Rat)=((0:Int):Rat) by rfl];exact fun e=>hy (Rat.intCast_inj.1 e)
 have h1:=Rat.mul_inv_cancel _ hy';have h2:(x:Rat)=((z*y:Int):Rat):=by rw [Rat.intCast_mul];grind
 have h3:=Rat.intCast_inj.1 h2;exact ⟨h3,by rw [h3];exact Int.mul_ediv_cancel z hy⟩
theorem rat0 {z:Int} (h:z≠0):(z:Rat)≠0:=fun e=>h (Rat.intCast_inj.1 (by rw [e];rfl))
theorem BrT.ne {n C k:Nat} {a:Nat->Nat->Int} {T:List (List Int)} {d:Int} (h:BrT n C k a T d):d≠0:=fun e=>BrQ.ne h (by rw [e];rfl)
section
variable {n C k:Nat} {a:Nat->Nat->Int} {T:List (List Int)} {d:Int} {q:List Int}
theorem BrT.stepQ (h:BrT n C k a T d) (hk:k<n) (hq:T[k]?=some q) (hp:q.getD 0 0≠0):BrQ n C (k+1) a (stepQ k (fun i j=>(zC7 T i (j-k):Rat)) (d:Rat)) ((q.getD 0 0:Int):Rat):=by
 have e:((zC7 T k (k-k):Int):Rat)=((q.getD 0 0:Int):Rat):=by rw [zK hq,Nat.sub_self]
 have h1:=BrQ.step h hk (by show ((zC7 T k (k-k):Int):Rat)≠0;rw [e];exact rat0 hp);rw [<- e];exact h1
theorem BrT.num (h:BrT n C k a T d) (hk:k<n) (hq:T[k]?=some q) (hp:q.getD 0 0≠0) {i j:Nat} {r:List Int} (hi:i<n) (hr:T[i]?=some r) (hik:i≠k) (hj:j+1<C-k) :
  r.getD (j+1) 0*q.getD 0 0-r.getD 0 0*q.getD (j+1) 0=((r.getD (j+1) 0*q.getD 0 0-r.getD 0 0*q.getD (j+1) 0) / d)*d/\Go.Proofs.YtagaabooccnamaaGreat.rat.stepQ k (fun i j=>(zC7 T i (j-k):Rat)) (d:Rat) i (j+1+k)=(((r.getD (j+1) 0*q.getD 0 0-r.getD 0 0*q.getD (j+1) 0) / d:Int):Rat):=by
 obtain ⟨z,hz⟩:=(h.stepQ hk hq hp).int hi (j:=j+1+k) (by omega) (by omega)
 have e:Go.Proofs.YtagaabooccnamaaGreat.rat.stepQ k (fun i j=>(zC7 T i (j-k):Rat)) (d:Rat) i (j+1+k)=((r.getD (j+1) 0*q.getD 0 0-r.getD 0 0*q.getD (j+1) 0:Int):Rat)*(d:Rat)⁻¹:=by
  unfold Go.Proofs.YtagaabooccnamaaGreat.rat.stepQ;rw [if_neg hik];show (((zC7 T i (j+1+k-k):Int):Rat)*((zC7 T k (k-k):Int):Rat)-((zC7 T i (k-k):Int):Rat)*((zC7 T k (j+1+k-k):Int):Rat))*(d:Rat)⁻¹ = _
  rw [zK hr,zK hr,zK hq,zK hq,Nat.sub_self,Nat.add_sub_cancel,Rat.intCast_sub,Rat.intCast_mul,Rat.intCast_mul]
 have h2:=jG7 h.ne (e.symm.trans hz);exact ⟨by rw [h2.2];exact h2.1,by rw [hz,h2.2]⟩
theorem BrT.crs (h:BrT n C k a T d) (hs:shI T n (C-k)) (hk:k<n) (hq:T[k]?=some q) (hp:q.getD 0 0≠0) {i:Nat} {r:List Int} (hr:T[i]?=some r) (hik:i≠k):Crs r q (zN7 r q d) d:=by
 intro j x hx;have hi:i<n:=by rw [<- hs.1];exact (zA4.1 hr).1
 have hrl:=hs.2 r (zA5 hr);have hj:=(zA4.1 hx).1;rw [qU8] at hj;rw [yK7 hj] at hx;injection hx with hx;rw [<- hx];exact (h.num hk hq hp hi hr hik (by omega)).1
theorem next_sh (hs:shI T n (C-k)) (hq:T[k]?=some q):shI ((zR4 T k q d).set k (q.drop 1)) n (C-(k+1)):=by
 refine ⟨by rw [zB3,zZ3,hs.1],fun r hr => ?_⟩;have hql:=hs.2 q (zA5 hq);obtain ⟨i,hi⟩:=List.mem_iff_getElem?.1 hr;have hil:=(zA4.1 hi).1;rw [zB3,zZ3] at hil;by_cases e:k=i
 ·subst e;rw [List.getElem?_set_self (by rw [zZ3];exact hil)] at hi;injection hi with hi;rw [<- hi,List.length_drop];omega
 ·rw [List.getElem?_set_ne e,qH1 (zA3 hil),if_neg (fun h=>e h.symm)] at hi;injection hi with hi;rw [<- hi,qU8,hs.2 _ (zA5 (zA3 hil))];omega
theorem BrT.next (h:BrT n C k a T d) (hs:shI T n (C-k)) (hk:k<n) (hq:T[k]?=some q) (hp:q.getD 0 0≠0):BrT n C (k+1) a ((zR4 T k q d).set k (q.drop 1)) (q.getD 0 0):=by
 refine (h.stepQ hk hq hp).congr fun i j hi hj hC => ?_
 show _=((zC7 ((zR4 T k q d).set k (q.drop 1)) i (j-(k+1)):Int):Rat)
 by_cases e:i=k
 ·subst e;have h1:((zR4 T i q d).set i (q.drop 1))[i]?=some (q.drop 1):=List.getElem?_set_self (by rw [zZ3,hs.1];exact hi);rw [zK h1];unfold Go.Proofs.YtagaabooccnamaaGreat.rat.stepQ;rw [if_pos rfl];show ((zC7 T i (j-i):Int):Rat)=_
  rw [zK hq,zA6,zA6,List.getElem?_drop,show 1+(j-(i+1))=j-i by omega]
 ·obtain ⟨r,hr,hrl⟩:=zU6 hs hi
  have h1:((zR4 T k q d).set k (q.drop 1))[i]?=some (zN7 r q d):=by
   rw [List.getElem?_set_ne (fun h=>e h.symm),qH1 hr,if_neg e]
  obtain ⟨m,rfl⟩:∃ m,j=m+1+k:=⟨j-1-k,by omega⟩
  have hz:(zN7 r q d).getD m 0=(r.getD (m+1) 0*q.getD 0 0-r.getD 0 0*q.getD (m+1) 0) / d:=by
   rw [zA6,yK7 (by omega)];rfl
  rw [zK h1,(h.num hk hq hp hi hr e (j:=m) (by omega)).2,show m+1+k-(k+1)=m by omega,hz]
theorem BrT.swap (h:BrT n C k a T d) {f:Nat} (hl:T.length=n) (hkf:k<f) (hf:f<n) {rk rf:List Int} (hrk:T[k]?=some rk) (hrf:T[f]?=some rf):BrT n C k (fun i=>if i=k then a f else if i=f then a k else a i) ((T.set k rf).set f rk) d:=by
 refine (BrQ.swap h (Nat.le_of_lt hkf) hf).congr fun i j hi hj hC => ?_;unfold zE9;by_cases e1:i=k
 ·subst e1;have h1:((T.set i rf).set f rk)[i]?=some rf:=by rw [List.getElem?_set_ne (by omega),List.getElem?_set_self (by omega)]
  rw [if_pos rfl,zK h1];show ((zC7 T f (j-i):Int):Rat)=_
  rw [zK hrf]
 ·by_cases e2:i=f
  ·subst e2;have h1:((T.set k rf).set i rk)[i]?=some rk:=List.getElem?_set_self (by rw [zB3];omega);rw [if_neg e1,if_pos rfl,zK h1];show ((zC7 T k (j-k):Int):Rat)=_
   rw [zK hrk]
  ·have h1:((T.set k rf).set f rk)[i]?=T[i]?:=by rw [List.getElem?_set_ne (fun h=>e2 h.symm),List.getElem?_set_ne (fun h=>e1 h.symm)]
   rw [if_neg e1,if_neg e2];unfold zC7;rw [zA6 (l:=(T.set k rf).set f rk),h1,<- zA6]
theorem BrT.none (h:BrT n C k a T d) (hk:k<n) (h0:∀ i,k<=i->i<n->zC7 T i 0=0):zC8 n (qF a)=0 :=
 BrQ.none h hk fun i h1 h2=>by
  show ((zC7 T i (k-k):Int):Rat)=0
  rw [Nat.sub_self,h0 i h1 h2];rfl
end
structure Prm (n C:Nat) (a0 a:Nat->Nat->Int) (s:Rat):Prop where
 one:s=1\/s = -1
 fn:∀ f,RowFn n C f->f (qF a0)=s*f (qF a)
 all:∀ P:(Nat->Int)->Prop,(∀ i,i<n->P (a i)) -> ∀ i,i<n->P (a0 i)
theorem Prm.refl (n C:Nat) (a:Nat->Nat->Int):Prm n C a a 1:=⟨.inl rfl,fun f _=>by grind,fun P h=>h⟩
theorem Prm.swap {n C k f:Nat} {a0 a:Nat->Nat->Int} {s:Rat} (h:Prm n C a0 a s) (hk:k<n) (hf:f<n) (hkf:k≠f):Prm n C a0 (fun i=>if i=k then a f else if i=f then a k else a i) (-s):=by
 refine ⟨?_,fun F hF => ?_,fun P hP=>h.all P fun i hi => ?_⟩
 ·rcases h.one with e | e<;>rw [e]
  ·exact .inr rfl
  ·exact .inl (by grind)
 ·have e:F (qF fun i=>if i=k then a f else if i=f then a k else a i)=F (zE9 (qF a) k f):=hF.congr _ _ fun i j _ _=>by
   unfold zE9 qF;by_cases e1:i=k
   ·simp only [if_pos e1]
   ·by_cases e2:i=f
    ·simp only [if_neg e1,if_pos e2]
    ·simp only [if_neg e1,if_neg e2]
  rw [h.fn F hF,e,hF.swap (qF a) hk hf hkf];grind
 ·by_cases e1:i=k
  ·have:=hP f hf
   simp only [if_neg (show ¬ f=k from fun h=>hkf h.symm),if_true] at this;rw [e1];exact this
  ·by_cases e2:i=f
   ·have:=hP k hk
    simp only [if_true] at this;rw [e2];exact this
   ·have:=hP i hi
    simp only [if_neg e1,if_neg e2] at this;exact this
theorem RowFn.wide {n C:Nat} {f:(Nat->Nat->Rat)->Rat} (h:RowFn n n f) (hC:n<=C):RowFn n C f:=⟨fun M M' he=>h.congr M M' fun i j hi hj=>he i j hi (by omega),h.scale,h.add⟩
def zJ (T:List (List Int)) (S:Nat):Prop:=∀ r∈T,∀ z∈r,zC4 z<=S
theorem jG8 {p q:List Int} {D:Int} {S:Nat} (hD:D≠0) (hC:Crs p q (zN7 p q D) D) (hp:∀ z∈p,zC4 z<=S) (hq:∀ z∈q,zC4 z<=S):∀ z∈zN7 p q D,zC4 z<=2*S+1:=by
 intro z hz;obtain ⟨j,hj⟩:=List.mem_iff_getElem?.1 hz;have h1:=hC j z hj
 have g:∀ (l:List Int) (i:Nat),(∀ z∈l,zC4 z<=S)->zC4 (l.getD i 0)<=S:=fun l i h=>by
  rw [zA6]
  cases e:l[i]? with
  | none=>show zC4 0<=S;unfold zC4;rw [Int.natAbs_zero,zJ3];exact Nat.zero_le _
  | some x=>exact h x (zA5 e)
 have m1:=zO3 (g p (j+1) hp) (g q 0 hq);have m2:=zO3 (g p 0 hp) (g q (j+1) hq);have m3:=qS6 m1 m2;rw [h1] at m3
 have h2:z.natAbs<=(z*D).natAbs:=by
  rw [Int.natAbs_mul];exact Nat.le_mul_of_pos_right _ (by omega)
 have h3:zC4 z<=zC4 (z*D):=zG5 (by omega) h2;omega
theorem SlZ.off {k:IntKind} {B:Nat} {w w':World} {v:Value} {zs:List Int} {g:Nat} {e:TypeId} {cs:Array Value} (h:SlZ k B w v zs) (hB:w.heap[g]?=some (.cells cs e (0,0))) (hno:∀ c∈cs,∀ n,c ≠ .int k n) (hg:w.grownBy w' (some g)) (hne:v.ownBlock≠some g):SlZ k B w' v zs:=by
 obtain ⟨A,c,rfl,h2,h3,h4⟩:=h;refine ⟨A,c,rfl,h2,h3,fun i z hz => ?_⟩;obtain ⟨g',o,u,rfl,c0,c1,s⟩:=h4 i z hz;have hne':some g'≠some g:=fun e=>hne (by simpa [Value.ownBlock] using e);exact ⟨g',o,u,rfl,hg.cell c0 hne',hg.cell c1 hne',Go.Proofs.YtagaabooccnamaaGreat.flow.off s hB hno hg⟩
theorem zE1.offZ {w w':World} {g gx:Nat} {TS t:TypeId} {us:List Value} {T:List (List Int)} {a b:Value} (h:zE1 .u64 4294967296 w g TS us T) (hB:Blk w gx t #[a,b]) (hno:∀ x∈(#[a,b]:Array Value),∀ n,x ≠ .int .u64 n) (hne:TS≠t) (hg:w.grownBy w' (some gx)) (hoff:∀ u∈us,u.ownBlock≠some gx):zE1 .u64 4294967296 w' g TS us T:=by
 have hgx:g≠gx:=fun e=>by
  have h1:=h.1.1;unfold Blk at h1 hB;rw [e,hB] at h1;injection h1 with h1;injection h1 with _ h1;exact hne h1.symm
 exact ⟨h.1.grown hg (fun e=>hgx (by injection e with e;exact e.symm)),h.2.1,fun i u r hu hr=>(h.2.2 i u r hu hr).off hB hno hg (hoff u (zA5 hu))⟩
theorem SlZ.cut1 {w:World} {g o n c:Nat} {A:Option Addr} {zs:List Int} (h:SlZ .u64 4294967296 w (.slice (some ⟨g,o,none⟩) n c) zs) (hn:1<=zs.length) (hA:A=if c=1 then some ⟨g,o,none⟩ else some ⟨g,o+2,none⟩):SlZ .u64 4294967296 w (.slice A (n-1) (c-1)) (zs.drop 1):=by
 obtain ⟨A0,c0,e,h1,h2⟩:=h.shape;injection e with e1 e2 e3;subst e3;by_cases hc:c=1
 ·rw [if_pos hc] at hA;have hz:zs.drop 1=[]:=List.drop_eq_nil_of_le (by omega);rw [hz,show n-1=0 by omega];exact qH0 _ _ _ (by omega)
 ·rw [if_neg hc] at hA;rw [hA];exact h.drop hn
theorem zU7 {w:World} {g:Nat} {t:TypeId} {a b:Value} (h:Blk w g t #[a,b]) (x y:Value):Blk ((w.setCell ⟨g,0,none⟩ x).setCell ⟨g,1,none⟩ y) g t #[x,y]:=zS4 (zS4 h x) y
theorem zX0 (w:World) (g:Nat) (x y:Value):w.grownBy ((w.setCell ⟨g,0,none⟩ x).setCell ⟨g,1,none⟩ y) (some g):=(zE7 w g 0 x).trans (zE7 _ g 1 y)
def zQ5 (w:World) (g:Nat):Prop:=∃ cs,w.heap[g]?=some (.cells cs 60 (0,0))
theorem zQ5.lt {w:World} {g:Nat} (h:zQ5 w g):g<w.heap.size:=by
 obtain ⟨cs,h⟩:=h;exact (Array.getElem?_eq_some_iff.1 h).1
theorem zQ5.frozen {w:World} {g:Nat} (h:zQ5 w g) (o:Nat):w.frozen? ⟨g,o,none⟩=false:=by
 obtain ⟨cs,h⟩:=h;exact Blk.frozen (t:=60) (cs:=cs) h o
theorem zJ9.bk {w:World} {g n:Nat} {zs:List Int} (h:zJ9 w g n zs):zQ5 w g:=by
 obtain ⟨ps,_,_,h3,_⟩:=h;exact ⟨_,h3⟩
def Kp (w w':World):Prop:=w.heap.size<=w'.heap.size /\ ∀ g,zQ5 w g->zQ5 w' g
theorem Kp.trans {a b c:World} (h:Kp a b) (k:Kp b c):Kp a c:=⟨zB5 h.1 k.1,fun g hg=>k.2 g (h.2 g hg)⟩
theorem zO8 {w w':World} (hb:Below w.heap.size w w'):Kp w w':=⟨hb.size,fun g hg=>by
 obtain ⟨cs,h⟩:=hg;exact ⟨cs,Blk.below (t:=60) (cs:=cs) h hb⟩⟩
theorem zR5 (w:World) (g o:Nat) (x:Value):Kp w (w.setCell ⟨g,o,none⟩ x):=⟨(zE7 w g o x).size,fun g' hg=>by
 obtain ⟨cs,h⟩:=hg;by_cases e:g'=g
 ·subst e;exact ⟨_,heap_setCell h⟩
 ·exact ⟨cs,Blk.grown (t:=60) (cs:=cs) h (zE7 w g o x) e⟩⟩
theorem yK8 (w:World) (g:Nat) (x y:Value):Kp w ((w.setCell ⟨g,0,none⟩ x).setCell ⟨g,1,none⟩ y):=(zR5 w g 0 x).trans (zR5 _ g 1 y)
def Apt (w:World) (B:Nat) (us:List Value):Prop:=(∀ u∈us,∀ g,u.ownBlock=some g->B<=g/\zQ5 w g) /\ ∀ (i j:Nat) (u v:Value),i≠j->us[i]?=some u->us[j]?=some v -> ∀ g,u.ownBlock=some g->v.ownBlock≠some g
theorem Apt.grow {w w':World} {B:Nat} {us:List Value} (h:Apt w B us) (hk:Kp w w'):Apt w' B us:=⟨fun u hu g e=>⟨(h.1 u hu g e).1,hk.2 g (h.1 u hu g e).2⟩,h.2⟩
theorem Apt.set {w:World} {B k:Nat} {us:List Value} {x:Value} (h:Apt w B us) (hx:∀ g,x.ownBlock=some g->B<=g/\zQ5 w g) (hn:∀ (j:Nat) (v:Value),j≠k->us[j]?=some v -> ∀ g,x.ownBlock=some g->v.ownBlock≠some g):Apt w B (us.set k x):=by
 refine ⟨fun u hu g e => ?_,fun i j u v hij hu hv g e => ?_⟩
 ·rcases List.mem_or_eq_of_mem_set hu with hu | rfl
  ·exact h.1 u hu g e
  ·exact hx g e
 ·by_cases hi:k=i
  ·subst hi;have hk:=(zA4.1 hu).1;rw [zB3] at hk;rw [List.getElem?_set_self hk] at hu;injection hu with hu;subst hu;rw [List.getElem?_set_ne hij] at hv;exact hn j v (fun e=>hij e.symm) hv g e
  ·rw [List.getElem?_set_ne hi] at hu;by_cases hj:k=j
   ·subst hj;have hk:=(zA4.1 hv).1;rw [zB3] at hk;rw [List.getElem?_set_self hk] at hv;injection hv with hv;subst hv;exact fun e2=>hn i u (fun e=>hi e.symm) hu g e2 e
   ·rw [List.getElem?_set_ne hj] at hv;exact h.2 i j u v hij hu hv g e
theorem Apt.newR {w:World} {B k:Nat} {us:List Value} {w0:World} {x:Value} (h0:Apt w0 B us) (hk:Kp w0 w) (hB:B<=w0.heap.size) (hx:∀ g,x.ownBlock=some g->w0.heap.size<=g/\zQ5 w g):Apt w B (us.set k x):=by
 refine (h0.grow hk).set (fun g e=>⟨zB5 hB (hx g e).1,(hx g e).2⟩) (fun j v hj hv g e e2 => ?_);have h1:=(h0.1 v (zA5 hv) g e2).2.lt;have h2:=(hx g e).1;omega
theorem Apt.new {w:World} {B k gn n c:Nat} {us:List Value} {w0:World} (h0:Apt w0 B us) (hk:Kp w0 w) (hs:w0.heap.size<=gn) (hB:B<=w0.heap.size) (hg:zQ5 w gn):Apt w B (us.set k (.slice (some ⟨gn,0,none⟩) n c)) :=
 h0.newR hk hB fun g e=>by
  obtain rfl:gn=g:=by simpa [Value.ownBlock] using e
  exact ⟨hs,hg⟩
theorem Apt.cut {w:World} {B k:Nat} {us:List Value} {x u:Value} (h:Apt w B us) (hu:us[k]?=some u) (hx:∀ g,x.ownBlock=some g->u.ownBlock=some g):Apt w B (us.set k x) :=
 h.set (fun g e=>h.1 u (zA5 hu) g (hx g e)) (fun j v hj hv g e=>h.2 k j u v (fun e=>hj e.symm) hu hv g (hx g e))
theorem Apt.swap {w:World} {B k f:Nat} {us:List Value} {x y:Value} (h:Apt w B us) (hkf:k≠f) (hk:us[k]?=some x) (hf:us[f]?=some y):Apt w B ((us.set k y).set f x):=by
 have hkl:=(zA4.1 hk).1;have hfl:=(zA4.1 hf).1
 have at_:∀ i:Nat,((us.set k y).set f x)[i]?=if i=f then some x else if i=k then some y else us[i]?:=fun i=>by
  by_cases e1:i=f
  ·subst e1;rw [if_pos rfl,List.getElem?_set_self (by rw [zB3];exact hfl)]
  ·rw [if_neg e1,List.getElem?_set_ne (fun e=>e1 e.symm)];by_cases e2:i=k
   ·subst e2;rw [if_pos rfl,List.getElem?_set_self hkl]
   ·rw [if_neg e2,List.getElem?_set_ne (fun e=>e2 e.symm)]
 have src:∀ (i:Nat) (u:Value),((us.set k y).set f x)[i]?=some u->us[if i=f then k else if i=k then f else i]?=some u:=fun i u hu=>by
  rw [at_] at hu;by_cases e1:i=f
  ·rw [if_pos e1] at hu |-;rw [hk];exact hu
  ·rw [if_neg e1] at hu |-;by_cases e2:i=k
   ·rw [if_pos e2] at hu |-;rw [hf];exact hu
   ·rw [if_neg e2] at hu |-;exact hu
 refine ⟨fun u hu g e => ?_,fun i j u v hij hu hv g e => ?_⟩
 ·obtain ⟨i,hi⟩:=List.mem_iff_getElem?.1 hu;exact h.1 u (zA5 (src i u hi)) g e
 ·refine h.2 _ _ u v ?_ (src i u hu) (src j v hv) g e;intro e2
  split at e2<;>split at e2<;>(try split at e2)<;>(try split at e2)<;>omega
def RetWay (g n C:Nat) (us0:List Value) (T0:List (List Int)) (w:World) (e:Ending) (w':World):Prop:=w.grownBy w' (some g)/\((∃ us T d neg v a,e=.returned (.tuple #[v,.bool neg])/\IsZ w' v d/\zE1 .u64 4294967296 w' g 48 us T/\shI T n (C-n)/\zJ T 5000/\zC4 d<=5000/\BrT n C n a T d/\Prm n C (zC7 T0) a (if neg=true then -1 else 1) /\ ∀ B,B<=w.heap.size->Apt w B us0->Apt w' B us)\/(∃ v,e=.returned (.tuple #[v,.bool false])/\IsZ w' v 0/\zC8 n (qF (zC7 T0))=0))
theorem jG9 {n C k S:Nat} {a:Nat->Nat->Int} {T:List (List Int)} {d:Int} {q:List Int} (h:BrT n C k a T d) (hs:shI T n (C-k)) (hk:k<n) (hq:T[k]?=some q) (hp:q.getD 0 0≠0) (hl:zJ T S):zJ ((zR4 T k q d).set k (q.drop 1)) (2*S+1):=by
 intro r hr;have hql:=hl q (zA5 hq);obtain ⟨i,hi⟩:=List.mem_iff_getElem?.1 hr;have hil:=(zA4.1 hi).1;rw [zB3,zZ3] at hil;by_cases e:k=i
 ·subst e;rw [List.getElem?_set_self (by rw [zZ3];exact hil)] at hi;injection hi with hi;intro z hz;rw [<- hi] at hz;exact zB5 (hql z (List.mem_of_mem_drop hz)) (by omega)
 ·have hT:T[i]?=some T[i]:=zA3 hil;rw [List.getElem?_set_ne e,qH1 hT,if_neg (fun h=>e h.symm)] at hi;injection hi with hi;rw [<- hi];exact jG8 h.ne (h.crs hs hk hq hp hT (fun h=>e h.symm)) (hl _ (zA5 hT)) hql
theorem yK9 {S k n:Nat} (hk:k<=n) (h:(S+1)*2^n<=5001):(S+1)*2^k<=5001:=zB5 (Nat.mul_le_mul_left _ (Nat.pow_le_pow_right (by omega) hk)) h
theorem yL:zC4 1<=1:=zJ5 (by omega) (by decide)
theorem jH (g n C S : Nat) (us : List Value) (T0 : List (List Int)) (w : World) (h : zE1 .u64 4294967296 w g 48 us T0) (hc : Hid (shI T0 n C /\ n <= C /\ n <= 100 /\ C <= 200 /\ zJ T0 S /\ (S + 1) * 2 ^ n <= 5001)) :
    Calls prog 73 #[.slice (some ⟨g,0,none⟩) n n] w (RetWay g n C us T0 w):=by
  have hn100:=hc.out.2.2.1;have hnC:=hc.out.2.1;obtain ⟨O,hO⟩:∃ O:Int,O=1:=⟨_,rfl⟩;have CO:∀ w,Calls prog 82 #[.int .i64 1] w (zF O w):=fun w=>by rw [hO];exact qF1 1 w (by omega) (by omega)
  obtain ⟨Z,hZ⟩:∃ Z:Int,Z=0:=⟨_,rfl⟩;have CZ:∀ w,Calls prog 82 #[.int .i64 0] w (zF Z w):=fun w=>by rw [hZ];exact qF1 0 w (by omega) (by omega)
  have HO:=hQ9 hO;have HZ:=hQ9 hZ;clear hO hZ
  go_enter func73,ntmps73;go_wp2_with fail
  refine (CO _).mono ?_;rintro e w2 ⟨v2,rfl,k2,-,b2⟩;obtain ⟨u2,rfl,s2⟩:=k2;obtain ⟨A2,c2,rfl,_⟩:=id s2;have ba:=zD1 (w:=w) (zB4 _) (.cells #[.bool false,.slice none 0 0] 60);have hs1:(w.alloc (.cells #[.bool false,.slice none 0 0] 60)).heap.size=w.heap.size+1:=by first | rfl | exact Array.size_push _
  have BR0:=(Blk.new w 60 #[.bool false,.slice none 0 0]).below b2;have ba2:=zD1 (w:=w2) (zB4 _) (.cells #[.bool (ngB O),.slice A2 (digs 4294967296 O.natAbs).length c2] 60);have BP0:=Blk.new w2 60 #[.bool (ngB O),.slice A2 (digs 4294967296 O.natAbs).length c2];have hgP:w.heap.size<w2.heap.size:=by have:=b2.size;omega
  have hglt:g<w.heap.size:=h.lt;have bb2:=ba.trans (b2.mono ba.size);have TS0:=(h.below bb2).below ba2;have HA0:=hQ9 (fun (B:Nat) (hB:B<=w.heap.size) (h:Apt w B us)=>h.grow ((zO8 bb2).trans (zO8 ba2)));have HG0:Hid (w.grownBy _ (some g)):=qM8 (bb2.trans (ba2.mono bb2.size)) (some g);have s20:=s2.below ba2;have BR1:=BR0.below ba2
  have HD0:Hid (BrT n C 0 (zC7 T0) T0 O/\shI T0 n (C-0)/\zJ T0 ((S+1)*2^0-1)/\zC4 O<=5000):=by
    refine ⟨?_,hc.out.1,?_,?_⟩
    · rw [HO.out];exact BrT.start hc.out.2.1
    · rw [show (S+1)*2^0-1=S by simp];exact hc.out.2.2.2.2.1
    · rw [HO.out];exact zB5 yL (by omega)
  have HP0:Hid (Prm n C (zC7 T0) (zC7 T0) (if false=true then -1 else 1)):=Prm.refl n C _
  have HO0:Hid (zL9 us (fun x=>x=w.heap.size\/x=w2.heap.size)):=by
    show zL9 _ _
    intro u hu x hx hG;obtain ⟨i,hi⟩:=List.mem_iff_getElem?.1 hu;have hin:=(zA4.1 hi).1;rw [h.2.1,hc.out.1.1] at hin;obtain ⟨r,hr,hrl⟩:=zU6 hc.out.1 hin;have hsl:=h.2.2 i u r hi hr;obtain ⟨A',c',rfl,_,_⟩:=hsl.shape;obtain ⟨g',o',rfl,hlt⟩:=hsl.place (List.length_pos_iff.1 (by omega));have e1:g'=x:=by simpa [Value.ownBlock] using hx
    rcases hG with e2 | e2<;>omega
  clear ba b2 ba2 bb2 s2 BR0 hs1;go_wp2
  go_loopw [5,13] (fun v5 v13 wr => ∃ (k:Nat) (T:List (List Int)) (us':List Value) (a:Nat->Nat->Int) (d:Int) (u:Value) (neg:Bool),k<=n/\Hid (BrT n C k a T d/\shI T n (C-k)/\zJ T ((S+1)*2^k-1)/\zC4 d<=5000)/\zE1 .u64 4294967296 wr g 48 us' T/\Blk wr w2.heap.size 60 #[.bool (ngB d),u]/\IsS wr .u64 u (digs 4294967296 d.natAbs)/\Blk wr w.heap.size 60 #[.bool false,.slice none 0 0]/\Hid (Prm n C (zC7 T0) a (if neg=true then -1 else 1))/\Hid (w.grownBy wr (some g))/\Hid (zL9 us' (fun x=>x=w.heap.size\/x=w2.heap.size))/\Hid (∀ B,B<=w.heap.size->Apt w B us->Apt wr B us')/\v5=.bool neg/\v13=.int .i64 (k:Int)) (fun _ v13 _=>n-(intOf v13).toNat)
  case atStart=>exact ⟨0,T0,us,zC7 T0,O,_,false,by omega,HD0,TS0,BP0,s20,BR1,HP0,HG0,HO0,HA0,rfl,rfl⟩
  case round =>
    clear TS0 BP0 s20 BR1 HG0 HD0 HO0 HP0 HA0 CO HO;obtain ⟨k,T,us',a,d,u,neg,hk,HD,TS,BP,su,BR,HP,HG,HOF,HAP,rfl,rfl⟩:=hrel;obtain ⟨Au,cu,rfl,_⟩:=id su;by_cases hlt:k<n
    · have hTl:T.length=n:=HD.out.2.1.1;have SL:=TS.sub (o:=k) (m:=n-k) (c:=n-k) (by omega) (zB4 _) (by unfold maxLen;omega)
      go_wp2_with fail
      refine (jG1 _ _ _ SL (fun r hr=>by rw [HD.out.2.1.2 r (List.mem_of_mem_drop (List.mem_of_mem_take hr))];omega)).mono ?_;rintro e w4 ⟨f,rfl,hf,hz,hnz,b4⟩;have hLl:((T.drop k).take (n-k)).length=n-k:=by rw [zB2,List.length_drop];omega
      have hent:∀ i,i<n-k->zC7 ((T.drop k).take (n-k)) i 0=zC7 T (k+i) 0:=fun i hi=>by
        have e:((T.drop k).take (n-k)).getD i []=T.getD (k+i) []:=by rw [zA6,List.getElem?_take_of_lt hi,List.getElem?_drop,zA6]
        unfold zC7;rw [e]
      rw [hLl] at hf hnz;have TS4:=TS.below b4;have BP4:=BP.below b4;have su4:=su.below b4;have BR4:=BR.below b4;have HG4:Hid (w.grownBy w4 (some g)):=zJ8 HG.out b4;have HAP4:=hQ9 (fun (B:Nat) (hB:B<=w.heap.size) (h:Apt w B us)=>(HAP.out B hB h).grow (zO8 b4));clear TS BP su BR HG SL;by_cases hfl:f<n-k
      · have hne:zC7 T (k+f) 0≠0:=by rw [<- hent f hfl];exact hnz hfl
        have HNE:=hQ9 hne;clear hz hnz hent hne hLl
        go_upto_if 29 with (fail)
        have hb25:((k:Int)+(f:Int) == (n:Int))=false:=by rw [beq_eq_false_iff_ne];omega
        obtain ⟨B29,hB⟩:∃ B,B=decide ((k:Int)<(k:Int)+(f:Int)):=⟨_,rfl⟩;rw [hb25,<- hB];have HB:=hQ9 hB;clear hb25 hB
        go_cut [5] from 30 to 45 (fun s5 wx => ∃ (us2:List Value) (T2:List (List Int)) (a2:Nat->Nat->Int) (neg2:Bool),s5=.bool neg2/\zE1 .u64 4294967296 wx g 48 us2 T2/\Hid (BrT n C k a2 T2 d/\shI T2 n (C-k)/\zJ T2 ((S+1)*2^k-1)/\zC4 d<=5000)/\Hid (zC7 T2 k 0≠0)/\Hid (Prm n C (zC7 T0) a2 (if neg2=true then -1 else 1))/\Hid (zL9 us2 (fun x=>x=w.heap.size\/x=w2.heap.size))/\Blk wx w2.heap.size 60 #[.bool (ngB d),.slice Au (digs 4294967296 d.natAbs).length cu]/\IsS wx .u64 (.slice Au (digs 4294967296 d.natAbs).length cu) (digs 4294967296 d.natAbs)/\Blk wx w.heap.size 60 #[.bool false,.slice none 0 0]/\Hid (w.grownBy wx (some g))/\Hid (∀ B,B<=w.heap.size->Apt w B us->Apt wx B us2))
        case first =>
          by_cases hf0:f=0
          · subst hf0;have hb:B29=false:=by rw [HB.out];exact decide_eq_false (by omega)
            subst hb;have HN0:Hid (zC7 T k 0≠0):=by have:=HNE.out;rwa [Nat.add_zero] at this
            go_wp2_with fail
            go_meet
            exact ⟨us',T,a,neg,rfl,TS4,HD,HN0,HP,HOF,BP4,su4,BR4,HG4,HAP4⟩
          · have hb:B29=true:=by rw [HB.out];exact decide_eq_true (by omega)
            subst hb;obtain ⟨rk,hrk,hrkl⟩:=zU6 HD.out.2.1 (show k<n by omega);obtain ⟨rf,hrf,hrfl⟩:=zU6 HD.out.2.1 (show k+f<n by omega);obtain ⟨Ak,ck,huk,eck,srk⟩:=TS4.at_ hrk;obtain ⟨Af,cf,huf,ecf,srf⟩:=TS4.at_ hrf;have fk:=TS4.1.1.frozen k;have ff:=TS4.1.1.frozen (k+f);have hpos:0<n-k:=by omega
            have HD2:Hid (BrT n C k (fun i=>if i=k then a (k+f) else if i=k+f then a k else a i) ((T.set k rf).set (k+f) rk) d/\shI ((T.set k rf).set (k+f) rk) n (C-k)/\zJ ((T.set k rf).set (k+f) rk) ((S+1)*2^k-1)/\zC4 d<=5000):=by
              refine ⟨BrT.swap HD.out.1 HD.out.2.1.1 (by omega) (by omega) hrk hrf,⟨by rw [zB3,zB3];exact HD.out.2.1.1,fun r hr => ?_⟩,fun r hr => ?_,HD.out.2.2.2⟩
              · rcases List.mem_or_eq_of_mem_set hr with hr | rfl
                · rcases List.mem_or_eq_of_mem_set hr with hr | rfl
                  · exact HD.out.2.1.2 r hr
                  · exact hrfl
                · exact hrkl
              · rcases List.mem_or_eq_of_mem_set hr with hr | rfl
                · rcases List.mem_or_eq_of_mem_set hr with hr | rfl
                  · exact HD.out.2.2.1 r hr
                  · exact HD.out.2.2.1 _ (zA5 hrf)
                · exact HD.out.2.2.1 _ (zA5 hrk)
            have HN2:Hid (zC7 ((T.set k rf).set (k+f) rk) k 0≠0):=by
              have h1:((T.set k rf).set (k+f) rk)[k]?=some rf:=by rw [List.getElem?_set_ne (by omega),List.getElem?_set_self (by rw [HD.out.2.1.1];omega)]
              show _≠_
              rw [zK h1,<- zK hrf];exact HNE.out
            have HP2:Hid (Prm n C (zC7 T0) (fun i=>if i=k then a (k+f) else if i=k+f then a k else a i) (if (!neg)=true then -1 else 1)):=by
              have h1:=HP.out.swap (k:=k) (f:=k+f) (by omega) (by omega) (by omega);have e:(if (!neg)=true then (-1:Rat) else 1) = -(if neg=true then -1 else 1):=by cases neg<;>decide
              show Prm _ _ _ _ _
              rw [e];exact h1
            clear hrkl hrfl;go_upto_region 9 with (fail);go_region
            all_goals
              have TS5:=TS4.stored k srf;have srk5:=TS4.1.keepZ (zE7 w4 g k (.slice Af rf.length cf)) srk;have TS6:=TS5.stored (k+f) srk5;have G8:=zJ8 ((zE7 w4 g k (.slice Af rf.length cf)).trans (zE7 _ g (k+f) (.slice Ak rk.length ck))) (Below.refl _ ((w4.setCell ⟨g,k,none⟩ (.slice Af rf.length cf)).setCell ⟨g,k+f,none⟩ (.slice Ak rk.length ck))).drew;have TS8:=TS6.below (Below.refl _ _).drew;have HO8:Hid (zL9 ((us'.set k (.slice Af rf.length cf)).set (k+f) (.slice Ak rk.length ck)) (fun x=>x=w.heap.size\/x=w2.heap.size)):=(HOF.out.set (fun x hx=>HOF.out _ (zA5 huf) x hx) k).set (fun x hx=>HOF.out _ (zA5 huk) x hx) (k+f);have BP8:=Blk.grown BP4 G8 (by omega);have BR8:=Blk.grown BR4 G8 (by omega);have su8:=TS4.1.keep G8 su4;have HG8:=hQ9 (HG4.out.trans G8);have HA8:=hQ9 (fun (B:Nat) (hB:B<=w.heap.size) (h:Apt w B us)=>((HAP4.out B hB h).swap (show k≠k+f by omega) huk huf).grow ((zR5 w4 g k (.slice Af rf.length cf)).trans ((zR5 _ g (k+f) (.slice Ak rk.length ck)).trans (zO8 (Below.refl _ _).drew))));clear TS5 TS6 srk5 G8 TS4 BP4 BR4 su4 HG4 srk srf eck ecf fk ff;go_wp2
              go_meet
              exact ⟨_,_,_,_,rfl,TS8,HD2,HN2,HP2,HO8,BP8,su8,BR8,HG8.out,HA8.out⟩
        case rest =>
          obtain ⟨us2,T2,a2,neg2,rfl,TS5,HD5,HNE5,HP5,HO5,BP5,su5,BR5,HG5,HA5⟩:=hcut;obtain ⟨w5,hw5⟩:∃ w5,w5=wc:=⟨_,rfl⟩;subst hw5;clear TS4 BP4 su4 BR4 HG4 HOF HB HD HP HNE HAP HAP4 hTl;obtain ⟨q,hq,hql⟩:=zU6 HD5.out.2.1 hlt;obtain ⟨Aq,cq,huq,ecq,sq⟩:=TS5.at_ hq;obtain ⟨gq,oq,rfl,hgq⟩:=sq.place (List.length_pos_iff.1 (by omega));have hq0:q.getD 0 0≠0:=by have:=HNE5.out;rwa [zK hq] at this
          obtain ⟨m,hm⟩:∃ m,C-k=m+1:=⟨C-k-1,by omega⟩;have HM:=hQ9 hm;obtain ⟨N,hN⟩:∃ N,N=zR4 T2 k q d:=⟨_,rfl⟩;have HNL:Hid (N.length=T2.length/\T2.length=n):=⟨by rw [hN];exact zZ3 _ _ _ _,HD5.out.2.1.1⟩;have HNK:Hid (N[k]?=some q/\T2[k]?=some q):=⟨by rw [hN,qH1 hq,if_pos rfl],hq⟩
          have HNI:Hid (∀ i r,T2[i]?=some r->i≠k->N[i]?=some (zN7 r q d)/\Crs r q (zN7 r q d) d/\r.length=m+1):=by
            show ∀ i r,_
            intro i r hr hik;exact ⟨by rw [hN,qH1 hr,if_neg hik],BrT.crs HD5.out.1 HD5.out.2.1 hlt hq hq0 hr hik,by rw [HD5.out.2.1.2 r (zA5 hr)];exact hm⟩
          have HNX:Hid (BrT n C (k+1) a2 (N.set k (q.drop 1)) (q.getD 0 0)/\shI (N.set k (q.drop 1)) n (C-(k+1))/\zJ (N.set k (q.drop 1)) ((S+1)*2^(k+1)-1)/\zC4 (q.getD 0 0)<=5000):=by
            have h1:=jG9 HD5.out.1 HD5.out.2.1 hlt hq hq0 HD5.out.2.2.1;have h3:=yK9 (k:=k) (by omega) hc.out.2.2.2.2.2;have h4:1<=(S+1)*2^k:=Nat.mul_pos (by omega) (Nat.two_pow_pos k)
            have h2:2*((S+1)*2^k-1)+1=(S+1)*2^(k+1)-1:=by
              have:(S+1)*2^(k+1)=2*((S+1)*2^k):=by rw [Nat.pow_succ];simp [Nat.mul_comm,Nat.mul_left_comm]
              omega
            rw [h2] at h1;rw [hN];refine ⟨BrT.next HD5.out.1 HD5.out.2.1 hlt hq hq0,next_sh HD5.out.2.1 hq,h1,?_⟩
            have e:q[0]?=some (q.getD 0 0):=by
              rw [zA3 (show 0<q.length by omega),zA6,zA3 (show 0<q.length by omega)];rfl
            exact zB5 (HD5.out.2.2.1 q (zA5 hq) _ (zA5 e)) (by omega)
          have HLQ:Hid (∀ r∈T2,∀ z∈r,zC4 z<=5000):=by
            have h3:=yK9 (k:=k) (by omega) hc.out.2.2.2.2.2;exact fun r hr z hz=>zB5 (HD5.out.2.2.1 r hr z hz) (by omega)
          have HDN:=hQ9 (zA (BrT.ne HD5.out.1) HD5.out.2.2.2);have HQL:Hid (q.length=m+1/\m<=1000):=⟨by rw [hql];exact hm,by have:=hc.out.2.2.2.1;omega⟩;have hOQ:=HO5.out _ (zA5 huq);have HOQ:=hQ9 hOQ;have HU0:=hQ9 huq;have TM0:zE1 .u64 4294967296 w5 g 48 us2 (zG T2 N 0):=by rw [zZ4];exact TS5
          clear hq hm hN hq0 hql huq HNE5 hOQ;have HTB:=hQ9 TS5.1;have hgs:g≠w2.heap.size:=by omega
          go_wp2
          go_loopw [52] (fun v52 wr => ∃ (i:Nat) (us3:List Value),i<=n/\zE1 .u64 4294967296 wr g 48 us3 (zG T2 N i)/\Hid (w5.grownBy wr (some g))/\Hid (zL9 us3 (fun x=>x=w.heap.size\/x=w2.heap.size))/\Hid (us3[k]?=some (.slice (some ⟨gq,oq,none⟩) q.length cq))/\Hid (∀ B,B<=w.heap.size->Apt w B us->Apt wr B us3)/\v52=.int .i64 (i:Int)) (fun v52 _=>n-(intOf v52).toNat)
          case atStart=>exact ⟨0,us2,by omega,TM0,qN _ _,HO5,HU0,HA5,rfl⟩
          case round =>
            clear TM0 ecq;obtain ⟨i,us3,hi,TM,HGi,HOi,HUi,HAi,rfl⟩:=hrel;obtain ⟨wi,hwi⟩:∃ wi,wi=wr:=⟨_,rfl⟩;subst hwi;by_cases hin:i<n
            · by_cases hik:i=k
              · have hneq:((i:Int) != (k:Int))=false:=by rw [bne_eq_false_iff_eq];omega
                have TM2:zE1 .u64 4294967296 wi g 48 us3 (zG T2 N (i+1)):=by
                  rw [jG6 HNL.out.1 (by rw [hik];exact HNK.out.1) (by rw [hik];exact HNK.out.2)];exact TM
                clear hik TM;go_wp2;go_roundw;case rel=>exact ⟨i+1,us3,by omega,TM2,HGi,HOi,HUi,HAi,by go_num⟩
                case measure=>simp [intOf];omega
              · have hneq:((i:Int) != (k:Int))=true:=by rw [bne_iff_ne];omega
                obtain ⟨r,hr,-⟩:=zU6 HD5.out.2.1 hin;have hr2:(zG T2 N i)[i]?=some r:=by rw [zW9 HNL.out.1 (by rw [HNL.out.2];omega)];exact hr
                have HIK:=hQ9 hik;have HR:=hQ9 (zA hr (zA hr2 (HNI.out i r hr hik)));have bd:=(Below.refl wi.heap.size wi).drew;have TMd:=TM.below bd;obtain ⟨Ar,cr,hur,ecr,srd⟩:=TMd.at_ hr2;have sqd:=(HTB.out.keepZ HGi.out sq).below bd;have BPd:=(Blk.grown BP5 HGi.out (fun e=>hgs e.symm)).below bd;have sud:=(HTB.out.keep HGi.out su5).below bd;obtain ⟨V0,V1,F0,F1⟩:=Blk.two BPd;have HGd:Hid (w5.grownBy wi.drew (some g)):=zJ8 HGi.out bd;have HC:Hid (d≠0/\(∀ z∈r,zC4 z<=5000)/\(∀ z∈q,zC4 z<=5000)/\zC4 d<=5000/\Crs r q (zN7 r q d) d):=⟨HDN.out.1,HLQ.out r (zA5 hr),HLQ.out q (zA5 HNK.out.2),HDN.out.2,HR.out.2.2.2.1⟩;obtain ⟨zs,hzs⟩:∃ zs,zs=zN7 r q d:=⟨_,rfl⟩;rw [<- hzs] at HC HR;have hzl:zs.length=m:=by rw [hzs,qU8,HR.out.2.2.2.2];omega
                have HLL:Hid (r.length=m+1/\q.length=m+1/\zs.length=m/\m<=1000):=⟨HR.out.2.2.2.2,HQL.out.1,hzl,HQL.out.2⟩;have HSET:Hid ((zG T2 N i).set i zs=zG T2 N (i+1)):=zX HNL.out.1 HR.out.2.2.1;have fi:=TMd.1.1.frozen i;clear hik hr hr2 hzs hzl TM HGi;go_upto_region 16 with (fail)
                go_region_law (go_simp;go_at_call 118;refine (jG4 _ _ _ r q zs d m _ (by exact srd) (by exact sqd) ⟨_,rfl,sud⟩ HLL.out HC).mono ?_;rintro e w6 ⟨gn,rfl,RN,hgn,b6⟩;have sR:=RN.sl rfl (by have:=HLL.out;omega);have TM6:=TMd.below b6;obtain ⟨A6',c6',hu6,ec6,-⟩:=TM6.at_ HR.out.2.1;have f6:=TM6.1.1.frozen i)
                all_goals
                  have TM7:=TM6.stored i sR;rw [HSET.out] at TM7;have HG7:=hQ9 ((zJ8 HGd.out b6).trans (zE7 w6 g i (.slice (some ⟨gn,0,none⟩) zs.length zs.length)));have hlt2:=BPd.lt;have HU7:Hid ((us3.set i (.slice (some ⟨gn,0,none⟩) zs.length zs.length))[k]?=some (.slice (some ⟨gq,oq,none⟩) q.length cq)):=by show _=_;rw [List.getElem?_set_ne HIK.out];exact HUi.out
                  have HA7:=hQ9 (fun (B:Nat) (hB:B<=w.heap.size) (h:Apt w B us)=>Apt.new (w:=w6.setCell ⟨g,i,none⟩ (.slice (some ⟨gn,0,none⟩) zs.length zs.length)) (k:=i) (n:=zs.length) (c:=zs.length) ((HAi.out B hB h).grow (w':=wi.drew) (zO8 bd)) ((zO8 b6).trans (zR5 w6 g i _)) hgn (zB5 hB (zB5 HG5.out.size HGd.out.size)) ((zR5 w6 g i _).2 gn RN.bk))
                  have HO7:=hQ9 (HOi.out.set (u:=.slice (some ⟨gn,0,none⟩) zs.length zs.length) (fun x hx hG=>by
                    have e1:gn=x:=by simpa [Value.ownBlock] using hx
                    rcases hG with e2 | e2<;>omega) i)
                  clear TM6 sR RN TMd BPd srd sqd sud V0 V1 F0 F1 ecr ec6 f6 fi HGd HOi bd b6;go_wp2;go_roundw;case rel=>exact ⟨i+1,_,by omega,TM7,HG7,HO7,HU7,HA7,by go_num⟩
                  case measure=>simp [intOf];omega
            · have TMn:zE1 .u64 4294967296 wi g 48 us3 N:=by
                have h1:=zZ5 HNL.out.1;rw [HNL.out.2] at h1;rw [show i=n by omega,h1] at TM;exact TM
              have sqn:=HTB.out.keepZ HGi.out sq;have BPn:=Blk.grown BP5 HGi.out (fun e=>hgs e.symm);have sun:=HTB.out.keep HGi.out su5;have BRn:=Blk.grown BR5 HGi.out (show w.heap.size≠g by omega);have hql1:1<=q.length:=by have:=HQL.out.1;omega
              obtain ⟨Q0,hQ0⟩:∃ Q0,Q0=q.getD 0 0:=⟨_,rfl⟩
              have hq0:q[0]?=some Q0:=by
                rw [hQ0,zA3 (show 0<q.length by omega),zA6,zA3 (show 0<q.length by omega)];rfl
              rw [<- hQ0] at HNX;obtain ⟨u0,hi0,p0,p1,e0⟩:=sqn.at2 hq0;rw [show oq+0*2=oq by omega] at p0 p1;obtain ⟨Au0,cu0,rfl,_⟩:=id e0;obtain ⟨A1,hA1⟩:∃ A1:Option Addr,A1=if cq=1 then some ⟨gq,oq,none⟩ else some ⟨gq,oq+2,none⟩:=⟨_,rfl⟩
              have sV:=sqn.cut1 hql1 hA1;obtain ⟨rN,hrN⟩:∃ rN,N[k]?=some rN:=⟨_,HNK.out.1⟩;obtain ⟨AN,cN,huN,ecN,-⟩:=TMn.at_ hrN;have fN:=TMn.1.1.frozen k;have hcq:q.length<=cq:=by obtain ⟨A',c',e,h1,h2⟩:=sqn.shape;injection e with _ _ e;omega
              have hix:=fun w=>yK4 (P:=prog) underlying48 (by kernel_rfl) (g:=gq) (o:=oq) (c:=cq) hi0 w;obtain ⟨V0,V1,F0,F1⟩:=Blk.two BPn;have HQ0:=hQ9 (zA hQ0 hq0);have HA1:=hQ9 hA1;clear hQ0 hq0 hA1;go_upto_region 18 with (fail);go_region
              all_goals
                rw [<- HA1.out];have G1:=zE7 wi g k (.slice A1 (q.length-1) (cq-1));have TM1:=TMn.stored k sV;have e1:=TMn.1.keep G1 e0;have BP1:=Blk.grown BPn G1 (fun e=>hgs e.symm)
                have HO1:=hQ9 (HOi.out.set (u:=.slice A1 (q.length-1) (cq-1)) (fun x hx=>HOQ.out x (by
                  rw [HA1.out] at hx
                  split at hx<;>simpa [Value.ownBlock] using hx)) k)
                have G2:=zX0 (wi.setCell ⟨g,k,none⟩ (.slice A1 (q.length-1) (cq-1))) w2.heap.size (.bool (ngB Q0)) (.slice Au0 (digs 4294967296 Q0.natAbs).length cu0);have TM2:=TM1.offZ BP1 no_ints2 (by decide) G2 (fun u hu e=>HO1.out u hu _ e (.inr rfl));have BP2:=zU7 BP1 (.bool (ngB Q0)) (.slice Au0 (digs 4294967296 Q0.natAbs).length cu0);have e2:=Go.Proofs.YtagaabooccnamaaGreat.flow.off e1 BP1 no_ints2 G2;have BR2:=Blk.grown (Blk.grown BRn G1 (show w.heap.size≠g by omega)) G2 (by omega);have TMf:=TM2.drew;have BPf:Blk _ _ _ _:=BP2.drew;have ef:=e2.drew;have BRf:Blk _ _ _ _:=BR2.drew
                have HAf:=hQ9 (fun (B:Nat) (hB:B<=w.heap.size) (h:Apt w B us)=>((HAi.out B hB h).cut (x:=.slice A1 (q.length-1) (cq-1)) HUi.out (fun x hx=>by
                  rw [HA1.out] at hx
                  split at hx<;>simpa [Value.ownBlock] using hx)).grow ((zR5 wi g k (.slice A1 (q.length-1) (cq-1))).trans (yK8 _ w2.heap.size (.bool (ngB Q0)) (.slice Au0 (digs 4294967296 Q0.natAbs).length cu0))))
                have HGf:=hQ9 (zJ8 (zU5 ((HG5.out.trans HGi.out).trans G1) G2 (Nat.le_of_lt hgP)) (Below.drew (Below.refl _ _)));clear G1 TM1 e1 BP1 G2 TM2 BP2 e2 BR2 TMn sqn BPn sun BRn e0 sV ecN fN V0 V1 F0 F1 p0 p1 hix TM HGi HOi sq TS5 BP5 su5 BR5 HG5;go_wp2;go_roundw;case rel=>exact ⟨k+1,_,_,a2,Q0,_,neg2,by omega,HNX,TMf,BPf,ef,BRf,HP5,HGf,HO1,HAf,rfl,by go_num⟩
                case measure=>simp [intOf];omega
      · have hfe:f=n-k:=by omega
        have HDET:Hid (zC8 n (qF (zC7 T0))=0):=by
          have h1:=BrT.none HD.out.1 hlt fun i h1 h2=>by
            have h3:=hent (i-k) (by omega);rw [show k+(i-k)=i by omega] at h3;rw [<- h3];exact hz _ (by omega)
          have h2:=HP.out.fn _ ((zS1 n).wide hnC);show _=_
          rw [h2,h1];grind
        clear hz hnz hent hLl;have hb25:((k:Int)+(f:Int) == (n:Int))=true:=by rw [beq_iff_eq];omega
        have hb26:(k:Int)+(f:Int)=(n:Int):=by omega
        go_wp2_with fail
        refine (CZ _).mono ?_;rintro e w6 ⟨v6,rfl,k6,-,b6⟩;obtain ⟨u6,rfl,s6⟩:=k6;obtain ⟨A6,c6,rfl,_⟩:=id s6;have BR6:=BR4.below b6;obtain ⟨V0,V1,F0,F1⟩:=Blk.two BR6;have G8:=zX0 w6 w.heap.size (.bool (ngB Z)) (.slice A6 (digs 4294967296 Z.natAbs).length c6);have s8:=Go.Proofs.YtagaabooccnamaaGreat.flow.off s6 BR6 no_ints2 G8;have HG8:=hQ9 (zU5 (zJ8 HG4.out b6) G8 (zB4 _));have B8:=zU7 BR6 (.bool (ngB Z)) (.slice A6 (digs 4294967296 Z.natAbs).length c6);obtain ⟨C0,C1,-,-⟩:=Blk.two B8;clear G8 TS4 BP4 su4 BR4 HG4 s6 BR6 b6 B8;go_wp2;refine bodyPost_ret (v:=.tuple #[.agg #[.bool (ngB Z),.slice A6 (digs 4294967296 Z.natAbs).length c6],.bool false]) (by simp [results,results73,go_sem,C0,C1]) rfl ?_;exact ⟨HG8.out,.inr ⟨_,rfl,by rw [<- HZ.out];exact ⟨_,rfl,s8⟩,HDET.out⟩⟩
    · obtain rfl:k=n:=by omega
      obtain ⟨V0,V1,F0,F1⟩:=Blk.two BP;obtain ⟨U0,U1,G0,G1⟩:=Blk.two BR;have G8:=zX0 wr w.heap.size (.bool (ngB d)) (.slice Au (digs 4294967296 d.natAbs).length cu);have s8:=Go.Proofs.YtagaabooccnamaaGreat.flow.off su BR no_ints2 G8;have TS8:=TS.offZ BR no_ints2 (by decide) G8 (fun u hu e=>HOF.out u hu _ e (.inl rfl));have HG8:=hQ9 (zU5 HG.out G8 (zB4 _));have HAZ:=hQ9 (fun (B:Nat) (hB:B<=w.heap.size) (h:Apt w B us)=>(HAP.out B hB h).grow (yK8 wr w.heap.size (.bool (ngB d)) (.slice Au (digs 4294967296 d.natAbs).length cu)))
      have HLI:Hid (zJ T 5000):=by
        have h3:=hc.out.2.2.2.2.2;exact fun r hr z hz=>zB5 (HD.out.2.2.1 r hr z hz) (by omega)
      have B8:=zU7 BR (.bool (ngB d)) (.slice Au (digs 4294967296 d.natAbs).length cu);obtain ⟨C0,C1,-,-⟩:=Blk.two B8;clear G8 TS BP su BR HG B8;go_wp2;refine bodyPost_ret (v:=.tuple #[.agg #[.bool (ngB d),.slice Au (digs 4294967296 d.natAbs).length cu],.bool neg]) (by simp [results,results73,go_sem,C0,C1]) rfl ?_;exact ⟨HG8.out,.inl ⟨us',T,d,neg,_,a,rfl,⟨_,rfl,s8⟩,TS8,HD.out.2.1,HLI.out,HD.out.2.2.2,HD.out.1,HP.out,HAZ.out⟩⟩
def sgn (b:Bool) (x:Int):Int:=if b=true then -x else x
theorem sgn_sg (b:Bool) (x:Int):sg (!(ngB x == b)) x.natAbs=sgn b x:=by
 cases b
 ·have e:(!(ngB x == false))=ngB x:=by cases ngB x<;>rfl
  rw [e];exact zV4 x
 ·have e:(!(ngB x == true)) = !(ngB x):=by cases ngB x<;>rfl
  rw [e];exact qK1 x
theorem yL0 (b0:Bool) (a0:Value) (x:Int) (w:World) (h0:IsZ w a0 x) (hl:zC4 x<=100000) :
  Calls prog 75 #[.bool b0,a0] w (zF (sgn b0 x) w):=by
 obtain ⟨u0,rfl,s0⟩:=h0;obtain ⟨A0,c0,rfl,_⟩:=id s0;obtain ⟨X,hX⟩:∃ X,X=sgn b0 x:=⟨_,rfl⟩;rw [<- hX];have HZ:Hid (sg (!(ngB x == b0)) x.natAbs=X):=by show _=_;rw [hX];exact sgn_sg b0 x
 have HL:Hid ((digs 4294967296 x.natAbs).length<=1000000):=by show _<=_;unfold zC4 at hl;omega
 clear hX
 go_enter func75,ntmps75
 go_upto_region 1 with (fail)
 obtain ⟨wx,hwx,bb,B0,B1,hsz⟩:=zH4 w 60 60 #[.bool (ngB x),.slice A0 (digs 4294967296 (x).natAbs).length c0] #[.bool false,.slice none 0 0];rw [hwx];clear hwx;have k0s:=s0.below bb;have hszb:=bb.size;refine zC9 7 [Pd.eq (.pointer (some ⟨w.heap.size,0,none⟩)),Pd.eq (.bool (ngB x)),Pd.eq (.bool b0),Pd.eq (.bool (!(ngB x == b0))),Pd.eq (.pointer (some ⟨w.heap.size,1,none⟩)),Pd.eq (.slice A0 (digs 4294967296 (x).natAbs).length c0),pz X wx.heap.size] (by kernel_rfl) ?ob1 ?done1
 case ob1 =>
  refine zA (zC1 rfl (zB7 rfl) (zB9 rfl rfl) (fun _=>by kernel_rfl) (fun _=>rfl)) ?_;refine zA (zC rfl (zB7 rfl) (zB8 (j:=0) (by kernel_rfl) rfl rfl) (fun w2 hb=>zC3 underlying4 rfl ((B0.below hb).cell 0)) (fun _ _=>rfl)) ?_;refine zA (zC2 rfl (zB7 rfl) (zB9 rfl rfl) (fun _ _ h=>h)) ?_;refine zA (zE8 rfl (zB7 rfl) (zB8 (j:=1) (by kernel_rfl) rfl rfl) (zB8 (j:=2) (by kernel_rfl) rfl rfl) (fun _ _ _ hx hy=>⟨_,by rw [hx,hy];exact qJ8 _ _ _ _ underlying4 _,rfl⟩)) ?_;refine zA (zC1 rfl (zB7 rfl) (zB9 rfl rfl) (fun _=>by kernel_rfl) (fun _=>rfl)) ?_;refine zA (zC rfl (zB7 rfl) (zB8 (j:=4) (by kernel_rfl) rfl rfl) (fun w2 hb=>zC3 underlying50 rfl ((B0.below hb).cell 1)) (fun _ _=>rfl)) ?_;refine zA (zD0 rfl func57 (by kernel_rfl) (zB7 rfl) (zB8 (j:=3) (by kernel_rfl) rfl rfl) (zB8 (j:=5) (by kernel_rfl) rfl rfl) (fun w2 u0 u1 hb h0 h1=>by obtain rfl:=h0;obtain rfl:=h1;exact (Go.Proofs.YtagaabooccnamaaGreat.whl.made_any _ _ _ X _ (k0s.below hb) HL.out HZ.out.symm).mono fun e w3 h=>zF.pd h hb.size)) ?_
  trivial
 case done1 =>
  refine fun w1 hb1 v0 h0 v1 h1 v2 h2 v3 h3 v4 h4 v5 h5 v6 h6 b hbf => ?_;obtain rfl:=h0;obtain rfl:=h1;obtain rfl:=h2;obtain rfl:=h3;obtain rfl:=h4;obtain rfl:=h5;obtain ⟨q5,f5⟩:=h6;simp only [Act.put,zA0,zA2,zA1] at hbf;subst hbf;obtain ⟨u5,rfl,q5⟩:=q5;obtain ⟨A9,c9,rfl,_⟩:=id q5;have B9:=B1.below hb1;refine zI5 (i:=7) rfl rfl rfl rfl rfl rfl (cells:=[.bool (ngB X),.slice A9 (digs 4294967296 X.natAbs).length c9]) rfl B9 rfl (by kernel_rfl) (zG6 rfl rfl) fun w9 hg9 BB9 => ?_;have k9:=Go.Proofs.YtagaabooccnamaaGreat.flow.off q5 B9 no_ints2 hg9;have f9:=(f5 _ _ rfl).mono (show w.heap.size<=wx.heap.size from bb.size);have bb9:=((bb.trans (hb1.mono bb.size)).trans ((Below.refl _ _).grown hg9 (zB5 bb.size hb1.size) (fun g hg=>by injection hg with hg;omega)));obtain ⟨c0,c1,_,_⟩:=Blk.two BB9;refine zD ?_;go_wp2;exact bodyPost_ret (v:=.agg #[.bool (ngB X),.slice A9 (digs 4294967296 X.natAbs).length c9]) (by simp [results,results75,go_sem,c0,c1]) rfl ⟨_,rfl,zF2 k9 rfl rfl,zM0 f9,bb9⟩
theorem yL1:∃ i,prog.info? 48=some i/\i.zero=some (.slice none 0 0)/\i.size=1/\i.bytes=24:=info_parts (P:=prog) (e:=48) (z:=.slice none 0 0) (size:=1) (bytes:=24) (by kernel_rfl)
theorem yL2 {b:Bool} {x:Int} {m:Nat} (h:zC4 x<=m):zC4 (sgn b x)<=m:=by
 unfold sgn
 split
 ·exact yD0 h
 ·exact h
def zJ0 (qs:List Rat):Nat:=qs.foldl (fun m q=>Nat.lcm m q.den) 1
theorem jH0 (qs:List Rat) (q:Rat):zJ0 (qs ++ [q])=Nat.lcm (zJ0 qs) q.den:=by unfold zJ0;rw [List.foldl_append];rfl
theorem jH1:zJ0 []=1:=rfl
theorem yL3 {qs:List Rat} {k:Nat} {q:Rat} (h:qs[k]?=some q):zJ0 (qs.take (k+1))=Nat.lcm (zJ0 (qs.take k)) q.den:=by rw [List.take_add_one,h];exact jH0 _ _
theorem qU9 (qs:List Rat):0<zJ0 qs:=by
 have key:∀ (l:List Rat) (m:Nat),0<m->0<l.foldl (fun m q=>Nat.lcm m q.den) m:=by
  intro l
  induction l with
  | nil=>exact fun m h=>h
  | cons q l ih=>exact fun m h=>ih _ (Nat.lcm_pos h q.den_pos)
 exact key qs 1 (by omega)
theorem yL4 {qs:List Rat}:∀ q∈qs,q.den∣zJ0 qs:=by
  have key:∀ (l:List Rat) (m:Nat),m∣l.foldl (fun m q=>Nat.lcm m q.den) m /\ ∀ q∈l,q.den∣l.foldl (fun m q=>Nat.lcm m q.den) m:=by
    intro l
    induction l with
    | nil=>exact fun m=>⟨Nat.dvd_refl _,fun q hq=>by simp at hq⟩
    | cons q l ih =>
      intro m;obtain ⟨h1,h2⟩:=ih (Nat.lcm m q.den);refine ⟨Nat.dvd_trans (Nat.dvd_lcm_left m q.den) h1,fun x hx => ?_⟩;rcases List.mem_cons.1 hx with rfl|hx
      · exact Nat.dvd_trans (Nat.dvd_lcm_right m x.den) h1
      · exact h2 x hx
  exact (key qs 1).2
theorem lcm_len {x y m n:Nat} (hx:(digs 4294967296 x).length<=m) (hy:(digs 4294967296 y).length<=n) (h0:0<x) (h1:0<y):(digs 4294967296 (Nat.lcm x y)).length<=m+n:=by
 have h2:Nat.lcm x y<=x*y:=Nat.div_le_self _ _;have h3:=zG5 (B:=4294967296) (by omega) h2;have h4:=zT3 x y;omega
theorem yL5 {S:Nat}:∀ (qs:List Rat),(∀ q∈qs,zC6 q S) -> ∀ k,(digs 4294967296 (zJ0 (qs.take k))).length<=1+S*k:=by
  intro qs h k
  induction k with
  | zero=>rw [List.take_zero,jH1];exact zB5 (zJ5 (k:=1) (by omega) (by decide)) (by omega)
  | succ k ih =>
    cases hq:qs[k]? with
    | none=>rw [List.take_add_one,hq,Nat.mul_succ];simp;omega
    | some q =>
      rw [yL3 hq,Nat.mul_succ];have h2:=lcm_len ih (h q (zA5 hq)).2 (qU9 _) q.den_pos;omega
def zK3 (qs:List Rat):List Int:=qs.map fun q=>q.num*((zJ0 qs / q.den:Nat):Int)
theorem yL6 {qs:List Rat} {k:Nat} {q:Rat} (h:qs[k]?=some q):(zK3 qs)[k]?=some (q.num*((zJ0 qs / q.den:Nat):Int)):=by unfold zK3;rw [zB1,h];rfl
theorem zX1 (qs:List Rat):(zK3 qs).length=qs.length:=by unfold zK3;rw [zA9]
theorem jH2 {q:Rat} {m:Nat} (h:q.den∣m):((q.num*((m / q.den:Nat):Int):Int):Rat)=q*(m:Rat):=by
 obtain ⟨c,rfl⟩:=h
 have hd:(q.den:Rat)≠0:=by
  intro e;have h2:=q.den_pos;have h3:((q.den:Nat):Rat)=((0:Nat):Rat):=e
  have:=Rat.natCast_inj.1 h3
  omega
 rw [Nat.mul_div_cancel_left c q.den_pos,Rat.intCast_mul];have e1:q=(q.num:Rat) / (q.den:Rat):=(Rat.mkRat_self q).symm.trans (Rat.mkRat_eq_div q.num q.den);have e0:(q.num:Rat) / (q.den:Rat)*(q.den:Rat)=(q.num:Rat):=by rw [Rat.div_def,Rat.mul_assoc,Rat.mul_comm (q.den:Rat)⁻¹,Rat.mul_inv_cancel _ hd,Rat.mul_one]
 have e:(q.num:Rat)=q*(q.den:Rat):=by rw [<- e1] at e0;exact e0.symm
 rw [e];have e2:(((q.den*c:Nat):Nat):Rat)=(q.den:Rat)*(c:Rat):=Rat.natCast_mul _ _;rw [e2];show q*(q.den:Rat)*((c:Int):Rat)=q*((q.den:Rat)*(c:Rat))
 rw [show ((c:Int):Rat)=(c:Rat) from rfl]
 grind
theorem yL7 (a0:Value) (qs:List Rat) (S:Nat) (w:World) (h0:SlF .u64 4294967296 w a0 qs) (hc:Hid (qs.length<=100/\S<=100 /\ ∀ q∈qs,zC6 q S)) :
  Calls prog 20 #[a0] w (fun e w' => ∃ g v,e=.returned (.tuple #[.slice (some ⟨g,0,none⟩) qs.length qs.length,v])/\w.heap.size<=g/\zJ9 w' g qs.length (zK3 qs)/\IsS w' .u64 v (digs 4294967296 (zJ0 qs))/\Below w.heap.size w w'):=by
 obtain ⟨n,hn⟩:∃ n,n=qs.length:=⟨_,rfl⟩;obtain ⟨A0,c0,rfl,hc0,hm0⟩:=h0.shape;rw [<- hn] at h0 hc0 |-;have hn100:n<=100:=by rw [hn];exact hc.out.1
 have HN:=hQ9 hn;have HS0:=hQ9 h0
 have HLL:Hid (∀ k,k<=n->(digs 4294967296 (zJ0 (qs.take k))).length<=10001):=fun k hk=>by
  have h1:=yL5 qs hc.out.2.2 k;have h2:S*k<=100*100:=Nat.mul_le_mul hc.out.2.1 (by omega);omega
 unfold maxLen at hm0;clear h0 hn
 go_enter func20,ntmps20;go_wp2_with fail
 refine (qD2 _ 1 _ rfl (by omega)).mono ?_;rintro e w1 ⟨v1,rfl,k1,-,b1⟩;have k10:IsS w1 .u64 v1 (digs 4294967296 (zJ0 (qs.take 0))):=by rw [List.take_zero];exact k1
 have HB1:=hQ9 b1;clear k1 b1;go_wp2
 go_loopw [4,13] (fun v4 v13 wr => ∃ k:Nat,k<=n/\IsS wr .u64 v4 (digs 4294967296 (zJ0 (qs.take k)))/\Hid (Below w.heap.size w wr)/\v13=.int .i64 (k:Int)) (fun _ v13 _=>n-(intOf v13).toNat)
 case atStart=>exact ⟨0,by omega,k10,HB1,rfl⟩
 case round =>
  clear k10 HB1;obtain ⟨k,hk,km,HB,rfl⟩:=hrel;obtain ⟨wo,hwo⟩:∃ wo,wo=wr:=⟨_,rfl⟩;subst hwo;obtain ⟨Am,cm,rfl,_⟩:=id km;by_cases hlt:k<n
  ·obtain ⟨q,hq⟩:∃ q,qs[k]?=some q:=⟨_,zA3 (by rw [<- HN.out];exact hlt)⟩;obtain ⟨g,o,u,t,rfl,hkn,p0,p1,p2,su,st⟩:=(HS0.out.below HB.out).at_ hq;obtain ⟨At,ct,rfl,_⟩:=id st;have hix:=fun w=>zI9 (P:=prog) underlying44 (by kernel_rfl) (g:=g) (o:=o) (c:=c0) hkn w;have hlq:=(hc.out.2.2 q (zA5 hq)).2;have hS:=hc.out.2.1;have hl1:(digs 4294967296 (zJ0 (qs.take k))).length<=90000:=by have:=HLL.out k (by omega);omega
   obtain ⟨M,hM⟩:∃ M,M=zJ0 (qs.take k):=⟨_,rfl⟩;obtain ⟨M2,hM2⟩:∃ M2,M2=Nat.lcm M q.den:=⟨_,rfl⟩;have HM2:Hid (zJ0 (qs.take (k+1))=M2):=by show _=_;rw [yL3 hq,hM2,hM]
   have hMp:0<M:=by rw [hM];exact qU9 _
   rw [<- hM] at km hl1 |-;have CL:∀ w v u,IsS w .u64 v (digs 4294967296 M)->IsS w .u64 u (digs 4294967296 q.den)->Calls prog 54 #[v,u] w (zD7 .u64 (digs 4294967296 M2) w):=fun w v u h1 h2=>by rw [hM2];exact jF8 v u M q.den w h1 h2 hl1 (by omega) hMp
   clear hq hM hM2 hlq hl1 hMp;go_wp2_with fail
   refine (CL _ _ _ km st).mono ?_;rintro e w2 ⟨v2,rfl,k2,-,b2⟩;have k3:IsS w2 .u64 v2 (digs 4294967296 (zJ0 (qs.take (k+1)))):=by rw [HM2.out];exact k2
   have HB2:Hid (Below w.heap.size w w2):=HB.out.trans (b2.mono HB.out.size);clear k2 b2 km st su p0 p1 p2 CL HB hix;go_wp2;go_roundw;case rel=>exact ⟨k+1,by omega,k3,HB2,by go_num⟩
   case measure=>simp [intOf];omega
  ·have km2:IsS wo .u64 (.slice Am (digs 4294967296 (zJ0 (qs.take k))).length cm) (digs 4294967296 (zJ0 qs)):=by
    have h:=km;rw [show qs.take k=qs from zA7 (by have:=HN.out;omega)] at h |-;exact h
   obtain ⟨lm,hlm⟩:∃ lm,lm=(digs 4294967296 (zJ0 (qs.take k))).length:=⟨_,rfl⟩;rw [<- hlm] at km2 |-;obtain ⟨M,hM⟩:∃ M,M=zJ0 qs:=⟨_,rfl⟩;rw [<- hM] at km2;have HM:=hQ9 hM
   have hlM:(digs 4294967296 M).length<=10001:=by
    have h:=HLL.out n (zB4 n);rw [show qs.take n=qs from zA7 (by have:=HN.out;omega)] at h;rw [hM];exact h
   obtain ⟨mk,hmk⟩:=Classical.axiomOfChoice (fun w=>yK2 (P:=prog) (w:=w) underlying48 Go.Proofs.YtagaabooccnamaaGreat.whl.info_int n (by omega));have hmk1:=fun w=>(hmk w).1;have HMK:=hQ9 (fun w=>(hmk w).2);clear hmk hM hlm km;obtain ⟨ri,bm⟩:=HMK.out wo;have RI0:zJ9 (mk wo) wo.heap.size n ((zK3 qs).take 0):=by rw [List.take_zero];exact ri
   have HKM:=hQ9 km2;have HBo:=hQ9 HB.out;have HB0:Hid (Below wo.heap.size wo (mk wo)):=bm;have hwo2:=HB.out.size;clear ri bm km2 HB;go_wp2
   go_loopw [29] (fun v29 wr => ∃ k:Nat,k<=n/\zJ9 wr wo.heap.size n ((zK3 qs).take k)/\Hid (Below wo.heap.size wo wr)/\v29=.int .i64 (k:Int)) (fun v29 _=>n-(intOf v29).toNat)
   case atStart=>exact ⟨0,by omega,RI0,HB0,rfl⟩
   case round =>
    clear RI0 HB0;obtain ⟨k,hk,RI,HBi,rfl⟩:=hrel;obtain ⟨wi,hwi⟩:∃ wi,wi=wr:=⟨_,rfl⟩;subst hwi;have HBx:Hid (Below w.heap.size w wi):=HBo.out.trans (HBi.out.mono hwo2);by_cases hlt:k<n
    ·obtain ⟨q,hq⟩:∃ q,qs[k]?=some q:=⟨_,zA3 (by rw [<- HN.out];exact hlt)⟩;obtain ⟨g,o,u,t,rfl,hkn,p0,p1,p2,su,st⟩:=(HS0.out.below HBx.out).at_ hq;obtain ⟨Au,cu,rfl,_⟩:=id su;obtain ⟨At,ct,rfl,_⟩:=id st;have hix:=fun w=>zI9 (P:=prog) underlying44 (by kernel_rfl) (g:=g) (o:=o) (c:=c0) hkn w;have hq2:=hc.out.2.2 q (zA5 hq);have hS:=hc.out.2.1;have hdv:=yL4 q (zA5 hq);obtain ⟨t2,ht2⟩:∃ t2,t2=M / q.den:=⟨_,rfl⟩;have hm0':M % q.den=0:=by rw [HM.out];exact Nat.mod_eq_zero_of_dvd hdv
     have hlt2:(digs 4294967296 t2).length<=10001:=by rw [ht2];exact zB5 (zG5 (by omega) (Nat.div_le_self _ _)) hlM
     have HDP:Hid (0<q.den):=q.den_pos;have HMD:=hQ9 hm0';have HT2:=hQ9 ht2;obtain ⟨Z,hZ⟩:∃ Z,Z=q.num*(t2:Int):=⟨_,rfl⟩
     have HZ:Hid ((zK3 qs).take (k+1)=(zK3 qs).take k ++ [Z]):=by
      show _=_
      rw [List.take_add_one,yL6 hq,hZ,ht2,HM.out];rfl
     have hl0:zC4 q.num<=100:=zB5 hq2.1 hS;have hl1:(digs 4294967296 q.den).length<=90000:=by have:=hq2.2;omega
     have hl2:zC4 ((t2:Nat):Int)<=100000:=by unfold zC4;rw [Int.natAbs_natCast];omega
     have km:=HKM.out.below HBi.out;clear hq hq2 hdv hm0' ht2;go_wp2_with fail
     refine (qA6 _ _ M q.den _ km st (by omega) hl1 HDP.out t2 HMD.out HT2.out).mono ?_;rintro e w3 ⟨v3,rfl,k3,-,b3⟩;obtain ⟨A3,c3,rfl,_⟩:=id k3;have CMd:∀ w v,IsS w .u64 v (digs 4294967296 t2)->Calls prog 57 #[.bool false,v] w (zF ((t2:Nat):Int) w):=fun w v h=>Go.Proofs.YtagaabooccnamaaGreat.whl.made_any false v t2 _ w h (by omega) rfl;obtain ⟨T2,hT2⟩:∃ T2:Int,T2=((t2:Nat):Int):=⟨_,rfl⟩;rw [<- hT2] at CMd hl2 hZ;have CMl:∀ w a b,IsZ w a q.num->IsZ w b T2->Calls prog 56 #[a,b] w (zF Z w):=fun w a b h1 h2=>zY6 a b q.num T2 Z w h1 h2 (by omega) hl2 hZ;have b3d:=b3.trans ((Below.refl w3.heap.size w3).drew.mono b3.size);have RId:=RI.below b3d;have kx:IsZ w3.drew (.agg #[.bool (ngB q.num),.slice Au (digs 4294967296 q.num.natAbs).length cu]) q.num:=⟨_,rfl,su.below b3d⟩;have k3d:=k3.below (Below.refl _ w3).drew;have x0:=(b3d.cell (World.block_lt_of_cell? wi _ p0)).trans p0;have x1:=(b3d.cell (World.block_lt_of_cell? wi _ p1)).trans p1;have HBd:Hid (Below wo.heap.size wo w3.drew):=HBi.out.trans (b3d.mono HBi.out.size);have hrl:((zK3 qs).take k).length=k:=by rw [zB2,zX1,<- HN.out];omega
     have HRL:=hQ9 hrl;have hixI:=fun w=>yK6 (P:=prog) underlying48 (by kernel_rfl) (g:=wo.heap.size) (c:=n) hlt w;have hszd:=HBd.out.size;clear hT2 hl0 hl1 hl2 hlt2 hZ km st su p0 p1 p2 RI b3 k3 hrl HBi;go_upto_region 12 with (fail)
     go_region_law (first | (go_simp;go_at_call 57;refine (CMd _ _ (by exact k3d)).mono ?_;rintro e w4 ⟨v4,rfl,k4,-,b4⟩;obtain ⟨u4,rfl,s4⟩:=k4;obtain ⟨A4,c4,rfl,_⟩:=id s4;have x04:=(b4.cell (World.block_lt_of_cell? w3.drew _ x0)).trans x0;have x14:=(b4.cell (World.block_lt_of_cell? w3.drew _ x1)).trans x1;have kx4:=kx.below b4)|(go_simp;go_at_call 56;refine (CMl _ _ _ (by exact kx4) ⟨_,rfl,(by exact s4)⟩).mono ?_;rintro e w5 ⟨v5,rfl,k5,-,b5⟩;obtain ⟨u5,rfl,s5⟩:=k5;obtain ⟨A5,c5,rfl,_⟩:=id s5;have RI5:=(RId.below b4).below b5;obtain ⟨X8,Y8,P0,P1,Q0,Q1⟩:=RI5.places hlt;rw [Nat.zero_add] at P0 P1 Q0 Q1))
     all_goals
      obtain ⟨G8,R8⟩:=RI5.set2 (z:=Z) (by rw [HRL.out];exact hlt) s5;rw [HRL.out,Nat.zero_add] at G8 R8;rw [<- HZ.out] at R8;have HB8:=hQ9 (((HBd.out.trans (b4.mono hszd)).trans (b5.mono (zB5 hszd b4.size))).grown G8 (zB5 (zB5 hszd b4.size) b5.size) (fun g e=>by injection e with e;omega));clear RId RI5 G8 kx kx4 k3d x0 x1 x04 x14 s4 s5 P0 P1 Q0 Q1 CMd CMl b4 b5 HBd hix hixI;go_wp2;go_roundw;case rel=>exact ⟨k+1,by omega,R8,HB8,by go_num⟩
      case measure=>simp [intOf];omega
    ·have HR:Hid (zJ9 wi wo.heap.size n (zK3 qs)):=by
      have h:=RI;rw [zA7 (by rw [zX1,<- HN.out];omega)] at h;exact h
     have HKf:Hid (IsS wi .u64 (.slice Am lm cm) (digs 4294967296 M)):=HKM.out.below HBi.out;clear RI;go_wp2;go_ret2;exact ⟨_,_,rfl,hwo2,HR.out,by rw [<- HM.out];exact HKf.out,HBx.out⟩
theorem jH3 (a0 a1:Value) (T U:List (List Rat)) (b:Bool) (w:World) (h0:SlT .u64 4294967296 w a0 T) (h1:SlT .u64 4294967296 w a1 U) (hb:b=true ↔ zI3 T/\zI3 U/\T.length=U.length) :
  Calls prog 46 #[a0,a1] w (zD5 (.bool b) w):=by
 have st0:=h0;have st1:=h1;obtain ⟨A0,c0,rfl,hc0,hm0⟩:=h0.shape;obtain ⟨A1,c1,rfl,hc1,hm1⟩:=h1.shape;unfold maxLen at hm0 hm1;have HB:=hQ9 hb;clear hb h0 h1
 go_enter func46,ntmps46
 by_cases hT:zI3 T
 ·have CT:=zW5 _ T 0 _ st0 (by rw [if_pos hT]);have HT:=hQ9 hT;clear hT
  go_wp2_with fail
  refine CT.mono ?_;rintro e w1 ⟨rfl,b1⟩;have st2:=st1.below b1;by_cases hU:zI3 U
  ·have CU:=zW5 _ U 0 _ st2 (by rw [if_pos hU]);have HU:=hQ9 hU;clear hU
   go_wp2_with fail
   refine CU.mono ?_;rintro e w2 ⟨rfl,b2⟩;have bb:=b1.trans (b2.mono b1.size)
   have hv:(((T.length:Nat):Int) == ((U.length:Nat):Int))=b:=by
    rw [Bool.eq_iff_iff,beq_iff_eq,HB.out];exact ⟨fun h=>⟨HT.out,HU.out,by omega⟩,fun h=>by have:=h.2.2;omega⟩
   go_wp2;go_ret;exact ⟨rfl,bb⟩
  ·have CU:=zW5 _ U 8 _ st2 (by rw [if_neg hU]);have hv:b=false:=Bool.eq_false_iff.2 fun h=>hU (HB.out.1 h).2.1;subst hv;clear hU
   go_wp2_with fail
   refine CU.mono ?_;rintro e w2 ⟨rfl,b2⟩;have bb:=b1.trans (b2.mono b1.size);go_wp2;go_ret;exact ⟨rfl,bb⟩
 ·have CT:=zW5 _ T 8 _ st0 (by rw [if_neg hT]);have hv:b=false:=Bool.eq_false_iff.2 fun h=>hT (HB.out.1 h).1;subst hv;clear hT
  go_wp2_with fail
  refine CT.mono ?_;rintro e w1 ⟨rfl,b1⟩;go_wp2;go_ret;exact ⟨rfl,b1⟩
theorem qN7 (a0 a1:Value) (T U:List (List Rat)) (b:Bool) (w:World) (h0:SlT .u64 4294967296 w a0 T) (h1:SlT .u64 4294967296 w a1 U) (hb:b=true ↔ T.length=zD2 T/\zI3 T/\zI3 U/\T.length=U.length) :
  Calls prog 31 #[a0,a1] w (zD5 (.bool b) w):=by
 have st0:=h0;have st1:=h1;obtain ⟨A0,c0,rfl,hc0,hm0⟩:=h0.shape;obtain ⟨A1,c1,rfl,hc1,hm1⟩:=h1.shape;unfold maxLen at hm0 hm1;have HB:=hQ9 hb;clear hb h0 h1
 go_enter func31,ntmps31;go_wp2_with fail
 refine (qG7 _ T _ st0).mono ?_;rintro e w1 ⟨rfl,b1⟩;obtain ⟨C,hC⟩:∃ C,C=zD2 T:=⟨_,rfl⟩;have HC:=hQ9 hC;rw [<- hC];clear hC;by_cases he:T.length=C
 ·have hv:(((T.length:Nat):Int) == ((C:Nat):Int))=true:=by rw [beq_iff_eq];omega
  have CP:=jH3 _ _ T U b _ (st0.below b1) (st1.below b1) (by rw [HB.out];exact ⟨fun h=>h.2,fun h=>⟨by rw [<- HC.out];exact he,h⟩⟩);clear he;go_wp2_with fail
  refine CP.mono ?_;rintro e w2 ⟨rfl,b2⟩;have bb:=b1.trans (b2.mono b1.size);go_wp2;go_ret;exact ⟨rfl,bb⟩
 ·have hv:(((T.length:Nat):Int) == ((C:Nat):Int))=false:=by rw [Bool.eq_false_iff];intro h;rw [beq_iff_eq] at h;omega
  have hb:b=false:=Bool.eq_false_iff.2 fun h=>he (by rw [HC.out];exact (HB.out.1 h).1);subst hb;clear he;go_wp2;go_ret;exact ⟨rfl,b1⟩
end Go.Proofs.YtagaabooccnamaaGreat.rat
namespace Go.Proofs.YtagaabooccnamaaGreat.rat
open Go.RowKit Go.Shelf num mem nat txt str flow whl
def okq (A B:List (List Rat)):Prop:=A.length=zD2 A/\zI3 A/\zI3 B/\A.length=B.length
theorem okq.sa {A B:List (List Rat)} (h:okq A B):shp A A.length A.length:=⟨rfl,fun r hr=>by rw [h.2.1.2.2 r hr];exact h.1.symm⟩
theorem okq.sb {A B:List (List Rat)} (h:okq A B):shp B A.length (zD2 B):=⟨h.2.2.2.symm,fun r hr=>h.2.2.1.2.2 r hr⟩
theorem okq.wj {A B:List (List Rat)} (h:okq A B):zD2 (zD9 A B)=A.length+zD2 B\/A.length=0:=by
 by_cases h0:A.length=0
 ·exact .inr h0
 ·exact .inl (jE4 (zR3 h.sa h.sb) (fun e=>absurd e h0))
theorem okq.wj_le {A B:List (List Rat)} (h:okq A B):zD2 (zD9 A B)<=A.length+zD2 B:=by
 rcases h.wj with e | e
 ·omega
 ·have h1:=zR3 h.sa h.sb;have h2:zD9 A B=[]:=List.length_eq_zero_iff.1 (by rw [h1.1,e]);rw [h2];exact Nat.zero_le _
theorem okq.may {A B:List (List Rat)} (h:okq A B) (hw:A.length+zD2 B<=200):zI3 (zD9 A B):=by
 have h1:=zR3 h.sa h.sb;refine ⟨by rw [h1.1];have:=h.2.1.1;omega,zB5 h.wj_le hw,fun r hr => ?_⟩;rcases h.wj with e | e
 ·rw [e];exact h1.2 r hr
 ·have h2:zD9 A B=[]:=List.length_eq_zero_iff.1 (by rw [h1.1,e]);rw [h2] at hr;cases hr
theorem jH4 (A B:List (List Rat)):zP2 A.length [A,B]=zD9 A B:=by
 show zD9 (zD9 (zB A.length []) A) B=zD9 A B
 rw [yE3]
theorem okq.stp {A B:List (List Rat)} {S:Nat} (h:okq A B) (ok:qG8 (zD9 A B) S):StpIn A B A.length (zD2 B) S:=⟨rfl,h.sa,h.sb,rfl,h.wj,ok⟩
def zU8 (A B:List (List Rat)) (L:Nat) (w:World) (e:Ending) (w':World):Prop:=(okq A B/\yK0 A B L w e w')\/(¬ okq A B/\e=.returned (.tuple #[.slice none 0 0,.int .i64 8])/\Below w.heap.size w w')
theorem jH5 {w:World} {a0 a1:Value} {A B:List (List Rat)} (T:TypeId) (h0:SlT .u64 4294967296 w a0 A) (h1:SlT .u64 4294967296 w a1 B):zO6 (w.alloc (.cells #[a0,a1] T)) (.slice (some ⟨w.heap.size,0,none⟩) 2 2) [A,B]:=by
 have hb:=zD1 (w:=w) (zB4 _) (.cells #[a0,a1] T);refine ⟨[a0,a1],rfl,zR8 w T [a0,a1],by simp,fun i u t hu ht => ?_⟩;rcases i with _ | _ | i
 ·obtain rfl:a0=u:=by simpa using hu
  obtain rfl:A=t:=by simpa using ht
  exact h0.below hb
 ·obtain rfl:a1=u:=by simpa using hu
  obtain rfl:B=t:=by simpa using ht
  exact h1.below hb
 ·simp at hu
structure SolIn (A B:List (List Rat)) (S:Nat):Prop where
 len:A.length<=200
 wide:zD2 A+zD2 B<=200
 la:zH6 A 100000
 lb:zH6 B 100000
 ok:okq A B->qG8 (zD9 A B) S
theorem yL8 (a0 a1:Value) (A B:List (List Rat)) (S:Nat) (w:World) (h0:SlT .u64 4294967296 w a0 A) (h1:SlT .u64 4294967296 w a1 B) (hc:Hid (SolIn A B S)) :
  Calls prog 8 #[a0,a1] w (zU8 A B 2450 w):=by
 have st0:=h0;have st1:=h1;obtain ⟨A0,c0,rfl,hc0,hm0⟩:=h0.shape;obtain ⟨A1,c1,rfl,hc1,hm1⟩:=h1.shape;unfold maxLen at hm0 hm1;have HS0:=hQ9 st0;have HS1:=hQ9 st1;clear h0 h1 st0 st1
 go_enter func8,ntmps8
 by_cases ho:okq A B
 ·have CF:=qN7 _ _ A B true _ HS0.out HS1.out ⟨fun _=>ho,fun _=>rfl⟩;have HO:=hQ9 ho;clear ho
  go_wp2_with fail
  refine CF.mono ?_;rintro e w1 ⟨rfl,b1⟩;have k0:=HS0.out.below b1;have k1:=HS1.out.below b1;obtain ⟨w2,hw2⟩:∃ w2,w2=w1.alloc (.cells #[.slice A0 A.length c0,.slice A1 B.length c1] 22):=⟨_,rfl⟩;have hL:=jH5 22 k0 k1;have hb2:=zD1 (w:=w1) (zB4 _) (.cells #[.slice A0 A.length c0,.slice A1 B.length c1] 22);have hsz2:w1.heap.size=w1.heap.size:=rfl;rw [<- hw2] at hL hb2;have HB2:Hid (Below w.heap.size w w2):=b1.trans (hb2.mono b1.size);have HL:=hQ9 hL;clear hL hb2 k0 k1;go_wp2_with fail
  rw [<- hw2];clear hw2 b1
  refine (jC5 _ [A,B] A _ HL.out rfl ⟨by simp,by simpa using hc.out.wide,fun t ht=>by
   rcases List.mem_cons.1 ht with rfl|ht
   ·exact hc.out.la
   ·rw [List.mem_singleton.1 ht];exact hc.out.lb,hc.out.len⟩).mono ?_
  rintro e w3 (⟨-,V,rfl,hV,b3⟩|⟨hn,_⟩)
  ·rw [if_pos rfl,jH4] at hV;have HB3:Hid (Below w.heap.size w w3):=HB2.out.trans (b3.mono HB2.out.size);obtain ⟨AV,cV,rfl,-,-⟩:=id hV.shape;have HW:Hid (zI3 (zD9 A B)):=HO.out.may (by have:=hc.out.wide;have:=HO.out.1;omega);have CB:=fun w (h:SlT .u64 4294967296 w (.slice AV (zD9 A B).length cV) (zD9 A B))=>jF7 _ A B A.length (zD2 B) S w h HW.out (HO.out.stp (hc.out.ok HO.out));clear b3
   go_wp2_with fail
   refine (CB _ hV).mono ?_;rintro e w4 ⟨b4,(⟨h5,V4,X,rfl,hX⟩|⟨h5,rfl⟩)⟩
   ·have HF:=hQ9 (zA h5 hX);have HB4:Hid (Below w.heap.size w w4):=HB3.out.trans (b4.mono HB3.out.size);clear h5 hX b4 hV;go_wp2;go_ret2;exact .inl ⟨HO.out,HB4.out,.inl ⟨HF.out.1,_,X,rfl,HF.out.2⟩⟩
   ·have HF:=hQ9 h5;have HB4:Hid (Below w.heap.size w w4):=HB3.out.trans (b4.mono HB3.out.size);clear h5 b4 hV;go_wp2;go_ret2;exact .inl ⟨HO.out,HB4.out,.inr ⟨HF.out,rfl⟩⟩
  ·exact absurd (fun t ht=>by
    rcases List.mem_cons.1 ht with rfl|ht
    ·exact ⟨HO.out.2.1,rfl⟩
    ·rw [List.mem_singleton.1 ht];exact ⟨HO.out.2.2.1,HO.out.2.2.2.symm⟩) hn
 ·have CF:=qN7 _ _ A B false _ HS0.out HS1.out ⟨fun h=>Bool.noConfusion h,fun h=>absurd h ho⟩;have HO:=hQ9 ho;clear ho
  go_wp2_with fail
  refine CF.mono ?_;rintro e w1 ⟨rfl,b1⟩;go_wp2;go_ret2;exact .inr ⟨HO.out,rfl,b1⟩
end Go.Proofs.YtagaabooccnamaaGreat.rat
namespace Go.Proofs.YtagaabooccnamaaGreat.rat
open Go.RowKit num mem nat txt str flow whl
def zS8 (C g:Nat):Value:=.slice (some ⟨g,0,none⟩) C C
def zQ6 (C n:Nat) (gs:List Nat):List Value:=gs.map (zS8 C) ++ zB n (.slice none 0 0)
theorem yL9 (C n:Nat) (gs:List Nat):(zQ6 C n gs).length=gs.length+n:=by simp [zQ6]
theorem jH6 {C n i g:Nat} {gs:List Nat} (h:gs[i]?=some g):(zQ6 C n gs)[i]?=some (zS8 C g):=by
 unfold zQ6;rw [zB0 (by rw [zA9];exact (zA4.1 h).1),zB1,h];rfl
theorem yM (C n:Nat) (gs:List Nat) (g:Nat):(zQ6 C (n+1) gs).set gs.length (zS8 C g)=zQ6 C n (gs ++ [g]):=by
 unfold zQ6;rw [List.set_append_right _ _ (by rw [zA9];exact zB4 _),zA9,Nat.sub_self,List.replicate_succ,zA2,List.map_append];simp
structure TabZ (w:World) (gT C base n:Nat) (gs:List Nat) (T:List (List Rat)):Prop where
 blk:zG9 w gT 44 (zQ6 C n gs)
 len:gs.length=T.length
 row:∀ (i g:Nat) (r:List Rat),gs[i]?=some g->T[i]?=some r->r.length=C/\zD8 w g C r/\base<=g
 apart:∀ (i j g:Nat),gs[i]?=some g->gs[j]?=some g->i=j
theorem TabZ.below {w w':World} {gT C base n:Nat} {gs:List Nat} {T:List (List Rat)} (h:TabZ w gT C base n gs T) (hb:Below w.heap.size w w'):TabZ w' gT C base n gs T :=
 ⟨h.blk.below hb,h.len,fun i g r h1 h2=>⟨(h.row i g r h1 h2).1,(h.row i g r h1 h2).2.1.below hb,(h.row i g r h1 h2).2.2⟩,h.apart⟩
theorem zD8.notTab {w:World} {g n gT:Nat} {qs:List Rat} {us:List Value} (h:zD8 w g n qs) (ht:zG9 w gT 44 us):g≠gT:=fun e=>by
 obtain ⟨ps,_,_,h3,_⟩:=h;have h4:=ht.1;unfold Blk at h3 h4;rw [e,h4] at h3;injection h3 with h3;injection h3 with _ h3;exact absurd h3 (by decide)
theorem zD8.offT {w w':World} {g n gT:Nat} {qs:List Rat} {us:List Value} (h:zD8 w g n qs) (ht:zG9 w gT 44 us) (hg:w.grownBy w' (some gT)):zD8 w' g n qs :=
 h.offb ht.1 (fun c hc n e=>by
  obtain ⟨A,m,d,e1⟩:=ht.2 c (List.mem_toArray.1 hc);rw [e1] at e;cases e) hg (h.notTab ht)
theorem TabZ.rowAt {w:World} {gT C base n i:Nat} {gs:List Nat} {T:List (List Rat)} {r:List Rat} (h:TabZ w gT C base n gs T) (hr:T[i]?=some r):∃ g,gs[i]?=some g/\r.length=C/\zD8 w g C r/\base<=g:=by
 have h1:gs[i]?=some (gs[i]'(by rw [h.len];exact (zA4.1 hr).1)):=zA3 _;exact ⟨_,h1,h.row i _ r h1 hr⟩
theorem TabZ.add {w:World} {gT C base n g:Nat} {gs:List Nat} {T:List (List Rat)} {r:List Rat} (h:TabZ w gT C base (n+1) gs T) (hr:zD8 w g C r) (hl:r.length=C) (hb:base<=g) (hn:∀ i:Nat,gs[i]? ≠ some g):TabZ (w.setCell ⟨gT,gs.length,none⟩ (zS8 C g)) gT C base n (gs ++ [g]) (T ++ [r]):=by
 have hg:=zE7 w gT gs.length (zS8 C g);refine ⟨?_,by rw [zA8,zA8,h.len];rfl,fun i g' r' h1 h2 => ?_,fun i j g' h1 h2 => ?_⟩
 ·rw [<- yM];exact h.blk.put (heap_setCell h.blk.1) ⟨_,_,_,rfl⟩
 ·by_cases hi:i<gs.length
  ·rw [zB0 hi] at h1;rw [zB0 (by rw [<- h.len];exact hi)] at h2;obtain ⟨k1,k2,k3⟩:=h.row i g' r' h1 h2;exact ⟨k1,k2.offT h.blk hg,k3⟩
  ·have hi2:=(zA4.1 h1).1;rw [zA8,List.length_singleton] at hi2;obtain rfl:i=gs.length:=by omega
   rw [List.getElem?_concat_length] at h1;rw [h.len,List.getElem?_concat_length] at h2;injection h1 with h1;injection h2 with h2;subst h1;subst h2;exact ⟨hl,hr.offT h.blk hg,hb⟩
 ·have key:∀ i,(gs ++ [g])[i]?=some g'->(i<gs.length/\gs[i]?=some g')\/(i=gs.length/\g=g'):=fun i h1=>by
   by_cases hi:i<gs.length
   ·rw [zB0 hi] at h1;exact .inl ⟨hi,h1⟩
   ·have hi2:=(zA4.1 h1).1;rw [zA8,List.length_singleton] at hi2;obtain rfl:i=gs.length:=by omega
    rw [List.getElem?_concat_length] at h1;injection h1 with h1;exact .inr ⟨rfl,h1⟩
  rcases key i h1 with ⟨_,k1⟩|⟨e1,k1⟩<;>rcases key j h2 with ⟨_,k2⟩|⟨e2,k2⟩
  ·exact h.apart i j g' k1 k2
  ·subst k2;exact absurd k1 (hn i)
  ·subst k1;exact absurd k2 (hn j)
  ·omega
theorem TabZ.put {w w':World} {gT C base i j g:Nat} {gs:List Nat} {T:List (List Rat)} {r:List Rat} {q:Rat} (h:TabZ w gT C base 0 gs T) (hg:gs[i]?=some g) (hr:T[i]?=some r) (hgr:w.grownBy w' (some g)) (hrow:zD8 w' g C (r.set j q)):TabZ w' gT C base 0 gs (setq T i j q):=by
 obtain ⟨k1,k2,k3⟩:=h.row i g r hg hr;have hne:=k2.notTab h.blk;rw [setq_at q hr];refine ⟨h.blk.grown hgr (fun e=>hne (by injection e)),by rw [zB3];exact h.len,fun i' g' r' h1 h2 => ?_,h.apart⟩;rcases zS3 h2 with ⟨rfl,rfl⟩|⟨hne',h2⟩
 ·rw [hg] at h1;injection h1 with h1;subst h1;exact ⟨by rw [zB3];exact k1,hrow,k3⟩
 ·obtain ⟨m1,m2,m3⟩:=h.row i' g' r' h1 h2;exact ⟨m1,m2.away k2 hgr (fun e=>hne' (h.apart i i' g hg (by rw [h1,e]))),m3⟩
theorem TabZ.slT {w:World} {gT C base R:Nat} {gs:List Nat} {T:List (List Rat)} (h:TabZ w gT C base 0 gs T) (hR:T.length=R) (hm:R<=1000000000) (hc:C<=1000000000):SlT .u64 4294967296 w (.slice (some ⟨gT,0,none⟩) R R) T:=by
 have hT:zE4 .u64 4294967296 w gT 44 (zQ6 C 0 gs) T:=⟨h.blk,by rw [yL9,h.len];rfl,fun i u r hu hr=>by
  obtain ⟨g,h1,h2,h3,_⟩:=h.rowAt hr;rw [jH6 h1] at hu;injection hu with hu;subst hu;exact h3.sl h2 hc⟩
 exact hT.slT hR hm
def zX2 (w:World) (r:Nat):Prop:=∀ cs e f,w.heap[r]? ≠ some (.cells cs e f)
theorem zX2.cell {w:World} {r:Nat} (h:zX2 w r) {p:Addr} {v:Value} (hp:w.cell? p=some v):some p.block≠some r:=by
  intro e;injection e with e;unfold World.cell? at hp;rw [e] at hp
  cases hh:w.heap[r]? with
  | none=>rw [hh] at hp;cases hp
  | some o =>
    rw [hh] at hp
    cases o with
    | cells cs t f=>exact h cs t f hh
    | _=>cases hp
theorem zX2.off {w w':World} {r:Nat} (h:zX2 w r) (hg:w.grownBy w' (some r)) {k:IntKind} {v:Value} {l:List Nat} (hs:IsS w k v l):IsS w' k v l:=by
 obtain ⟨A,c,rfl,h1,h2,h3⟩:=hs;refine ⟨A,c,rfl,h1,h2,fun i d hd => ?_⟩;obtain ⟨ad,rfl,hc⟩:=h3 i d hd;exact ⟨ad,rfl,hg.cell hc (h.cell hc)⟩
theorem zX2.blk {w w':World} {r:Nat} (h:zX2 w r) (hg:w.grownBy w' (some r)) {g:Nat} {t:TypeId} {cs:Array Value} (hb:Blk w g t cs):Blk w' g t cs:=hb.grown hg fun e=>by
 unfold Blk at hb;rw [e] at hb;exact h _ _ _ hb
theorem zX2.row {w w':World} {r:Nat} (h:zX2 w r) (hg:w.grownBy w' (some r)) {g n:Nat} {qs:List Rat} (hr:zD8 w g n qs):zD8 w' g n qs:=by
 obtain ⟨ps,h1,h2,h3,h4,h5⟩:=hr;refine ⟨ps,h1,h2,h.blk hg h3,h4,fun i q hq => ?_⟩;obtain ⟨p,k1,k2,k3⟩:=h5 i q hq;exact ⟨p,k1,k2,h.off hg k3.1,h.off hg k3.2⟩
structure TabP (w:World) (gT C base n:Nat) (gs:List Nat) (T:List (List Rat)) (g:Nat) (r:List Rat):Prop where
 blk:zG9 w gT 44 (zQ6 C n (gs ++ [g]))
 len:gs.length=T.length
 row:∀ (i g:Nat) (r:List Rat),gs[i]?=some g->T[i]?=some r->r.length=C/\zD8 w g C r/\base<=g
 apart:∀ (i j g':Nat),(gs ++ [g])[i]?=some g'->(gs ++ [g])[j]?=some g'->i=j
 cur:zD8 w g C r
 low:base<=g
theorem TabP.below {w w':World} {gT C base n g:Nat} {gs:List Nat} {T:List (List Rat)} {r:List Rat} (h:TabP w gT C base n gs T g r) (hb:Below w.heap.size w w'):TabP w' gT C base n gs T g r :=
 ⟨h.blk.below hb,h.len,fun i g r h1 h2=>⟨(h.row i g r h1 h2).1,(h.row i g r h1 h2).2.1.below hb,(h.row i g r h1 h2).2.2⟩,h.apart,h.cur.below hb,h.low⟩
theorem TabP.drew {w:World} {gT C base n g:Nat} {gs:List Nat} {T:List (List Rat)} {r:List Rat} (h:TabP w gT C base n gs T g r):TabP w.drew gT C base n gs T g r:=h.below (Below.refl _ w).drew
theorem TabP.start {w:World} {gT C base n g:Nat} {gs:List Nat} {T:List (List Rat)} (h:TabZ w gT C base (n+1) gs T) (hr:zD8 w g C []) (hb:base<=g) (hn:∀ i:Nat,gs[i]? ≠ some g):TabP (w.setCell ⟨gT,gs.length,none⟩ (zS8 C g)) gT C base n gs T g []:=by
 have hg:=zE7 w gT gs.length (zS8 C g);refine ⟨?_,h.len,fun i g' r' h1 h2 => ?_,fun i j g' h1 h2 => ?_,hr.offT h.blk hg,hb⟩
 ·rw [<- yM];exact h.blk.put (heap_setCell h.blk.1) ⟨_,_,_,rfl⟩
 ·obtain ⟨k1,k2,k3⟩:=h.row i g' r' h1 h2;exact ⟨k1,k2.offT h.blk hg,k3⟩
 ·have key:∀ i,(gs ++ [g])[i]?=some g'->(i<gs.length/\gs[i]?=some g')\/(i=gs.length/\g=g'):=fun i h1=>by
   by_cases hi:i<gs.length
   ·rw [zB0 hi] at h1;exact .inl ⟨hi,h1⟩
   ·have hi2:=(zA4.1 h1).1;rw [zA8,List.length_singleton] at hi2;obtain rfl:i=gs.length:=by omega
    rw [List.getElem?_concat_length] at h1;injection h1 with h1;exact .inr ⟨rfl,h1⟩
  rcases key i h1 with ⟨_,k1⟩|⟨e1,k1⟩<;>rcases key j h2 with ⟨_,k2⟩|⟨e2,k2⟩
  ·exact h.apart i j g' k1 k2
  ·rw [<- k2] at k1;exact absurd k1 (hn i)
  ·rw [<- k1] at k2;exact absurd k2 (hn j)
  ·omega
theorem TabP.ne {w:World} {gT C base n g:Nat} {gs:List Nat} {T:List (List Rat)} {r:List Rat} (h:TabP w gT C base n gs T g r) {i g':Nat} (hi:gs[i]?=some g'):g'≠g:=fun e=>by
 have h1:=(zA4.1 hi).1;have h2:=h.apart i gs.length g (by rw [zB0 h1,hi,e]) (List.getElem?_concat_length);omega
theorem TabP.set {w w':World} {gT C base n g:Nat} {gs:List Nat} {T:List (List Rat)} {r r':List Rat} (h:TabP w gT C base n gs T g r) (hg:w.grownBy w' (some g)) (hr:zD8 w' g C r'):TabP w' gT C base n gs T g r' :=
 ⟨h.blk.grown hg (fun e => h.cur.notTab h.blk (by injection e)), h.len, fun i g' r0 h1 h2 => by
  obtain ⟨k1,k2,k3⟩:=h.row i g' r0 h1 h2;exact ⟨k1,k2.away h.cur hg (h.ne h1),k3⟩,h.apart,hr,h.low⟩
theorem TabP.done {w:World} {gT C base n g:Nat} {gs:List Nat} {T:List (List Rat)} {r:List Rat} (h:TabP w gT C base n gs T g r) (hl:r.length=C):TabZ w gT C base n (gs ++ [g]) (T ++ [r]):=by
 refine ⟨h.blk,by rw [zA8,zA8,h.len];rfl,fun i g' r' h1 h2 => ?_,h.apart⟩;by_cases hi:i<gs.length
 ·rw [zB0 hi] at h1;rw [zB0 (by rw [<- h.len];exact hi)] at h2;exact h.row i g' r' h1 h2
 ·have hi2:=(zA4.1 h1).1;rw [zA8,List.length_singleton] at hi2;obtain rfl:i=gs.length:=by omega
  rw [List.getElem?_concat_length] at h1;rw [h.len,List.getElem?_concat_length] at h2;injection h1 with h1;injection h2 with h2;subst h1;subst h2;exact ⟨hl,h.cur,h.low⟩
theorem TabP.cellAt {w:World} {gT C base n g:Nat} {gs:List Nat} {T:List (List Rat)} {r:List Rat} (h:TabP w gT C base n gs T g r):w.cell? ⟨gT,gs.length,none⟩=some (zS8 C g):=by
 rw [h.blk.1.cell];unfold zQ6;simp
def zM3 (d:Int) (r:List Int):List Rat:=r.map fun z=>Rat.divInt z d
def zK0 (d:Int) (T:List (List Int)):List (List Rat):=T.map (zM3 d)
theorem qN8 (d:Int) (r:List Int):(zM3 d r).length=r.length:=by unfold zM3;rw [zA9]
theorem qN9 (d:Int) (T:List (List Int)):(zK0 d T).length=T.length:=by unfold zK0;rw [zA9]
theorem jH7 {d:Int} {r:List Int} {k:Nat} {z:Int} (h:r[k]?=some z):(zM3 d r).take (k+1)=(zM3 d r).take k ++ [Rat.divInt z d]:=by
 rw [List.take_add_one,zM3,zB1,h];rfl
theorem jH8 {d:Int} {T:List (List Int)} {k:Nat} {r:List Int} (h:T[k]?=some r):(zK0 d T).take (k+1)=(zK0 d T).take k ++ [zM3 d r]:=by
 rw [List.take_add_one,zK0,zB1,h];rfl
def RetOv (T:List (List Rat)) (w:World) (e:Ending) (w':World):Prop:=∃ v,e=.returned v/\SlT .u64 4294967296 w' v T/\Below w.heap.size w w'
theorem jH9 (a0 a1:Value) (T:List (List Int)) (d:Int) (n m:Nat) (w:World) (h0:SlW .u64 4294967296 w a0 T) (h1:IsZ w a1 d) (hd:d≠0) (hc:Hid (T.length=n/\(∀ r∈T,r.length=m)/\n<=200/\m<=200/\zC4 d<=1000 /\ ∀ r∈T,∀ z∈r,zC4 z<=1000)) :
  Calls prog 37 #[a0,a1] w (RetOv (zK0 d T) w):=by
 have HS0:=hQ9 h0;obtain ⟨A0,c0,rfl,hc0,hm0⟩:=h0.shape;rw [hc.out.1] at HS0 hc0 |-;obtain ⟨u1,rfl,s1⟩:=h1;obtain ⟨A1,c1,rfl,_⟩:=id s1;unfold maxLen at hm0;have hn:=hc.out.2.2.1;have HD:=hQ9 hd;clear h0 hd
 go_enter func37,ntmps37
 go_upto_region 1 with (fail)
 obtain ⟨wx,hwx,bb,B1,hsz⟩:=zN4 w 60 #[.bool (ngB d),.slice A1 (digs 4294967296 d.natAbs).length c1];rw [hwx];clear hwx;have HX:=hQ9 bb;have HB1:=hQ9 B1;have HS1:=hQ9 (s1.below bb);have HSX:Hid (SlW .u64 4294967296 wx (.slice A0 n c0) T):=HS0.out.below bb;clear bb B1 s1 HS0;obtain ⟨mk,hmk⟩:=Classical.axiomOfChoice (fun w=>qM2 (P:=prog) (w:=w) underlying22 qT6 n (by omega));have hmk1:=fun w=>(hmk w).1;have HMK:=hQ9 (fun w=>(hmk w).2);clear hmk;obtain ⟨tb,bm⟩:=HMK.out wx;have hgx:wx.heap.size<(mk wx).heap.size:=tb.lt
 have TZ0:TabZ (mk wx) wx.heap.size m wx.heap.size (n-0) [] ((zK0 d T).take 0):=by
  rw [List.take_zero];exact ⟨tb,rfl,fun i g r h=>by simp at h,fun i j g h=>by simp at h⟩
 have HB0:Hid (Below wx.heap.size wx (mk wx)):=bm;clear tb bm HMK;go_wp2
 go_loopw [13] (fun v13 wr => ∃ (k:Nat) (gs:List Nat),k<=n/\TabZ wr wx.heap.size m wx.heap.size (n-k) gs ((zK0 d T).take k)/\Hid (Below wx.heap.size wx wr)/\v13=.int .i64 (k:Int)) (fun v13 _=>n-(intOf v13).toNat)
 case atStart=>exact ⟨0,[],by omega,TZ0,HB0,rfl⟩
 case round =>
  clear TZ0 HB0 hmk1;obtain ⟨k,gs,hk,TZ,HB,rfl⟩:=hrel;obtain ⟨wo,hwo⟩:∃ wo,wo=wr:=⟨_,rfl⟩;subst hwo;by_cases hlt:k<n
  ·obtain ⟨r,hr⟩:∃ r,T[k]?=some r:=⟨_,zA3 (by rw [hc.out.1];exact hlt)⟩;have hrm:r.length=m:=hc.out.2.1 r (zA5 hr);have hm:=hc.out.2.2.2.1;obtain ⟨ad,rfl⟩:=HSX.out.place (fun e=>by rw [e] at hr;simp at hr);obtain ⟨Ar,cr,hkn,ecr,sr⟩:=HSX.out.at2 hr;rw [hrm] at ecr sr;have HE:=hQ9 ecr;have HSR:=hQ9 sr;have HRZ:Hid (∀ z∈r,zC4 z<=1000):=hc.out.2.2.2.2.2 r (zA5 hr);have HTS:Hid ((zK0 d T).take (k+1)=(zK0 d T).take k ++ [zM3 d r]):=jH8 hr;have HRM:=hQ9 hrm;have e0:=(HB.out.cell (World.block_lt_of_cell? wx _ ecr)).trans ecr;obtain ⟨mkq,hmkq⟩:=Classical.axiomOfChoice (fun w=>yG1 (P:=prog) (w:=w) underlying44 zV9 m (by omega));have hmk1:=fun w=>(hmkq w).1;obtain ⟨RN0,bm⟩:=(hmkq wo).2;clear hmkq ecr sr hr hrm;obtain ⟨n',hn'⟩:∃ n',n-k=n'+1:=⟨n-k-1,by omega⟩;rw [hn'] at TZ;have HN':Hid (n'=n-(k+1)):=by show _=_;omega
   clear hn';have hgl:gs.length=k:=by rw [TZ.len,zB2,qN9,hc.out.1];omega
   have HGL:=hQ9 hgl;have hgo:wx.heap.size<=wo.heap.size:=HB.out.size;have TB:=TZ.below bm
   have TP:=TabP.start TB RN0 hgo (fun i hi=>by
    have hi2:=(zA4.1 hi).1;obtain ⟨r2,hr2⟩:∃ r2,((zK0 d T).take k)[i]?=some r2:=⟨_,zA3 (by rw [<- TZ.len];exact hi2)⟩
    have:=(TZ.row i _ r2 hi hr2).2.1.lt
    omega)
   rw [hgl] at TP;unfold zS8 at TP;obtain ⟨u4,hu4⟩:∃ u,(zQ6 m (n'+1) gs)[k]?=some u:=⟨_,zA3 (by rw [yL9];omega)⟩;have c4:(mkq wo).cell? ⟨wx.heap.size,k,none⟩=some u4:=by rw [TB.blk.1.cell,List.getElem?_toArray];exact hu4
   have f4:=TB.blk.1.frozen k;have e1:=(bm.cell (World.block_lt_of_cell? wo _ e0)).trans e0;have HBW:Hid (Below wx.heap.size wx _):=(HB.out.trans (bm.mono hgo)).setCell (p:=⟨wx.heap.size,k,none⟩) (zB4 _) (.slice (some ⟨wo.heap.size,0,none⟩) m m);have e2:=(HBW.out.cell (World.block_lt_of_cell? wx _ HE.out)).trans HE.out;have ez:([]:List Rat)=(zM3 d r).take 0:=List.take_zero.symm;have TP0:=TP;rw [ez] at TP0;clear ez;clear TP TB TZ RN0 bm HB hu4 hgl;go_wp2
   go_loopw [30] (fun v30 wr => ∃ j:Nat,j<=m/\TabP wr wx.heap.size m wx.heap.size n' gs ((zK0 d T).take k) wo.heap.size ((zM3 d r).take j)/\Hid (Below wx.heap.size wx wr)/\v30=.int .i64 (j:Int)) (fun v30 _=>m-(intOf v30).toNat)
   case atStart=>exact ⟨0,by omega,TP0,HBW,rfl⟩
   case round =>
    clear TP0 HBW e0 e1 e2 c4 f4 hmk1;obtain ⟨j,hj,TP,HB,rfl⟩:=hrel;obtain ⟨wi,hwi⟩:∃ wi,wi=wr:=⟨_,rfl⟩;subst hwi;by_cases hjl:j<m
    ·obtain ⟨z,hz⟩:∃ z,r[j]?=some z:=⟨_,zA3 (by rw [HRM.out];exact hjl)⟩;have hbd:Below wx.heap.size wx wi.drew:=HB.out.trans ((Below.refl _ wi).drew.mono HB.out.size);have e0:wi.drew.cell? _=_:=(hbd.cell (World.block_lt_of_cell? wx _ HE.out)).trans HE.out;obtain ⟨g2,o2,uz,rfl,hjm,p0,p1,sz⟩:=HSR.out.at_ hz;obtain ⟨Az,cz,rfl,_⟩:=id sz;have hix:=fun w=>zW6 (P:=prog) underlying48 (by kernel_rfl) (g:=g2) (o:=o2) (c:=cr) hjl w;have hixq:=fun w=>indexN (P:=prog) underlying44 (by kernel_rfl) (g:=wo.heap.size) (c:=m) hjl w;have x0:=(hbd.cell (World.block_lt_of_cell? wx _ p0)).trans p0;have x1:=(hbd.cell (World.block_lt_of_cell? wx _ p1)).trans p1;have kz:IsZ wi.drew (.agg #[.bool (ngB z),.slice Az (digs 4294967296 z.natAbs).length cz]) z:=⟨_,rfl,sz.below hbd⟩;have BD:=HB1.out.below hbd;obtain ⟨y0,y1,_,_⟩:=Blk.two BD;have kd:IsZ wi.drew (.agg #[.bool (ngB d),.slice A1 (digs 4294967296 d.natAbs).length c1]) d:=⟨_,rfl,HS1.out.below hbd⟩;have TPd:=TP.drew;have q0:=TPd.cellAt;rw [HGL.out] at q0;unfold zS8 at q0;obtain ⟨Q,hQ⟩:∃ Q,Q=Rat.divInt z d:=⟨_,rfl⟩;have HRS:Hid ((zM3 d r).take (j+1)=(zM3 d r).take j ++ [Q]):=by rw [hQ];exact jH7 hz
     have CM:∀ w a b,IsZ w a z->IsZ w b d->Calls prog 77 #[a,b] w (qE8 Q 0 w):=fun w a b h1 h2=>by rw [hQ];exact jA3 a z b d w h1 h2 (HRZ.out z (zA5 hz)) hc.out.2.2.2.2.1 HD.out
     have HBd:=hQ9 hbd;have hszd:=hbd.size;have hjq:j=((zM3 d r).take j).length:=by rw [zB2,qN8,HRM.out];omega
     have HJQ:=hQ9 hjq;clear hz hQ hbd p0 p1 sz TP HB BD hjq hjm;go_upto_region 9 with (fail)
     go_region_law (first | (go_simp;go_at_call 77;refine (CM _ _ _ (by exact kz) (by exact kd)).mono ?_;rintro e w3 ⟨v3,rfl,k3,b3⟩;obtain ⟨u3,t3,rfl,s3,d3⟩:=k3;obtain ⟨A3,c3,rfl,_⟩:=id s3;obtain ⟨D3,e3,rfl,_⟩:=id d3;have TP3:=TPd.below b3;have q3:=(b3.cell (World.block_lt_of_cell? wi.drew _ q0)).trans q0;have z0:=(b3.cell (World.block_lt_of_cell? wi.drew _ e0)).trans e0;obtain ⟨p5,q5,t5,P0,P1,P2,F0,F1,F2⟩:=TP3.cur.place hjl))
     all_goals
      obtain ⟨G8,R8,-⟩:=jC7 TP3.cur hjl s3 d3;have TP8:=TP3.set G8 (R8 HJQ.out);rw [<- HRS.out] at TP8;have HB8:=hQ9 ((HBd.out.trans (b3.mono hszd)).grown G8 (zB5 hszd b3.size) (fun q e=>by injection e with e;omega));clear R8 G8 TP3 TPd q0 q3 z0 e0 x0 x1 y0 y1 kz kd s3 d3 b3 CM HBd HRS P0 P1 P2 F0 F1 F2;go_wp2;go_roundw;case rel=>exact ⟨j+1,by omega,TP8,HB8,by go_num⟩
      case measure=>simp [intOf];omega
    ·have TZ2:TabZ wi wx.heap.size m wx.heap.size (n-(k+1)) (gs ++ [wo.heap.size]) ((zK0 d T).take (k+1)):=by
      have h:=TP;rw [show (zM3 d r).take j=zM3 d r from zA7 (by rw [qN8,HRM.out];omega)] at h;rw [HTS.out,<- HN'.out];exact h.done (by rw [qN8,HRM.out])
     clear TP;go_wp2;go_roundw;case rel=>exact ⟨k+1,_,by omega,TZ2,HB,by go_num⟩
     case measure=>simp [intOf];omega
  ·have HT:Hid (SlT .u64 4294967296 wo (.slice (some ⟨wx.heap.size,0,none⟩) n n) (zK0 d T)):=by
    have h:=TZ;rw [zA7 (by rw [qN9,hc.out.1];omega),show n-k=0 by omega] at h;exact h.slT (by rw [qN9,hc.out.1]) (by omega) (by have:=hc.out.2.2.2.1;omega)
   have HBf:Hid (Below w.heap.size w wo):=HX.out.trans (HB.out.mono HX.out.size);clear TZ;go_wp2;go_ret;exact ⟨_,rfl,HT.out,HBf.out⟩
theorem digs_one:digs 4294967296 1=[1]:=by decide +kernel
def isB (v:Value):Prop:=(∃ b,v=.bool b) \/ ∃ A n c,v=.slice A n c
def zG1 (e:TypeId) (w:World) (base:Nat) (v:Value) (ps:List (Int × Value)):Prop:=w.ownsRow base e 2 v ps.length (zF0 ps) /\ ∀ g,v.ownBlock=some g -> ∃ cs,w.heap[g]?=some (.cells cs e (0,0)) /\ ∀ c∈cs,isB c
def qC1 (ps:List (Int × Value)):Prop:=∀ p∈ps,∃ A n c,p.2=.slice A n c
theorem jI {ps:List (Int × Value)} (h:qC1 ps):∀ c∈zF0 ps,isB c:=fun c hc=>by
 obtain ⟨p,hp,hc⟩:=List.mem_flatMap.1 hc;obtain ⟨A,n,d,e⟩:=h p hp;simp only [e,List.mem_cons,List.not_mem_nil,or_false] at hc;rcases hc with rfl|rfl
 ·exact .inl ⟨_,rfl⟩
 ·exact .inr ⟨_,_,_,rfl⟩
theorem isB_one {c:Value} (h:isB c):c.oneCell'=true:=by
 rcases h with ⟨b,rfl⟩|⟨A,n,d,rfl⟩<;>rfl
theorem zG1.grown {e:TypeId} {w w':World} {base:Nat} {v:Value} {ps:List (Int × Value)} {row:Option Nat} (h:zG1 e w base v ps) (hg:w.grownBy w' row) (hne:∀ g,v.ownBlock=some g->row≠some g):zG1 e w' base v ps:=by
 refine ⟨World.ownsRow.kept (row:=row) h.1 hg (by
  cases hv:v.ownBlock with
  | none=>exact .inl rfl
  | some g=>exact .inr fun e=>hne g hv e.symm),fun g hv => ?_⟩
 obtain ⟨cs,h1,h2⟩:=h.2 g hv;exact ⟨cs,(hg.block g (World.ownsRow.lt h.1 g hv).2 (fun e=>hne g hv e.symm)).trans h1,h2⟩
theorem zG1.below {e:TypeId} {w w':World} {base:Nat} {v:Value} {ps:List (Int × Value)} (h:zG1 e w base v ps) (hb:Below w.heap.size w w'):zG1 e w' base v ps:=h.grown (qM8 hb none) (fun g _ e=>by cases e)
theorem jI0 (e:TypeId) (w:World) (base:Nat):zG1 e w base (.slice none 0 0) []:=⟨World.ownsRow_nil w base e 2,fun g h=>by cases h⟩
section
variable {P:Program}
theorem jI1 {w:World} {base:Nat} {t ty e:TypeId} (hT:P.underlying t=some (.slice e)) (hI:∃ i,P.info? e=some i/\i.zero=some (.agg #[.bool false,.slice none 0 0])/\i.size=2/\i.bytes=32) {v:Value} {ps news:List (Int × Value)} (hown:zG1 e w base v ps) {ad:Addr} {m c:Nat} (hm:m=news.length) (hm0:0<m)
  (hr:∀ (i:Nat) (u:Value),(zF0 news)[i]?=some u->w.cell? (ad.add i)=some u) (h1:qC1 news) (hlen:ps.length+m<=1000000000) (hbase:base<=w.heap.size) :
  ∃ v' w',(Builtin.append_ #[t,t] ty #[v,.slice (some ad) m c]).run P w=.ok v' w'/\zG1 e w' base v' (ps ++ news)/\w.grownBy w' v.ownBlock/\(v'.ownBlock=v.ownBlock\/v'.ownBlock=some w.heap.size):=by
 obtain ⟨i,hi,hz,hs,hby⟩:=hI;subst hm;have hB:=jI h1;have one:∀ u∈zF0 news,u.oneCell'=true:=fun u hu=>isB_one (hB u hu);have hl:(zF0 news).length=news.length*i.size:=by rw [hs,qN3]
 have zs:∀ n,∀ c∈Builtin.zeroCells (Value.agg #[.bool false,.slice none 0 0]).cells n,isB c:=by
  intro n c hc;unfold Builtin.zeroCells at hc;rw [show (Value.agg #[.bool false,.slice none 0 0]).cells = #[.bool false,.slice none 0 0] from rfl] at hc;simp at hc;obtain ⟨j,_,rfl⟩:=hc;rcases (show j % 2=0\/j % 2=1 by omega) with e | e
  ·simp [e];exact .inl ⟨_,rfl⟩
  ·simp [e];exact .inr ⟨_,_,_,rfl⟩
 obtain ⟨v',w',g1,g2,g3,_,g5⟩:=run_append_own_at (P:=P) w base t ty e i (.agg #[.bool false,.slice none 0 0]) 2 32 hT hi hz hs hby rfl (by decide) v ps.length (zF0 ps) hown.1 ad news.length c (zF0 news) (by rw [qN3]) (fun j u hu=>hr j u hu) one (by unfold maxLen;omega) (by omega) hbase;refine ⟨v',w',g1,⟨by rw [zA8,show zF0 (ps ++ news)=zF0 ps ++ zF0 news by simp [zF0]];exact g2,fun g hg => ?_⟩,g3,g5⟩;rcases hown.1.2 with ⟨rfl,h0⟩|⟨g',cap,cur,rfl,hbg,hgg,hnc,hcm,hcs,htake⟩
 ·have hx:ps=[]:=List.eq_nil_of_length_eq_zero h0;subst hx;have hr2:=run_append_nil (P:=P) w t ty e i (.agg #[.bool false,.slice none 0 0]) hT hi hz ad news.length c (zF0 news) hl hr hm0 (by omega) (by rw [hby];simp at hlen;omega);rw [hr2] at g1;injection g1 with g1 g1';subst g1;subst g1';obtain rfl:w.heap.size=g:=by simpa [Value.ownBlock] using hg
  refine ⟨_,heap_alloc_new w.drew _,fun c hc => ?_⟩;rcases Array.mem_append.1 hc with hc | hc
  ·exact hB c (by simpa using hc)
  ·exact zs _ c hc
 ·obtain ⟨cs,hcs1,hcs2⟩:=hown.2 g' rfl;rw [hgg] at hcs1;injection hcs1 with hcs1;injection hcs1 with hcs1 _ _;subst hcs1;by_cases hroom:ps.length+news.length<=cap
  ·have hfit:ps.length*i.size+(zF0 news).length<=cur.size:=by rw [hcs,hs,qN3];omega
   have hr2:=run_append_room (P:=P) w t ty e i hT hi g' ps.length cap cur hgg ad news.length c (zF0 news) hl hr one hroom hfit;rw [hr2] at g1;injection g1 with g1 g1';subst g1;subst g1';obtain rfl:g'=g:=by simpa [Value.ownBlock] using hg
   refine ⟨_,setRow_heap w g' cur _ e _ hgg,fun c hc => ?_⟩;have hc2:c∈cur.toList.take (ps.length*i.size) ++ zF0 news ++ cur.toList.drop (ps.length*i.size+(zF0 news).length):=by simpa using hc
   rcases List.mem_append.1 hc2 with hc2 | hc2
   ·rcases List.mem_append.1 hc2 with hc2 | hc2
    ·exact hcs2 c (by simpa using List.mem_of_mem_take hc2)
    ·exact hB c hc2
   ·exact hcs2 c (by simpa using List.mem_of_mem_drop hc2)
  ·have holds:∀ j u,(zF0 ps)[j]?=some u->w.cell? ((⟨g',0,none⟩:Addr).add j)=some u:=World.ownsRow.cells hown.1 (g:=g') rfl;have hr2:=run_append_grow (P:=P) w t ty e i (.agg #[.bool false,.slice none 0 0]) hT hi hz ⟨g',0,none⟩ ps.length cap (zF0 ps) (by rw [hs,qN3]) holds ad news.length c (zF0 news) hl hr (by omega) (by omega) (growslice_fits (by omega) (by rw [hby];omega));rw [hr2] at g1;injection g1 with g1 g1';subst g1;subst g1';obtain rfl:w.heap.size=g:=by simpa [Value.ownBlock] using hg
   refine ⟨_,heap_alloc_new w.drew _,fun c hc => ?_⟩;rcases Array.mem_append.1 hc with hc | hc
   ·rcases Array.mem_append.1 hc with hc | hc
    ·have hcv:c∈zF0 ps:=by simpa using hc
     rw [<- htake] at hcv;exact hcs2 c (by simpa using List.mem_of_mem_take hcv)
    ·exact hB c (by simpa using hc)
   ·exact zs _ c hc
end
section
variable {P:Program}
end
theorem zG1.under {e:TypeId} {w:World} {base:Nat} {v:Value} {ps:List (Int × Value)} (h:zG1 e w base v ps):∀ g,v.ownBlock=some g->base<=g/\g<w.heap.size:=fun g hg=>World.ownsRow.lt h.1 g hg
theorem zG1.slice {e:TypeId} {w:World} {base:Nat} {v:Value} {ps:List (Int × Value)} (h:zG1 e w base v ps):∃ A c,v=.slice A ps.length c:=by
 rcases h.1.2 with ⟨e1,h0⟩|⟨g,cap,cur,e1,_⟩
 ·exact ⟨none,0,by rw [e1,h0]⟩
 ·exact ⟨_,_,e1⟩
theorem zG1.bel {e:TypeId} {w w':World} {base:Nat} {v:Value} {ps:List (Int × Value)} (h:zG1 e w base v ps) (hg:w.grownBy w' v.ownBlock) (hb:base<=w.heap.size):Below base w w':=(Below.refl base w).grown hg hb (fun g e=>(h.under g e).1)
theorem zG1.keepS {e:TypeId} {w w':World} {base:Nat} {V:Value} {ps:List (Int × Value)} {k:IntKind} {v:Value} {l:List Nat} (h:zG1 e w base V ps) (hg:w.grownBy w' V.ownBlock) (hs:IsS w k v l):IsS w' k v l:=by
  cases ho:V.ownBlock with
  | none=>rw [ho] at hg;exact hs.below ⟨hg.os,hg.tape,hg.output,hg.size,fun k hk=>hg.block k hk (by simp)⟩
  | some g =>
    rw [ho] at hg;obtain ⟨cs,h1,h2⟩:=h.2 g ho;exact Go.Proofs.YtagaabooccnamaaGreat.flow.off hs h1 (fun c hc n=>by rcases h2 c hc with ⟨b,rfl⟩|⟨A,m,d,rfl⟩<;>simp) hg
def ArgW (w:World) (v:Value):Prop:=∃ A n c,v=.slice A n c/\n<=c/\c<=maxLen /\ ∀ i,i<n -> ∃ ad u,A=some ad/\w.cell? (ad.add i)=some u/\qF3 w u
theorem qF3.below {w w':World} {v:Value} (h:qF3 w v) (hb:Below w.heap.size w w'):qF3 w' v:=by
 obtain ⟨A,n,c,e,h1,h2,h3⟩:=h;refine ⟨A,n,c,e,h1,h2,fun i hi => ?_⟩;obtain ⟨ad,b,u,l,e2,c0,c1,s,lt⟩:=h3 i hi;exact ⟨ad,b,u,l,e2,(hb.cell (World.block_lt_of_cell? w _ c0)).trans c0,(hb.cell (World.block_lt_of_cell? w _ c1)).trans c1,s.below hb,lt⟩
theorem ArgW.below {w w':World} {v:Value} (h:ArgW w v) (hb:Below w.heap.size w w'):ArgW w' v:=by
 obtain ⟨A,n,c,e,h1,h2,h3⟩:=h;refine ⟨A,n,c,e,h1,h2,fun i hi => ?_⟩;obtain ⟨ad,u,e2,c0,hz⟩:=h3 i hi;exact ⟨ad,u,e2,(hb.cell (World.block_lt_of_cell? w _ c0)).trans c0,qF3.below hz hb⟩
def SlP (w:World) (v:Value) (ps:List (Int × Value)):Prop:=∃ A c,v=.slice A ps.length c/\ps.length<=c/\c<=maxLen /\ ∀ (i:Nat) (p:Int × Value),ps[i]?=some p -> ∃ g o,A=some ⟨g,o,none⟩/\w.cell? ⟨g,o+i*2,none⟩=some (.bool (ngB p.1))/\w.cell? ⟨g,o+i*2+1,none⟩=some p.2
def zH9 (k:IntKind) (B:Nat) (w:World) (ps:List (Int × Value)):Prop:=∀ p∈ps,IsS w k p.2 (digs B p.1.natAbs)
theorem SlZ.pairs {k:IntKind} {B:Nat} {w:World} {v:Value} {zs:List Int} (h:SlZ k B w v zs):∃ ps:List (Int × Value),ps.map (·.1)=zs/\SlP w v ps/\zH9 k B w ps:=by
  obtain ⟨A,c,rfl,h2,h3,h4⟩:=h
  have h5:∀ i:Nat,∃ u:Value,∀ z,zs[i]?=some z -> ∃ g o,A=some ⟨g,o,none⟩/\w.cell? ⟨g,o+i*2,none⟩=some (.bool (ngB z))/\w.cell? ⟨g,o+i*2+1,none⟩=some u/\IsS w k u (digs B z.natAbs):=fun i=>by
    cases hz:zs[i]? with
    | none=>exact ⟨.bool false,fun z h=>by cases h⟩
    | some z =>
      obtain ⟨g,o,u,h⟩:=h4 i z hz;exact ⟨u,fun z' h'=>by injection h' with h';subst h';exact ⟨g,o,h⟩⟩
  obtain ⟨f,hf⟩:=Classical.axiomOfChoice h5;obtain ⟨ps,hps⟩:∃ ps:List (Int × Value),ps=(List.range zs.length).map fun i=>(zs.getD i 0,f i):=⟨_,rfl⟩;have hl:ps.length=zs.length:=by rw [hps];simp
  have at_:∀ (i:Nat) (p:Int × Value),ps[i]?=some p->zs[i]?=some p.1/\p.2=f i:=fun i p hp=>by
    have hi:=(zA4.1 hp).1;rw [hl] at hi;rw [hps,zB1,List.getElem?_range hi] at hp;injection hp with hp;subst hp;refine ⟨?_,rfl⟩;show zs[i]?=some (zs.getD i 0)
    rw [zA6,zA3 hi];rfl
  refine ⟨ps,?_,⟨A,c,by rw [hl],by rw [hl];exact h2,h3,fun i p hp => ?_⟩,fun p hp => ?_⟩
  · refine List.ext_getElem? fun i => ?_;rw [zB1]
    cases hp:ps[i]? with
    | none =>
      have h6:¬ i<ps.length:=fun h=>by rw [zA3 h] at hp;cases hp
      rw [List.getElem?_eq_none (by omega)];rfl
    | some p=>rw [(at_ i p hp).1];rfl
  · obtain ⟨h6,h7⟩:=at_ i p hp;obtain ⟨g,o,e,c0,c1,_⟩:=hf i _ h6;exact ⟨g,o,e,c0,by rw [h7];exact c1⟩
  · obtain ⟨i,hi⟩:=List.mem_iff_getElem?.1 hp;obtain ⟨h6,h7⟩:=at_ i p hi;obtain ⟨g,o,e,c0,c1,s⟩:=hf i _ h6;rw [h7];exact s
theorem zH9.sl {k:IntKind} {B:Nat} {w:World} {ps:List (Int × Value)} (h:zH9 k B w ps):qC1 ps:=fun p hp=>by
 obtain ⟨A,c,e,_⟩:=h p hp;exact ⟨A,_,c,e⟩
theorem zH9.below {k:IntKind} {B:Nat} {w w':World} {ps:List (Int × Value)} (h:zH9 k B w ps) (hb:Below w.heap.size w w'):zH9 k B w' ps:=fun p hp=>(h p hp).below hb
theorem zH9.append {k:IntKind} {B:Nat} {w:World} {ps qs:List (Int × Value)} (h:zH9 k B w ps) (h':zH9 k B w qs):zH9 k B w (ps ++ qs):=fun p hp=>by
 rcases List.mem_append.1 hp with hp | hp
 ·exact h p hp
 ·exact h' p hp
theorem zH9.nil {k:IntKind} {B:Nat} {w:World} : zH9 k B w []:=fun p hp=>by simp at hp
theorem zH9.take {k:IntKind} {B:Nat} {w:World} {ps:List (Int × Value)} (h:zH9 k B w ps) (n:Nat):zH9 k B w (ps.take n):=fun p hp=>h p (List.mem_of_mem_take hp)
theorem zH9.drop {k:IntKind} {B:Nat} {w:World} {ps:List (Int × Value)} (h:zH9 k B w ps) (n:Nat):zH9 k B w (ps.drop n):=fun p hp=>h p (List.mem_of_mem_drop hp)
theorem SlP.below {w w':World} {v:Value} {ps:List (Int × Value)} (h:SlP w v ps) (hb:Below w.heap.size w w'):SlP w' v ps:=by
 obtain ⟨A,c,e,h1,h2,h3⟩:=h;refine ⟨A,c,e,h1,h2,fun i p hp => ?_⟩;obtain ⟨g,o,e2,c0,c1⟩:=h3 i p hp;exact ⟨g,o,e2,(hb.cell (World.block_lt_of_cell? w _ c0)).trans c0,(hb.cell (World.block_lt_of_cell? w _ c1)).trans c1⟩
theorem SlP.sl {k:IntKind} {B:Nat} {w:World} {v:Value} {ps:List (Int × Value)} (h:SlP w v ps) (hs:zH9 k B w ps):SlZ k B w v (ps.map (·.1)):=by
  obtain ⟨A,c,e,h1,h2,h3⟩:=h;refine ⟨A,c,by rw [zA9];exact e,by rw [zA9];exact h1,h2,fun i z hz => ?_⟩;rw [zB1] at hz
  cases hp:ps[i]? with
  | none=>rw [hp] at hz;cases hz
  | some p =>
    rw [hp] at hz;obtain rfl:p.1=z:=by simpa using hz
    obtain ⟨g,o,e2,c0,c1⟩:=h3 i p hp;exact ⟨g,o,_,e2,c0,c1,hs p (zA5 hp)⟩
theorem yM0:∀ (ps:List (Int × Value)) (j:Nat) (u:Value),(zF0 ps)[j]?=some u -> ∃ i p,ps[i]?=some p/\((j=i*2/\u=.bool (ngB p.1))\/(j=i*2+1/\u=p.2))
  | [],j,u,h=>by simp [zF0] at h
  | p :: ps,0,u,h=>⟨0,p,rfl,.inl ⟨rfl,by simpa [zW7] using h.symm⟩⟩
  | p :: ps,1,u,h=>⟨0,p,rfl,.inr ⟨rfl,by simpa [zW7] using h.symm⟩⟩
  | p :: ps, j + 2, u, h => by
    have e:(zF0 (p :: ps))[j+2]?=(zF0 ps)[j]?:=by rw [zW7];simp
    rw [e] at h;obtain ⟨i,q,hq,h2⟩:=yM0 ps j u h;refine ⟨i+1,q,by simpa using hq,?_⟩;rcases h2 with ⟨a,b⟩|⟨a,b⟩
    · exact .inl ⟨by omega,b⟩
    · exact .inr ⟨by omega,b⟩
theorem SlP.flatAt {w:World} {A:Option Addr} {n c:Nat} {ps:List (Int × Value)} (h:SlP w (.slice A n c) ps) (hne:ps≠[]):∃ ad,A=some ad /\ ∀ (i:Nat) (u:Value),(zF0 ps)[i]?=some u->w.cell? (ad.add i)=some u:=by
 obtain ⟨A',c',e,h1,h2,h3⟩:=h;injection e with e1 e2 e3;subst e1;subst e2;subst e3;obtain ⟨p0,hp0⟩:∃ p0,ps[0]?=some p0:=⟨_,zA3 (List.length_pos_iff.2 hne)⟩;obtain ⟨g0,o0,rfl,_⟩:=h3 0 p0 hp0;refine ⟨_,rfl,fun j a ha => ?_⟩;obtain ⟨k,p,hp,h⟩:=yM0 ps j a ha;obtain ⟨g',o',e,c0,c1⟩:=h3 k p hp;injection e with e;injection e with e1 e2;subst e1;subst e2;rw [qT7];rcases h with ⟨rfl,rfl⟩|⟨rfl,rfl⟩
 ·exact c0
 ·rw [<- Nat.add_assoc];exact c1
section
variable {P:Program}
theorem jI2 {w:World} {base:Nat} {t ty e:TypeId} (hT:P.underlying t=some (.slice e)) (hI:∃ i,P.info? e=some i/\i.zero=some (.agg #[.bool false,.slice none 0 0])/\i.size=2/\i.bytes=32) {v u:Value} {ps qs:List (Int × Value)} (hown:zG1 e w base v ps) (hu:SlP w u qs) (h1:qC1 qs) (hlen:ps.length+qs.length<=1000000000) (hbase:base<=w.heap.size) :
  ∃ v' w',(Builtin.append_ #[t,t] ty #[v,u]).run P w=.ok v' w'/\zG1 e w' base v' (ps ++ qs)/\w.grownBy w' v.ownBlock/\(v'.ownBlock=v.ownBlock\/v'.ownBlock=some w.heap.size):=by
 obtain ⟨A,c,rfl,hc,hm⟩:=id hu;by_cases hq:qs=[]
 ·subst hq;obtain ⟨i,hi,hz,hs,hb⟩:=hI
  have hcv:∃ Av cv,v=.slice Av ps.length cv/\ps.length<=cv:=by
   rcases hown.1.2 with ⟨e1,h0⟩|⟨g,cap,cur,e1,_,_,hn,_⟩
   ·exact ⟨none,0,by rw [e1,h0],by omega⟩
   ·exact ⟨_,cap,e1,hn⟩
  obtain ⟨Av,cv,rfl,hcv⟩:=hcv;refine ⟨_,w,?_,by rw [List.append_nil];exact hown,qN _ _,.inl rfl⟩;cases A<;>cases Av<;>simp [Builtin.append_,go_sem,run_underlying hT,sizeOf,typeInfo,hi,Builtin.lenOf,Builtin.firstCells,hcv,storeCells]
 ·obtain ⟨ad,rfl,hr⟩:=hu.flatAt hq;exact jI1 hT hI hown rfl (List.length_pos_iff.2 hq) hr h1 hlen hbase
theorem jI3 {w:World} {o:Oper} {a:Act} {K:Act->World->Prop} {Q:Exit->Act->World->Prop} (s x:Operand) {t:TypeId}
  (ho:o.op=.call { callee:=.builtin .append,args:=#[s,x],argTypes:=#[t,t] })
  {base:Nat} {e:TypeId} (hT:P.underlying t=some (.slice e)) (hI:∃ i,P.info? e=some i/\i.zero=some (.agg #[.bool false,.slice none 0 0])/\i.size=2/\i.bytes=32) {v u:Value} {ps qs:List (Int × Value)} (hs:a.eval s=v) (hown:zG1 e w base v ps) (hx:a.eval x=u) (hu:SlP w u qs) (h1:qC1 qs) (hlen:ps.length+qs.length<=1000000000) (hbase:base<=w.heap.size)
  (h:∀ v' w',zG1 e w' base v' (ps ++ qs)->Hid (w.grownBy w' v.ownBlock)->Hid (v'.ownBlock=v.ownBlock\/v'.ownBlock=some w.heap.size)->K (a.put o.dst v') w'):o.wp P a w K Q:=by
 obtain ⟨v',w',hrun,h2,h3,h4⟩:=jI2 (P:=P) (ty:=o.type) hT hI hown hu h1 hlen hbase;unfold Oper.wp execOp;simp only [ho,resolve,invoke,builtin,Sem.run_bind,Sem.run_pure,Result.andThen_ok,List.map_toArray,List.map_cons,List.map_nil,hs,hx,hrun];exact h v' w' h2 h3 h4
theorem jI4 {w:World} {ops:Array Oper} {rest:List Oper} {o:Oper} {a:Act} {Q:Exit->Act->World->Prop} (hgd:o.guard=none) (s x:Operand) {t:TypeId}
  (ho:o.op=.call { callee:=.builtin .append,args:=#[s,x],argTypes:=#[t,t] })
  {base:Nat} {e:TypeId} (hT:P.underlying t=some (.slice e)) (hI:∃ i,P.info? e=some i/\i.zero=some (.agg #[.bool false,.slice none 0 0])/\i.size=2/\i.bytes=32) {v u:Value} {ps qs:List (Int × Value)} (hs:a.eval s=v) (hown:zG1 e w base v ps) (hx:a.eval x=u) (hu:SlP w u qs) (h1:qC1 qs) (hlen:ps.length+qs.length<=1000000000) (hbase:base<=w.heap.size)
  (h:∀ v' w',zG1 e w' base v' (ps ++ qs)->Hid (w.grownBy w' v.ownBlock)->Hid (v'.ownBlock=v.ownBlock\/v'.ownBlock=some w.heap.size)->wpList P ops Q rest (a.put o.dst v') w'):wpList P ops Q (o :: rest) a w :=
 wpList_plain hgd fun _ hK=>jI3 s x ho hT hI hs hown hx hu h1 hlen hbase fun v' w' h2 h3 h4=>hK _ _ (h v' w' h2 h3 h4)
end
theorem zG1.slP {e:TypeId} {w:World} {base:Nat} {v:Value} {ps:List (Int × Value)} (h:zG1 e w base v ps):SlP w v ps:=by
 rcases h.1.2 with ⟨rfl,h0⟩|⟨g,cap,cur,rfl,_,hg,hn,hm,_,_⟩
 ·obtain rfl:ps=[]:=List.length_eq_zero_iff.1 h0;exact ⟨none,0,rfl,zB4 _,Nat.zero_le _,fun i p hp=>by simp at hp⟩
 ·refine ⟨some ⟨g,0,none⟩,cap,rfl,hn,hm,fun i p hp => ?_⟩;obtain ⟨f0,f1⟩:=qK6 ps i p hp;have k0:=World.ownsRow.cells h.1 (g:=g) rfl _ _ f0;have k1:=World.ownsRow.cells h.1 (g:=g) rfl _ _ f1;rw [zR2] at k0 k1;exact ⟨g,0,rfl,by rw [Nat.zero_add];exact k0,by rw [Nat.zero_add];exact k1⟩
theorem zG1.keepN {e:TypeId} {w w':World} {base:Nat} {V:Value} {ps qs:List (Int × Value)} {k:IntKind} {B:Nat} (h:zG1 e w base V ps) (hg:w.grownBy w' V.ownBlock) (hs:zH9 k B w qs):zH9 k B w' qs:=fun p hp=>h.keepS hg (hs p hp)
theorem cell_ne {w:World} {a b:Addr} {c d:Value} (ha:w.cell? a=some c) (hb:w.cell? b=some d) (hn:c≠d):a≠b:=fun e=>by
 subst e;rw [ha] at hb;injection hb with hb;exact hn hb
theorem zX3 {w:World} {a b:Addr} {x:Value} (h:a≠b):(w.setCell a x).cell? b=w.cell? b:=by
 rw [World.cell?_setCell_other];exact h
theorem yM1 {w:World} {a:Addr} {x u:Value} (h:w.cell? a=some u):(w.setCell a x).cell? a=some x:=by
 apply World.cell?_setCell_same;exact h
theorem IsS.put {w:World} {k:IntKind} {v:Value} {l:List Nat} {a:Addr} {x c:Value} (h:IsS w k v l) (hc:w.cell? a=some c) (hn:∀ n,c ≠ .int k n):IsS (w.setCell a x) k v l:=by
 obtain ⟨A,cc,rfl,h1,h2,h3⟩:=h;refine ⟨A,cc,rfl,h1,h2,fun i d hd => ?_⟩;obtain ⟨ad,rfl,hq⟩:=h3 i d hd;refine ⟨ad,rfl,?_⟩;rw [zX3 (cell_ne hc hq (hn _))];exact hq
section
variable {w:World} {g o:Nat} {b0:Bool} {A0:Option Addr} {n0 c0:Nat} {x y:Value}
theorem off1 (g o:Nat):(⟨g,o,none⟩:Addr)≠⟨g,o+1,none⟩:=fun e=>by injection e with _ e;omega
theorem IsS.put2 {k:IntKind} {v:Value} {l:List Nat} (h:IsS w k v l) (k0:w.cell? ⟨g,o,none⟩=some (.bool b0)) (k1:w.cell? ⟨g,o+1,none⟩=some (.slice A0 n0 c0)):IsS ((w.setCell ⟨g,o,none⟩ x).setCell ⟨g,o+1,none⟩ y) k v l :=
 Go.Proofs.YtagaabooccnamaaGreat.rat.IsS.put (Go.Proofs.YtagaabooccnamaaGreat.rat.IsS.put h k0 (fun n=>by simp)) (c:=.slice A0 n0 c0) (by rw [zX3 (off1 g o)];exact k1) (fun n=>by simp)
theorem qV (w:World) (g o:Nat) (x y:Value):w.grownBy ((w.setCell ⟨g,o,none⟩ x).setCell ⟨g,o+1,none⟩ y) (some g):=(zE7 w g o x).trans (zE7 _ g (o+1) y)
theorem SlZ.put2 {k:IntKind} {B:Nat} {v:Value} {zs:List Int} (h:SlZ k B w v zs) (hne:v.ownBlock≠some g) (k0:w.cell? ⟨g,o,none⟩=some (.bool b0)) (k1:w.cell? ⟨g,o+1,none⟩=some (.slice A0 n0 c0)):SlZ k B ((w.setCell ⟨g,o,none⟩ x).setCell ⟨g,o+1,none⟩ y) v zs:=by
 obtain ⟨A,c,rfl,h2,h3,h4⟩:=h;refine ⟨A,c,rfl,h2,h3,fun i z hz => ?_⟩;obtain ⟨g',o',u,rfl,c0',c1',s⟩:=h4 i z hz;have hne':some g'≠some g:=fun e=>hne (by simpa [Value.ownBlock] using e);have hg:=qV w g o x y;exact ⟨g',o',u,rfl,hg.cell c0' hne',hg.cell c1' hne',Go.Proofs.YtagaabooccnamaaGreat.rat.IsS.put2 s k0 k1⟩
theorem SlZ.setZ {k:IntKind} {B:Nat} {zs:List Int} {n c j:Nat} {z:Int} {u:Value} (h:SlZ k B w (.slice (some ⟨g,o,none⟩) n c) zs) (hj:j<zs.length) (hu:IsS w k u (digs B z.natAbs)):SlZ k B ((w.setCell ⟨g,o+j*2,none⟩ (.bool (ngB z))).setCell ⟨g,o+j*2+1,none⟩ u) (.slice (some ⟨g,o,none⟩) n c) (zs.set j z):=by
 obtain ⟨u0,hjn,p0,p1,s0⟩:=h.at2 (zA3 hj);obtain ⟨As,cs,rfl,_⟩:=id s0;obtain ⟨A,c',e,h2,h3,h4⟩:=h;injection e with e1 e2 e3;subst e1;subst e2;subst e3;refine ⟨_,_,by rw [zB3],by rw [zB3];exact h2,h3,fun i z' hz => ?_⟩;by_cases hi:j=i
 ·subst hi;rw [List.getElem?_set_self hj] at hz;injection hz with hz;subst hz;refine ⟨g,o,u,rfl,?_,?_,Go.Proofs.YtagaabooccnamaaGreat.rat.IsS.put2 hu p0 p1⟩
  ·rw [zX3 (fun e=>off1 g (o+j*2) e.symm),yM1 p0]
  ·exact yM1 (u:=.slice As (digs B (zs[j]).natAbs).length cs) (by rw [zX3 (off1 g (o+j*2))];exact p1)
 ·rw [List.getElem?_set_ne hi] at hz;obtain ⟨g',o',u',e,c0',c1',s⟩:=h4 i z' hz;injection e with e;injection e with e4 e5;subst e4;subst e5;have d:∀ p q:Nat,p≠q->(⟨g,p,none⟩:Addr)≠⟨g,q,none⟩:=fun p q hn e=>by injection e with _ e;exact hn e
  refine ⟨g,o,u',rfl,?_,?_,Go.Proofs.YtagaabooccnamaaGreat.rat.IsS.put2 s p0 p1⟩
  ·rw [zX3 (d _ _ (by omega)),zX3 (d _ _ (by omega))];exact c0'
  ·rw [zX3 (d _ _ (by omega)),zX3 (d _ _ (by omega))];exact c1'
end
theorem zE1.setZ {B B0:Nat} {w:World} {g gr o n c i j:Nat} {TS:TypeId} {us:List Value} {T:List (List Int)} {r:List Int} {z:Int} {u:Value} (h:zE1 .u64 B w g TS us T) (ha:Apt w B0 us) (hu:us[i]?=some (.slice (some ⟨gr,o,none⟩) n c)) (hr:T[i]?=some r) (hj:j<r.length) (hs:IsS w .u64 u (digs B z.natAbs)) :
  zE1 .u64 B ((w.setCell ⟨gr,o+j*2,none⟩ (.bool (ngB z))).setCell ⟨gr,o+j*2+1,none⟩ u) g TS us (T.set i (r.set j z))/\gr≠g:=by
 have sr:=h.2.2 i _ r hu hr;obtain ⟨u0,hjn,p0,p1,s0⟩:=sr.at2 (zA3 hj);obtain ⟨As,cs,rfl,_⟩:=id s0
 have hne:gr≠g:=by
  intro e;subst e;rw [h.1.1.cell,List.getElem?_toArray] at p0;obtain ⟨A',m,d,e4⟩:=h.1.2 _ (zA5 p0);cases e4
 refine ⟨⟨⟨Blk.grown h.1.1 (qV w gr (o+j*2) _ _) (fun e=>hne e.symm),h.1.2⟩,by rw [zB3];exact h.2.1,fun l x y hx hy => ?_⟩,hne⟩;by_cases hl:i=l
 ·subst hl;rw [List.getElem?_set_self (zA4.1 hr).1] at hy;injection hy with hy;subst hy;rw [hu] at hx;injection hx with hx;subst hx;exact sr.setZ hj hs
 ·rw [List.getElem?_set_ne hl] at hy;exact (h.2.2 l x y hx hy).put2 (fun e=>ha.2 i l _ x hl hu hx gr rfl e) p0 p1
theorem zG1.mono {e:TypeId} {w:World} {base base':Nat} {v:Value} {ps:List (Int × Value)} (h:zG1 e w base v ps) (hb:base'<=base):zG1 e w base' v ps:=by
 refine ⟨⟨h.1.1,?_⟩,h.2⟩;rcases h.1.2 with h1 | ⟨g,cap,cur,h1,h2,h3⟩
 ·exact .inl h1
 ·exact .inr ⟨g,cap,cur,h1,zB5 hb h2,h3⟩
theorem yM2 (n:Nat):∀ c∈Builtin.zeroCells (Value.agg #[.bool false,.slice none 0 0]).cells n,isB c:=by
 intro c hc;unfold Builtin.zeroCells at hc;rw [show (Value.agg #[.bool false,.slice none 0 0]).cells = #[.bool false,.slice none 0 0] from rfl] at hc;simp at hc;obtain ⟨j,_,rfl⟩:=hc;rcases (show j % 2=0\/j % 2=1 by omega) with e | e
 ·simp [e];exact .inl ⟨_,rfl⟩
 ·simp [e];exact .inr ⟨_,_,_,rfl⟩
theorem yM3 (n:Nat):(Builtin.zeroCells (Value.agg #[.bool false,.slice none 0 0]).cells n).size=n*2:=by
 unfold Builtin.zeroCells;rw [show (Value.agg #[.bool false,.slice none 0 0]).cells = #[.bool false,.slice none 0 0] from rfl];simp
section
variable {P:Program}
theorem jI5 {w:World} {t tn ty e:TypeId} {kn:IntKind} (hT:P.underlying t=some (.slice e)) (htn:P.underlying tn=some (.int kn)) (hI:∃ i,P.info? e=some i/\i.zero=some (.agg #[.bool false,.slice none 0 0])/\i.size=2/\i.bytes=32) {k:Nat} (h0:0<k) (hk:k<=1000000) :
  ∃ cap w',(Builtin.append_ #[t,tn] ty #[.slice none 0 0,.int .i64 (k:Int)]).run P w=.ok (.slice (some ⟨w.heap.size,0,none⟩) k cap) w'/\k<=cap/\zG1 e w' w.heap.size (.slice (some ⟨w.heap.size,0,none⟩) 0 cap) []/\Below w.heap.size w w':=by
 obtain ⟨i,hi,hz,hs,hb⟩:=hI;have h:=Go.Lib.run_append_grow_zeros (P:=P) w t tn ty e i (.agg #[.bool false,.slice none 0 0]) .i64 kn hT htn hi hz none 0 0 [] (by exact run_firstCells_none w.drew i.size 0 0 0) k h0 (by omega) (by omega) (by omega) (by rw [hb];omega) (growslice_fits (by omega) (by rw [hb];omega));obtain ⟨C,hC⟩:∃ C,C=grownCap w (0+k) 0 e:=⟨_,rfl⟩;have hC1:k<=C:=by rw [hC];have:=grownCap_ge w (0+k) 0 e;omega
 have hC2:C<=maxLen:=by rw [hC];exact grownCap_le_maxLen w (0+k) 0 e (by unfold maxLen;omega)
 rw [<- hC,Nat.zero_add] at h;refine ⟨C,_,h,hC1,⟨⟨rfl,.inr ⟨w.heap.size,C,_,rfl,zB4 _,heap_alloc_new w.drew _,Nat.zero_le _,hC2,?_,by simp [zF0]⟩⟩,fun g hg => ?_⟩,((Below.refl w.heap.size w).drew).trans (zD1 (w:=w.drew) (zB4 _) _)⟩
 ·rw [Array.size_append,Array.size_append,yM3,yM3];simp;omega
 ·obtain rfl:w.heap.size=g:=by simpa [Value.ownBlock] using hg
  refine ⟨_,heap_alloc_new w.drew _,fun c hc => ?_⟩;rcases Array.mem_append.1 hc with hc | hc
  ·rcases Array.mem_append.1 hc with hc | hc
   ·simp at hc
   ·exact yM2 _ c hc
  ·exact yM2 _ c hc
theorem jI6 {w:World} {ops:Array Oper} {rest:List Oper} {o:Oper} {a:Act} {Q:Exit->Act->World->Prop} (hgd:o.guard=none) (s x:Operand) {t tn:TypeId} {kn:IntKind}
  (ho:o.op=.call { callee:=.builtin .append,args:=#[s,x],argTypes:=#[t,tn] })
  {e:TypeId} (hT:P.underlying t=some (.slice e)) (htn:P.underlying tn=some (.int kn)) (hI:∃ i,P.info? e=some i/\i.zero=some (.agg #[.bool false,.slice none 0 0])/\i.size=2/\i.bytes=32) {k:Nat} (hs:a.eval s=.slice none 0 0) (hx:a.eval x=.int .i64 (k:Int)) (h0:0<k) (hk:k<=1000000)
  (h:∀ cap w',k<=cap->zG1 e w' w.heap.size (.slice (some ⟨w.heap.size,0,none⟩) 0 cap) []->Below w.heap.size w w'->wpList P ops Q rest (a.put o.dst (.slice (some ⟨w.heap.size,0,none⟩) k cap)) w'):wpList P ops Q (o :: rest) a w :=
 wpList_plain hgd fun _ hK=>by
  obtain ⟨cap,w',hrun,h2,h3,h4⟩:=jI5 (P:=P) (w:=w) (ty:=o.type) hT htn hI h0 hk;unfold Oper.wp execOp;simp only [ho,resolve,invoke,builtin,Sem.run_bind,Sem.run_pure,Result.andThen_ok,List.map_toArray,List.map_cons,List.map_nil,hs,hx,hrun];exact hK _ _ (h cap w' h2 h3 h4)
end
theorem jI7 (n:Nat) (w:World) (hn:n<=1000000):Calls prog 116 #[.slice none 0 0,.int .i64 (n:Int)] w (fun e w' => ∃ V,e=.returned V/\zG1 60 w' w.heap.size V []/\Below w.heap.size w w'):=by
 by_cases h0:0<n
 ·go_enter func116,ntmps116
  go_wp2_with (at_builtin;refine jI6 rfl (.tmp 20) (.tmp 21) rfl underlying48 underlying3 Go.Proofs.YtagaabooccnamaaGreat.whl.info_int (k:=n) rfl (by first | rfl | simp) h0 hn ?_;intro cap w2 hcap R2 b2)
  go_wp2;go_ret;exact ⟨_,rfl,R2,b2⟩
 ·obtain rfl:n=0:=by omega
  go_enter func116,ntmps116
  go_wp2;go_ret;exact ⟨_,rfl,jI0 _ _ _,Below.refl _ _⟩
theorem qV0 {α : Type} {l:List (List α)} {k:Nat} {x:List α} (h:l[k]?=some x):(l.take (k+1)).flatten=(l.take k).flatten ++ x:=by rw [List.take_add_one,h];simp
theorem zZ6 {α : Type} {l:List (List α)} {k:Nat} {x:List α} (h:l[k]?=some x):((l.take (k+1)).flatten).length=((l.take k).flatten).length+x.length:=by rw [qV0 h,zA8]
theorem yM4 {α : Type} {l:List (List α)} {m:Nat} (h:∀ x∈l,x.length<=m):∀ k,((l.take k).flatten).length<=k*m:=by
  intro k
  induction k with
  | zero=>simp
  | succ k ih =>
    cases hk:l[k]? with
    | none=>rw [List.take_add_one,hk];simp;rw [Nat.succ_mul];have:=ih;simp at this;omega
    | some x=>rw [zZ6 hk,Nat.succ_mul];have:=h x (zA5 hk);omega
theorem jI8 (V:Value) (vs:List Value) (pss:List (List (Int × Value))) (w:World) (hV:IsV w V vs) (hl:vs.length=pss.length) (hp:∀ (i:Nat) (v:Value) (ps:List (Int × Value)),vs[i]?=some v->pss[i]?=some ps->SlP w v ps/\zH9 .u64 4294967296 w ps) (hn:pss.length<=10) (hs:∀ ps∈pss,ps.length<=1000) :
  Calls prog 72 #[V] w (fun e w' => ∃ V',e=.returned V'/\zG1 60 w' w.heap.size V' pss.flatten/\zH9 .u64 4294967296 w' pss.flatten/\Below w.heap.size w w'):=by
 obtain ⟨A,c,rfl,hc,hcells⟩:=hV;have HC:=hQ9 hcells;have HP:=hQ9 hp;have HL:=hQ9 hl;obtain ⟨n,hnv⟩:∃ n,n=vs.length:=⟨_,rfl⟩;rw [<- hnv] at hl hc |-;have HN:Hid (n=vs.length/\n=pss.length/\n<=10):=⟨hnv,by omega,by omega⟩;have HB:=hQ9 (yM4 hs);have hn10:n<=10:=HN.out.2.2;clear hcells hp hs hnv hl hn
 go_enter func72,ntmps72
 go_wp2
 go_loopw [3,11] (fun v3 v11 wr => ∃ k s:Nat,k<=n/\Hid (s=((pss.take k).flatten).length)/\Hid (Below w.heap.size w wr)/\v3=.int .i64 (s:Int)/\v11=.int .i64 (k:Int)) (fun _ v11 _=>n-(intOf v11).toNat)
 case atStart =>
  have H0:Hid (0=((pss.take 0).flatten).length):=by show _=_;simp
  exact ⟨0,0,by omega,H0,Below.refl _ _,rfl,rfl⟩
 case round =>
  obtain ⟨k,s,hk,HS,HBw,rfl,rfl⟩:=hrel;obtain ⟨wo,hwo⟩:∃ wo,wo=wr:=⟨_,rfl⟩;subst hwo;have hsb:s<=10000:=by have h1:=HB.out k;have h2:=HS.out;have h3:=HN.out;have:k*1000<=10*1000:=Nat.mul_le_mul_right _ (by omega);omega
  by_cases hlt:k<n
  ·obtain ⟨v,hv⟩:∃ v,vs[k]?=some v:=⟨_,zA3 (by have:=HN.out.1;omega)⟩;obtain ⟨ps,hps⟩:∃ ps,pss[k]?=some ps:=⟨_,zA3 (by have:=HN.out.2.1;omega)⟩;obtain ⟨ad,rfl,ec0⟩:=HC.out k v hv;have ec:=(HBw.out.cell (World.block_lt_of_cell? w _ ec0)).trans ec0;obtain ⟨Av,cv,rfl,hcv,hcm,-⟩:=(HP.out k v ps hv hps).1;have hpl:ps.length<=11000:=by have h1:=HB.out (k+1);rw [zZ6 hps] at h1;have h3:=HN.out;have:(k+1)*1000<=11*1000:=Nat.mul_le_mul_right _ (by omega);omega
   have HS2:Hid (s+ps.length=((pss.take (k+1)).flatten).length):=by show _=_;rw [zZ6 hps,<- HS.out]
   clear hv hps ec0;go_wp2;go_roundw;case rel=>exact ⟨k+1,s+ps.length,by omega,HS2,HBw,by go_num,by go_num⟩
   case measure=>simp [intOf];omega
  ·obtain rfl:n=k:=by omega
   go_wp2_with fail
   refine (jI7 s _ (by omega)).mono ?_;rintro e w2 ⟨V2,rfl,R2,b2⟩;have hbo:=HBw.out.size;have R2m:=R2.mono hbo;have HB2:Hid (Below w.heap.size w w2):=HBw.out.trans (b2.mono hbo);obtain ⟨Ar,cr,rfl⟩:=R2.slice;clear R2 b2;go_wp2
   go_loopw [6,27] (fun v6 v27 wr => ∃ k:Nat,k<=n/\zG1 60 wr w.heap.size v6 (pss.take k).flatten/\Hid (zH9 .u64 4294967296 wr (pss.take k).flatten)/\Hid (Below w.heap.size w wr)/\v27=.int .i64 (k:Int)) (fun _ v27 _=>n-(intOf v27).toNat)
   case atStart =>
    have HN0:Hid (zH9 .u64 4294967296 w2 (pss.take 0).flatten):=by show zH9 _ _ _ _;simp;exact zH9.nil
    exact ⟨0,by omega,by simpa using R2m,HN0,HB2,rfl⟩
   case round =>
    clear R2m HB2;obtain ⟨k,hk,R,HNP,HBr,rfl⟩:=hrel;obtain ⟨wi,hwi⟩:∃ wi,wi=wr:=⟨_,rfl⟩;subst hwi;obtain ⟨A6,c6,rfl⟩:=R.slice;obtain ⟨m6,hm6⟩:∃ m6,m6=((pss.take k).flatten).length:=⟨_,rfl⟩;rw [<- hm6] at R |-;have HM6:=hQ9 hm6;have hm6b:m6<=10000:=by have h1:=HB.out k;have h3:=HN.out;have:k*1000<=10*1000:=Nat.mul_le_mul_right _ (by omega);omega
    clear hm6;by_cases hlt:k<n
    ·obtain ⟨v,hv⟩:∃ v,vs[k]?=some v:=⟨_,zA3 (by have:=HN.out.1;omega)⟩;obtain ⟨ps,hps⟩:∃ ps,pss[k]?=some ps:=⟨_,zA3 (by have:=HN.out.2.1;omega)⟩;obtain ⟨ad,rfl,ec0⟩:=HC.out k v hv;have ec:=(HBr.out.cell (World.block_lt_of_cell? w _ ec0)).trans ec0;obtain ⟨sp0,np0⟩:=HP.out k v ps hv hps;have sp:=sp0.below HBr.out;have np:=np0.below HBr.out;obtain ⟨Av,cv,rfl,hcv,hcm,-⟩:=id sp;have hlen:((pss.take k).flatten).length+ps.length<=1000000000:=by have h1:=HB.out (k+1);rw [zZ6 hps] at h1;have h3:=HN.out;have:(k+1)*1000<=11*1000:=Nat.mul_le_mul_right _ (by omega);omega
     have hbase:=HBr.out.size;have HF:Hid ((pss.take (k+1)).flatten=(pss.take k).flatten ++ ps):=qV0 hps;have hall:=np.sl;clear hv hps ec0 sp0 np0
     go_wp2_with (at_builtin;refine jI4 rfl (.tmp 31) (.tmp 32) rfl underlying48 Go.Proofs.YtagaabooccnamaaGreat.whl.info_int rfl R rfl sp hall hlen hbase ?_;intro V3 w3 R3 G3 O3)
     have R4:zG1 60 w3 w.heap.size V3 (pss.take (k+1)).flatten:=by rw [HF.out];exact R3
     have HNP3:Hid (zH9 .u64 4294967296 w3 (pss.take (k+1)).flatten):=by show zH9 _ _ _ _;rw [HF.out];exact (R.keepN G3.out HNP.out).append (R.keepN G3.out np)
     have HB3:Hid (Below w.heap.size w w3):=HBr.out.trans (R.bel G3.out hbase);clear R3 R sp np HNP HBr G3 O3 ec;go_wp2;go_roundw;case rel=>exact ⟨k+1,by omega,R4,HNP3,HB3,by go_num⟩
     case measure=>simp [intOf];omega
    ·obtain rfl:k=n:=by omega
     have HT:Hid (pss.take k=pss):=zA7 (by have:=HN.out.2.1;omega);go_wp2;go_ret;exact ⟨_,rfl,by have:=R;rwa [HT.out] at this,by have:=HNP.out;rwa [HT.out] at this,HBr.out⟩
theorem zD4.mono {e:TypeId} {w:World} {base base':Nat} {v:Value} {ps:List Elt} (h:zD4 e w base v ps) (hb:base'<=base):zD4 e w base' v ps:=by
 refine ⟨h.1,?_⟩;rcases h.2 with h1 | ⟨g,cap,cur,h1,h2,h3⟩
 ·exact .inl h1
 ·exact .inr ⟨g,cap,cur,h1,zB5 hb h2,h3⟩
theorem zD4.slice {e:TypeId} {w:World} {base:Nat} {v:Value} {ps:List Elt} (h:zD4 e w base v ps):∃ A c,v=.slice A ps.length c:=by
 rcases h.2 with ⟨e1,h0⟩|⟨g,cap,cur,e1,_⟩
 ·exact ⟨none,0,by rw [e1,h0]⟩
 ·exact ⟨_,_,e1⟩
theorem yM5 (n:Nat):(Builtin.zeroCells (Value.agg #[.bool false,.slice none 0 0,.slice none 0 0]).cells n).size=n*3:=by
 unfold Builtin.zeroCells;rw [show (Value.agg #[.bool false,.slice none 0 0,.slice none 0 0]).cells = #[.bool false,.slice none 0 0,.slice none 0 0] from rfl];simp
section
variable {P:Program}
theorem jI9 {w:World} {ops:Array Oper} {rest:List Oper} {o:Oper} {a:Act} {Q:Exit->Act->World->Prop} (hgd:o.guard=none) (s x:Operand) {t:TypeId}
  (ho:o.op=.call { callee:=.builtin .append,args:=#[s,x],argTypes:=#[t,t] })
  {base:Nat} {T:TypeId} (hT:P.underlying t=some (.slice T)) (hI:∃ i,P.info? T=some i/\i.zero=some (.agg #[.bool false,.slice none 0 0,.slice none 0 0])/\i.size=3/\i.bytes=56) {v u:Value} {ps qs:List Elt} (hs:a.eval s=v) (hown:zD4 T w base v ps) (hx:a.eval x=u) (hu:zM8 w u qs) (hone:∀ p∈qs,p.2.1.oneCell'=true/\p.2.2.oneCell'=true) (hlen:ps.length<=1000000000) (hlen2:qs.length<=1000000000) (hbase:base<=w.heap.size)
  (h:∀ v' w',zD4 T w' base v' (ps ++ qs)->Below base w w'->Hid (zH5 w w' v v')->wpList P ops Q rest (a.put o.dst v') w'):wpList P ops Q (o :: rest) a w :=
 wpList_plain hgd fun _ hK=>by
  obtain ⟨v',w',hrun,g2,g3⟩:=yH9 (P:=P) (ty:=o.type) hT hI hown hu hone hlen hlen2 hbase;unfold Oper.wp execOp;simp only [ho,resolve,invoke,builtin,Sem.run_bind,Sem.run_pure,Result.andThen_ok,List.map_toArray,List.map_cons,List.map_nil,hs,hx,hrun];exact hK _ _ (h v' w' g2 ((Below.refl base w).grown g3.2.1 hbase hown.base_le) g3)
theorem jJ {w:World} {t tn ty e:TypeId} {kn:IntKind} (hT:P.underlying t=some (.slice e)) (htn:P.underlying tn=some (.int kn)) (hI:∃ i,P.info? e=some i/\i.zero=some (.agg #[.bool false,.slice none 0 0,.slice none 0 0])/\i.size=3/\i.bytes=56) {k:Nat} (h0:0<k) (hk:k<=1000000) :
  ∃ cap w',(Builtin.append_ #[t,tn] ty #[.slice none 0 0,.int .i64 (k:Int)]).run P w=.ok (.slice (some ⟨w.heap.size,0,none⟩) k cap) w'/\k<=cap/\zD4 e w' w.heap.size (.slice (some ⟨w.heap.size,0,none⟩) 0 cap) []/\Below w.heap.size w w':=by
 obtain ⟨i,hi,hz,hs,hb⟩:=hI;have h:=Go.Lib.run_append_grow_zeros (P:=P) w t tn ty e i (.agg #[.bool false,.slice none 0 0,.slice none 0 0]) .i64 kn hT htn hi hz none 0 0 [] (by exact run_firstCells_none w.drew i.size 0 0 0) k h0 (by omega) (by omega) (by omega) (by rw [hb];omega) (growslice_fits (by omega) (by rw [hb];omega));obtain ⟨C,hC⟩:∃ C,C=grownCap w (0+k) 0 e:=⟨_,rfl⟩;have hC1:k<=C:=by rw [hC];have:=grownCap_ge w (0+k) 0 e;omega
 have hC2:C<=maxLen:=by rw [hC];exact grownCap_le_maxLen w (0+k) 0 e (by unfold maxLen;omega)
 rw [<- hC,Nat.zero_add] at h;refine ⟨C,_,h,hC1,⟨rfl,.inr ⟨w.heap.size,C,_,rfl,zB4 _,heap_alloc_new w.drew _,Nat.zero_le _,hC2,?_,by simp [zF1]⟩⟩,((Below.refl w.heap.size w).drew).trans (zD1 (w:=w.drew) (zB4 _) _)⟩;rw [Array.size_append,Array.size_append,yM5,yM5];simp;omega
theorem jJ0 {w:World} {ops:Array Oper} {rest:List Oper} {o:Oper} {a:Act} {Q:Exit->Act->World->Prop} (hgd:o.guard=none) (s x:Operand) {t tn:TypeId} {kn:IntKind}
  (ho:o.op=.call { callee:=.builtin .append,args:=#[s,x],argTypes:=#[t,tn] })
  {e:TypeId} (hT:P.underlying t=some (.slice e)) (htn:P.underlying tn=some (.int kn)) (hI:∃ i,P.info? e=some i/\i.zero=some (.agg #[.bool false,.slice none 0 0,.slice none 0 0])/\i.size=3/\i.bytes=56) {k:Nat} (hs:a.eval s=.slice none 0 0) (hx:a.eval x=.int .i64 (k:Int)) (h0:0<k) (hk:k<=1000000)
  (h:∀ cap w',k<=cap->zD4 e w' w.heap.size (.slice (some ⟨w.heap.size,0,none⟩) 0 cap) []->Below w.heap.size w w'->wpList P ops Q rest (a.put o.dst (.slice (some ⟨w.heap.size,0,none⟩) k cap)) w'):wpList P ops Q (o :: rest) a w :=
 wpList_plain hgd fun _ hK=>by
  obtain ⟨cap,w',hrun,h2,h3,h4⟩:=jJ (P:=P) (w:=w) (ty:=o.type) hT htn hI h0 hk;unfold Oper.wp execOp;simp only [ho,resolve,invoke,builtin,Sem.run_bind,Sem.run_pure,Result.andThen_ok,List.map_toArray,List.map_cons,List.map_nil,hs,hx,hrun];exact hK _ _ (h cap w' h2 h3 h4)
end
theorem jJ1 (n:Nat) (w:World) (hn:n<=1000000):Calls prog 119 #[.slice none 0 0,.int .i64 (n:Int)] w (fun e w' => ∃ V,e=.returned V/\zD4 83 w' w.heap.size V []/\Below w.heap.size w w'):=by
 by_cases h0:0<n
 ·go_enter func119,ntmps119
  go_wp2_with (at_builtin;refine jJ0 rfl (.tmp 20) (.tmp 21) rfl underlying44 underlying3 zV9 (k:=n) rfl (by first | rfl | simp) h0 hn ?_;intro cap w2 hcap R2 b2)
  go_wp2;go_ret;exact ⟨_,rfl,R2,b2⟩
 ·obtain rfl:n=0:=by omega
  go_enter func119,ntmps119
  go_wp2;go_ret;exact ⟨_,rfl,yD6 _ _ _,Below.refl _ _⟩
theorem IsE.one {k:IntKind} {B:Nat} {w:World} {p:Elt} (h:IsE k B w p):p.2.1.oneCell'=true/\p.2.2.oneCell'=true:=by
 obtain ⟨⟨A,c,e,_⟩,B',d,e',_⟩:=h;rw [e,e'];exact ⟨rfl,rfl⟩
theorem jJ2 (V:Value) (vs:List Value) (pss:List (List Elt)) (w:World) (hV:IsV w V vs) (hl:vs.length=pss.length) (hp:∀ (i:Nat) (v:Value) (ps:List Elt),vs[i]?=some v->pss[i]?=some ps->zM8 w v ps /\ ∀ p∈ps,p.2.1.oneCell'=true/\p.2.2.oneCell'=true) (hn:pss.length<=10) (hs:∀ ps∈pss,ps.length<=1000) :
  Calls prog 76 #[V] w (fun e w' => ∃ V',e=.returned V'/\zD4 83 w' w.heap.size V' pss.flatten/\Below w.heap.size w w'):=by
 obtain ⟨A,c,rfl,hc,hcells⟩:=hV;have HC:=hQ9 hcells;have HP:=hQ9 hp;have HL:=hQ9 hl;obtain ⟨n,hnv⟩:∃ n,n=vs.length:=⟨_,rfl⟩;rw [<- hnv] at hl hc |-;have HN:Hid (n=vs.length/\n=pss.length/\n<=10):=⟨hnv,by omega,by omega⟩;have HB:=hQ9 (yM4 hs);have hn10:n<=10:=HN.out.2.2;clear hcells hp hs hnv hl hn
 go_enter func76,ntmps76
 go_wp2
 go_loopw [3,11] (fun v3 v11 wr => ∃ k s:Nat,k<=n/\Hid (s=((pss.take k).flatten).length)/\Hid (Below w.heap.size w wr)/\v3=.int .i64 (s:Int)/\v11=.int .i64 (k:Int)) (fun _ v11 _=>n-(intOf v11).toNat)
 case atStart =>
  have H0:Hid (0=((pss.take 0).flatten).length):=by show _=_;simp
  exact ⟨0,0,by omega,H0,Below.refl _ _,rfl,rfl⟩
 case round =>
  obtain ⟨k,s,hk,HS,HBw,rfl,rfl⟩:=hrel;obtain ⟨wo,hwo⟩:∃ wo,wo=wr:=⟨_,rfl⟩;subst hwo;have hsb:s<=10000:=by have h1:=HB.out k;have h2:=HS.out;have h3:=HN.out;have:k*1000<=10*1000:=Nat.mul_le_mul_right _ (by omega);omega
  by_cases hlt:k<n
  ·obtain ⟨v,hv⟩:∃ v,vs[k]?=some v:=⟨_,zA3 (by have:=HN.out.1;omega)⟩;obtain ⟨ps,hps⟩:∃ ps,pss[k]?=some ps:=⟨_,zA3 (by have:=HN.out.2.1;omega)⟩;obtain ⟨ad,rfl,ec0⟩:=HC.out k v hv;have ec:=(HBw.out.cell (World.block_lt_of_cell? w _ ec0)).trans ec0;obtain ⟨Av,cv,rfl,hcv,hcm,-⟩:=(HP.out k v ps hv hps).1;have hpl:ps.length<=11000:=by have h1:=HB.out (k+1);rw [zZ6 hps] at h1;have h3:=HN.out;have:(k+1)*1000<=11*1000:=Nat.mul_le_mul_right _ (by omega);omega
   have HS2:Hid (s+ps.length=((pss.take (k+1)).flatten).length):=by show _=_;rw [zZ6 hps,<- HS.out]
   clear hv hps ec0;go_wp2;go_roundw;case rel=>exact ⟨k+1,s+ps.length,by omega,HS2,HBw,by go_num,by go_num⟩
   case measure=>simp [intOf];omega
  ·obtain rfl:n=k:=by omega
   go_wp2_with fail
   refine (jJ1 s _ (by omega)).mono ?_;rintro e w2 ⟨V2,rfl,R2,b2⟩;have hbo:=HBw.out.size;have R2m:=R2.mono hbo;have HB2:Hid (Below w.heap.size w w2):=HBw.out.trans (b2.mono hbo);obtain ⟨Ar,cr,rfl⟩:=R2.slice;clear R2 b2;go_wp2
   go_loopw [6,27] (fun v6 v27 wr => ∃ k:Nat,k<=n/\zD4 83 wr w.heap.size v6 (pss.take k).flatten/\Hid (Below w.heap.size w wr)/\v27=.int .i64 (k:Int)) (fun _ v27 _=>n-(intOf v27).toNat)
   case atStart=>exact ⟨0,by omega,by simpa using R2m,HB2,rfl⟩
   case round =>
    clear R2m HB2;obtain ⟨k,hk,R,HBr,rfl⟩:=hrel;obtain ⟨wi,hwi⟩:∃ wi,wi=wr:=⟨_,rfl⟩;subst hwi;obtain ⟨A6,c6,rfl⟩:=R.slice;obtain ⟨m6,hm6⟩:∃ m6,m6=((pss.take k).flatten).length:=⟨_,rfl⟩;rw [<- hm6] at R |-;have HM6:=hQ9 hm6;have hm6b:((pss.take k).flatten).length<=1000000000:=by have h1:=HB.out k;have h3:=HN.out;have:k*1000<=10*1000:=Nat.mul_le_mul_right _ (by omega);omega
    clear hm6;by_cases hlt:k<n
    ·obtain ⟨v,hv⟩:∃ v,vs[k]?=some v:=⟨_,zA3 (by have:=HN.out.1;omega)⟩;obtain ⟨ps,hps⟩:∃ ps,pss[k]?=some ps:=⟨_,zA3 (by have:=HN.out.2.1;omega)⟩;obtain ⟨ad,rfl,ec0⟩:=HC.out k v hv;have ec:=(HBr.out.cell (World.block_lt_of_cell? w _ ec0)).trans ec0;obtain ⟨sp0,hone⟩:=HP.out k v ps hv hps;have sp:=sp0.below HBr.out;obtain ⟨Av,cv,rfl,hcv,hcm,-⟩:=id sp;have hlen:ps.length<=1000000000:=by have h1:=HB.out (k+1);rw [zZ6 hps] at h1;have h3:=HN.out;have:(k+1)*1000<=11*1000:=Nat.mul_le_mul_right _ (by omega);omega
     have hbase:=HBr.out.size;have HF:Hid ((pss.take (k+1)).flatten=(pss.take k).flatten ++ ps):=qV0 hps;clear hv hps ec0 sp0
     go_wp2_with (at_builtin;refine jI9 rfl (.tmp 31) (.tmp 32) rfl underlying44 zV9 rfl R rfl sp hone hm6b hlen hbase ?_;intro V3 w3 R3 b3 G3)
     have R4:zD4 83 w3 w.heap.size V3 (pss.take (k+1)).flatten:=by rw [HF.out];exact R3
     have HB3:Hid (Below w.heap.size w w3):=HBr.out.trans b3;clear R3 R sp HBr G3 b3 ec;go_wp2;go_roundw;case rel=>exact ⟨k+1,by omega,R4,HB3,by go_num⟩
     case measure=>simp [intOf];omega
    ·obtain rfl:k=n:=by omega
     have HT:Hid (pss.take k=pss):=zA7 (by have:=HN.out.2.1;omega);go_wp2;go_ret;exact ⟨_,rfl,by have:=R;rwa [HT.out] at this,HBr.out⟩
theorem yM6 (V x y:Value) (ps qs:List Rat) (w:World) (hV:IsV w V [x,y]) (h0:SlF .u64 4294967296 w x ps) (h1:SlF .u64 4294967296 w y qs) (l0:ps.length<=1000) (l1:qs.length<=1000) :
  Calls prog 76 #[V] w (fun e w' => ∃ V',e=.returned V'/\SlF .u64 4294967296 w' V' (ps ++ qs)/\Below w.heap.size w w'):=by
 obtain ⟨pa,hpa,va,ea⟩:=h0;obtain ⟨pb,hpb,vb,eb⟩:=h1;have la:pa.length=ps.length:=by rw [<- hpa,zA9]
 have lb:pb.length=qs.length:=by rw [<- hpb,zA9]
 refine (jJ2 V [x,y] [pa,pb] w hV rfl (fun i v p hv hp=>by
  rcases i with _ | _ | i
  ·obtain rfl:x=v:=by simpa using hv
   obtain rfl:pa=p:=by simpa using hp
   exact ⟨va,fun p hp=>(ea p hp).one⟩
  ·obtain rfl:y=v:=by simpa using hv
   obtain rfl:pb=p:=by simpa using hp
   exact ⟨vb,fun p hp=>(eb p hp).one⟩
  ·simp at hv) (by simp) (fun p hp=>by simp at hp;rcases hp with rfl|rfl<;>omega)).mono ?_
 rintro e w' ⟨V',rfl,R,b⟩;refine ⟨V',rfl,⟨[pa,pb].flatten,by simp [hpa,hpb],R.isVF,fun p hp => ?_⟩,b⟩;simp at hp;rcases hp with hp | hp
 ·exact (ea p hp).below b
 ·exact (eb p hp).below b
theorem col_row (n C c j:Nat) (hn:n<=C) (hj:j<C):RowFn n C (fun M=>zC8 n (zH8 M c (fun r=>M r j))):=by
 have hd:=zS1 n;refine ⟨fun M M' h=>hd.congr _ _ fun i l hi hl => ?_,fun M a t ha => ?_,fun M a b t ha hb hab => ?_⟩
 ·unfold zH8;by_cases e:l=c
  ·rw [if_pos e,if_pos e];exact h i j hi hj
  ·rw [if_neg e,if_neg e];exact h i l hi (by omega)
 ·rw [<- hd.scale _ a t ha];refine hd.congr _ _ fun i l hi hl => ?_;unfold zH8 zG0;by_cases e:l=c
  ·simp only [if_pos e]
  ·simp only [if_neg e]
 ·rw [<- hd.add (zH8 M c (fun r=>M r j)) a b t ha hb hab];refine hd.congr _ _ fun i l hi hl => ?_;unfold zH8 zL7;by_cases e:l=c
  ·simp only [if_pos e]
  ·simp only [if_neg e]
theorem qO (neg:Bool) (x:Int):((sgn neg x:Int):Rat)=(if neg=true then -1 else 1)*(x:Rat):=by
 unfold sgn;cases neg
 ·simp
 ·simp [Rat.intCast_neg];grind
theorem jJ3 {n C:Nat} {T0 T:List (List Int)} {a:Nat->Nat->Int} {d:Int} {neg:Bool} (hB:BrT n C n a T d) (hP:Prm n C (zC7 T0) a (if neg=true then -1 else 1)) :
  ((sgn neg d:Int):Rat)=zC8 n (qF (zC7 T0))/\(∀ i j,i<n->n+j<C->zC5 n (fun c=>(zC7 T0 i c:Rat)*((sgn neg (zC7 T c j):Int):Rat))=((sgn neg d:Int):Rat)*(zC7 T0 i (n+j):Rat)) /\ ∀ c j,c<n->n+j<C->((sgn neg (zC7 T c j):Int):Rat)=zC8 n (zH8 (qF (zC7 T0)) c (fun r=>qF (zC7 T0) r (n+j))):=by
 have hn:=hB.wide;refine ⟨?_,fun i j hi hj => ?_,fun c j hc hj => ?_⟩
 ·rw [hP.fn _ ((zS1 n).wide hn),BrQ.det hB,qO]
 ·have h1:=hP.all (fun row=>(d:Rat)*(row (n+j):Rat)=zC5 n (fun c=>(row c:Rat)*(zC7 T c j:Rat))) (fun i hi=>by
   have h:=BrQ.rel hB i (n+j) hi (by omega) hj;rw [if_neg (by omega)] at h;rw [h];have e:zC5 n (fun c=>(a i c:Rat)*((zC7 T c (n+j-n):Int):Rat))=zC5 n (fun c=>(a i c:Rat)*(zC7 T c j:Rat)):=zH1 fun c _=>by rw [Nat.add_sub_cancel_left]
   rw [<- e]
   grind) i hi
  rw [qO neg d,zH1 (g:=fun c=>(if neg=true then (-1:Rat) else 1)*((zC7 T0 i c:Rat)*(zC7 T c j:Rat))) (fun c _=>by rw [qO];grind),zL4,<- h1]
  grind
 ·have h1:=hP.fn _ (col_row n C c (n+j) hn hj);have h2:=BrQ.cramer hB hc (j:=n+j) (by omega) hj;rw [qO]
  have h3:zC8 n (zH8 (qF a) c (fun r=>qF a r (n+j)))=(zC7 T c j:Rat):=by
   rw [h2,Nat.add_sub_cancel_left]
  rw [h1,h3]
def qC2:Nat->(Nat->Int)->Int
 | 0,_=>0
 | n+1,f=>qC2 n f+f n
theorem yM7:∀ (n:Nat) (f:Nat->Int),((qC2 n f:Int):Rat)=zC5 n (fun i=>(f i:Rat))
  | 0,f=>rfl
  | n + 1, f => by
    show ((qC2 n f+f n:Int):Rat)=zC5 n _+(f n:Rat)
    rw [Rat.intCast_add,yM7 n f]
theorem yM8 {L:Nat} {f:Nat->Int}:∀ j:Nat,(∀ c,c<j->zC4 (f c)<=L)->zC4 (qC2 j f)<=L+j
  | 0,_=>by show zC4 0<=_;rw [yB2];omega
  | j + 1, h => by
    have h1:=yM8 j (fun c hc=>h c (by omega));have h2:=h j (by omega);exact yW8 (m:=L+j) h1 (by omega)
def sgI (j:Nat):Int:=if j % 2=0 then 1 else -1
theorem jJ4 (j:Nat):((sgI j:Int):Rat)=sgN j:=by
 unfold sgI sgN
 split
 ·rfl
 ·rfl
theorem jJ5 {x:Int} {m:Nat} (j:Nat) (h:zC4 x<=m):zC4 (sgI j*x)<=m:=by
 unfold sgI
 split
 ·rw [Int.one_mul];exact h
 ·rw [show (-1:Int)*x = -x by omega];exact yD0 h
def minJ (M:Nat->Nat->Int) (j:Nat):Nat->Nat->Int:=fun i c=>M (i+1) (zI1 j c)
def detI:Nat->(Nat->Nat->Int)->Int
 | 0,_=>1
 | n+1,M=>qC2 (n+1) (fun j=>sgI j*M 0 j*detI n (minJ M j))
theorem qV1:∀ (n:Nat) (M:Nat->Nat->Int),((detI n M:Int):Rat)=zC8 n (qF M)
  | 0,M=>rfl
  | n + 1, M => by
    show ((qC2 (n+1) _:Int):Rat)=zC5 (n+1) _
    rw [yM7];refine zH1 fun j hj => ?_;rw [Rat.intCast_mul,Rat.intCast_mul,jJ4,qV1 n (minJ M j)]
    rfl
def dZ (S:Nat):Nat->Nat
 | 0=>1
 | n+1=>S+dZ S n+(n+1)
theorem qV2 {S:Nat}:∀ (n:Nat) {M:Nat->Nat->Int},(∀ i j,i<n->j<n->zC4 (M i j)<=S)->zC4 (detI n M)<=dZ S n
  | 0,_,_=>yL
  | n + 1, M, h => by
    refine yM8 (n+1) (fun c hc => ?_);rw [Int.mul_assoc];exact jJ5 c (zO3 (h 0 c (by omega) hc) (qV2 n (fun i j hi hj=>h _ _ (by omega) (zZ0 hj))))
theorem qV3 {T:List (List Int)} {n C i j:Nat} (h:shI T n C) (hi:i<n) (hj:j<C):∃ r,T[i]?=some r/\r.length=C/\r[j]?=some (zC7 T i j):=by
 obtain ⟨r,hr,hl⟩:=zU6 h hi;refine ⟨r,hr,hl,?_⟩;rw [zK hr,zA6,zA3 (by omega)];rfl
def zO9 (A B:List (List Int)):List (List Int):=List.zipWith (fun p q=>p ++ q) A B
def okS (A B:List (List Int)):Prop:=zW8 A/\qC0 B/\A.length=B.length
theorem qV4 {A B:List (List Int)} (h:A.length=B.length):(zO9 A B).length=A.length:=by unfold zO9;rw [List.length_zipWith];omega
theorem qO0 {A B:List (List Int)} {i:Nat} {p q:List Int} (ha:A[i]?=some p) (hb:B[i]?=some q):(zO9 A B)[i]?=some (p ++ q):=by
 unfold zO9;rw [List.getElem?_zipWith,ha,hb]
theorem yM9 {A B:List (List Int)} {r:List Int} (h:A.length=B.length) (hr:r∈zO9 A B):∃ p q,p∈A/\q∈B/\r=p ++ q:=by
 obtain ⟨i,hi⟩:=List.mem_iff_getElem?.1 hr;have hl:=(zA4.1 hi).1;rw [qV4 h] at hl;have e1:A[i]?=some A[i]:=zA3 hl;have e2:B[i]?=some (B[i]'(by omega)):=zA3 _;rw [qO0 e1 e2] at hi;injection hi with hi;exact ⟨_,_,zA5 e1,zA5 e2,hi.symm⟩
theorem besI_sh {A B:List (List Int)} (h:okS A B):shI (zO9 A B) A.length (A.length+zH B):=by
 refine ⟨qV4 h.2.2,fun r hr => ?_⟩;obtain ⟨p,q,hp,hq,rfl⟩:=yM9 h.2.2 hr;rw [zA8,h.1.2 p hp,(h.2.1.2 q hq).1]
theorem qV5 {A B:List (List Int)} (h:okS A B) {i j:Nat} (hi:i<A.length) (hj:j<A.length):zC7 (zO9 A B) i j=zC7 A i j:=by
 have e1:A[i]?=some A[i]:=zA3 hi;have e2:B[i]?=some (B[i]'(by rw [<- h.2.2];exact hi)):=zA3 _;have hl:=h.1.2 _ (zA5 e1);rw [zK (qO0 e1 e2),zK e1,zA6,zA6,zB0 (by omega)]
theorem yN {A B:List (List Int)} (h:okS A B) {i j:Nat} (hi:i<A.length):zC7 (zO9 A B) i (A.length+j)=zC7 B i j:=by
 have e1:A[i]?=some A[i]:=zA3 hi;have e2:B[i]?=some (B[i]'(by rw [<- h.2.2];exact hi)):=zA3 _;have hl:=h.1.2 _ (zA5 e1);rw [zK (qO0 e1 e2),zK e2,zA6,zA6,List.getElem?_append_right (by omega),hl,Nat.add_sub_cancel_left]
theorem jJ6 {A B:List (List Int)} {S:Nat} (h:A.length=B.length) (ha:zJ A S) (hb:zJ B S):zJ (zO9 A B) S:=by
 intro r hr z hz;obtain ⟨p,q,hp,hq,rfl⟩:=yM9 h hr;rcases List.mem_append.1 hz with hz | hz
 ·exact ha p hp z hz
 ·exact hb q hq z hz
theorem sgn_ne {b:Bool} {x:Int} (h:x≠0):sgn b x≠0:=by
 unfold sgn
 split<;>omega
theorem yN0 (b:Bool):sgn b 0=0:=by
 unfold sgn
 split<;>omega
def sgR (neg:Bool) (r:List Int):List Int:=r.map (sgn neg)
def sgT (neg:Bool) (T:List (List Int)):List (List Int):=T.map (sgR neg)
theorem yN1 (neg:Bool) (T:List (List Int)):(sgT neg T).length=T.length:=by unfold sgT;rw [zA9]
theorem yN2 {neg:Bool} {T:List (List Int)} {i:Nat} {r:List Int} (h:T[i]?=some r):(sgT neg T)[i]?=some (sgR neg r):=by unfold sgT;rw [zB1,h];rfl
theorem sgR_at {neg:Bool} {r:List Int} {j:Nat} {z:Int} (h:r[j]?=some z):(sgR neg r)[j]?=some (sgn neg z):=by unfold sgR;rw [zB1,h];rfl
theorem yN3 (neg:Bool) (r:List Int):(sgR neg r).length=r.length:=by unfold sgR;rw [zA9]
theorem yN4 (neg:Bool) (T:List (List Int)) (i j:Nat):zC7 (sgT neg T) i j=sgn neg (zC7 T i j):=by
  cases hr:T[i]? with
  | none =>
    have h1:(sgT neg T)[i]?=none:=by unfold sgT;rw [zB1,hr];rfl
    unfold zC7;rw [zA6 (l:=sgT neg T),h1,zA6 (l:=T),hr];show ([]:List Int).getD j 0=sgn neg (([]:List Int).getD j 0)
    rw [show ([]:List Int).getD j 0=0 by simp,yN0]
  | some r =>
    rw [zK (yN2 hr),zK hr,zA6,zA6];unfold sgR;rw [zB1]
    cases hz:r[j]? with
    | none=>show (0:Int)=sgn neg 0;rw [yN0]
    | some z=>rfl
theorem sgT_sh {neg:Bool} {T:List (List Int)} {n L:Nat} (h:shI T n L):shI (sgT neg T) n L:=by
 refine ⟨by rw [yN1,h.1],fun r hr => ?_⟩;unfold sgT at hr;obtain ⟨x,hx,rfl⟩:=List.mem_map.1 hr;rw [yN3];exact h.2 x hx
theorem jJ7 {neg:Bool} {T:List (List Int)} {S:Nat} (h:zJ T S):zJ (sgT neg T) S:=by
 intro r hr z hz;unfold sgT at hr;obtain ⟨x,hx,rfl⟩:=List.mem_map.1 hr;unfold sgR at hz;obtain ⟨y,hy,rfl⟩:=List.mem_map.1 hz;exact yL2 (h x hx y hy)
structure SolvedI (A B X:List (List Int)) (d:Int):Prop where
 sh:shI X A.length (zH B)
 len:zJ X 5000
 dl:zC4 d<=5000
 ne:d≠0
 det:(d:Rat)=zC8 A.length (qF (zC7 A))
 sol:∀ i j,i<A.length->j<zH B->zC5 A.length (fun c=>(zC7 A i c:Rat)*(zC7 X c j:Rat))=(d:Rat)*(zC7 B i j:Rat)
 cra:∀ c j,c<A.length->j<zH B->(zC7 X c j:Rat)=zC8 A.length (zH8 (qF (zC7 A)) c (fun r=>qF (zC7 B) r j))
theorem yN5 {A B:List (List Int)} (h:okS A B):zC8 A.length (qF (zC7 (zO9 A B)))=zC8 A.length (qF (zC7 A)):=zK7 _ fun i j hi hj=>by
 show ((zC7 (zO9 A B) i j:Int):Rat)=((zC7 A i j:Int):Rat)
 rw [qV5 h hi hj]
theorem jJ8 {A B T:List (List Int)} {a:Nat->Nat->Int} {d:Int} {neg:Bool} (h:okS A B) (hB:BrT A.length (A.length+zH B) A.length a T d) (hP:Prm A.length (A.length+zH B) (zC7 (zO9 A B)) a (if neg=true then -1 else 1)) (hs:shI T A.length (zH B)) (hl:zJ T 5000) (hd:zC4 d<=5000):SolvedI A B (sgT neg T) (sgn neg d):=by
 obtain ⟨h1,h2,h3⟩:=jJ3 hB hP;refine ⟨sgT_sh hs,jJ7 hl,yL2 hd,sgn_ne hB.ne,h1.trans (yN5 h),fun i j hi hj => ?_,fun c j hc hj => ?_⟩
 ·have h4:=h2 i j hi (by omega);rw [yN h hi] at h4;rw [<- h4];exact zH1 fun c hc=>by rw [qV5 h hi hc,yN4]
 ·rw [yN4,h3 c j hc (by omega)];refine zK7 _ fun i l hi hl => ?_;unfold zH8;by_cases e:l=c
  ·rw [if_pos e,if_pos e];show ((zC7 (zO9 A B) i (A.length+j):Int):Rat)=((zC7 B i j:Int):Rat)
   rw [yN h hi]
  ·rw [if_neg e,if_neg e];show ((zC7 (zO9 A B) i l:Int):Rat)=((zC7 A i l:Int):Rat)
   rw [qV5 h hi hl]
def RetSol (A B:List (List Int)) (w:World) (e:Ending) (w':World):Prop:=Below w.heap.size w w'/\((okS A B /\ ∃ V v d X,e=.returned (.tuple #[V,v,.int .i64 0])/\SlW .u64 4294967296 w' V X/\IsZ w' v d/\SolvedI A B X d)\/(okS A B/\zC8 A.length (qF (zC7 A))=0/\e=.returned (.tuple #[.slice none 0 0,.agg #[.bool false,.slice none 0 0],.int .i64 7]))\/(¬ okS A B/\e=.returned (.tuple #[.slice none 0 0,.agg #[.bool false,.slice none 0 0],.int .i64 8])))
def zN8 (r s:List Int) (j:Nat):List Int:=s.take j ++ r.drop j
theorem jJ9 (r s:List Int):zN8 r s 0=r:=by simp [zN8]
theorem jK {r s:List Int} (h:s.length=r.length):zN8 r s r.length=s:=by
 unfold zN8;rw [List.drop_eq_nil_of_le (zB4 _),List.append_nil,zA7 (by omega)]
theorem mixR_at {r s:List Int} {j:Nat} (h:s.length=r.length) (hj:j<=r.length):(zN8 r s j)[j]?=r[j]?:=by
 unfold zN8;have hl:(s.take j).length=j:=by rw [zB2];omega
 rw [List.getElem?_append_right (by omega),hl,Nat.sub_self,List.getElem?_drop,Nat.add_zero]
theorem jK0 {r s:List Int} {j:Nat} {z:Int} (h:s.length=r.length) (hz:s[j]?=some z):(zN8 r s j).set j z=zN8 r s (j+1):=by
 have hj:=(zA4.1 hz).1;unfold zN8;have hl:(s.take j).length=j:=by rw [zB2];omega
 rw [List.set_append_right _ _ (by omega),hl,Nat.sub_self,List.drop_eq_getElem_cons (show j<r.length by omega),zA2,List.take_add_one,hz];simp
theorem jK1 {α : Type} {T:List α} {i:Nat} {r : α} (h:T[i]?=some r):T.set i r=T:=by
 refine List.ext_getElem? fun j => ?_
 by_cases e:i=j
 ·subst e;rw [List.getElem?_set_self (zA4.1 h).1,h]
 ·rw [List.getElem?_set_ne e]
theorem zG1.bk {w:World} {base:Nat} {v:Value} {ps:List (Int × Value)} (h:zG1 60 w base v ps) {g:Nat} (hg:v.ownBlock=some g):base<=g/\zQ5 w g:=by
 obtain ⟨cs,h1,_⟩:=h.2 g hg;exact ⟨(h.under g hg).1,cs,h1⟩
theorem jK2 (V x y:Value) (pa pb:List (Int × Value)) (w:World) (hV:IsV w V [x,y]) (h0:SlP w x pa) (n0:zH9 .u64 4294967296 w pa) (h1:SlP w y pb) (n1:zH9 .u64 4294967296 w pb) (l0:pa.length<=1000) (l1:pb.length<=1000) :
  Calls prog 72 #[V] w (fun e w' => ∃ V',e=.returned V'/\zG1 60 w' w.heap.size V' (pa ++ pb)/\zH9 .u64 4294967296 w' (pa ++ pb)/\Below w.heap.size w w'):=by
 have h:=jI8 V [x,y] [pa,pb] w hV rfl (fun i v ps hv hp=>by
  rcases i with _ | _ | i
  ·obtain rfl:x=v:=by simpa using hv
   obtain rfl:pa=ps:=by simpa using hp
   exact ⟨h0,n0⟩
  ·obtain rfl:y=v:=by simpa using hv
   obtain rfl:pb=ps:=by simpa using hp
   exact ⟨h1,n1⟩
  ·simp at hv) (by simp) (fun ps hps=>by simp at hps;rcases hps with rfl|rfl;exact l0;exact l1)
 simpa using h
def zK4 (A B:List (List Rat)):List (List Int):=(zD9 A B).map fun r=>(zK3 r).take A.length
def zK8 (A B:List (List Rat)):List (List Int):=(zD9 A B).map fun r=>(zK3 r).drop A.length
theorem zE1.other {k:IntKind} {B:Nat} {w w':World} {g g':Nat} {TS:TypeId} {us us':List Value} {T:List (List Int)} (h:zE1 k B w g TS us T) (h':zG9 w g' TS us') (hne:g≠g') (hg:w.grownBy w' (some g')):zE1 k B w' g TS us T :=
 ⟨h.1.grown hg (fun e=>hne (by injection e with e;exact e.symm)),h.2.1,fun i u r hu hr=>h'.keepZ hg (h.2.2 i u r hu hr)⟩
theorem zE1.blank {k:IntKind} {B:Nat} {w:World} {g n:Nat} {TS:TypeId} (h:zG9 w g TS (zB n (.slice none 0 0))):zE1 k B w g TS (zB n (.slice none 0 0)) (zB n []):=by
 refine ⟨h,by rw [List.length_replicate,List.length_replicate],fun i u r hu hr => ?_⟩;obtain rfl:=(List.mem_replicate.1 (zA5 hu)).2;obtain rfl:=(List.mem_replicate.1 (zA5 hr)).2;exact qH0 _ _ _ (Nat.zero_le _)
theorem yN6 {B:Nat} {w:World} {gL gR k:Nat} {TS:TypeId} {us vs:List Value} {T1 T2:List (List Int)} {uL uR:Value} {rL rR:List Int} (TL:zE1 .u64 B w gL TS us T1) (TR:zE1 .u64 B w gR TS vs T2) (hne:gL≠gR) (sL:SlZ .u64 B w uL rL) (sR:SlZ .u64 B w uR rR) :
  zE1 .u64 B ((w.setCell ⟨gL,k,none⟩ uL).setCell ⟨gR,k,none⟩ uR) gL TS (us.set k uL) (T1.set k rL)/\zE1 .u64 B ((w.setCell ⟨gL,k,none⟩ uL).setCell ⟨gR,k,none⟩ uR) gR TS (vs.set k uR) (T2.set k rR):=by
 have L1:=TL.stored k sL;have R1:=TR.other TL.1 (fun e=>hne e.symm) (zE7 w gL k uL);have sR1:=TL.1.keepZ (zE7 w gL k uL) sR;exact ⟨L1.other R1.1 hne (zE7 _ gR k uR),R1.stored k sR1⟩
structure ClrIn (A B:List (List Rat)) (S:Nat):Prop where
 ok:okq A B
 wide:A.length+zD2 B<=100
 la:zH6 A S
 lb:zH6 B S
 small:S<=100
theorem jK3 (a0 a1:Value) (A B:List (List Rat)) (S:Nat) (w:World) (h0:SlT .u64 4294967296 w a0 A) (h1:SlT .u64 4294967296 w a1 B) (hc:Hid (ClrIn A B S)) :
    Calls prog 36 #[a0,a1] w (fun e w' => ∃ V U,e=.returned (.tuple #[V,U])/\SlW .u64 4294967296 w' V (zK4 A B)/\SlW .u64 4294967296 w' U (zK8 A B)/\Below w.heap.size w w'):=by
  obtain ⟨n,hn⟩:∃ n,n=A.length:=⟨_,rfl⟩;obtain ⟨m,hm⟩:∃ m,m=zD2 B:=⟨_,rfl⟩;obtain ⟨A0,c0,rfl,hc0,hm0⟩:=h0.shape;obtain ⟨A1,c1,rfl,hc1,hm1⟩:=h1.shape;unfold maxLen at hm0 hm1;have hnm:n+m<=100:=by rw [hn,hm];exact hc.out.wide
  have hSA:shp A n n:=by rw [hn];exact hc.out.ok.sa
  have hSB:shp B n m:=by rw [hn,hm];exact hc.out.ok.sb
  have HSA:=hQ9 hSA;have HSB:=hQ9 hSB;have HS0:=hQ9 h0;have HS1:=hQ9 h1;have hBl:B.length=n:=hSB.1;have HNA:=hQ9 hn;have HM:=hQ9 hm;obtain ⟨M1,hM1⟩:∃ M1,M1=zK4 A B:=⟨_,rfl⟩;obtain ⟨M2,hM2⟩:∃ M2,M2=zK8 A B:=⟨_,rfl⟩;obtain ⟨T0,hT0⟩:∃ T0,T0=zB n ([]:List Int):=⟨_,rfl⟩;have hJ:(zD9 A B).length=n:=(zR3 hSA hSB).1;have HML:Hid ((M1.length=T0.length/\M2.length=T0.length)/\T0.length=n):=⟨⟨by rw [hM1,hT0,List.length_replicate];unfold zK4;rw [zA9,hJ],by rw [hM2,hT0,List.length_replicate];unfold zK8;rw [zA9,hJ]⟩,by rw [hT0,List.length_replicate]⟩;have HMM:=hQ9 (zA hM1 hM2);obtain ⟨mk,hmk⟩:=Classical.axiomOfChoice (fun w=>qM2 (P:=prog) (w:=w) underlying73 yL1 n (by omega));have hmk1:=fun w=>(hmk w).1;have HMK:=hQ9 (fun w=>(hmk w).2);have HT0:=hQ9 hT0;rw [<- hn] at hc0;rw [hBl] at hc1;clear hmk hM1 hM2 hT0 h0 h1 hSA hSB hJ
  go_enter func36,ntmps36
  rw [<- hn,hBl];clear hn hm hBl;go_upto_region 2 with (fail);obtain ⟨t1,m1⟩:=HMK.out w.drew;obtain ⟨t2,m2⟩:=HMK.out (mk w.drew);obtain ⟨x1,hx1⟩:∃ x1,x1=w.heap.size:=⟨_,rfl⟩;obtain ⟨x2,hx2⟩:∃ x2,x2=(mk w.drew).heap.size:=⟨_,rfl⟩;obtain ⟨w3,hw3⟩:∃ w3,w3=mk (mk w.drew):=⟨_,rfl⟩;have hxx:w.heap.size<=x1/\x1<x2:=⟨by omega,by rw [hx1,hx2];exact t1.lt⟩;have hbd:=(Below.refl w.heap.size w).drew
  have HB3:Hid (Below w.heap.size w w3):=by
    rw [hw3];exact (hbd.trans (m1.mono hbd.size)).trans (m2.mono (zB5 hbd.size m1.size))
  have TWx1:zE1 .u64 4294967296 w3 x1 48 (zB n (.slice none 0 0)) T0:=by
    rw [HT0.out,hw3,hx1];exact zE1.blank (t1.below m2)
  have TWx2:zE1 .u64 4294967296 w3 x2 48 (zB n (.slice none 0 0)) T0:=by
    rw [HT0.out,hw3,hx2];exact zE1.blank t2
  clear t1 m1 t2 m2 hbd;go_region
  · rw [<- hx1, <- hx2, <- hw3];clear hx1 hx2 hw3;have TL:=TWx1;have TR:=TWx2;have hLR : x1 ≠ x2:=by omega
    clear TWx1 TWx2;go_wp2
    go_loopw [19] (fun v19 wr => ∃ (k:Nat) (us vs:List Value),k<=n/\zE1 .u64 4294967296 wr x1 48 us (zG T0 M1 k)/\zE1 .u64 4294967296 wr x2 48 vs (zG T0 M2 k)/\Hid (Below w.heap.size w wr)/\v19=.int .i64 (k:Int)) (fun v19 _=>n-(intOf v19).toNat)
    case atStart=>exact ⟨0,_,_,by omega,by rw [zZ4];exact TL,by rw [zZ4];exact TR,HB3,rfl⟩
    case round =>
      clear TL TR HB3;obtain ⟨k,us,vs,hk,TL,TR,HB,rfl⟩:=hrel;obtain ⟨wi,hwi⟩:∃ wi,wi=wr:=⟨_,rfl⟩;subst hwi;by_cases hkn:k<n
      · obtain ⟨p,hp,hpl⟩:=zH7 HSA.out hkn;obtain ⟨q,hq,hql⟩:=zH7 HSB.out hkn;have k0:=HS0.out.below HB.out;have k1:=HS1.out.below HB.out;obtain ⟨ad0,rfl⟩:=k0.place (fun e=>by rw [e] at hp;cases hp);obtain ⟨ad1,rfl⟩:=k1.place (fun e=>by rw [e] at hq;cases hq);obtain ⟨Ap,cp,hip,ecp,sp⟩:=k0.at2 hp;obtain ⟨Aq,cq,hiq,ecq,sq⟩:=k1.at2 hq;rw [hpl] at ecp sp;rw [hql] at ecq sq;have HP:=hQ9 (zA hp (zA hpl (zA hq hql)));obtain ⟨PQ,hPQ⟩:∃ PQ,PQ=p ++ q:=⟨_,rfl⟩;obtain ⟨N,hN⟩:∃ N,N=n+m:=⟨_,rfl⟩;obtain ⟨Z,hZ⟩:∃ Z,Z=zK3 (p ++ q):=⟨_,rfl⟩;have HZ:=hQ9 hZ;have HZL:Hid (Z.length=N):=by show _=_;rw [hN,hZ,zX1,zA8,hpl,hql]
        have CC:∀ W,Below wi.heap.size wi W->Calls prog 76 #[.slice (some ⟨W.heap.size,0,none⟩) 2 2] (W.alloc (.cells #[.slice Ap n cp,.slice Aq m cq] 44)) (fun e w' => ∃ V,e=.returned V/\SlF .u64 4294967296 w' V PQ/\Below W.heap.size W w'):=fun W hb=>by
          have ba:=zD1 (w:=W) (zB4 _) (.cells #[.slice Ap n cp,.slice Aq m cq] 44);refine (yM6 _ (.slice Ap n cp) (.slice Aq m cq) p q _ (zR8 W 44 [.slice Ap n cp,.slice Aq m cq]) ((sp.below hb).below ba) ((sq.below hb).below ba) (by omega) (by omega)).mono ?_;rintro e w' ⟨V,rfl,h2,h3⟩;exact ⟨V,rfl,by rw [hPQ];exact h2,ba.trans (h3.mono ba.size)⟩
        have CZ:∀ W V,SlF .u64 4294967296 W V PQ->Calls prog 20 #[V] W (fun e w' => ∃ (g o:Nat) (v:Value),e=.returned (.tuple #[.slice (some ⟨g,o,none⟩) N N,v])/\W.heap.size<=g/\SlZ .u64 4294967296 w' (.slice (some ⟨g,o,none⟩) N N) Z/\Below W.heap.size W w'):=fun W V h=>by
          have hl:(p ++ q).length=N:=by rw [zA8,hpl,hql,hN]
          rw [hPQ] at h;refine (yL7 V (p ++ q) S W h ⟨by omega,hc.out.small,fun x hx => ?_⟩).mono ?_
          · rcases List.mem_append.1 hx with hx | hx
            · exact hc.out.la p (zA5 hp) x hx
            · exact hc.out.lb q (zA5 hq) x hx
          · rintro e w' ⟨g,v,rfl,h1,h2,-,h4⟩;rw [hl] at h2 |-;exact ⟨g,0,v,rfl,h1,by rw [hZ];exact h2.sl (by rw [zX1,hl]) (by omega),h4⟩
        have HRK:Hid (M1[k]?=some (Z.take n)/\M2[k]?=some (Z.drop n)):=by
          show _/\_
          rw [HMM.out.1,HMM.out.2];unfold zK4 zK8;rw [zB1,zB1,qH hp hq,HNA.out,hZ];exact ⟨rfl,rfl⟩
        have hNn:n<=N:=by omega
        have hN100:N<=100:=by omega
        clear hp hq hpl hql sp sq hZ k0 k1 hPQ hN;have hbd:=(Below.refl wi.heap.size wi).drew;go_upto_region 6 with (fail)
        go_region_law (first | (go_simp;go_at_call 76;refine (CC _ (by exact hbd)).mono ?_;rintro e w4 ⟨V4,rfl,s4,b4⟩;obtain ⟨A4,c4,rfl,-,-⟩:=id s4.shape)|(go_simp;go_at_call 20;refine (CZ _ _ (by exact s4)).mono ?_;rintro e w5 ⟨gx,ox,v5,rfl,hgx,s5,b5⟩))
        all_goals
          have b45:Below wi.heap.size wi w5:=(hbd.trans (b4.mono hbd.size)).trans (b5.mono (zB5 hbd.size b4.size));have TL5:=TL.below b45;have TR5:=TR.below b45;have HB5:Hid (Below w.heap.size w w5):=HB.out.trans (b45.mono HB.out.size);obtain ⟨A2,hA2⟩:∃ A2:Option Addr,A2=if N=n then some ⟨gx,ox,none⟩ else some ⟨gx,ox+n*2,none⟩:=⟨_,rfl⟩
          have sL:SlZ .u64 4294967296 w5 (.slice (some ⟨gx,ox,none⟩) n N) (Z.take n):=s5.take (by rw [HZL.out];exact hNn)
          have sR:SlZ .u64 4294967296 w5 (.slice A2 (N-n) (N-n)) (Z.drop n):=by
            by_cases e:N=n
            · rw [hA2,if_pos e,List.drop_eq_nil_of_le (by rw [HZL.out];omega),show N-n=0 by omega];exact qH0 _ _ _ (Nat.zero_le _)
            · rw [hA2,if_neg e];exact s5.drop (by rw [HZL.out];exact hNn)
          obtain ⟨x,hx⟩:∃ x,T0[k]?=some x:=⟨_,zA3 (by rw [HML.out.2];exact hkn)⟩;have hm1:(zG T0 M1 k)[k]?=some x:=by rw [zW9 HML.out.1.1 (by rw [HML.out.2];omega)];exact hx
          have hm2:(zG T0 M2 k)[k]?=some x:=by rw [zW9 HML.out.1.2 (by rw [HML.out.2];omega)];exact hx
          obtain ⟨AL,cL,-,ecL,-⟩:=TL5.at_ hm1;obtain ⟨AR,cR,-,ecR,-⟩:=TR5.at_ hm2;have fL:=TL5.1.1.frozen k;have fR:=TR5.1.1.frozen k;have hA3:=hA2.symm;have hjc2:¬ N<n:=by omega
          have HX:=hQ9 (zA TL5 (zA TR5 (zA sL sR)));have hRL:x2≠x1:=fun e=>hLR e.symm;clear TL TR TL5 TR5 sL sR hx hm1 hm2 s5 b45 b4 b5 s4 HB CC CZ hA2 hgx hbd ecp ecq;go_upto_region 7 with (fail);go_region
          all_goals
            obtain ⟨TL6,TR6⟩:=yN6 (k:=k) HX.out.1 HX.out.2.1 hLR HX.out.2.2.1 HX.out.2.2.2;rw [zX HML.out.1.1 HRK.out.1] at TL6;rw [zX HML.out.1.2 HRK.out.2] at TR6;have TL7:=TL6.drew;have TR7:=TR6.drew;have G7:=(zE7 w5 x1 k (.slice (some ⟨gx,ox,none⟩) n N));have HB6:Hid (Below w.heap.size w _):=((HB5.out.setCell (p:=⟨x1,k,none⟩) (show w.heap.size<=x1 by omega) (.slice (some ⟨gx,ox,none⟩) n N)).setCell (p:=⟨x2,k,none⟩) (show w.heap.size<=x2 by omega) (.slice A2 (N-n) (N-n))).drew;clear TL6 TR6 HX HB5 G7 ecL ecR fL fR;go_wp2;go_roundw;case rel=>exact ⟨k+1,_,_,by omega,TL7,TR7,HB6,by go_num⟩
            case measure=>simp [intOf];omega
      · have TLn:zE1 .u64 4294967296 wi x1 48 us M1:=by
          have h1:=zZ5 HML.out.1.1;rw [HML.out.2] at h1;rw [show k=n by omega,h1] at TL;exact TL
        have TRn:zE1 .u64 4294967296 wi x2 48 vs M2:=by
          have h1:=zZ5 HML.out.1.2;rw [HML.out.2] at h1;rw [show k=n by omega,h1] at TR;exact TR
        have hV:=TLn.sub (o:=0) (m:=n) (c:=n) (by rw [HML.out.1.1,HML.out.2];omega) (zB4 n) (by unfold maxLen;omega);have hU:=TRn.sub (o:=0) (m:=n) (c:=n) (by rw [HML.out.1.2,HML.out.2];omega) (zB4 n) (by unfold maxLen;omega);rw [List.drop_zero,zA7 (by rw [HML.out.1.1,HML.out.2];exact zB4 n)] at hV;rw [List.drop_zero,zA7 (by rw [HML.out.1.2,HML.out.2];exact zB4 n)] at hU;have HVU:=hQ9 (zA hV hU);clear TL TR TLn TRn hV hU;go_wp2;go_ret2;exact ⟨_,_,rfl,by rw [<- HMM.out.1];exact HVU.out.1,by rw [<- HMM.out.2];exact HVU.out.2,HB.out⟩
  · rw [<- hx1, <- hx2, <- hw3];clear hx1 hx2 hw3;have TL:=TWx2;have TR:=TWx1;have hLR : x2 ≠ x1:=by omega
    clear TWx1 TWx2;go_wp2
    go_loopw [19] (fun v19 wr => ∃ (k:Nat) (us vs:List Value),k<=n/\zE1 .u64 4294967296 wr x2 48 us (zG T0 M1 k)/\zE1 .u64 4294967296 wr x1 48 vs (zG T0 M2 k)/\Hid (Below w.heap.size w wr)/\v19=.int .i64 (k:Int)) (fun v19 _=>n-(intOf v19).toNat)
    case atStart=>exact ⟨0,_,_,by omega,by rw [zZ4];exact TL,by rw [zZ4];exact TR,HB3,rfl⟩
    case round =>
      clear TL TR HB3;obtain ⟨k,us,vs,hk,TL,TR,HB,rfl⟩:=hrel;obtain ⟨wi,hwi⟩:∃ wi,wi=wr:=⟨_,rfl⟩;subst hwi;by_cases hkn:k<n
      · obtain ⟨p,hp,hpl⟩:=zH7 HSA.out hkn;obtain ⟨q,hq,hql⟩:=zH7 HSB.out hkn;have k0:=HS0.out.below HB.out;have k1:=HS1.out.below HB.out;obtain ⟨ad0,rfl⟩:=k0.place (fun e=>by rw [e] at hp;cases hp);obtain ⟨ad1,rfl⟩:=k1.place (fun e=>by rw [e] at hq;cases hq);obtain ⟨Ap,cp,hip,ecp,sp⟩:=k0.at2 hp;obtain ⟨Aq,cq,hiq,ecq,sq⟩:=k1.at2 hq;rw [hpl] at ecp sp;rw [hql] at ecq sq;have HP:=hQ9 (zA hp (zA hpl (zA hq hql)));obtain ⟨PQ,hPQ⟩:∃ PQ,PQ=p ++ q:=⟨_,rfl⟩;obtain ⟨N,hN⟩:∃ N,N=n+m:=⟨_,rfl⟩;obtain ⟨Z,hZ⟩:∃ Z,Z=zK3 (p ++ q):=⟨_,rfl⟩;have HZ:=hQ9 hZ;have HZL:Hid (Z.length=N):=by show _=_;rw [hN,hZ,zX1,zA8,hpl,hql]
        have CC:∀ W,Below wi.heap.size wi W->Calls prog 76 #[.slice (some ⟨W.heap.size,0,none⟩) 2 2] (W.alloc (.cells #[.slice Ap n cp,.slice Aq m cq] 44)) (fun e w' => ∃ V,e=.returned V/\SlF .u64 4294967296 w' V PQ/\Below W.heap.size W w'):=fun W hb=>by
          have ba:=zD1 (w:=W) (zB4 _) (.cells #[.slice Ap n cp,.slice Aq m cq] 44);refine (yM6 _ (.slice Ap n cp) (.slice Aq m cq) p q _ (zR8 W 44 [.slice Ap n cp,.slice Aq m cq]) ((sp.below hb).below ba) ((sq.below hb).below ba) (by omega) (by omega)).mono ?_;rintro e w' ⟨V,rfl,h2,h3⟩;exact ⟨V,rfl,by rw [hPQ];exact h2,ba.trans (h3.mono ba.size)⟩
        have CZ:∀ W V,SlF .u64 4294967296 W V PQ->Calls prog 20 #[V] W (fun e w' => ∃ (g o:Nat) (v:Value),e=.returned (.tuple #[.slice (some ⟨g,o,none⟩) N N,v])/\W.heap.size<=g/\SlZ .u64 4294967296 w' (.slice (some ⟨g,o,none⟩) N N) Z/\Below W.heap.size W w'):=fun W V h=>by
          have hl:(p ++ q).length=N:=by rw [zA8,hpl,hql,hN]
          rw [hPQ] at h;refine (yL7 V (p ++ q) S W h ⟨by omega,hc.out.small,fun x hx => ?_⟩).mono ?_
          · rcases List.mem_append.1 hx with hx | hx
            · exact hc.out.la p (zA5 hp) x hx
            · exact hc.out.lb q (zA5 hq) x hx
          · rintro e w' ⟨g,v,rfl,h1,h2,-,h4⟩;rw [hl] at h2 |-;exact ⟨g,0,v,rfl,h1,by rw [hZ];exact h2.sl (by rw [zX1,hl]) (by omega),h4⟩
        have HRK:Hid (M1[k]?=some (Z.take n)/\M2[k]?=some (Z.drop n)):=by
          show _/\_
          rw [HMM.out.1,HMM.out.2];unfold zK4 zK8;rw [zB1,zB1,qH hp hq,HNA.out,hZ];exact ⟨rfl,rfl⟩
        have hNn:n<=N:=by omega
        have hN100:N<=100:=by omega
        clear hp hq hpl hql sp sq hZ k0 k1 hPQ hN;have hbd:=(Below.refl wi.heap.size wi).drew;go_upto_region 6 with (fail)
        go_region_law (first | (go_simp;go_at_call 76;refine (CC _ (by exact hbd)).mono ?_;rintro e w4 ⟨V4,rfl,s4,b4⟩;obtain ⟨A4,c4,rfl,-,-⟩:=id s4.shape)|(go_simp;go_at_call 20;refine (CZ _ _ (by exact s4)).mono ?_;rintro e w5 ⟨gx,ox,v5,rfl,hgx,s5,b5⟩))
        all_goals
          have b45:Below wi.heap.size wi w5:=(hbd.trans (b4.mono hbd.size)).trans (b5.mono (zB5 hbd.size b4.size));have TL5:=TL.below b45;have TR5:=TR.below b45;have HB5:Hid (Below w.heap.size w w5):=HB.out.trans (b45.mono HB.out.size);obtain ⟨A2,hA2⟩:∃ A2:Option Addr,A2=if N=n then some ⟨gx,ox,none⟩ else some ⟨gx,ox+n*2,none⟩:=⟨_,rfl⟩
          have sL:SlZ .u64 4294967296 w5 (.slice (some ⟨gx,ox,none⟩) n N) (Z.take n):=s5.take (by rw [HZL.out];exact hNn)
          have sR:SlZ .u64 4294967296 w5 (.slice A2 (N-n) (N-n)) (Z.drop n):=by
            by_cases e:N=n
            · rw [hA2,if_pos e,List.drop_eq_nil_of_le (by rw [HZL.out];omega),show N-n=0 by omega];exact qH0 _ _ _ (Nat.zero_le _)
            · rw [hA2,if_neg e];exact s5.drop (by rw [HZL.out];exact hNn)
          obtain ⟨x,hx⟩:∃ x,T0[k]?=some x:=⟨_,zA3 (by rw [HML.out.2];exact hkn)⟩;have hm1:(zG T0 M1 k)[k]?=some x:=by rw [zW9 HML.out.1.1 (by rw [HML.out.2];omega)];exact hx
          have hm2:(zG T0 M2 k)[k]?=some x:=by rw [zW9 HML.out.1.2 (by rw [HML.out.2];omega)];exact hx
          obtain ⟨AL,cL,-,ecL,-⟩:=TL5.at_ hm1;obtain ⟨AR,cR,-,ecR,-⟩:=TR5.at_ hm2;have fL:=TL5.1.1.frozen k;have fR:=TR5.1.1.frozen k;have hA3:=hA2.symm;have hjc2:¬ N<n:=by omega
          have HX:=hQ9 (zA TL5 (zA TR5 (zA sL sR)));have hRL:x1≠x2:=fun e=>hLR e.symm;clear TL TR TL5 TR5 sL sR hx hm1 hm2 s5 b45 b4 b5 s4 HB CC CZ hA2 hgx hbd ecp ecq;go_upto_region 7 with (fail);go_region
          all_goals
            obtain ⟨TL6,TR6⟩:=yN6 (k:=k) HX.out.1 HX.out.2.1 hLR HX.out.2.2.1 HX.out.2.2.2;rw [zX HML.out.1.1 HRK.out.1] at TL6;rw [zX HML.out.1.2 HRK.out.2] at TR6;have TL7:=TL6.drew;have TR7:=TR6.drew;have G7:=(zE7 w5 x2 k (.slice (some ⟨gx,ox,none⟩) n N));have HB6:Hid (Below w.heap.size w _):=((HB5.out.setCell (p:=⟨x2,k,none⟩) (show w.heap.size<=x2 by omega) (.slice (some ⟨gx,ox,none⟩) n N)).setCell (p:=⟨x1,k,none⟩) (show w.heap.size<=x1 by omega) (.slice A2 (N-n) (N-n))).drew;clear TL6 TR6 HX HB5 G7 ecL ecR fL fR;go_wp2;go_roundw;case rel=>exact ⟨k+1,_,_,by omega,TL7,TR7,HB6,by go_num⟩
            case measure=>simp [intOf];omega
      · have TLn:zE1 .u64 4294967296 wi x2 48 us M1:=by
          have h1:=zZ5 HML.out.1.1;rw [HML.out.2] at h1;rw [show k=n by omega,h1] at TL;exact TL
        have TRn:zE1 .u64 4294967296 wi x1 48 vs M2:=by
          have h1:=zZ5 HML.out.1.2;rw [HML.out.2] at h1;rw [show k=n by omega,h1] at TR;exact TR
        have hV:=TLn.sub (o:=0) (m:=n) (c:=n) (by rw [HML.out.1.1,HML.out.2];omega) (zB4 n) (by unfold maxLen;omega);have hU:=TRn.sub (o:=0) (m:=n) (c:=n) (by rw [HML.out.1.2,HML.out.2];omega) (zB4 n) (by unfold maxLen;omega);rw [List.drop_zero,zA7 (by rw [HML.out.1.1,HML.out.2];exact zB4 n)] at hV;rw [List.drop_zero,zA7 (by rw [HML.out.1.2,HML.out.2];exact zB4 n)] at hU;have HVU:=hQ9 (zA hV hU);clear TL TR TLn TRn hV hU;go_wp2;go_ret2;exact ⟨_,_,rfl,by rw [<- HMM.out.1];exact HVU.out.1,by rw [<- HMM.out.2];exact HVU.out.2,HB.out⟩
theorem yN7 {n:Nat} {M:Nat->Nat->Rat} : zC8 n M≠0 ↔ ∀ x,zW3 n n M x -> ∀ c,c<n->x c=0 :=
 ⟨fun h x hx c hc=>Classical.byContradiction fun hne=>h (yJ0 hc hx hne),yJ1⟩
theorem jK4 {n:Nat} {A B:Nat->Nat->Rat} {μ : Nat->Rat} (hμ:∀ i,i<n -> μ i≠0) (h:∀ i j,i<n->j<n->B i j=A i j * μ i):zC8 n B≠0 ↔ zC8 n A≠0:=by
 have key:∀ x,zW3 n n B x ↔ zW3 n n A x:=fun x=>by
  have e:∀ i,i<n->zC5 n (fun j=>B i j*x j) = μ i*zC5 n (fun j=>A i j*x j):=fun i hi=>by
   rw [<- zL4];exact zH1 fun j hj=>by rw [h i j hi hj];grind
  constructor
  ·intro k i hi;have h1:=k i hi;rw [e i hi] at h1;rcases Rat.mul_eq_zero.1 h1 with h2 | h2
   ·exact absurd h2 (hμ i hi)
   ·exact h2
  ·intro k i hi;rw [e i hi,k i hi,Rat.mul_zero]
 rw [yN7,yN7];exact ⟨fun h x hx=>h x ((key x).2 hx),fun h x hx=>h x ((key x).1 hx)⟩
theorem jK5 {c x y:Rat} (hc:c≠0) (h:c*x=c*y):x=y:=by
 have h1:=Rat.mul_inv_cancel _ hc;have h2:c⁻¹ * (c*x)=c⁻¹ * (c*y):=by rw [h]
 rw [<- Rat.mul_assoc,<- Rat.mul_assoc,Rat.mul_comm c⁻¹ c,h1,Rat.one_mul,Rat.one_mul] at h2;exact h2
theorem jK6 {z d:Int} (hd:d≠0):Rat.divInt z d*(d:Rat)=(z:Rat):=by
 have h:(d:Rat)≠0:=fun e=>hd (Rat.intCast_eq_zero_iff.1 e);rw [Rat.divInt_eq_div,Rat.div_def,Rat.mul_assoc,Rat.mul_comm (d:Rat)⁻¹,Rat.mul_inv_cancel _ h,Rat.mul_one]
theorem jK7 {z d:Int} {m:Nat} (hd:d≠0) (hz:zC4 z<=m) (hl:zC4 d<=m):zC6 (Rat.divInt z d) m:=by
 rcases Int.lt_or_gt_of_ne hd with h | h
 ·rw [yB5 h];exact zS0 (by omega) (by rw [qE5];exact hz) hl
 ·rw [yB6 h];exact zS0 (by omega) hz hl
theorem yN8 {r:List Rat} {l:Nat} {x:Rat} (h:r[l]?=some x):(((zK3 r).getD l 0:Int):Rat)=x*(zJ0 r:Rat):=by
 rw [zA6,yL6 h];exact jH2 (yL4 x (zA5 h))
theorem jK8 {qs:List Rat} {S:Nat} (h:∀ q∈qs,zC6 q S):∀ z∈zK3 qs,zC4 z<=S+(1+S*qs.length):=by
 intro z hz;unfold zK3 at hz;obtain ⟨q,hq,rfl⟩:=List.mem_map.1 hz;have h1:=yL5 qs h qs.length;rw [List.take_length] at h1
 have h2:zC4 ((zJ0 qs / q.den:Nat):Int)<=1+S*qs.length:=by
  unfold zC4;rw [Int.natAbs_natCast];exact zB5 (zG5 (by omega) (Nat.div_le_self _ _)) h1
 exact zO3 (h q hq).1 h2
theorem lcmL_ne (qs:List Rat):(zJ0 qs:Rat)≠0:=by
 intro e;have h:=qU9 qs;have h3:((zJ0 qs:Nat):Rat)=((0:Nat):Rat):=e
 have:=Rat.natCast_inj.1 h3
 omega
def zX4 (A B:List (List Rat)) (i:Nat):Rat:=(zJ0 ((zD9 A B).getD i []):Rat)
theorem yN9 (A B:List (List Rat)) (i:Nat):zX4 A B i≠0:=lcmL_ne _
section
variable {A B:List (List Rat)}
theorem yO (ok:okq A B) {i:Nat} (hi:i<A.length):∃ p q,A[i]?=some p/\p.length=A.length/\B[i]?=some q/\q.length=zD2 B/\(zD9 A B)[i]?=some (p ++ q):=by
 obtain ⟨p,hp,hpl⟩:=zH7 ok.sa hi;obtain ⟨q,hq,hql⟩:=zH7 ok.sb hi;exact ⟨p,q,hp,hpl,hq,hql,qH hp hq⟩
theorem yO0 (ok:okq A B) {i j:Nat} (hi:i<A.length) (hj:j<A.length):((zC7 (zK4 A B) i j:Int):Rat)=zC0 A i j*zX4 A B i:=by
 obtain ⟨p,q,hp,hpl,hq,hql,hr⟩:=yO ok hi;have h1:(zK4 A B)[i]?=some ((zK3 (p ++ q)).take A.length):=by unfold zK4;rw [zB1,hr];rfl
 have hx:(p ++ q)[j]?=some (zC0 A i j):=by
  rw [zB0 (by omega),zQ hp,zA6,zA3 (by omega:j<p.length)]
  rfl
 have e:zC7 (zK4 A B) i j=(zK3 (p ++ q)).getD j 0:=by
  rw [zK h1,zA6,zA6,List.getElem?_take,if_pos hj]
 rw [e,yN8 hx];unfold zX4;rw [zJ2 hr]
theorem jK9 (ok:okq A B) {i j:Nat} (hi:i<A.length) (hj:j<zD2 B):((zC7 (zK8 A B) i j:Int):Rat)=zC0 B i j*zX4 A B i:=by
 obtain ⟨p,q,hp,hpl,hq,hql,hr⟩:=yO ok hi;have h1:(zK8 A B)[i]?=some ((zK3 (p ++ q)).drop A.length):=by unfold zK8;rw [zB1,hr];rfl
 have hx:(p ++ q)[A.length+j]?=some (zC0 B i j):=by
  rw [List.getElem?_append_right (by omega),hpl,Nat.add_sub_cancel_left,zQ hq,zA6,zA3 (by omega:j<q.length)]
  rfl
 have e:zC7 (zK8 A B) i j=(zK3 (p ++ q)).getD (A.length+j) 0:=by
  rw [zK h1,zA6,zA6,List.getElem?_drop]
 rw [e,yN8 hx];unfold zX4;rw [zJ2 hr]
theorem qO1 (ok:okq A B):shI (zK4 A B) A.length A.length:=by
 have hJ:=zR3 ok.sa ok.sb;refine ⟨by unfold zK4;rw [zA9,hJ.1],fun r hr => ?_⟩;unfold zK4 at hr;obtain ⟨x,hx,rfl⟩:=List.mem_map.1 hr;rw [zB2,zX1,hJ.2 x hx];omega
theorem qV6 (ok:okq A B):shI (zK8 A B) A.length (zD2 B):=by
 have hJ:=zR3 ok.sa ok.sb;refine ⟨by unfold zK8;rw [zA9,hJ.1],fun r hr => ?_⟩;unfold zK8 at hr;obtain ⟨x,hx,rfl⟩:=List.mem_map.1 hr;rw [List.length_drop,zX1,hJ.2 x hx];omega
theorem qH2 (ok:okq A B):zH (zK8 A B)=zD2 B:=by
 have h:=qV6 ok;unfold zH;by_cases h0:A.length=0
 ·have e1:zK8 A B=[]:=List.length_eq_zero_iff.1 (by rw [h.1,h0]);have e2:B=[]:=List.length_eq_zero_iff.1 (by rw [<- ok.2.2.2,h0]);rw [e1,e2]
  rfl
 ·obtain ⟨r,hr,hl⟩:=zU6 h (show 0<A.length by omega);rw [zA6,hr];exact hl
theorem jL (ok:okq A B) (hw:A.length+zD2 B<=100):okS (zK4 A B) (zK8 A B):=by
 have h1:=qO1 ok;have h2:=qV6 ok;refine ⟨⟨by rw [h1.1];omega,fun r hr=>by rw [h1.1];exact h1.2 r hr⟩,⟨by rw [h2.1];omega,fun r hr => ?_⟩,by rw [h1.1,h2.1]⟩;rw [qH2 ok];exact ⟨h2.2 r hr,by rw [h2.2 r hr];omega⟩
theorem yO1 (ok:okq A B):zC8 A.length (qF (zC7 (zK4 A B)))≠0 ↔ zC8 A.length (zC0 A)≠0 :=
 jK4 (μ:=zX4 A B) (fun i _=>yN9 A B i) fun i j hi hj=>yO0 ok hi hj
theorem jL0 {S:Nat} (ok:okq A B) (la:zH6 A S) (lb:zH6 B S):zJ (zK4 A B) (S+(1+S*(A.length+zD2 B)))/\zJ (zK8 A B) (S+(1+S*(A.length+zD2 B))):=by
 have key:∀ r∈zD9 A B,∀ z∈zK3 r,zC4 z<=S+(1+S*(A.length+zD2 B)):=fun r hr z hz=>by
  have hl:=(zR3 ok.sa ok.sb).2 r hr
  have h:=jK8 (S:=S) (qs:=r) (fun x hx=>by
   obtain ⟨p,hp,q,hq,rfl⟩:=qM6 hr;rcases List.mem_append.1 hx with hx | hx
   ·exact la p hp x hx
   ·exact lb q hq x hx) z hz
  rwa [hl] at h
 constructor
 ·intro r hr z hz;unfold zK4 at hr;obtain ⟨x,hx,rfl⟩:=List.mem_map.1 hr;exact key x hx z (List.mem_of_mem_take hz)
 ·intro r hr z hz;unfold zK8 at hr;obtain ⟨x,hx,rfl⟩:=List.mem_map.1 hr;exact key x hx z (List.mem_of_mem_drop hz)
theorem jL1 {X:List (List Int)} {n m i j:Nat} {d:Int} (h:shI X n m) (hi:i<n) (hj:j<m):zC0 (zK0 d X) i j=Rat.divInt (zC7 X i j) d:=by
 obtain ⟨r,hr,hl,hz⟩:=qV3 h hi hj;have h1:(zK0 d X)[i]?=some (zM3 d r):=by unfold zK0;rw [zB1,hr];rfl
 rw [zQ h1,zA6];unfold zM3;rw [zB1,hz]
 rfl
theorem jL2 {X:List (List Int)} {d:Int} (ok:okq A B) (h:SolvedI (zK4 A B) (zK8 A B) X d):SolQ A B (zK0 d X):=by
 have hla:=(qO1 ok).1;have hsh:=h.sh;rw [hla,qH2 ok] at hsh;refine ⟨⟨by rw [qN9,hsh.1],fun r hr => ?_⟩,fun i j hi hj => ?_⟩
 ·unfold zK0 at hr;obtain ⟨x,hx,rfl⟩:=List.mem_map.1 hr;rw [qN8];exact hsh.2 x hx
 ·have h1:=h.sol i j (by rw [hla];exact hi) (by rw [qH2 ok];exact hj);rw [hla,jK9 ok hi hj] at h1;have hd:(d:Rat)≠0:=fun e=>h.ne (Rat.intCast_eq_zero_iff.1 e)
  have h2:zC5 A.length (fun c=>(zC7 (zK4 A B) i c:Rat)*(zC7 X c j:Rat))=(zX4 A B i*(d:Rat))*zP9 A.length (zC0 A) (zC0 (zK0 d X)) i j:=by
   unfold zP9;rw [<- zL4];refine zH1 fun c hc => ?_;rw [yO0 ok hi hc,jL1 hsh hc hj,<- jK6 (z:=zC7 X c j) h.ne]
   grind
  rw [h2] at h1
  have hx:zX4 A B i*(d:Rat)≠0:=fun e=>by
   rcases Rat.mul_eq_zero.1 e with e | e
   ·exact yN9 A B i e
   ·exact hd e
  exact jK5 hx (by rw [h1];grind)
theorem jL3 {X P Q:List (List Int)} {d:Int} {S:Nat} (h:SolvedI P Q X d) (lp:zJ P S) (lq:zJ Q S) (hp:shI P P.length P.length) (hq:shI Q P.length (zH Q)):zC4 d<=dZ S P.length/\zJ X (dZ S P.length):=by
 have ep:∀ i j,i<P.length->j<P.length->zC4 (zC7 P i j)<=S:=fun i j hi hj=>by
  obtain ⟨r,hr,hl,hz⟩:=qV3 hp hi hj;exact lp r (zA5 hr) _ (zA5 hz)
 constructor
 ·have h1:=h.det;rw [<- qV1] at h1;rw [Rat.intCast_inj.1 h1];exact qV2 _ ep
 ·intro r hr z hz;obtain ⟨c,hc⟩:=List.mem_iff_getElem?.1 hr;obtain ⟨j,hj⟩:=List.mem_iff_getElem?.1 hz;have hcl:c<P.length:=by rw [<- h.sh.1];exact (zA4.1 hc).1
  have hjl:j<zH Q:=by rw [<- h.sh.2 r hr];exact (zA4.1 hj).1
  have h1:=h.cra c j hcl hjl
  have e:zC8 P.length (zH8 (qF (zC7 P)) c (fun r=>qF (zC7 Q) r j))=zC8 P.length (qF (fun i l=>if l=c then zC7 Q i j else zC7 P i l)):=zK7 _ fun i l hi hl=>by
   unfold zH8;by_cases e:l=c
   ·show _=(((if l=c then zC7 Q i j else zC7 P i l:Int)):Rat)
    rw [if_pos e,if_pos e]
    rfl
   ·show _=(((if l=c then zC7 Q i j else zC7 P i l:Int)):Rat)
    rw [if_neg e,if_neg e]
    rfl
  rw [e,<- qV1] at h1;have h2:=Rat.intCast_inj.1 h1;rw [yK3 hc hj] at h2;rw [h2];refine qV2 _ fun i l hi hl => ?_
  by_cases e2:l=c
  ·rw [if_pos e2];obtain ⟨r',hr',hl',hz'⟩:=qV3 hq hi hjl;exact lq r' (zA5 hr') _ (zA5 hz')
  ·rw [if_neg e2];exact ep i l hi hl
end
theorem jL4 (a0 a1:Value) (A B:List (List Int)) (S:Nat) (w:World) (h0:SlW .u64 4294967296 w a0 A) (h1:SlW .u64 4294967296 w a1 B) (hc:Hid (zJ A S/\zJ B S/\(S+1)*2^A.length<=5001)) :
    Calls prog 35 #[a0,a1] w (RetSol A B w):=by
  obtain ⟨n,hn⟩:∃ n,n=A.length:=⟨_,rfl⟩;obtain ⟨m,hm⟩:∃ m,m=B.length:=⟨_,rfl⟩;obtain ⟨A0,c0,rfl,hc0,hm0⟩:=h0.shape;obtain ⟨A1,c1,rfl,hc1,hm1⟩:=h1.shape;rw [<- hn] at h0 hc0 |-;rw [<- hm] at h1 hc1 |-;unfold maxLen at hm0 hm1;have ba0:=zD1 (w:=w) (zB4 _) (.cells #[.bool false,.slice none 0 0] 60);have BR0:=Blk.new w 60 #[.bool false,.slice none 0 0];have st0:=h0.below ba0;have st1:=h1.below ba0;have HNM:=hQ9 (zA hn hm);clear h0 h1 hn hm
  go_enter func35,ntmps35;go_wp2_with fail
  refine (jG3 _ A _ st0).mono ?_;rintro e w2 (⟨hS,rfl,b2⟩|⟨hS,rfl,b2⟩)
  · have HS:=hQ9 hS;have BR2:=BR0.below b2;have st02:=st0.below b2;have st12:=st1.below b2;have b02:=ba0.trans (b2.mono ba0.size);clear hS BR0 st0 st1 ba0 b2
    go_wp2_with fail
    refine (yK5 _ B _ st12).mono ?_;rintro e w3 (⟨hE,rfl,b3⟩|⟨hE,rfl,b3⟩)
    · have HEv:=hQ9 hE;have BR3:=BR2.below b3;have st03:=st02.below b3;have st13:=st12.below b3;have b03:=b02.trans (b3.mono b02.size);clear hE BR2 st02 st12 b02 b3;by_cases hl:n=m
      · have HOK : Hid (okS A B) := ⟨HS.out, HEv.out, by rw [<- HNM.out.1, <- HNM.out.2]; exact hl⟩;subst hl;have hn100 : n <= 100:=by rw [HNM.out.1]; exact HOK.out.1.1
        obtain ⟨mk,hmk⟩:=Classical.axiomOfChoice (fun w=>qM2 (P:=prog) (w:=w) underlying73 yL1 n (by omega));have hmk1:=fun w=>(hmk w).1;have HMK:=hQ9 (fun w=>(hmk w).2);clear hmk;obtain ⟨tb,bm⟩:=HMK.out w3;obtain ⟨T0,hT0⟩:∃ T0,T0=zB n ([]:List Int):=⟨_,rfl⟩;obtain ⟨M,hM⟩:∃ M,M=zO9 A B:=⟨_,rfl⟩;have HML:Hid (M.length=T0.length/\T0.length=n):=⟨by rw [hM,hT0,qV4 HOK.out.2.2,List.length_replicate,HNM.out.1],by rw [hT0,List.length_replicate]⟩
        have TW0:zE1 .u64 4294967296 (mk w3) w3.heap.size 48 (zB n (.slice none 0 0)) (zG T0 M 0):=by
          rw [zZ4,hT0];refine ⟨tb,by rw [List.length_replicate,List.length_replicate],fun i u r hu hr => ?_⟩;obtain rfl:=(List.mem_replicate.1 (zA5 hu)).2;obtain rfl:=(List.mem_replicate.1 (zA5 hr)).2;exact qH0 _ _ _ (Nat.zero_le _)
        have HAP0:Hid (Apt (mk w3) w3.heap.size (zB n (.slice none 0 0))):=by
          refine ⟨fun u hu g e => ?_,fun i j u v hij hu hv g e => ?_⟩
          · obtain rfl:=(List.mem_replicate.1 hu).2;cases e
          · obtain rfl:=(List.mem_replicate.1 (zA5 hu)).2;cases e
        have hw3:w.heap.size<w3.heap.size:=BR3.lt;have HM:=hQ9 hM;have HST:=hQ9 (zA st03 st13);have HB0:Hid (Below w3.heap.size w3 (mk w3)):=bm;have HB03:=hQ9 b03;have HBR:=hQ9 BR3;clear tb bm hT0 hM st03 st13 BR3 b03;go_wp2
        go_loopw [34] (fun v34 wr => ∃ (i:Nat) (us:List Value),i<=n/\zE1 .u64 4294967296 wr w3.heap.size 48 us (zG T0 M i)/\Hid (Apt wr w3.heap.size us)/\Hid (Below w3.heap.size w3 wr)/\v34=.int .i64 (i:Int)) (fun v34 _=>n-(intOf v34).toNat)
        case atStart=>exact ⟨0,_,by omega,TW0,HAP0,HB0,rfl⟩
        case round =>
          clear TW0 HB0 HAP0;obtain ⟨i,us,hi,TW,HAP,HBi,rfl⟩:=hrel;obtain ⟨wi,hwi⟩:∃ wi,wi=wr:=⟨_,rfl⟩;subst hwi;by_cases hin:i<n
          · obtain ⟨p,hp⟩:∃ p,A[i]?=some p:=⟨_,zA3 (by rw [<- HNM.out.1];exact hin)⟩;obtain ⟨q,hq⟩:∃ q,B[i]?=some q:=⟨_,zA3 (by rw [<- HNM.out.2];exact hin)⟩;have hpl:p.length<=100:=by rw [HOK.out.1.2 p (zA5 hp)];exact HOK.out.1.1
            have hql:q.length<=100:=(HOK.out.2.1.2 q (zA5 hq)).2;have bd:=(Below.refl wi.heap.size wi).drew;have HBd:Hid (Below w3.heap.size w3 wi.drew):=HBi.out.drew;have s0d:=HST.out.1.below HBd.out;have s1d:=HST.out.2.below HBd.out;obtain ⟨ad0,rfl⟩:=s0d.place (List.length_pos_iff.1 (by have:=HNM.out.1;omega));obtain ⟨ad1,rfl⟩:=s1d.place (List.length_pos_iff.1 (by have:=HNM.out.2;omega));obtain ⟨Ap,cp,hia,ecp,sp⟩:=s0d.at2 hp;obtain ⟨Aq,cq,hib,ecq,sq⟩:=s1d.at2 hq;obtain ⟨pa,hpa,vpa,npa⟩:=sp.pairs;obtain ⟨pb,hpb,vpb,npb⟩:=sq.pairs;have hla:pa.length<=1000:=by rw [<- zA9 (f:=(·.1)),hpa];omega
            have hlb:pb.length<=1000:=by rw [<- zA9 (f:=(·.1)),hpb];omega
            have TMd:=TW.below bd;obtain ⟨x,hx⟩:∃ x,T0[i]?=some x:=⟨_,zA3 (by rw [HML.out.2];exact hin)⟩;have hm2:(zG T0 M i)[i]?=some x:=by rw [zW9 HML.out.1 (by rw [HML.out.2];omega)];exact hx
            have HMI:Hid ((zG T0 M i).set i (p ++ q)=zG T0 M (i+1)):=zX HML.out.1 (by rw [HM.out];exact qO0 hp hq);have HX:=hQ9 hm2;have HPP:=hQ9 (zA hpa hpb);have ba:=zD1 (w:=wi.drew) (zB4 _) (.cells #[.slice Ap p.length cp,.slice Aq q.length cq] 48);have HV:=zR8 wi.drew 48 [.slice Ap p.length cp,.slice Aq q.length cq];have HPA:=hQ9 (zA (vpa.below ba) (zA (npa.below ba) (zA (vpb.below ba) (npb.below ba))));have HBA:=hQ9 ba;clear hp hq hx hm2 hpa hpb vpa npa vpb npb ba sp sq s0d s1d hpl hql TW;go_upto_region 7 with (fail)
            go_region_law (go_simp;go_at_call 72;refine (jK2 _ _ _ pa pb _ (by exact HV) HPA.out.1 HPA.out.2.1 HPA.out.2.2.1 HPA.out.2.2.2 hla hlb).mono ?_;rintro e w6 ⟨V6,rfl,R6,N6,b6⟩;obtain ⟨A6,c6,rfl⟩:=R6.slice;obtain ⟨m6,hm6⟩:∃ m6,m6=(pa ++ pb).length:=⟨_,rfl⟩;rw [<- hm6] at R6 |-;clear hm6;have b06:Below wi.drew.heap.size wi.drew w6:=HBA.out.trans (b6.mono HBA.out.size);have TM6:=TMd.below b06;obtain ⟨A6',c6',hu6,ec6,-⟩:=TM6.at_ HX.out;have f6:=TM6.1.1.frozen i)
            all_goals
              have sR:SlZ .u64 4294967296 w6 (.slice A6 m6 c6) (p ++ q):=by
                have h:=R6.slP.sl N6;rwa [List.map_append,HPP.out.1,HPP.out.2] at h
              have TM7:=TM6.stored i sR;rw [HMI.out] at TM7;have HB7:=hQ9 ((HBd.out.trans (b06.mono HBd.out.size)).grown (zE7 w6 w3.heap.size i (.slice A6 m6 c6)) (zB5 HBd.out.size b06.size) (fun x e=>by injection e with e;omega));have HA7:Hid (Apt (w6.setCell ⟨w3.heap.size,i,none⟩ (.slice A6 m6 c6)) w3.heap.size (us.set i (.slice A6 m6 c6))):=Apt.newR (HAP.out.grow (zO8 bd)) ((zO8 b06).trans (zR5 w6 w3.heap.size i _)) HBd.out.size (fun g e=>⟨zB5 HBA.out.size (R6.bk e).1,(zR5 w6 w3.heap.size i _).2 g (R6.bk e).2⟩);clear TM6 sR R6 N6 b6 b06 TMd ec6 f6 ecp ecq HV HAP HBi bd;go_wp2;go_roundw;case rel=>exact ⟨i+1,_,by omega,TM7,HA7,HB7,by go_num⟩
              case measure=>simp [intOf];omega
          · have TWn:zE1 .u64 4294967296 wi w3.heap.size 48 us M:=by
              have h1:=zZ5 HML.out.1;rw [HML.out.2] at h1;rw [show i=n by omega,h1] at TW;exact TW
            have hwb:zH B<=100:=by
              unfold zH
              cases hB:B with
              | nil=>simp
              | cons r B'=>exact (HOK.out.2.1.2 r (by rw [hB];exact List.mem_cons_self ..)).2
            have HCW:Hid (shI M n (n+zH B)/\n<=n+zH B/\n<=100/\n+zH B<=200/\zJ M S/\(S+1)*2^n<=5001):=by
              rw [HM.out,HNM.out.1];exact ⟨besI_sh HOK.out,Nat.le_add_right _ _,HOK.out.1.1,by have:=HOK.out.1.1;omega,jJ6 HOK.out.2.2 hc.out.1 hc.out.2.1,hc.out.2.2⟩
            clear TW hwb;go_wp2_with fail
            refine (jH w3.heap.size n (n+zH B) S us M _ TWn HCW).mono ?_;rintro e w5 ⟨hg5,⟨us5,T,d,neg,v5,a,rfl,hv5,TS5,hsh,hlT,hld,hBr,hPr,hAp⟩|⟨v5,rfl,hv5,hd0⟩⟩
            · obtain ⟨u5, rfl, s5⟩ := hv5;obtain ⟨A5,c5,rfl,_⟩:=id s5;have HAP5 : Hid (Apt w5 w3.heap.size us5):=hAp _ HBi.out.size HAP.out
              have HSV:Hid (SolvedI A B (sgT neg T) (sgn neg d)):=by
                have e:=HNM.out.1;rw [HM.out] at hPr;rw [e] at hBr hPr hsh;exact jJ8 HOK.out hBr hPr (by rw [show zH B=A.length+zH B-A.length by omega];exact hsh) hlT hld
              have hd0:d≠0:=hBr.ne;obtain ⟨L,hL⟩:∃ L,L=zH B:=⟨_,rfl⟩;have HSH:Hid (shI T n L):=by rw [hL,show zH B=n+zH B-n by omega];exact hsh
              obtain ⟨X,hX⟩:∃ X,X=sgT neg T:=⟨_,rfl⟩;have HX:=hQ9 hX;have HXL:Hid (X.length=T.length/\T.length=n):=⟨by rw [hX,yN1],hsh.1⟩;have HLT:=hQ9 hlT
              have hLb:L<=100:=by
                rw [hL];unfold zH
                cases hB:B with
                | nil=>simp
                | cons r B'=>exact (HOK.out.2.1.2 r (by rw [hB];exact List.mem_cons_self ..)).2
              have HLD:=hQ9 hld;have hsz5:w3.heap.size<=w5.heap.size:=zB5 HBi.out.size hg5.size;have b05:=HB03.out.trans (HBi.out.mono HB03.out.size);have b06:=b05.grown hg5 b05.size (fun x e=>by injection e with e;omega);have BR5:=Blk.grown (HBR.out.below HBi.out) hg5 (show w.heap.size≠w3.heap.size by omega);have ba:=zD1 (w:=w5) (zB4 _) (.cells #[.bool (ngB d),.slice A5 (digs 4294967296 d.natAbs).length c5] 60);have B6:=Blk.new w5 60 #[.bool (ngB d),.slice A5 (digs 4294967296 d.natAbs).length c5];have s6:=s5.below ba;have BR6:=BR5.below ba;have b07:=b06.trans (ba.mono b06.size);have TS6:=TS5.below ba;have HAP6:=hQ9 (HAP5.out.grow (zO8 ba));have HGR:Hid (∀ u∈us5,∀ g,u.ownBlock=some g->w3.heap.size<=g/\g<w5.heap.size):=fun u hu g e=>⟨(HAP5.out.1 u hu g e).1,(HAP5.out.1 u hu g e).2.lt⟩;obtain ⟨t,ht⟩:∃ t,t=zK5 d 0:=⟨_,rfl⟩;have hz1:(t == 0)=false:=by rw [ht,beq_eq_false_iff_ne];exact fun e=>hd0 ((qU7 d).1 e)
              have HT:=hQ9 ht;clear hsh hlT hld hBr hPr hAp hX hL ht hd0 hg5 b05 b06 BR5 s5 ba TS5 TWn HAP HBi;go_wp2_with fail
              refine (qB0 _ d t _ ⟨_,rfl,s6⟩ HT.out).mono ?_;rintro e w7 ⟨rfl,b7⟩;have BR7:=BR6.below b7;have B7:=B6.below b7;have s7:=s6.below b7;have TS7:zE1 .u64 4294967296 w7 w3.heap.size 48 us5 (zG T X 0):=by rw [zZ4];exact TS6.below b7
              have HAP7:=hQ9 (HAP6.out.grow (zO8 b7));have HB7:Hid (Below w.heap.size w w7):=b07.trans (b7.mono b07.size);clear BR6 B6 s6 TS6 HAP6 b07 b7;go_wp2
              go_loopw [62] (fun v62 wr => ∃ i:Nat,i<=n/\zE1 .u64 4294967296 wr w3.heap.size 48 us5 (zG T X i)/\Hid (Apt wr w3.heap.size us5)/\Blk wr w5.heap.size 60 #[.bool (ngB d),.slice A5 (digs 4294967296 d.natAbs).length c5]/\IsS wr .u64 (.slice A5 (digs 4294967296 d.natAbs).length c5) (digs 4294967296 d.natAbs)/\Blk wr w.heap.size 60 #[.bool false,.slice none 0 0]/\Hid (Below w.heap.size w wr)/\v62=.int .i64 (i:Int)) (fun v62 _=>n-(intOf v62).toNat)
              case atStart=>exact ⟨0,by omega,TS7,HAP7,B7,s7,BR7,HB7,rfl⟩
              case round =>
                clear TS7 HAP7 B7 s7 BR7 HB7;obtain ⟨i,hi,TS,HAP,BP,su,BR,HB,rfl⟩:=hrel;obtain ⟨wo,hwo⟩:∃ wo,wo=wr:=⟨_,rfl⟩;subst hwo;by_cases hin:i<n
                · obtain ⟨r,hr,hrl⟩:=zU6 HSH.out hin;have hr2:(zG T X i)[i]?=some r:=by rw [zW9 HXL.out.1 (by rw [HXL.out.2];omega)];exact hr
                  obtain ⟨Ar,cr,hur,ecr,sr⟩:=TS.at_ hr2;obtain ⟨r2,hr3⟩:∃ r2,r2=sgR neg r:=⟨_,rfl⟩;have HRX:Hid (X[i]?=some r2):=by rw [HX.out,hr3];exact yN2 hr
                  have HRL:Hid (r2.length=r.length/\r.length=L):=⟨by rw [hr3,yN3],hrl⟩
                  have HRZ:Hid (∀ (j:Nat) (z:Int),r[j]?=some z->r2[j]?=some (sgn neg z)/\zC4 z<=5000):=by
                    show ∀ j z,_
                    intro j z hz;rw [hr3];exact ⟨sgR_at hz,HLT.out r (zA5 hr) z (zA5 hz)⟩
                  have HR:=hQ9 (zA hr hr2);have HUR:=hQ9 hur;have TS0:zE1 .u64 4294967296 wo w3.heap.size 48 us5 ((zG T X i).set i (zN8 r r2 0)):=by rw [jJ9,jK1 hr2];exact TS
                  have HL:Hid (i<(zG T X i).length):=(zA4.1 hr2).1;obtain ⟨rl,hrl2⟩:∃ rl,rl=r.length:=⟨_,rfl⟩;rw [<- hrl2] at hur ecr sr;have HRL2:=hQ9 hrl2;have hrlb:rl<=100:=by omega
                  have HURL:Hid (us5[i]?=some (.slice Ar rl cr)):=hur;clear hr hr2 hr3 hrl hur sr TS HUR hrl2;go_wp2
                  go_loopw [70] (fun v70 wr => ∃ j:Nat,j<=rl/\zE1 .u64 4294967296 wr w3.heap.size 48 us5 ((zG T X i).set i (zN8 r r2 j))/\Hid (Apt wr w3.heap.size us5)/\Blk wr w5.heap.size 60 #[.bool (ngB d),.slice A5 (digs 4294967296 d.natAbs).length c5]/\IsS wr .u64 (.slice A5 (digs 4294967296 d.natAbs).length c5) (digs 4294967296 d.natAbs)/\Blk wr w.heap.size 60 #[.bool false,.slice none 0 0]/\Hid (Below w.heap.size w wr)/\v70=.int .i64 (j:Int)) (fun v70 _=>rl-(intOf v70).toNat)
                  case atStart=>exact ⟨0,by omega,TS0,HAP,BP,su,BR,HB,rfl⟩
                  case round =>
                    clear TS0 HAP BP su BR HB ecr;obtain ⟨j,hj,TS,HAP,BP,su,BR,HB,rfl⟩:=hrel;obtain ⟨wi2,hwi2⟩:∃ wi2,wi2=wr:=⟨_,rfl⟩;subst hwi2;by_cases hjl:j<rl
                    · obtain ⟨z,hz⟩:∃ z,r[j]?=some z:=⟨_,zA3 (by rw [<- HRL2.out];exact hjl)⟩;have hmj:(zN8 r r2 j)[j]?=some z:=by rw [mixR_at HRL.out.1 (by rw [<- HRL2.out];omega)];exact hz
                      obtain ⟨Z,hZ⟩:∃ Z,Z=sgn neg z:=⟨_,rfl⟩;have hzl:zC4 z<=5000:=(HRZ.out j z hz).2;have CG:∀ w a,IsZ w a z->Calls prog 75 #[.bool neg,a] w (zF Z w):=fun w a h=>by rw [hZ];exact yL0 neg a z w h (by omega)
                      have HSET:Hid ((zN8 r r2 j).set j Z=zN8 r r2 (j+1)):=jK0 HRL.out.1 (by rw [hZ];exact (HRZ.out j z hz).1);have hcur:((zG T X i).set i (zN8 r r2 j))[i]?=some (zN8 r r2 j):=List.getElem?_set_self HL.out;have HCUR:=hQ9 hcur;have bd:=(Below.refl wi2.heap.size wi2).drew;have TSd:=TS.below bd;have srow:=TSd.2.2 i _ _ HURL.out hcur;obtain ⟨gr,or,rfl,hgr⟩:=srow.place (fun e=>by rw [e] at hmj;simp at hmj);obtain ⟨uz,hjn,p0,p1,sz⟩:=srow.at2 hmj;obtain ⟨Az,cz,rfl,_⟩:=id sz;have ecd:=TSd.1.cell HURL.out;rw [zR2] at ecd;have hfz:=((HAP.out.1 _ (zA5 HURL.out) gr rfl).2);have hgb:=HGR.out _ (zA5 HURL.out) gr rfl;have hix:=fun w=>zW6 (P:=prog) underlying48 (by kernel_rfl) (g:=gr) (o:=or) (c:=cr) hjn w;have BPd:=BP.below bd;have sud:=su.below bd;have BRd:=BR.below bd;have HBd:Hid (Below w.heap.size w wi2.drew):=HB.out.drew;have HAPd:=hQ9 (HAP.out.grow (zO8 bd));have fz:=(zO8 bd).2 gr hfz;have f0:=fz.frozen (or+j*2);have f1:=fz.frozen (or+j*2+1);have HMJ:=hQ9 (zA hmj (zA4.1 hmj).1);have hszd:=HBd.out.size;clear hz hmj hZ hzl hcur hgr TS BP su BR HB HAP bd hfz;go_upto_region 18 with (fail)
                      go_region_law (go_simp;go_at_call 75;refine (CG _ _ ⟨_,rfl,by exact sz⟩).mono ?_;rintro e w8 ⟨v8,rfl,k8,-,b8⟩;obtain ⟨u8,rfl,s8⟩:=k8;obtain ⟨A8,c8,rfl,_⟩:=id s8;have TS8:=TSd.below b8;have srow8:=TS8.2.2 i _ _ HURL.out HCUR.out;obtain ⟨uz8,-,p08,p18,sz8⟩:=srow8.at2 HMJ.out.1;have ec8:=TS8.1.cell HURL.out;rw [zR2] at ec8;have fz8:=(zO8 b8).2 gr fz;have f08:=fz8.frozen (or+j*2);have f18:=fz8.frozen (or+j*2+1))
                      all_goals
                        obtain ⟨TS9,hne9⟩:=TS8.setZ (HAPd.out.grow (zO8 b8)) HURL.out HCUR.out HMJ.out.2 s8;obtain ⟨Az8,cz8,rfl,_⟩:=id sz8;rw [HSET.out,List.set_set] at TS9;have G9:=qV w8 gr (or+j*2) (.bool (ngB Z)) (.slice A8 (digs 4294967296 Z.natAbs).length c8);have BP9:=Blk.grown (BPd.below b8) G9 (by omega);have su9:=Go.Proofs.YtagaabooccnamaaGreat.rat.IsS.put2 (x:=.bool (ngB Z)) (y:=.slice A8 (digs 4294967296 Z.natAbs).length c8) (sud.below b8) p08 p18;have BR9:=Blk.grown (BRd.below b8) G9 (by omega);have HB9:=hQ9 ((HBd.out.trans (b8.mono hszd)).grown G9 (zB5 hszd b8.size) (fun x e=>by injection e with e;omega));have HAP9:=hQ9 ((HAPd.out.grow (zO8 b8)).grow ((zR5 w8 gr (or+j*2) (.bool (ngB Z))).trans (zR5 _ gr (or+j*2+1) (.slice A8 (digs 4294967296 Z.natAbs).length c8))));clear TS8 srow8 sz8 p08 p18 ec8 fz8 f08 f18 s8 b8 G9 TSd srow p0 p1 sz ecd BPd sud BRd fz f0 f1 HAPd HBd;go_wp2;go_roundw;case rel=>exact ⟨j+1,by omega,TS9,HAP9,BP9,su9,BR9,HB9,by go_num⟩
                        case measure=>simp [intOf];omega
                    · have TS9:zE1 .u64 4294967296 wi2 w3.heap.size 48 us5 (zG T X (i+1)):=by
                        have h1:=jK HRL.out.1;rw [show j=r.length by rw [<- HRL2.out];omega,h1,zX HXL.out.1 HRX.out] at TS;exact TS
                      clear TS;go_wp2;go_roundw;case rel=>exact ⟨i+1,by omega,TS9,HAP,BP,su,BR,HB,by go_num⟩
                      case measure=>simp [intOf];omega
                · have TSn:zE1 .u64 4294967296 wo w3.heap.size 48 us5 X:=by
                    have h1:=zZ5 HXL.out.1;rw [HXL.out.2] at h1;rw [show i=n by omega,h1] at TS;exact TS
                  obtain ⟨Z,hZ⟩:∃ Z,Z=sgn neg d:=⟨_,rfl⟩;have CG:∀ w a,IsZ w a d->Calls prog 75 #[.bool neg,a] w (zF Z w):=fun w a h=>by rw [hZ];exact yL0 neg a d w h (by have:=HLD.out;omega)
                  have HSV2:Hid (SolvedI A B X Z):=by rw [HX.out,hZ];exact HSV.out
                  obtain ⟨V0,V1,F0,F1⟩:=Blk.two BP;clear TS hZ HSV HAP;go_wp2_with fail
                  refine (CG _ _ ⟨_,rfl,su⟩).mono ?_;rintro e w8 ⟨v8,rfl,k8,-,b8⟩;obtain ⟨u8,rfl,s8⟩:=k8;obtain ⟨A8,c8,rfl,_⟩:=id s8;have BR8:=BR.below b8;have TS8:=TSn.below b8;have b08:=HB.out.trans (b8.mono HB.out.size);obtain ⟨W0,W1,K0,K1⟩:=Blk.two BR8;have G9:=zX0 w8 w.heap.size (.bool (ngB Z)) (.slice A8 (digs 4294967296 Z.natAbs).length c8);obtain ⟨C0,C1,-,-⟩:=Blk.two (zU7 BR8 (.bool (ngB Z)) (.slice A8 (digs 4294967296 Z.natAbs).length c8));have s9:=Go.Proofs.YtagaabooccnamaaGreat.flow.off s8 BR8 no_ints2 G9;have HB9:=hQ9 (b08.grown G9 b08.size (fun k e=>by injection e with e;omega));have TS9:=TS8.offZ BR8 no_ints2 (by decide) G9 (fun u hu e=>by have:=(HGR.out u hu _ e).1;omega);have SL9:=TS9.sub (o:=0) (m:=n) (c:=n) (by have:=HXL.out;omega) (zB4 n) (by unfold maxLen;omega);rw [List.drop_zero,zA7 (by have:=HXL.out;omega)] at SL9;clear TS9 G9 TS8 BR8 b08 b8 s8 BR HB TSn su BP V0 V1 F0 F1 CG;go_wp2;refine bodyPost_ret (v:=.tuple #[.slice (some ⟨w3.heap.size,0,none⟩) n n,.agg #[.bool (ngB Z),.slice A8 (digs 4294967296 Z.natAbs).length c8],.int .i64 0]) (by simp [results,results35,go_sem,C0,C1]) rfl ?_;exact ⟨HB9.out,.inl ⟨HOK.out,_,_,Z,X,rfl,SL9,⟨_,rfl,s9⟩,HSV2.out⟩⟩
            · obtain ⟨u5,rfl,s5⟩:=hv5;obtain ⟨A5,c5,rfl,_⟩:=id s5
              have HN:Hid (zC8 A.length (qF (zC7 A))=0):=by
                have e:=HNM.out.1;rw [HM.out,e,yN5 HOK.out] at hd0;exact hd0
              obtain ⟨O,hO⟩:∃ O:Int,O=0:=⟨_,rfl⟩;have s5o:IsS w5 .u64 (.slice A5 (digs 4294967296 (0:Int).natAbs).length c5) (digs 4294967296 O.natAbs):=by rw [hO];exact s5
              obtain ⟨b5,hb5⟩:∃ b5,b5=ngB 0:=⟨_,rfl⟩;obtain ⟨l5,hl5⟩:∃ l5,l5=(digs 4294967296 (0:Int).natAbs).length:=⟨_,rfl⟩;rw [<- hb5,<- hl5];rw [<- hl5] at s5o;have hbo:b5=ngB O:=by rw [hb5,hO]
              obtain ⟨t,ht⟩:∃ t,t=zK5 O 0:=⟨_,rfl⟩;have hz1:(t == 0)=true:=by rw [ht,beq_iff_eq];exact (qU7 O).2 hO
              have HT:=hQ9 ht;have HBO:=hQ9 hbo;have b05:=HB03.out.trans (HBi.out.mono HB03.out.size);have b06:=b05.grown hg5 b05.size (fun x e=>by injection e with e;omega);have BR5:=Blk.grown (HBR.out.below HBi.out) hg5 (show w.heap.size≠w3.heap.size by omega);have ba:=zD1 (w:=w5) (zB4 _) (.cells #[.bool b5,.slice A5 l5 c5] 60);have B6:=Blk.new w5 60 #[.bool b5,.slice A5 l5 c5];have s6:=s5o.below ba;have BR6:=BR5.below ba;have b07:=b06.trans (ba.mono b06.size);clear hd0 hO hb5 hl5 hbo ht hg5 b05 b06 BR5 s5 s5o ba TWn HAP HBi;go_wp2_with fail
              refine (qB0 _ O t _ ⟨_,by rw [<- HBO.out],s6⟩ HT.out).mono ?_;rintro e w7 ⟨rfl,b7⟩;have BR7:=BR6.below b7;have b08:=b07.trans (b7.mono b07.size);clear BR6 B6 s6 b07 b7
              skip
              obtain ⟨V0,V1,F0,F1⟩:=Blk.two BR7;have G8:=zX0 w7 w.heap.size (.bool false) (.slice none 0 0);obtain ⟨C0,C1,-,-⟩:=Blk.two (zU7 BR7 (.bool false) (.slice none 0 0));have HB:=hQ9 (b08.grown G8 b08.size (fun k e=>by injection e with e;omega));clear G8 BR7 b08;go_wp2;refine bodyPost_ret (v:=.tuple #[.slice none 0 0,.agg #[.bool false,.slice none 0 0],.int .i64 7]) (by simp [results,results35,go_sem,C0,C1]) rfl ?_;exact ⟨HB.out,.inr (.inl ⟨HOK.out,HN.out,rfl⟩)⟩
      · have HN:Hid (¬ okS A B):=fun h=>hl (by rw [HNM.out.1,HNM.out.2];exact h.2.2);have g1:(((n:Nat):Int) != ((m:Nat):Int))=true:=by rw [bne_iff_ne];omega
        obtain ⟨V0,V1,F0,F1⟩:=Blk.two BR3;have G8:=zX0 w3 w.heap.size (.bool false) (.slice none 0 0);obtain ⟨C0,C1,-,-⟩:=Blk.two (zU7 BR3 (.bool false) (.slice none 0 0));have HB:=hQ9 (b03.grown G8 b03.size (fun k e=>by injection e with e;omega));clear G8 BR3 b03 st03 st13;go_wp2;refine bodyPost_ret (v:=.tuple #[.slice none 0 0,.agg #[.bool false,.slice none 0 0],.int .i64 8]) (by simp [results,results35,go_sem,C0,C1]) rfl ?_;exact ⟨HB.out,.inr (.inr ⟨HN.out,rfl⟩)⟩
    · have HN:Hid (¬ okS A B):=fun h=>hE h.2.1;have BR3:=BR2.below b3;have b03:=b02.trans (b3.mono b02.size);clear hE BR2 b02 b3 st02 st12;obtain ⟨V0,V1,F0,F1⟩:=Blk.two BR3;have G8:=zX0 w3 w.heap.size (.bool false) (.slice none 0 0);obtain ⟨C0,C1,-,-⟩:=Blk.two (zU7 BR3 (.bool false) (.slice none 0 0));have HB:=hQ9 (b03.grown G8 b03.size (fun k e=>by injection e with e;omega));clear G8 BR3 b03;go_wp2;refine bodyPost_ret (v:=.tuple #[.slice none 0 0,.agg #[.bool false,.slice none 0 0],.int .i64 8]) (by simp [results,results35,go_sem,C0,C1]) rfl ?_;exact ⟨HB.out,.inr (.inr ⟨HN.out,rfl⟩)⟩
  · have HN:Hid (¬ okS A B):=fun h=>hS h.1;have BR2:=BR0.below b2;have b02:=ba0.trans (b2.mono ba0.size);clear hS BR0 ba0 b2 st0 st1;obtain ⟨V0,V1,F0,F1⟩:=Blk.two BR2;have G8:=zX0 w2 w.heap.size (.bool false) (.slice none 0 0);obtain ⟨C0,C1,-,-⟩:=Blk.two (zU7 BR2 (.bool false) (.slice none 0 0));have HB:=hQ9 (b02.grown G8 b02.size (fun k e=>by injection e with e;omega));clear G8 BR2 b02;go_wp2;refine bodyPost_ret (v:=.tuple #[.slice none 0 0,.agg #[.bool false,.slice none 0 0],.int .i64 8]) (by simp [results,results35,go_sem,C0,C1]) rfl ?_;exact ⟨HB.out,.inr (.inr ⟨HN.out,rfl⟩)⟩
structure ExIn (A B:List (List Rat)) (S:Nat):Prop where
 wide:A.length+zD2 B<=100
 la:zH6 A S
 lb:zH6 B S
 small:S<=100
 steps:(S+(1+S*(A.length+zD2 B))+1)*2^A.length<=5001
 big:dZ (S+(1+S*(A.length+zD2 B))) A.length<=1000
theorem yO2 (a0 a1:Value) (A B:List (List Rat)) (S:Nat) (w:World) (h0:SlT .u64 4294967296 w a0 A) (h1:SlT .u64 4294967296 w a1 B) (hc:Hid (ExIn A B S)) :
  Calls prog 9 #[a0,a1] w (zU8 A B 1000 w):=by
 obtain ⟨A0,c0,rfl,hc0,hm0⟩:=h0.shape;obtain ⟨A1,c1,rfl,hc1,hm1⟩:=h1.shape;unfold maxLen at hm0 hm1;have HS0:=hQ9 h0;have HS1:=hQ9 h1;obtain ⟨m,hm⟩:∃ m,m=zD2 B:=⟨_,rfl⟩;have hnm:A.length+m<=100:=by rw [hm];exact hc.out.wide
 have HM:=hQ9 hm;clear h0 h1
 go_enter func9,ntmps9;go_wp2_with fail
 refine (qG7 _ B _ HS1.out).mono ?_;rintro e w1 ⟨rfl,b1⟩;rw [<- hm];clear hm;by_cases ho:okq A B
 ·have CF:=qN7 _ _ A B true _ (HS0.out.below b1) (HS1.out.below b1) ⟨fun _=>ho,fun _=>rfl⟩;have HO:=hQ9 ho;have HB1:=hQ9 b1;clear ho
  go_wp2_with fail
  refine CF.mono ?_;rintro e w2 ⟨rfl,b2⟩;have HB2:Hid (Below w.heap.size w w2):=HB1.out.trans (b2.mono HB1.out.size);have hmx1:¬ (100:Int)<((A.length:Nat):Int):=by omega
  have hmx2:¬ (100:Int)<((m:Nat):Int):=by omega
  clear b1 b2 CF;obtain ⟨T,hT⟩:∃ T,T=S+(1+S*(A.length+zD2 B)):=⟨_,rfl⟩;have HSZ:Hid ((T+1)*2^A.length<=5001/\dZ T A.length<=1000):=⟨by rw [hT];exact hc.out.steps,by rw [hT];exact hc.out.big⟩
  have HLN:Hid (zJ (zK4 A B) T/\zJ (zK8 A B) T):=by
   show _/\_
   rw [hT];exact jL0 HO.out hc.out.la hc.out.lb
  have HOS:Hid (okS (zK4 A B) (zK8 A B)):=jL HO.out hc.out.wide;have HLA:Hid ((zK4 A B).length=A.length):=(qO1 HO.out).1;clear hT;have CK:=fun w2 h0 h1=>jK3 (.slice A0 A.length c0) (.slice A1 B.length c1) A B S w2 h0 h1 ⟨HO.out,hc.out.wide,hc.out.la,hc.out.lb,hc.out.small⟩
  go_wp2_with fail
  all_goals
   refine (CK _ (HS0.out.below HB2.out) (HS1.out.below HB2.out)).mono ?_;rintro e w3 ⟨V3,U3,rfl,sv3,su3,b3⟩;have HB3:Hid (Below w.heap.size w w3):=HB2.out.trans (b3.mono HB2.out.size);obtain ⟨AV,cV,rfl,-,-⟩:=id sv3.shape;obtain ⟨AU,cU,rfl,-,-⟩:=id su3.shape;have CS:=jL4 _ _ (zK4 A B) (zK8 A B) T w3 sv3 su3 ⟨HLN.out.1,HLN.out.2,by rw [HLA.out];exact HSZ.out.1⟩;obtain ⟨P,hP⟩:∃ P,P=zK4 A B:=⟨_,rfl⟩;obtain ⟨Q,hQ⟩:∃ Q,Q=zK8 A B:=⟨_,rfl⟩;rw [<- hP,<- hQ] at CS;have HPQ:=hQ9 (zA hP hQ);rw [<- hP,<- hQ];clear CK b3 sv3 su3 hP hQ;go_wp2_with fail
   refine CS.mono ?_;rintro e w4 ⟨b4,(⟨-,V4,v4,d,X,rfl,sv4,hz4,hS4⟩|⟨-,hD4,rfl⟩|⟨hn4,_⟩)⟩
   ·have HB4:Hid (Below w.heap.size w w4):=HB3.out.trans (b4.mono HB3.out.size);obtain ⟨u4,rfl,s4⟩:=hz4;obtain ⟨A4,c4,rfl,_⟩:=id s4;obtain ⟨AX,cX,rfl,-,-⟩:=id sv4.shape;obtain ⟨wx,hwx,bx,BX,hsx⟩:=zN4 w4 60 #[.bool false,.slice none 0 0];obtain ⟨V0,V1,F0,F1⟩:=Blk.two BX;obtain ⟨C0,C1,-,-⟩:=Blk.two (zU7 BX (.bool (ngB d)) (.slice A4 (digs 4294967296 d.natAbs).length c4));have b8:=(bx.setCell (p:=⟨w4.heap.size,0,none⟩) (zB4 _) (.bool (ngB d))).setCell (p:=⟨w4.heap.size,1,none⟩) (zB4 _) (.slice A4 (digs 4294967296 d.natAbs).length c4);have sX8:=sv4.below b8;have s8:=s4.below b8;have HB8:Hid (Below w.heap.size w _):=HB4.out.trans (b8.mono HB4.out.size);rw [HPQ.out.1,HPQ.out.2] at hS4;have HSOL:Hid (SolQ A B (zK0 d X)):=jL2 HO.out hS4
    have HDET:Hid (zC8 A.length (zC0 A)≠0):=by
     refine (yO1 HO.out).1 ?_;have h:=hS4.det;rw [HLA.out] at h;rw [<- h];exact fun e=>hS4.ne (Rat.intCast_eq_zero_iff.1 e)
    have hcr:=jL3 (S:=T) hS4 HLN.out.1 HLN.out.2 (by rw [HLA.out];exact qO1 HO.out) (by rw [HLA.out,qH2 HO.out];exact qV6 HO.out);rw [HLA.out] at hcr;have HCR:Hid (zC4 d<=1000/\zJ X 1000):=⟨zB5 hcr.1 HSZ.out.2,fun r hr z hz=>zB5 (hcr.2 r hr z hz) HSZ.out.2⟩;have hsh:=hS4.sh;rw [HLA.out,qH2 HO.out] at hsh
    have HLT:Hid (zH6 (zK0 d X) 1000):=by
     show zH6 _ _
     intro r hr x hx;unfold zK0 at hr;obtain ⟨y,hy,rfl⟩:=List.mem_map.1 hr;unfold zM3 at hx;obtain ⟨z,hz,rfl⟩:=List.mem_map.1 hx;exact jK7 hS4.ne (HCR.out.2 y hy z hz) HCR.out.1
    have CO:=fun W v u (h0:SlW .u64 4294967296 W v X) (h1:IsZ W u d)=>jH9 v u X d A.length (zD2 B) W h0 h1 hS4.ne ⟨hsh.1,hsh.2,by omega,by have:=HM.out;omega,HCR.out.1,HCR.out.2⟩;clear hS4 hcr hsh sv4 s4 b8 BX bx CS b4
    go_wp2_with fail
    refine (CO _ _ _ (by exact sX8) ⟨_,rfl,(by exact s8)⟩).mono ?_;rintro e w9 ⟨v9,rfl,s9,b9⟩;have HS9:=hQ9 s9;have HB9:Hid (Below w.heap.size w w9):=HB8.out.trans (b9.mono HB8.out.size);clear s9 b9 sX8 s8 CO C0 C1 V0 V1 F0 F1 hwx;go_wp2;go_ret2;exact .inl ⟨HO.out,HB9.out,.inl ⟨HDET.out,v9,zK0 d X,rfl,HS9.out,HSOL.out,HLT.out⟩⟩
   ·have HB4:Hid (Below w.heap.size w w4):=HB3.out.trans (b4.mono HB3.out.size);have HDET:Hid (zC8 A.length (zC0 A)=0):=Classical.byContradiction fun h=>(yO1 HO.out).2 h (by rw [HPQ.out.1,HLA.out] at hD4;exact hD4);obtain ⟨wx,hwx,bx,BX,hsx⟩:=zN4 w4 60 #[.bool false,.slice none 0 0];obtain ⟨V0,V1,F0,F1⟩:=Blk.two BX;have b8:=(bx.setCell (p:=⟨w4.heap.size,0,none⟩) (zB4 _) (.bool false)).setCell (p:=⟨w4.heap.size,1,none⟩) (zB4 _) (.slice none 0 0);have HB8:Hid (Below w.heap.size w _):=HB4.out.trans (b8.mono HB4.out.size);clear hD4 BX bx b8 CS b4;go_wp2;go_ret2;exact .inl ⟨HO.out,HB8.out,.inr ⟨HDET.out,rfl⟩⟩
   ·rw [HPQ.out.1,HPQ.out.2] at hn4;exact absurd HOS.out hn4
 ·have CF:=qN7 _ _ A B false _ (HS0.out.below b1) (HS1.out.below b1) ⟨fun h=>Bool.noConfusion h,fun h=>absurd h ho⟩;have HO:=hQ9 ho;clear ho
  go_wp2_with fail
  refine CF.mono ?_;rintro e w2 ⟨rfl,b2⟩;have HB2:Hid (Below w.heap.size w w2):=b1.trans (b2.mono b1.size);clear CF b1 b2;go_wp2;go_ret2;exact .inr ⟨HO.out,rfl,HB2.out⟩
end Go.Proofs.YtagaabooccnamaaGreat.rat
namespace Go.Proofs.YtagaabooccnamaaGreat.rat
open Go.RowKit Go.Shelf num mem nat txt str flow whl
theorem qH3 (w:World) (T1 T2:TypeId) {q:Rat} {u t:Value} (h1:IsS w .u64 u (digs 4294967296 q.num.natAbs)) (h2:IsS w .u64 t (digs 4294967296 q.den)) :
  ∃ w2,(w.alloc (.cells #[.bool (ngB q.num),u,t] T1)).alloc (.cells #[.slice (some ⟨w.heap.size,0,none⟩) 1 1] T2)=w2/\SlT .u64 4294967296 w2 (.slice (some ⟨w.heap.size+1,0,none⟩) 1 1) [[q]]/\Below w.heap.size w w2:=by
 obtain ⟨w1,hw1⟩:∃ w1,w1=w.alloc (.cells #[.bool (ngB q.num),u,t] T1):=⟨_,rfl⟩;have hs:=jB8 w T1 h1 h2;have b1:=zD1 (w:=w) (zB4 _) (.cells #[.bool (ngB q.num),u,t] T1);have hz:w1.heap.size=w.heap.size+1:=by rw [hw1];simp
 rw [<- hw1] at hs b1 |-;have b2:=zD1 (w:=w1) (zB4 _) (.cells #[.slice (some ⟨w.heap.size,0,none⟩) 1 1] T2);have hv:=zR8 w1 T2 [.slice (some ⟨w.heap.size,0,none⟩) 1 1];have st:=slT_one hv (hs.below b2) (fun A n c e=>by injection e with _ _ e3;subst e3;unfold maxLen;simp);rw [hz] at st;exact ⟨_,rfl,st,b1.trans (b2.mono b1.size)⟩
theorem jL5:zH6 [[(2:Rat)]] 1/\zH6 [[(1:Rat)]] 1/\zH6 [[(2:Rat),1]] 1:=by
 have h2:zC6 (2:Rat) 1:=⟨zJ5 (k:=1) (by omega) (by decide +kernel),zJ5 (k:=1) (by omega) (by decide +kernel)⟩;have h1:zC6 (1:Rat) 1:=⟨zJ5 (k:=1) (by omega) (by decide +kernel),zJ5 (k:=1) (by omega) (by decide +kernel)⟩;refine ⟨fun r hr x hx => ?_,fun r hr x hx => ?_,fun r hr x hx => ?_⟩
 ·simp at hr;subst hr;simp at hx;subst hx;exact h2
 ·simp at hr;subst hr;simp at hx;subst hx;exact h1
 ·simp at hr;subst hr;simp at hx;rcases hx with rfl|rfl;exact h2;exact h1
theorem yO3:SolIn [[(2:Rat)]] [[(1:Rat)]] 3/\ExIn [[(2:Rat)]] [[(1:Rat)]] 1:=by
 obtain ⟨l1,l2,l3⟩:=jL5;refine ⟨⟨by simp,by show 1+1<=200;omega,fun r hr x hx=>(l1 r hr x hx).mono (by omega),fun r hr x hx=>(l2 r hr x hx).mono (by omega),fun _ => ?_⟩,⟨by show 1+1<=100;omega,l1,l2,by omega,by show (1+(1+1*(1+1))+1)*2^1<=5001;omega,by show dZ (1+(1+1*(1+1))) 1<=1000;decide⟩⟩;show qG8 [[(2:Rat),1]] 3
 have hs:shp [[(2:Rat),1]] 1 2:=⟨rfl,fun r hr=>by simp at hr;subst hr;rfl⟩;exact ⟨by simp,by show 2<=200;omega,yZ6 hs l3,by omega,by simp,by simp⟩
theorem ex16_ok:okq [[(2:Rat)]] [[(1:Rat)]]:=⟨rfl,⟨by simp,by show 1<=200;omega,fun r hr=>by simp at hr;subst hr;rfl⟩,⟨by simp,by show 1<=200;omega,fun r hr=>by simp at hr;subst hr;rfl⟩,rfl⟩
theorem yO4:zC8 1 (zC0 [[(2:Rat)]])≠0:=by
 show zC8 1 (zC0 [[(2:Rat)]])≠0
 decide +kernel
theorem jL6:SolQ [[(2:Rat)]] [[(1:Rat)]] [[Rat.divInt 1 2]]:=by
 refine ⟨⟨rfl,fun r hr=>by simp at hr;subst hr;rfl⟩,fun i j hi hj => ?_⟩;obtain rfl:i=0:=by have:i<1:=hi;omega
 obtain rfl:j=0:=by have:j<1:=hj;omega
 decide +kernel
theorem yO5 {L:Nat} {w:World} {e:Ending} {w':World} {P O:Rat} (hP:P=2) (hO:O=1) (h:zU8 [[P]] [[O]] L w e w'):Below w.heap.size w w' /\ ∃ V,e=.returned (.tuple #[V,.int .i64 0])/\SlT .u64 4294967296 w' V [[Rat.divInt 1 2]]:=by
 subst hP;subst hO;rcases h with ⟨_,hb,(⟨hd,V,X,he,hs,hx,_⟩|⟨hd,_⟩)⟩|⟨hn,_⟩
 ·exact ⟨hb,V,he,by rw [jL6.one hx yO4];exact hs⟩
 ·exact absurd hd yO4
 ·exact absurd ex16_ok hn
theorem qC3 (w:World):Calls prog 13 #[] w (zD5 (.bool true) w):=by
 obtain ⟨O,hO⟩:∃ O:Rat,O=((1:Int):Rat):=⟨_,rfl⟩;obtain ⟨P,hP⟩:∃ P:Rat,P=((2:Int):Rat):=⟨_,rfl⟩;obtain ⟨H,hH⟩:∃ H:Rat,H=Rat.divInt 1 2:=⟨_,rfl⟩;have CO:∀ w,Calls prog 41 #[.int .i64 1] w (RetQ O w):=fun w=>by rw [hO];exact qT0 1 _ (by omega) (by omega)
 have CP:∀ w,Calls prog 41 #[.int .i64 2] w (RetQ P w):=fun w=>by rw [hP];exact qT0 2 _ (by omega) (by omega)
 have CH:∀ w,Calls prog 42 #[.int .i64 1,.int .i64 2] w (qE8 H 0 w):=fun w=>by rw [hH];exact jA5 1 2 w (by omega) (by omega) (by omega)
 have eP:P=2:=by rw [hP];rfl
 have eO:O=1:=by rw [hO];rfl
 have HE:=hQ9 (zA eP eO);have HH:=hQ9 hH;have CS:∀ w a b,SlT .u64 4294967296 w a [[P]]->SlT .u64 4294967296 w b [[O]]->Calls prog 8 #[a,b] w (fun e w'=>Below w.heap.size w w' /\ ∃ V,e=.returned (.tuple #[V,.int .i64 0])/\SlT .u64 4294967296 w' V [[H]]):=fun w a b h0 h1=>(yL8 a b [[P]] [[O]] 3 w h0 h1 (by rw [eP,eO];exact yO3.1)).mono fun e w' h=>by rw [hH];exact yO5 eP eO h
 have CX:∀ w a b,SlT .u64 4294967296 w a [[P]]->SlT .u64 4294967296 w b [[O]]->Calls prog 9 #[a,b] w (fun e w'=>Below w.heap.size w w' /\ ∃ V,e=.returned (.tuple #[V,.int .i64 0])/\SlT .u64 4294967296 w' V [[H]]):=fun w a b h0 h1=>(yO2 a b [[P]] [[O]] 1 w h0 h1 (by rw [eP,eO];exact yO3.2)).mono fun e w' h=>by rw [hH];exact yO5 eP eO h
 have CM:∀ w a b,SlT .u64 4294967296 w a [[H]]->SlT .u64 4294967296 w b [[H]]->Calls prog 10 #[a,b] w (zD5 (.bool true) w):=fun w a b h0 h1=>qM3 a b [[H]] [[H]] true w h0 h1 (by simp);clear hO hP hH eP eO
 go_enter func13,ntmps13;go_wp2_with fail
 refine (CP _).mono ?_;rintro e w1 ⟨v0,rfl,k0,-,b1⟩;obtain ⟨u0,t0,rfl,q0,d0⟩:=k0;obtain ⟨A0,c0,rfl,_⟩:=id q0;obtain ⟨D0,e0,rfl,_⟩:=id d0;obtain ⟨w2,hw2,st2,b2⟩:=qH3 w1 83 44 q0 d0;have B2:=b1.trans (b2.mono b1.size);clear q0 d0 b1 b2;go_wp2_with fail
 refine (CO _).mono ?_;rintro e w3 ⟨v1,rfl,k1,-,b3⟩;obtain ⟨u1,t1,rfl,q1,d1⟩:=k1;obtain ⟨A1,c1,rfl,_⟩:=id q1;obtain ⟨D1,e1,rfl,_⟩:=id d1;obtain ⟨w4,hw4,st4,b4⟩:=qH3 w3 83 44 q1 d1;have st24:=(st2.below b3).below (b4.mono (zB4 _));have B3:=B2.trans (b3.mono B2.size);have B4:=B3.trans (b4.mono B3.size);clear q1 d1 b3 b4 st2 B2 B3;go_wp2_with fail
 refine (CS _ _ _ st24 st4).mono ?_;rintro e w5 ⟨b5,V5,rfl,sx⟩;have B5:=B4.trans (b5.mono B4.size);obtain ⟨AX,cX,rfl,-,-⟩:=id sx.shape;clear st24 st4 b5 B4 hw2 hw4;go_wp2_with fail
 refine (CH _).mono ?_;rintro e w6 ⟨v6,rfl,k6,b6⟩;obtain ⟨u6,t6,rfl,q6,d6⟩:=k6;obtain ⟨A6,c6,rfl,_⟩:=id q6;obtain ⟨D6,e6,rfl,_⟩:=id d6;have B6:=B5.trans (b6.mono B5.size);have sx6:=sx.below b6;obtain ⟨wx,hwx,bx,BX,hsx⟩:=zN4 w6 83 #[.bool false,.slice none 0 0,.slice none 0 0];have V0:wx.cell? ⟨w6.heap.size,0,none⟩=some (.bool false):=BX.cell 0;have V1:wx.cell? ⟨w6.heap.size,1,none⟩=some (.slice none 0 0):=BX.cell 1;have V2:wx.cell? ⟨w6.heap.size,2,none⟩=some (.slice none 0 0):=BX.cell 2;have F0:=BX.frozen 0;have F1:=BX.frozen 1;have F2:=BX.frozen 2;have BY:=qM7 BX (.bool (ngB H.num)) (.slice A6 (digs 4294967296 H.num.natAbs).length c6) (.slice D6 (digs 4294967296 H.den).length e6);obtain ⟨w7,hw7⟩:∃ w7,((wx.setCell ⟨w6.heap.size,0,none⟩ (.bool (ngB H.num))).setCell ⟨w6.heap.size,1,none⟩ (.slice A6 (digs 4294967296 H.num.natAbs).length c6)).setCell ⟨w6.heap.size,2,none⟩ (.slice D6 (digs 4294967296 H.den).length e6)=w7:=⟨_,rfl⟩
 have b7:Below w6.heap.size w6 w7:=by
  rw [<- hw7];exact ((bx.setCell (p:=⟨w6.heap.size,0,none⟩) (zB4 _) _).setCell (p:=⟨w6.heap.size,1,none⟩) (zB4 _) _).setCell (p:=⟨w6.heap.size,2,none⟩) (zB4 _) _
 rw [hw7] at BY;have B7:=B6.trans (b7.mono B6.size);have sx7:=sx6.below b7;have q7:=q6.below b7;have d7:=d6.below b7;clear sx sx6 b6 b7 bx BX B5 B6 q6 d6;clear hsx;go_wp2_with fail
 refine (CP _).mono ?_;rintro e w8 ⟨v8,rfl,k8,-,b8⟩;obtain ⟨u8,t8,rfl,q8,d8⟩:=k8;obtain ⟨A8,c8,rfl,_⟩:=id q8;obtain ⟨D8,e8,rfl,_⟩:=id d8;obtain ⟨w9,hw9,st9,b9⟩:=qH3 w8 83 44 q8 d8;have B8:=B7.trans (b8.mono B7.size);have B9:=B8.trans (b9.mono B8.size);have c79:=b8.trans (b9.mono b8.size);have BY9:=BY.below c79;have sx9:=sx7.below c79;have q9:=q7.below c79;have d9:=d7.below c79;clear hw7 V0 V1 V2 F0 F1 F2 hwx BY sx7 q7 d7 q8 d8 b8 b9 c79 B7 B8;go_wp2_with fail
 refine (CO _).mono ?_;rintro e w10 ⟨v10,rfl,k10,-,b10⟩;obtain ⟨u10,t10,rfl,q10,d10⟩:=k10;obtain ⟨A10,c10,rfl,_⟩:=id q10;obtain ⟨D10,e10,rfl,_⟩:=id d10;obtain ⟨w11,hw11,st11,b11⟩:=qH3 w10 83 44 q10 d10;have B10:=B9.trans (b10.mono B9.size);have B11:=B10.trans (b11.mono B10.size);have c911:=b10.trans (b11.mono b10.size);have BY11:=BY9.below c911;have sx11:=sx9.below c911;have q11:=q9.below c911;have d11:=d9.below c911;have st911:=st9.below c911;clear hw9 BY9 sx9 q9 d9 q10 d10 b10 b11 c911 B9 B10 st9;go_wp2_with fail
 refine (CX _ _ _ st911 st11).mono ?_;rintro e w12 ⟨b12,V12,rfl,sy⟩;have B12:=B11.trans (b12.mono B11.size);obtain ⟨AY,cY,rfl,-,-⟩:=id sy.shape;have BY12:=BY11.below b12;have sx12:=sx11.below b12;have q12:=q11.below b12;have d12:=d11.below b12;have C0:w12.cell? ⟨w6.heap.size,0,none⟩=some (.bool (ngB H.num)):=BY12.cell 0;have C1:w12.cell? ⟨w6.heap.size,1,none⟩=some (.slice A6 (digs 4294967296 H.num.natAbs).length c6):=BY12.cell 1;have C2:w12.cell? ⟨w6.heap.size,2,none⟩=some (.slice D6 (digs 4294967296 H.den).length e6):=BY12.cell 2;obtain ⟨w13,hw13,st13,b13⟩:=qH3 w12 83 44 q12 d12;have sx13:=sx12.below b13;have sy13:=sy.below b13;have B13:=B12.trans (b13.mono B12.size);clear hw11 BY11 sx11 q11 d11 st911 st11 b12 B11 BY12 q12 d12 b13 B12 sx12 sy;go_wp2_with fail
 refine (CM _ _ _ sx13 st13).mono ?_;rintro e w14 ⟨rfl,b14⟩;have B14:=B13.trans (b14.mono B13.size);have sx14:=sx13.below b14;have sy14:=sy13.below b14;clear hw13 C0 C1 C2 st13 sx13 sy13 b14 B13;go_wp2_with fail
 refine (CM _ _ _ sy14 sx14).mono ?_;rintro e w15 ⟨rfl,b15⟩;go_wp2;go_ret;exact ⟨rfl,B14.trans (b15.mono B14.size)⟩
theorem yO6 {k:IntKind} {B:Nat} {w:World} {ps:List Elt} (h:∀ p∈ps,IsE k B w p):∀ p∈ps,p.2.1.oneCell'=true/\p.2.2.oneCell'=true:=fun p hp=>by
 obtain ⟨⟨A,c,e,_⟩,D,d,e',_⟩:=h p hp;rw [e,e'];exact ⟨rfl,rfl⟩
def RetTP (T:List (List Rat)) (w:World) (e:Ending) (w':World):Prop:=∃ V,e=.returned V/\SlT .i64 10000 w' V T/\Below w.heap.size w w'
theorem jL7 (a0 a1:Value) (A B:List (List Rat)) (w:World) (h0:SlT .i64 10000 w a0 A) (h1:SlT .i64 10000 w a1 B) (hc:Hid ((A.length=B.length/\A.length<=200)/\(∀ r∈A,r.length<=1000) /\ ∀ r∈B,r.length<=1000)) :
  Calls prog 44 #[a0,a1] w (RetTP (zD9 A B) w):=by
 obtain ⟨n,hn⟩:∃ n,n=A.length:=⟨_,rfl⟩;obtain ⟨A0,c0,rfl,hc0,hm0⟩:=h0.shape;obtain ⟨A1,c1,rfl,hc1,hm1⟩:=h1.shape;have hBl:B.length=n:=by rw [hn];exact hc.out.1.1.symm
 have hn2:n<=200:=by rw [hn];exact hc.out.1.2
 rw [<- hn] at h0 hc0;rw [hBl] at h1 hc1;unfold maxLen at hm0 hm1;have HS0:=hQ9 h0;have HS1:=hQ9 h1;have HN:=hQ9 (zA hn hBl);have HJ:Hid ((zD9 A B).length=n):=by show _=_;rw [yY1 hc.out.1.1,hn]
 clear h0 h1
 go_enter func44,ntmps44
 rw [<- hn,hBl];clear hn hBl;have ba5:=zD1 (w:=w) (zB4 _) (.cells #[] 45);have TG5:TabG (w.alloc (.cells #[] 45)) w.heap.size (.slice (some ⟨w.heap.size,0,none⟩) 0 0) [] ((zD9 A B).take 0):=⟨qN1 zI4 w w.heap.size 45 (zB4 _),by simp,fun i u r hu=>by simp at hu⟩;go_wp2
 go_loopw [5,6] (fun v5 v6 wr => ∃ (i:Nat) (us:List Value),i<=n/\TabG wr w.heap.size v5 us ((zD9 A B).take i)/\Hid (Below w.heap.size w wr)/\v6=.int .i64 (i:Int)) (fun _ v6 _=>n-(intOf v6).toNat)
 case atStart=>exact ⟨0,[],by omega,TG5,ba5,rfl⟩
 case round =>
  clear TG5 ba5;obtain ⟨i,us,hi,TG,HB,rfl⟩:=hrel;obtain ⟨wi,hwi⟩:∃ wi,wi=wr:=⟨_,rfl⟩;subst hwi;obtain ⟨A5,c5,e5⟩:=zD6.slice TG.row.1;subst e5;by_cases hlt:i<n
  ·obtain ⟨p,hp⟩:∃ p,A[i]?=some p:=⟨_,zA3 (by rw [<- HN.out.1];exact hlt)⟩;obtain ⟨q,hq⟩:∃ q,B[i]?=some q:=⟨_,zA3 (by rw [HN.out.2];exact hlt)⟩;have k0:=HS0.out.below HB.out;have k1:=HS1.out.below HB.out;obtain ⟨ad0,rfl⟩:=k0.place (fun e=>by rw [e] at hp;cases hp);obtain ⟨ad1,rfl⟩:=k1.place (fun e=>by rw [e] at hq;cases hq);obtain ⟨Ap,cp,hip,ecp,sp⟩:=k0.at2 hp;obtain ⟨Aq,cq,hiq,ecq,sq⟩:=k1.at2 hq;obtain ⟨pp,hpm,VP,EP⟩:=sp;obtain ⟨qq,hqm,VQ,EQ⟩:=sq;obtain ⟨-,-,-,hlp,hmp,-⟩:=id VP;have HJK:Hid ((zD9 A B).take (i+1)=(zD9 A B).take i ++ [p ++ q]):=yJ8 (qH hp hq);have hppl:pp.length=p.length:=by rw [<- hpm,zA9]
   have hqql:qq.length=q.length:=by rw [<- hqm,zA9]
   have hpl:pp.length<=1000000000:=by have:=hc.out.2.1 p (zA5 hp);omega
   have hql:qq.length<=1000000000:=by have:=hc.out.2.2 q (zA5 hq);omega
   have hpl3:([] ++ pp:List Elt).length<=1000000000:=by rw [List.nil_append];exact hpl
   have bd:=(Below.refl wi.heap.size wi).drew;obtain ⟨wL,hwL,bL0,BL,hsL⟩:=zN4 wi.drew 65 #[]
   have RL:zD4 65 wL wi.heap.size (.slice (some ⟨wi.heap.size,0,none⟩) 0 0) []:=by
    rw [<- hwL];exact qF4 65 wi.drew wi.drew.heap.size (zB4 _)
   have bL:Below wi.heap.size wi wL:=bd.trans (bL0.mono bd.size);have ecpd:=(bd.cell (World.block_lt_of_cell? wi _ ecp)).trans ecp;have ecqd:=(bd.cell (World.block_lt_of_cell? wi _ ecq)).trans ecq;have ecpL:=(bL.cell (World.block_lt_of_cell? wi _ ecp)).trans ecp;have ecqL:=(bL.cell (World.block_lt_of_cell? wi _ ecq)).trans ecq;have VPL:=VP.below bL;have one1:=yO6 EP;have zG6:=yO6 EQ;have hbL:wi.heap.size<=wL.heap.size:=bL.size;have HEE:=hQ9 (zA EP EQ);have HVQ:=hQ9 VQ;have HTG:=hQ9 TG;have HPM:=hQ9 (zA hpm hqm)
   have hlu:us.length+1<=1000000000:=by
    have h1:=TG.len;rw [zB2] at h1;omega
   clear k0 k1 ecp ecq VP VQ EP EQ TG hp hq hpm hqm BL bL0 hppl hqql;go_upto_region 5 with (fail)
   go_region_law (first
    | (refine yI rfl (.tmp 15) (.tmp 19) rfl underlying45 zY7 rfl RL rfl VPL one1 (by simp) hpl hbL ?_;intro v8 w8 RF8 b8 HK8;obtain ⟨A8,c8,e8,-⟩:=RF8.isVF;obtain ⟨m8,hm8⟩:∃ m8,m8=([] ++ pp).length:=⟨_,rfl⟩;rw [<- hm8] at e8;clear hm8;subst e8;have b08:=bL.trans b8;have ecq8:=(b08.cell (World.block_lt_of_cell? wi.drew _ ecqd)).trans ecqd;have VQ8:=HVQ.out.below b08;have hb8:wi.heap.size<=w8.heap.size:=b08.size)
    | (refine yI rfl (.tmp 20) (.tmp 24) rfl underlying45 zY7 rfl RF8 rfl VQ8 zG6 hpl3 hql hb8 ?_;intro v9 w9 RF9 b9 HK9;obtain ⟨A9,c9,e9,-⟩:=RF9.isVF;obtain ⟨m9,hm9⟩:∃ m9,m9=(([] ++ pp) ++ qq).length:=⟨_,rfl⟩;rw [<- hm9] at e9;clear hm9;subst e9;have b09:=b08.trans b9;obtain ⟨w10,hw10,b10,B10,h10⟩:=zN4 w9 45 #[.slice A9 m9 c9];have hone10:=cell_one_new w9 (.slice A9 m9 c9) 45;rw [hw10] at hone10;have b010:=b09.trans (b10.mono b09.size);have TG10:=HTG.out.below b010;have hb10:w.heap.size<=w10.heap.size:=zB5 HB.out.size b010.size)
    | (refine jF4 rfl (.tmp 14) (.tmp 26) rfl underlying23 qM5 rfl TG10.row rfl rfl (by decide) hone10 (fun u hu=>by (obtain rfl:=List.mem_singleton.1 hu;exact ⟨_,_,_,rfl⟩)) hlu hb10 ?_;intro v11 w11 RX11 HG11 HX11))
   all_goals
    have SR9:SlF .i64 10000 w9 (.slice A9 m9 c9) (p ++ q):=⟨([] ++ pp) ++ qq,by rw [List.nil_append,List.map_append,HPM.out.1,HPM.out.2],RF9.isVF,fun x hx=>by
     rw [List.nil_append] at hx;rcases List.mem_append.1 hx with hx | hx
     ·exact (HEE.out.1 x hx).below b09
     ·exact (HEE.out.2 x hx).below b09⟩
    have SR10:=SR9.below b10;have TG11:=TG10.snoc RX11 HG11.out SR10;have B10':=HB.out.trans (b010.mono HB.out.size);have HB11:Hid (Below w.heap.size w w11):=B10'.grown HG11.out B10'.size (fun g hg=>TG10.row.1.base_le g hg);rw [<- HJK.out] at TG11;clear SR9 SR10 TG10 B10' RF8 RF9 b8 b9 HK8 HK9 b08 b09 b010 b10 B10 hone10 VQ8 ecq8 RX11 HG11 HX11 VPL RL bL ecpd ecqd ecpL ecqL;go_wp2;go_roundw;case rel=>exact ⟨i+1,us ++ [_],by omega,TG11,HB11,by go_num⟩
    case measure=>simp [intOf];omega
  ·have hS:SlT .i64 10000 wi (.slice A5 us.length c5) (zD9 A B):=by
    have h:=TG.slT;rwa [zA7 (by have:=HJ.out;omega)] at h
   have HS:=hQ9 hS;clear hS TG;go_wp2;go_ret;exact ⟨_,rfl,HS.out,HB.out⟩
theorem okq.wj2 {A B:List (List Rat)} (h:okq A B):zD2 (zD9 A B)=A.length+zD2 B:=by
 rcases h.wj with e | e
 ·exact e
 ·have e1:B=[]:=List.length_eq_zero_iff.1 (by rw [<- h.2.2.2,e]);have e2:A=[]:=List.length_eq_zero_iff.1 e;subst e1;subst e2
  rfl
theorem qV7 {n k:Nat} {p:Nat->Nat} : (∃ j,j<n /\ ∀ i,i<k->p i≠j) \/ ∀ j,j<n -> ∃ i,i<k/\p i=j:=by
 by_cases h:∃ j,j<n /\ ∀ i,i<k->p i≠j
 ·exact .inl h
 ·exact .inr fun j hj=>Classical.byContradiction fun hn=>h ⟨j,hj,fun i hi e=>hn ⟨i,hi,e⟩⟩
theorem jL8 {A B:List (List Rat)} {n m:Nat} {T:Nat->Nat->Rat} (hA:shp A n n) (hB:shp B n m) (h:zH2 n (n+m) (zC0 (zD9 A B)) T):zH2 n (n+m) (zO7 n (zC0 A) (zC0 B)) T:=(zZ fun i j hi hj=>(qN0 hA hB hi).symm).trans h
theorem jL9 {n:Nat} {A B:Nat->Nat->Rat} : zC8 n (zO7 n A B)=zC8 n A:=zK7 n fun i j hi hj=>by unfold zO7;rw [if_pos hj]
def RetSP (A B:List (List Rat)) (w:World) (e:Ending) (w':World):Prop:=Below w.heap.size w w'/\((zC8 A.length (zC0 A)≠0 /\ ∃ V X,e=.returned (.tuple #[V,.int .i64 0])/\SlT .i64 10000 w' V X/\SolQ A B X)\/(zC8 A.length (zC0 A)=0/\e=.returned (.tuple #[.slice none 0 0,.int .i64 7])))
structure RefIn (A B:List (List Rat)) (S:Nat):Prop where
 ok:okq A B
 ra:RdOk A S
 rj:RdOk (zD9 A B) S
 la:∀ r∈A,r.length<=1000
 lb:∀ r∈B,r.length<=1000
theorem jM (a0 a1:Value) (A B:List (List Rat)) (S:Nat) (w:World) (h0:SlT .i64 10000 w a0 A) (h1:SlT .i64 10000 w a1 B) (hc:Hid (RefIn A B S)) :
  Calls prog 14 #[a0,a1] w (RetSP A B w):=by
 obtain ⟨n,hn⟩:∃ n,n=A.length:=⟨_,rfl⟩;obtain ⟨m,hm⟩:∃ m,m=zD2 B:=⟨_,rfl⟩;have hA:shp A n n:=by rw [hn];exact hc.out.ok.sa
 have hB:shp B n m:=by rw [hn,hm];exact hc.out.ok.sb
 have HAB:=hQ9 (zA hA hB);have hn5:n<=5:=by rw [hn];exact hc.out.ra.1
 have hWA:zD2 A=n:=by rw [hn];exact hc.out.ok.1.symm
 have hWJ:zD2 (zD9 A B)=n+m:=by rw [hn,hm];exact hc.out.ok.wj2
 have hLJ:(zD9 A B).length=n:=(zR3 hA hB).1;obtain ⟨A0,c0,rfl,hc0,hm0⟩:=h0.shape;obtain ⟨A1,c1,rfl,hc1,hm1⟩:=h1.shape;unfold maxLen at hm0 hm1;have C1:=yJ7 _ A S w h0 hc.out.ra;have C2:=fun w2 V (h:SlT .i64 10000 w2 V (zD9 A B))=>yJ7 V (zD9 A B) S w2 h hc.out.rj;rw [hLJ,hWJ] at C2;rw [<- hn,hWA] at C1;rw [<- hn] at hc0 h0;have HS0:=hQ9 h0;have HS1:=hQ9 h1;have HN:=hQ9 (zA hn hm);clear h0 h1 hA hB hWA hWJ hLJ
 go_enter func14,ntmps14
 rw [<- hn];clear hn hm;go_wp2_with fail
 refine C1.mono ?_;rintro e w2 ⟨V2,v2,U2,qs,rfl,sU,hpv,hR,b2⟩;obtain ⟨AU,cU,rfl,-,-⟩:=id sU.shape;obtain ⟨Ap,cp,rfl,-⟩:=id hpv;have hpn:qs.length<=n:=hR.ech.le;have HR:=hQ9 hR;have HB2:=hQ9 b2;have HS02:=hQ9 (HS0.out.below b2);have HS12:=hQ9 (HS1.out.below b2);clear hR b2 C1 sU hpv;by_cases hr:qs.length<n
 ·have HZ:Hid (zC8 A.length (zC0 A)=0):=by
   show _=_
   rw [<- HN.out.1];rcases qV7 (n:=n) (k:=qs.length) (p:=pv qs) with h | h
   ·exact qU4 (zB4 n) HR.out.ech HR.out.red HR.out.ker h
   ·have:=(qG9 HR.out.ech.rise n h).1;omega
  have hri:((qs.length:Nat):Int)<(n:Int):=by omega
  go_wp2;go_ret2;exact ⟨HB2.out,.inr ⟨HZ.out,rfl⟩⟩
 ·have hri:¬ ((qs.length:Nat):Int)<(n:Int):=by omega
  have HD:Hid (zC8 A.length (zC0 A)≠0):=by
   show _≠_
   rw [<- HN.out.1];rcases qV7 (n:=n) (k:=qs.length) (p:=pv qs) with ⟨j,hj,h⟩|h
   ·exact absurd (HR.out.ech.full (show qs.length=n by omega) hj) (h j (by omega))
   ·exact (qU5 (zB4 n) HR.out.ech HR.out.red HR.out.ker h).2.2.2
  clear hr;go_wp2_with fail
  refine (jL7 _ _ A B _ HS02.out HS12.out ⟨⟨hc.out.ok.2.2.2,by rw [<- HN.out.1];omega⟩,hc.out.la,hc.out.lb⟩).mono ?_;rintro e w3 ⟨V3,rfl,s3,b3⟩;have HB3:Hid (Below w.heap.size w w3):=HB2.out.trans (b3.mono HB2.out.size);have C3:=C2 _ _ s3;obtain ⟨A3,c3,rfl,-,-⟩:=id s3.shape;clear C2 b3 s3;go_wp2_with fail
  refine C3.mono ?_;rintro e w4 ⟨V4,v4,U4,ps,rfl,sU,-,hR4,b4⟩
  have HSOL:Hid (SolQ A B (U4.map fun r=>r.drop n)):=by
   rcases qV7 (n:=n) (k:=ps.length) (p:=pv ps) with h | h
   ·have h2:=qU4 (Nat.le_add_right n m) hR4.ech hR4.red (jL8 HAB.out.1 HAB.out.2 hR4.ker) h;rw [jL9,HN.out.1] at h2;exact absurd h2 HD.out
   ·exact yJ3 HAB.out.1 HAB.out.2 HN.out.2.symm hR4.sh hR4.ech hR4.red hR4.ker h
  have HSH:=hQ9 hR4.sh;have hUl:U4.length=n:=hR4.sh.1;obtain ⟨A4,c4,rfl,-,-⟩:=id sU.shape;rw [hUl] at sU |-;have HS4:=hQ9 sU;have HB4:Hid (Below w.heap.size w w4):=HB3.out.trans (b4.mono HB3.out.size);have ba5:=zD1 (w:=w4) (zB4 _) (.cells #[] 45);obtain ⟨X,hX⟩:∃ X,X=U4.map fun r=>r.drop n:=⟨_,rfl⟩;have TG5:TabG (w4.alloc (.cells #[] 45)) w4.heap.size (.slice (some ⟨w4.heap.size,0,none⟩) 0 0) [] (X.take 0):=⟨qN1 zI4 w4 w4.heap.size 45 (zB4 _),by simp,fun i u r hu=>by simp at hu⟩;have HX:=hQ9 hX;have HXL:Hid (X.length=n):=by show _=_;rw [hX,zA9,hUl]
  clear hR4 b4 sU C3 hX hUl;go_wp2
  go_loopw [10,11] (fun v10 v11 wr => ∃ (i:Nat) (us:List Value),i<=n/\TabG wr w4.heap.size v10 us (X.take i)/\Hid (Below w4.heap.size w4 wr)/\v11=.int .i64 (i:Int)) (fun _ v11 _=>n-(intOf v11).toNat)
  case atStart=>exact ⟨0,[],by omega,TG5,ba5,rfl⟩
  case round =>
   clear TG5 ba5;obtain ⟨i,us,hi,TG,HB,rfl⟩:=hrel;obtain ⟨wi,hwi⟩:∃ wi,wi=wr:=⟨_,rfl⟩;subst hwi;obtain ⟨A5,c5,e5⟩:=zD6.slice TG.row.1;subst e5;by_cases hlt:i<n
   ·obtain ⟨r,hr,hrl⟩:=zH7 HSH.out hlt;have k4:=HS4.out.below HB.out;obtain ⟨ad,rfl⟩:=k4.place (fun e=>by rw [e] at hr;cases hr);obtain ⟨Ar,cr,hin,ecr,sr⟩:=k4.at2 hr;obtain ⟨gr,or,cc,esl,-,hrc,hcm⟩:=sr.place (fun e=>by rw [e] at hrl;simp at hrl;omega);injection esl with esl1 _ esl3;subst esl1;subst esl3;obtain ⟨psi,hpm,hVF,hIE⟩:=sr;have hpl:psi.length=r.length:=by rw [<- hpm,zA9]
    obtain ⟨A2,hA2⟩:∃ A2:Option Addr,A2=if cr=n then some ⟨gr,or,none⟩ else some ⟨gr,or+n*3,none⟩:=⟨_,rfl⟩
    have VFrom:=hVF.cutFrom (k:=n) (A:=A2) (by omega) (fun h=>by rw [hA2,if_neg (by omega)]);have sR:SlF .i64 10000 wi (.slice A2 (r.length-n) (cr-n)) (r.drop n):=⟨psi.drop n,by rw [List.map_drop,hpm],VFrom,fun p hp=>hIE p (List.mem_of_mem_drop hp)⟩;have hjc2:¬ cr<n:=by omega
    have hjc3:¬ r.length<n:=by omega
    have hA3:=hA2.symm;have HXK:Hid (X.take (i+1)=X.take i ++ [r.drop n]):=yJ8 (by rw [HX.out,zB1,hr];rfl);obtain ⟨w10,hw10,b10,B10,h10⟩:=zN4 wi 45 #[.slice A2 (r.length-n) (cr-n)];have hone10:=cell_one_new wi (.slice A2 (r.length-n) (cr-n)) 45;rw [hw10] at hone10;have TG10:=TG.below b10;have SR10:=sR.below b10;have hb10:w4.heap.size<=w10.heap.size:=zB5 HB.out.size b10.size;have HB10:Hid (Below w4.heap.size w4 w10):=HB.out.trans (b10.mono HB.out.size)
    have hlu:us.length+1<=1000000000:=by
     have h1:=TG.len;rw [zB2] at h1;omega
    clear hr hrl hpm hVF hIE hpl VFrom sR hA2 TG B10 b10 k4
    go_wp2_with (at_builtin;refine yJ6 rfl (.tmp 36) (.tmp 44) rfl underlying23 qM5 rfl TG10.row rfl rfl (by decide) hone10 (fun u hu=>by (obtain rfl:=List.mem_singleton.1 hu;exact ⟨_,_,_,rfl⟩)) hlu hb10 ?_;intro v11 w11 RX11 HG11 HX11)
    have TG11:=TG10.snoc RX11 HG11.out SR10;have HB11:Hid (Below w4.heap.size w4 w11):=HB10.out.grown HG11.out HB10.out.size (fun g hg=>TG10.row.1.base_le g hg);rw [<- HXK.out] at TG11;clear TG10 SR10 RX11 HG11 HX11 HB10 hone10 ecr;go_wp2;go_roundw;case rel=>exact ⟨i+1,us ++ [_],by omega,TG11,HB11,by go_num⟩
    case measure=>simp [intOf];omega
   ·have hS:SlT .i64 10000 wi (.slice A5 us.length c5) X:=by
     have h:=TG.slT;rwa [zA7 (by have:=HXL.out;omega)] at h
    have HS:=hQ9 hS;have HBw:Hid (Below w.heap.size w wi):=HB4.out.trans (HB.out.mono HB4.out.size);clear hS TG;go_wp2;go_ret2;exact ⟨HBw.out,.inl ⟨HD.out,_,X,rfl,HS.out,by rw [HX.out];exact HSOL.out⟩⟩
theorem dZ_le {S n:Nat} (hn:n<=5):dZ S n<=5*S+16:=by
 rcases (show n=0\/n=1\/n=2\/n=3\/n=4\/n=5 by omega) with rfl|rfl|rfl|rfl|rfl|rfl<;>simp only [dZ]<;>omega
structure Few4 (A:List (List Rat)):Prop where
 len:A.length<=4
 row:∀ r∈A,r.length<=4
 lens:zH6 A 1
theorem Few4.wide {A:List (List Rat)} (h:Few4 A):zD2 A<=4:=wide_le h.row
theorem yO7 {A B:List (List Rat)} (h:Few4 A) (k:Few4 B):∀ r∈zD9 A B,r.length<=8:=fun r hr=>by
 obtain ⟨p,hp,q,hq,rfl⟩:=qM6 hr
 have:=h.row p hp
 have:=k.row q hq
 rw [zA8];omega
theorem few_sol {A B:List (List Rat)} (h:Few4 A) (k:Few4 B):SolIn A B 9:=by
 have h1:=h.wide;have k1:=k.wide;have h2:=h.len;refine ⟨by omega,by omega,fun r hr x hx=>(h.lens r hr x hx).mono (by omega),fun r hr x hx=>(k.lens r hr x hx).mono (by omega),fun ok => ?_⟩;have hJ:=zR3 ok.sa ok.sb;have hx:2^(A.length-1)<=2^3:=Nat.pow_le_pow_right (by omega) (by omega);have h4:(9+1)*2^(A.length-1)<=10*2^3:=Nat.mul_le_mul (by omega) hx;have h5:(9+1)*2^(A.length-1)*2^(A.length-1)<=10*2^3*2^3:=Nat.mul_le_mul h4 hx;exact ⟨by rw [hJ.1];omega,by have:=ok.wj_le;omega,yJ2 h.lens k.lens (yO7 h k),by omega,by rw [hJ.1];omega,by rw [hJ.1];omega⟩
theorem few_ex {A B:List (List Rat)} (h:Few4 A) (k:Few4 B):ExIn A B 1:=by
 have h1:=h.wide;have k1:=k.wide;have h2:=h.len;have hx:2^A.length<=2^4:=Nat.pow_le_pow_right (by omega) h2;have h4:(1+(1+1*(A.length+zD2 B))+1)*2^A.length<=11*2^4:=Nat.mul_le_mul (by omega) hx;exact ⟨by omega,h.lens,k.lens,by omega,by omega,by have:=dZ_le (S:=1+(1+1*(A.length+zD2 B))) (n:=A.length) (by omega);omega⟩
theorem few_ref {A B:List (List Rat)} (h:Few4 A) (k:Few4 B) (ok:okq A B):RefIn A B 9:=by
 have h1:=h.wide;have k1:=k.wide;have h2:=h.len;have hJ:=zR3 ok.sa ok.sb;have hx:2^A.length<=2^4:=Nat.pow_le_pow_right (by omega) h2;have h4:(9+1)*2^A.length<=10*2^4:=Nat.mul_le_mul (by omega) hx;refine ⟨ok,⟨by omega,by omega,fun r hr=>(jF3 h.row h.lens r hr).mono (by omega),by omega,ok.2.1.2.2⟩,⟨by rw [hJ.1];omega,by rw [ok.wj2];omega,yJ2 h.lens k.lens (yO7 h k),by rw [hJ.1];omega,fun r hr=>by rw [ok.wj2];exact hJ.2 r hr⟩,fun r hr=>by have:=h.row r hr;omega,fun r hr=>by have:=k.row r hr;omega⟩
theorem zU8.no {A B:List (List Rat)} {L:Nat} {w:World} {e:Ending} {w':World} (h:zU8 A B L w e w') (hn:¬ okq A B):e=.returned (.tuple #[.slice none 0 0,.int .i64 8])/\Below w.heap.size w w':=by
 rcases h with ⟨ok,_⟩|⟨_,h1,h2⟩
 ·exact absurd ok hn
 ·exact ⟨h1,h2⟩
theorem zU8.rank {A B:List (List Rat)} {L:Nat} {w:World} {e:Ending} {w':World} (h:zU8 A B L w e w') (ok:okq A B) (hd:zC8 A.length (zC0 A)=0):e=.returned (.tuple #[.slice none 0 0,.int .i64 7])/\Below w.heap.size w w':=by
 rcases h with ⟨_,hb,(⟨h1,_⟩|⟨_,h1⟩)⟩|⟨hn,_⟩
 ·exact absurd hd h1
 ·exact ⟨h1,hb⟩
 ·exact absurd ok hn
theorem zU8.yes {A B:List (List Rat)} {L:Nat} {w:World} {e:Ending} {w':World} (h:zU8 A B L w e w') (ok:okq A B) (hd:zC8 A.length (zC0 A)≠0):∃ V X,e=.returned (.tuple #[V,.int .i64 0])/\SlT .u64 4294967296 w' V X/\SolQ A B X/\zH6 X L/\Below w.heap.size w w':=by
 rcases h with ⟨_,hb,(⟨_,V,X,h1,h2,h3,h4⟩|⟨h1,_⟩)⟩|⟨hn,_⟩
 ·exact ⟨V,X,h1,h2,h3,h4,hb⟩
 ·exact absurd h1 hd
 ·exact absurd ok hn
end Go.Proofs.YtagaabooccnamaaGreat.rat
